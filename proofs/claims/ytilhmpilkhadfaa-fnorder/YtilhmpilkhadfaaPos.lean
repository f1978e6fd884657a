/- Blocks behind all that they lead to: the model's l3Post. -/
import Derived.Test.YtilhmpilkhadfaaMd3r
import Derived.Test.YtilhmpilkhadfaaMd3
import Derived.Test.YtilhmpilkhadfaaCntW
import Derived.Test.YtilhmpilkhadfaaSuc
import Derived.Test.YtilhmpilkhadfaaRea
import Derived.Laws.AppendOwnNone
import Derived.Deep.RegionWith
namespace Go.Proofs.Ytilhmpilkhadfaa
open Go.RowKit

set_option maxHeartbeats 1000000 in
theorem putNil (n : Int) (w : World) :
    Calls Try.prog 70 #[.slice none 0 0, .int .i64 n] w fun e w' => (∃ b c, e = .returned (.slice (some ⟨b, 0, none⟩) 1 c) ∧ 1 ≤ c ∧ w.heap.size ≤ b ∧ IntsAt w' w.heap.size (some ⟨b, 0, none⟩) [n]) ∧ Below w.heap.size w w' := by
  obtain ⟨i0, hi, hz0, hz1, hz2⟩ := info_parts infoI
  have HI : Hid (Try.prog.info? 2 = some i0) := hi
  have HZ0 : Hid (i0.zero = some (Value.int .i64 0)) := hz0
  have HZ1 : Hid (i0.size = 1) := hz1
  have HZ2 : Hid (i0.bytes = 8) := hz2
  clear hi hz0 hz1 hz2
  go_enter Try.func70, Try.ntmps70
  go_wp2_with fail
  go_loop [5] (fun i => i = .int .i64 0) (fun _ => 0)
  case atStart => rfl
  case round =>
    subst hrel
    go_wp2_with (first | (at_builtin; refine wpList_append_own_none rfl _ _ 24 rfl w.heap.size 2 i0 1 Try.underlying24 HI.out (.slice u2 1 k2) 1 [.int .i64 n] rfl (by exact HO2.out) rfl ?_) | (at_builtin; refine wpList_append_own_none rfl _ _ 24 rfl w.heap.size 2 i0 1 Try.underlying24 HI.out (.slice (some ⟨w.heap.size, 0, none⟩) 0 0) 0 [] rfl (World.ownsRow_lit w #[] 0 (Nat.le_refl _) (by decide) (by simp)) rfl ?_) | (at_builtin; refine wpList_append_own _ rfl _ _ 24 rfl w.heap.size 2 i0 (.int .i64 0) 1 8 Try.underlying24 HI.out HZ0.out HZ1.out HZ2.out rfl (by decide) (.slice (some ⟨w.heap.size, 0, none⟩) 0 0) 0 [] rfl ((World.ownsRow_lit w #[] 0 (Nat.le_refl _) (by decide) (by simp)).alloc _) ⟨w.heap.size + 1, 0, none⟩ 1 1 [.int .i64 n] rfl (by simp) (by exact lit_cell_at (by simp)) (by simp [Value.oneCell']) (by unfold maxLen; omega) (by omega) (by simp; omega) ?_; intro v2 w2 ho2 hg2 _; obtain ⟨u2, k2, hu2⟩ := own_slice ho2; subst hu2; have HO2 : Hid (w2.ownsRow w.heap.size 2 1 (.slice u2 1 k2) 1 [.int .i64 n]) := ho2; have HB2 : Hid (Below w.heap.size w w2) := (((Below.refl _ _).alloc (Nat.le_refl _) _).alloc (by simp) _).grown hg2 (by simp; omega) (fun q hq => by have hq' : some w.heap.size = some q := hq; simp at hq'; omega); clear ho2 hg2))
    go_ret
    obtain ⟨g, c, hv, hgc, hgl, hin⟩ := own_fin (l := [n]) (by simp) (by simp) HO2.out
    cases hv
    exact ⟨⟨g, _, rfl, hgc, hgl, hin⟩, HB2.out⟩
/-- What was met so far: none, or a list somewhere. -/
def MetV (w : World) (lo : Nat) (v : Value) (M : List Nat) : Prop :=
  (v = .slice none 0 0 ∧ M = []) ∨ ∃ b off c, v = .slice (some ⟨b, off, none⟩) M.length c ∧ M.length ≤ c ∧ IntsAt w lo (some ⟨b, off, none⟩) (ints M)
def metB : Value → Option Nat | .slice (some a) _ _ => some a.block | _ => none
theorem MetV.slice {w : World} {lo : Nat} {v : Value} {M : List Nat} (h : MetV w lo v M) : ∃ a c, v = .slice a M.length c ∧ IntsAt w lo a (ints M) := by
  rcases h with ⟨rfl, rfl⟩ | ⟨b, off, c, rfl, _, hi⟩
  · exact ⟨none, 0, rfl, by simp [ints], .inl rfl⟩
  · exact ⟨_, c, rfl, hi⟩
theorem MetV.grown {w w' : World} {lo : Nat} {v : Value} {M : List Nat} {row : Option Nat} (h : MetV w lo v M) (k : w.grownBy w' row) (hne : ∀ b, metB v = some b → row ≠ some b) : MetV w' lo v M := by
  rcases h with h | ⟨b, off, c, rfl, hc, hi⟩
  · exact .inl h
  · exact .inr ⟨b, off, c, rfl, hc, ints_grown hi k (hne b rfl)⟩
theorem grown_of_below {w w' : World} (h : Below w.heap.size w w') (row : Option Nat) : w.grownBy w' row := ⟨h.os, h.tape, h.output, h.size, fun i hi _ => h.block i hi⟩
theorem putM (lo : Nat) (v : Value) (M : List Nat) (x : Nat) (w : World) (hlo : lo ≤ w.heap.size) (hl : M.length ≤ 1000) (h : MetV w lo v M) :
    Calls Try.prog 70 #[v, .int .i64 (x : Int)] w fun e w' => (∃ v', e = .returned v' ∧ MetV w' lo v' (insN M x) ∧ ∀ b, metB v' = some b → metB v = some b ∨ w.heap.size ≤ b) ∧ Below w.heap.size w w' := by
  rcases h with ⟨rfl, rfl⟩ | ⟨b, off, c, rfl, hc, hi⟩
  · refine (putNil x w).mono ?_
    rintro e w1 ⟨⟨b, c, rfl, hc, hb, hi⟩, hB⟩
    exact ⟨⟨_, rfl, .inr ⟨b, 0, c, rfl, hc, hi.low hlo⟩, fun q hq => by cases hq; exact .inr hb⟩, hB⟩
  · refine (putN lo b off c M x w hlo hl hc hi).mono ?_
    rintro e w1 ⟨⟨b', off', c', rfl, hc', hs, hi'⟩, hB⟩
    refine ⟨⟨_, rfl, .inr ⟨b', off', c', rfl, hc', hi'⟩, fun q hq => ?_⟩, hB⟩
    cases hq
    rcases hs with ⟨rfl, _⟩ | h
    · exact .inl rfl
    · exact .inr h
/-- What holds while going on. -/
structure Pst (W : World) (n : Nat) (p : List Nat × List Nat) (M : List Nat) (mv ov : Value) (w : World) : Prop where
  bel : Below W.heap.size W w
  met : MetV w W.heap.size mv M
  own : w.ownsRow W.heap.size 2 1 ov p.2.length ((ints p.2).map (Value.int .i64))
  sep : ∀ b, metB mv = some b → ov.ownBlock ≠ some b
  mem : ∀ y, y ∈ M ↔ y ∈ p.1
  rise : M.Pairwise (· < ·)
  low : ∀ y ∈ M, y < n
  tl : p.2.length + un n p.1 ≤ n
theorem Pst.len {W : World} {n : Nat} {p : List Nat × List Nat} {M : List Nat} {mv ov : Value} {w : World} (h : Pst W n p M mv ov w) : M.length ≤ n :=
  nodup_len n M (h.rise.imp fun h => Nat.ne_of_lt h) h.low
/-- New memory alone. -/
theorem Pst.next {W : World} {n : Nat} {p : List Nat × List Nat} {M : List Nat} {mv ov : Value} {w w' : World} (h : Pst W n p M mv ov w) (k : Below w.heap.size w w') : Pst W n p M mv ov w' :=
  ⟨h.bel.trans (k.mono h.bel.size), h.met.grown (grown_of_below k none) (fun _ _ e => by cases e), ownsRow_block h.own fun q _ hq => k.block q hq, h.sep, h.mem, h.rise, h.low, h.tl⟩
theorem Pst.drew {W : World} {n : Nat} {p : List Nat × List Nat} {M : List Nat} {mv ov : Value} {w : World} (h : Pst W n p M mv ov w) : Pst W n p M mv ov w.drew :=
  ⟨⟨h.bel.os, h.bel.tape, h.bel.output, h.bel.size, h.bel.block⟩, h.met, h.own, h.sep, h.mem, h.rise, h.low, h.tl⟩
theorem Pst.put {W : World} {n x : Nat} {p : List Nat × List Nat} {M : List Nat} {mv ov mv2 : Value} {w w2 : World} (h : Pst W n p M mv ov w) (hx : x < n) (hxn : x ∉ p.1) (hm : MetV w2 W.heap.size mv2 (insN M x)) (hmb : ∀ b, metB mv2 = some b → metB mv = some b ∨ w.heap.size ≤ b) (hb : Below w.heap.size w w2) :
    Pst W n (x :: p.1, p.2) (insN M x) mv2 ov w2 ∧ p.2.length + un n (x :: p.1) + 1 ≤ n := by
  have h1 := h.next hb
  have hu := un_cons hx hxn
  have ht := h.tl
  refine ⟨⟨h1.bel, hm, h1.own, fun b hb' e => ?_, fun y => ?_, ins_rise' M x h.rise, fun y hy => ?_, by show p.2.length + un n (x :: p.1) ≤ n; omega⟩, by omega⟩
  · rcases hmb b hb' with h2 | h2
    · exact h.sep b h2 e
    · have := (own_ge h.own e).2; omega
  · rw [ins_mem', h.mem, List.mem_cons]
    exact Or.comm
  · rcases (ins_mem' M x y).1 hy with h2 | h2
    · exact h.low y h2
    · omega
theorem dfs_in {S : Nat → List Nat} {k y : Nat} {p : List Nat × List Nat} (h : y ∈ p.1) : dfs S none k y p = p := by
  cases k with
  | zero => rfl
  | succ k => exact dfs_skip (.inr h)
theorem grown_mid {w3 wr w4 w5 : World} {ov ovv : Value} (h : w3.grownBy wr ov.ownBlock) (hb : Below wr.heap.size wr w4) (k : w4.grownBy w5 ovv.ownBlock) (hq : ∀ q, ovv.ownBlock = some q → ov.ownBlock = some q ∨ w3.heap.size ≤ q) : w3.grownBy w5 ov.ownBlock :=
  ⟨k.os.trans (hb.os.trans h.os), k.tape.trans (hb.tape.trans h.tape), k.output.trans (hb.output.trans h.output), Nat.le_trans h.size (Nat.le_trans hb.size k.size), fun i hi hn =>
    (k.block i (Nat.lt_of_lt_of_le hi (Nat.le_trans h.size hb.size)) (fun e => by rcases hq i e.symm with h2 | h2; exact hn h2.symm; omega)).trans ((hb.block i (Nat.lt_of_lt_of_le hi h.size)).trans (h.block i hi hn))⟩

set_option maxRecDepth 100000 in
set_option maxHeartbeats 8000000 in
theorem postS (W : World) (lo : Nat) (d : FuncD) (f0 : Option Addr) (g0 : Nat) (f2 : Option Addr) (g2 : Nat) (hR : RightL d.blocks) (hK : BlocksAt W lo f2 d.blocks) (k : Nat) : ∀ (x : Nat) (p : List Nat × List Nat) (M : List Nat) (mv ov : Value) (w : World), x < d.blocks.length → x ∉ p.1 → un d.blocks.length p.1 < k → Pst W d.blocks.length p M mv ov w →
    Calls Try.prog 51 #[.agg #[.slice f0 d.params.length g0, .int .i64 d.ret, .slice f2 d.blocks.length g2], .int .i64 (x : Int), mv, ov] w fun e w' => ∃ mv' ov' M', e = .returned (.tuple #[mv', ov']) ∧ Pst W d.blocks.length (dfs (succN d.blocks) none k x p) M' mv' ov' w' ∧ w.grownBy w' ov.ownBlock ∧ ∀ q, ov'.ownBlock = some q → ov.ownBlock = some q ∨ w.heap.size ≤ q := by
  obtain ⟨i0, hi, hz0, hz1, hz2⟩ := info_parts infoI
  have HI : Hid (Try.prog.info? 2 = some i0) := hi
  have HZ0 : Hid (i0.zero = some (Value.int .i64 0)) := hz0
  have HZ1 : Hid (i0.size = 1) := hz1
  have HZ2 : Hid (i0.bytes = 8) := hz2
  have HR : Hid (RightL d.blocks) := hR
  have HK : Hid (BlocksAt W lo f2 d.blocks) := hK
  have h10 := hR.2.1
  have HS : Hid (∀ a, ∀ s ∈ succN d.blocks a, s < d.blocks.length) := right_lt hR
  clear hi hz0 hz1 hz2 hR hK
  induction k with
  | zero => intro x p M mv ov w _ _ h; omega
  | succ k ih =>
    intro x p M mv ov w hx hxn hk hP
    have IH : Hid _ := ih
    clear ih
    have HP1 : Hid (Pst W d.blocks.length p M mv ov (w.alloc (.cells #[.slice f0 d.params.length g0, .int .i64 d.ret, .slice f2 d.blocks.length g2] 27))) := hP.next ((Below.refl _ _).alloc (Nat.le_refl _) _)
    have hov : ∀ q, ov.ownBlock = some q → q < w.heap.size := fun q hq => (own_ge hP.own hq).2
    have HOV : Hid (∀ q, ov.ownBlock = some q → q < w.heap.size) := hov
    have hml := hP.len
    have HXN : Hid (x ∉ p.1) := hxn
    have HU : Hid (un d.blocks.length p.1 < k + 1) := hk
    clear hP hov hxn hk
    go_enter Try.func51, Try.ntmps51
    go_wp2_with fail
    refine (putM W.heap.size mv M x _ HP1.out.bel.size (by omega) HP1.out.met).mono ?_
    rintro e w2 ⟨⟨mv2, rfl, hm2, hmb2⟩, hb2⟩
    obtain ⟨P2, hcnt⟩ := HP1.out.put hx HXN.out hm2 hmb2 hb2
    have HX2 : Hid (Below (w.heap.size + 1) (w.alloc (.cells #[.slice f0 d.params.length g0, .int .i64 d.ret, .slice f2 d.blocks.length g2] 27)) w2) := box_first hb2
    have HP2 : Hid (Pst W d.blocks.length (x :: p.1, p.2) (insN M x) mv2 ov w2) := P2
    have HCN : Hid (p.2.length + un d.blocks.length (x :: p.1) + 1 ≤ d.blocks.length) := hcnt
    have HUC : Hid (un d.blocks.length (x :: p.1) < k) := (by have h1 := un_cons hx HXN.out; have h2 := HU.out; show _ < _; omega)
    have hz2 : w.heap.size + 1 ≤ w2.heap.size := by have := HX2.out.size; simpa using this
    obtain ⟨b1, b2, b3⟩ := box3 HX2.out
    clear hm2 hmb2 hb2 P2 HP1 hcnt
    go_wp2_with fail
    refine (succsS lo d.blocks _ _ _ _ _ _ x _ (HK.out.keep (agree_of_below HP2.out.bel _)) hx).mono ?_
    rintro e w3 ⟨⟨gs, cs, rfl, his⟩, hb3⟩
    have HX3 : Hid (Below (w.heap.size + 1) (w.alloc (.cells #[.slice f0 d.params.length g0, .int .i64 d.ret, .slice f2 d.blocks.length g2] 27)) w3) := box_next HX2.out hb3
    have HP3 : Hid (Pst W d.blocks.length (x :: p.1, p.2) (insN M x) mv2 ov w3) := HP2.out.next hb3
    have HS3 : Hid (IntsAt w3 w2.heap.size (some ⟨gs, 0, none⟩) (tgtD (termAt d.blocks x))) := his
    have htl := tgt_len (termAt d.blocks x)
    have HTE : Hid (tgtD (termAt d.blocks x) = ints (succN d.blocks x)) := (ints_succ HR.out hx).symm
    clear his hb3 HP2 HX2 b1 b2 b3
    go_wp2_with fail
    have HBX : Hid (w3.heap[w.heap.size]? = some (.cells #[.slice f0 d.params.length g0, .int .i64 d.ret, .slice f2 d.blocks.length g2] 27 (0, 0))) := (HX3.out.block w.heap.size (by omega)).trans (heap_alloc_last _ _)
    have hz3 : w2.heap.size ≤ w3.heap.size ∧ gs < w3.heap.size ∧ w2.heap.size ≤ gs ∨ (tgtD (termAt d.blocks x)).length = 0 := by
      rcases HS3.out.2 with h | ⟨b, off, hbo, hl, hlt, _⟩
      · exact .inr (by rw [h]; rfl)
      · cases hbo; exact .inl ⟨by omega, hlt, hl⟩
    go_loopw [2, 3, 11] (fun a b i wr => ∃ (j : Nat) (M' : List Nat), j ≤ (tgtD (termAt d.blocks x)).length ∧ i = .int .i64 j ∧ Hid (Pst W d.blocks.length (((succN d.blocks x).take j).foldl (fun p s => dfs (succN d.blocks) none k s p) (x :: p.1, p.2)) M' a b wr) ∧ Hid (w3.grownBy wr ov.ownBlock) ∧ Hid (∀ q, b.ownBlock = some q → ov.ownBlock = some q ∨ w3.heap.size ≤ q)) (fun _ _ i _ => (tgtD (termAt d.blocks x)).length - (intOf i).toNat)
    case atStart => exact ⟨0, _, by omega, rfl, HP3.out, World.grownBy.refl _ _, fun q hq => .inl hq⟩
    case round =>
      obtain ⟨j, M', hj, rfl, HP, HG, HQ⟩ := hrel
      obtain ⟨pj, HPJ⟩ : ∃ pj, Hid ((((succN d.blocks x).take j).foldl (fun p s => dfs (succN d.blocks) none k s p) (x :: p.1, p.2)) = pj) := ⟨_, rfl⟩
      rw [HPJ.out] at HP
      have HMJ : Hid (∀ y ∈ x :: p.1, y ∈ pj.1) := (by rw [← HPJ.out]; exact fold_met (succN d.blocks) none k _ (x :: p.1, p.2))
      have HBr : Hid (wr.heap[w.heap.size]? = some (.cells #[.slice f0 d.params.length g0, .int .i64 d.ret, .slice f2 d.blocks.length g2] 27 (0, 0))) := (HG.out.block _ (Array.getElem?_eq_some_iff.1 HBX.out).1 (fun e => by have := HOV.out _ e.symm; omega)).trans HBX.out
      have k1 := (cell_of_heap (o := 0) HBr.out).trans rfl
      have k2' := (cell_of_heap (o := 1) HBr.out).trans rfl
      have k3 := (cell_of_heap (o := 2) HBr.out).trans rfl
      by_cases hlt : j < (tgtD (termAt d.blocks x)).length
      · have hgs : w2.heap.size ≤ gs := by rcases hz3 with h | h <;> omega
        have HSr : Hid (IntsAt wr w2.heap.size (some ⟨gs, 0, none⟩) (tgtD (termAt d.blocks x))) := ints_grown HS3.out HG.out (fun e => by have := HOV.out _ e; omega)
        obtain ⟨b5, o5, hbo, e5⟩ := (show ∃ b off, some (⟨gs, 0, none⟩ : Addr) = some ⟨b, off, none⟩ ∧ wr.cell? ⟨b, off + j, none⟩ = some (.int .i64 ((tgtD (termAt d.blocks x)).getD j 0)) from by
          rcases HSr.out.2 with h | ⟨b, off, ha, _, _, hc⟩
          · rw [h] at hlt; simp at hlt
          · exact ⟨b, off, ha, hc j hlt⟩)
        cases hbo
        obtain ⟨y, HY⟩ : ∃ y : Nat, Hid ((succN d.blocks x).getD j 0 = y) := ⟨_, rfl⟩
        have hjs : j < (succN d.blocks x).length := by have h := congrArg List.length HTE.out; rw [ints_len] at h; omega
        rw [HTE.out, ints_getD, HY.out, Nat.zero_add] at e5
        have HYL : Hid (y < d.blocks.length) := (by rw [← HY.out]; exact HS.out x _ (getD_mem 0 _ j hjs))
        have HNX : Hid ((((succN d.blocks x).take (j + 1)).foldl (fun p s => dfs (succN d.blocks) none k s p) (x :: p.1, p.2)) = dfs (succN d.blocks) none k y pj) := (by show _ = _; rw [fold_take _ 0 _ _ j hjs, HPJ.out, HY.out])
        obtain ⟨am, cm, hmv, him⟩ := HP.out.met.slice
        subst hmv
        have HIM : Hid (IntsAt wr W.heap.size am (ints M')) := him
        have hml' := HP.out.len
        clear him hjs
        by_cases hin : y ∈ M'
        · have HIN : Hid (decide (y ∈ M') = true) := (by show _ = _; simpa using hin)
          have HPY : Hid (y ∈ pj.1) := (HP.out.mem y).1 hin
          clear hin
          go_wp2_with (go_at_call 69; refine (hasN _ _ _ M' y _ (by omega) HIM.out).mono ?_; rintro e w4 ⟨rfl, hb4⟩; rw [HIN.out]; have HB4 : Hid _ := hb4; clear hb4)
          go_roundw
          case rel => exact ⟨j + 1, M', by omega, by go_num, by rw [HNX.out, dfs_in HPY.out]; exact HP.out.next HB4.out, grown_mid (ovv := .slice none 0 0) HG.out HB4.out (World.grownBy.refl _ _) (fun q hq => by cases hq), HQ.out⟩
          case measure => simp [intOf]; omega
        · have HIN : Hid (decide (y ∈ M') = false) := (by show _ = _; simpa using hin)
          have HPY : Hid (y ∉ pj.1) := fun h => hin ((HP.out.mem y).2 h)
          have HUN : Hid (un d.blocks.length pj.1 < k) := Nat.lt_of_le_of_lt (un_mono HMJ.out) HUC.out
          clear hin
          go_wp2_with (go_at_call 69; refine (hasN _ _ _ M' y _ (by omega) HIM.out).mono ?_; rintro e w4 ⟨rfl, hb4⟩; rw [HIN.out]; have HB4 : Hid (Below wr.heap.size wr w4) := hb4; have HP4 : Hid (Pst W d.blocks.length pj M' (.slice am M'.length cm) u3 w4.drew) := (HP.out.next hb4).drew; have n1 := (bcell hb4 w.heap.size 0 (Array.getElem?_eq_some_iff.1 HBr.out).1).trans k1; have n2 := (bcell hb4 w.heap.size 1 (Array.getElem?_eq_some_iff.1 HBr.out).1).trans k2'; have n3 := (bcell hb4 w.heap.size 2 (Array.getElem?_eq_some_iff.1 HBr.out).1).trans k3; have n5 := (bcell hb4 gs j (by rcases HSr.out.2 with h | ⟨b, off, ha, _, hlt2, _⟩; (rw [h] at hlt; simp at hlt); (cases ha; exact hlt2))).trans e5; clear hb4)
          go_region_with (go_at_call 51; refine (IH.out y pj M' (.slice am M'.length cm) u3 _ HYL.out HPY.out HUN.out HP4.out).mono ?_; rintro e w5 ⟨mv5, ov5, M5, rfl, hp5, hg5, hq5⟩; have HP5 : Hid _ := hp5; have HG5 : Hid (w4.grownBy w5 u3.ownBlock) := ⟨hg5.os, hg5.tape, hg5.output, hg5.size, hg5.block⟩; have HQ5 : Hid (∀ q, ov5.ownBlock = some q → u3.ownBlock = some q ∨ w4.heap.size ≤ q) := hq5; clear hp5 hg5 hq5)
          all_goals go_wp2_with fail
          all_goals
            refine ⟨⟨j + 1, M5, by omega, by go_num, by rw [HNX.out]; exact HP5.out, grown_mid HG.out HB4.out HG5.out HQ.out, fun q hq => ?_⟩, by simp only [intOf]; omega⟩
            rcases HQ5.out q hq with h | h
            · exact HQ.out q h
            · exact .inr (Nat.le_trans HG.out.size (Nat.le_trans HB4.out.size h))
      · have hjs : (succN d.blocks x).take j = succN d.blocks x := List.take_of_length_le (by have h := congrArg List.length HTE.out; rw [ints_len] at h; omega)
        have HFN : Hid (dfs (succN d.blocks) none (k + 1) x p = (pj.1, pj.2 ++ [x])) := (by
          show _ = _
          rw [dfs_go (by rintro (h | h); cases h; exact HXN.out h), ← HPJ.out, hjs])
        have HCT : Hid (pj.2.length + un d.blocks.length pj.1 + 1 ≤ d.blocks.length) := (by
          have h := fold_count (succN d.blocks) none d.blocks.length HS.out k (succN d.blocks x) (x :: p.1, p.2) 1 (HS.out x) HCN.out
          rw [← hjs, HPJ.out] at h
          exact h)
        have hlen : pj.2.length + 1 ≤ 10 := by have := HCT.out; omega
        obtain ⟨ta, tcp, hov⟩ := own_slice HP.out.own
        subst hov
        have HO : Hid (wr.ownsRow W.heap.size 2 1 (.slice ta pj.2.length tcp) pj.2.length ((ints pj.2).map (Value.int .i64))) := HP.out.own
        have hzW : W.heap.size ≤ wr.heap.size := HP.out.bel.size
        clear hjs
        go_wp2_with (at_builtin; refine wpList_append_sep _ rfl _ _ 24 rfl W.heap.size 2 i0 (.int .i64 0) 1 8 Try.underlying24 HI.out HZ0.out HZ1.out HZ2.out rfl (by decide) (.slice ta pj.2.length tcp) pj.2.length ((ints pj.2).map (Value.int .i64)) rfl (by exact HO.out.alloc _) ⟨wr.heap.size, 0, none⟩ 1 1 [.int .i64 (x : Int)] rfl (by simp) (by exact lit_cell) (by simp [Value.oneCell']) (by decide) (by unfold maxLen; omega) (by omega) (by simp; omega) ?_; intro v6 w6 ho6 hg6 hs6; have HO6 : Hid _ := ho6; have HG6 : Hid _ := hg6; have HS6 : Hid _ := hs6; clear ho6 hg6 hs6)
        go_ret2
        have hal : Below wr.heap.size wr (wr.alloc (.cells #[.int .i64 (x : Int)] 2)) := (Below.refl _ _).alloc (Nat.le_refl _) _
        have hxM : x ∈ M' := (HP.out.mem x).2 (HMJ.out x (List.mem_cons_self ..))
        have hmb : ∀ b, metB u2 = some b → b < wr.heap.size := fun b hb => by
          rcases HP.out.met with ⟨rfl, _⟩ | ⟨b', off, c, rfl, _, hi⟩
          · cases hb
          · cases hb
            rcases hi.2 with h | ⟨b2, o2, e2, _, hlt2, _⟩
            · have hl := congrArg List.length h
              rw [ints_len] at hl
              have := List.length_pos_of_mem hxM
              rw [List.length_nil] at hl
              omega
            · cases e2; exact hlt2
        have hgm := grown_mid HG.out hal HG6.out HQ.out
        have hw3 := below_box HX3.out
        refine ⟨_, _, M', rfl, ?_, ⟨hgm.os.trans hw3.os, hgm.tape.trans hw3.tape, hgm.output.trans hw3.output, Nat.le_trans hw3.size hgm.size, fun i hi hn => (hgm.block i (Nat.lt_of_lt_of_le hi hw3.size) hn).trans (hw3.block i hi)⟩, fun q hq => ?_⟩
        · rw [HFN.out]
          refine ⟨(HP.out.bel.alloc hzW _).grown HG6.out (by simp; omega) (fun q hq => (own_ge HO.out hq).1), (HP.out.met.grown (grown_of_below hal none) (fun _ _ e => by cases e)).grown HG6.out (fun b hb e => HP.out.sep b hb e), ?_, fun b hb e => ?_, HP.out.mem, HP.out.rise, HP.out.low, ?_⟩
          · show World.ownsRow w6 W.heap.size 2 1 _ (pj.2 ++ [x]).length ((ints (pj.2 ++ [x])).map (Value.int .i64))
            rw [List.length_append, show (ints (pj.2 ++ [x])).map (Value.int .i64) = (ints pj.2).map (Value.int .i64) ++ [.int .i64 (x : Int)] by simp [ints]]
            exact HO6.out
          · have hb' := hmb b hb
            rcases HS6.out with h | ⟨g, h, hg⟩
            · exact HP.out.sep b hb (by rw [← h]; exact e)
            · have e2 : some g = some b := h.symm.trans e
              cases e2
              simp at hg; omega
          · show (pj.2 ++ [x]).length + un d.blocks.length pj.1 ≤ d.blocks.length
            have := HCT.out
            rw [List.length_append, List.length_singleton]
            omega
        · rcases HS6.out with h | ⟨g, h, hg⟩
          · rcases HQ.out q (by rw [← h]; exact hq) with h2 | h2
            · exact .inl h2
            · exact .inr (Nat.le_trans hw3.size h2)
          · have e2 : some g = some q := h.symm.trans hq
            cases e2
            refine .inr ?_
            have h4 := HG.out.size
            have h5 := hw3.size
            simp at hg; omega
def OrdR (l : List BlockD) (r : List Int) : Prop := (RightL l → r = (ints (post (succN l) none l.length)).reverse) ∧ (¬ RightL l → r = [])
theorem post_len {l : List BlockD} (hR : RightL l) : (post (succN l) none l.length).length ≤ 10 := by
  have ht := post_told (succN l) none l.length (by have := hR.1; omega) (right_lt hR)
  exact Nat.le_trans (nodup_len _ _ ht.once ht.low) hR.2.1
theorem OrdR_some (l : List BlockD) : ∃ r, OrdR l r ∧ r.length ≤ 1048576 := by
  by_cases h : RightL l
  · exact ⟨_, ⟨fun _ => rfl, fun k => absurd h k⟩, by rw [List.length_reverse, ints_len]; have := post_len h; omega⟩
  · exact ⟨[], ⟨fun k => absurd k h, fun _ => rfl⟩, by simp⟩
set_option maxRecDepth 100000 in
set_option maxHeartbeats 4000000 in
theorem orderF (lo : Nat) (d : FuncD) (f0 : Option Addr) (g0 : Nat) (f2 : Option Addr) (g2 : Nat) (r : List Int) (w : World) (hs : SmFunc d) (hK : BlocksAt w lo f2 d.blocks) (hr : OrdR d.blocks r) :
    Calls Try.prog 27 #[.agg #[.slice f0 d.params.length g0, .int .i64 d.ret, .slice f2 d.blocks.length g2]] w fun e w' => ∃ u c, e = .returned (.slice u r.length c) ∧ IntsAt w' w.heap.size u r ∧ Below w.heap.size w w' := by
  obtain ⟨i0, hi, hz0, hz1, hz2⟩ := info_parts infoI
  have HI : Hid (Try.prog.info? 2 = some i0) := hi
  have HZ0 : Hid (i0.zero = some (Value.int .i64 0)) := hz0
  have HZ1 : Hid (i0.size = 1) := hz1
  have HZ2 : Hid (i0.bytes = 8) := hz2
  clear hi hz0 hz1 hz2
  have HSM : Hid (SmFunc d) := hs
  have HK : Hid (BlocksAt w lo f2 d.blocks) := hK
  clear hs hK
  by_cases hR : RightL d.blocks
  · have HR : Hid (RightL d.blocks) := hR
    have HB : Hid (RightL d.blocks ∧ (0 : Int) ≤ 0 ∧ (0 : Int) < d.blocks.length) := ⟨hR, by omega, by have := hR.1; omega⟩
    have HE : Hid (r = (ints (post (succN d.blocks) none d.blocks.length)).reverse) := hr.1 hR
    have hpl := post_len hR
    have h1 := hR.1
    obtain ⟨O, HO⟩ : ∃ O, Hid (post (succN d.blocks) none d.blocks.length = O) := ⟨_, rfl⟩
    rw [HO.out] at HE hpl
    clear hR hr
    go_enter Try.func27, Try.ntmps27
    go_wp2_with fail
    refine (thereS lo d _ _ _ _ _ _ HSM.out ((HK.out.keep (agree_alloc _ _ _)).keep (agree_alloc _ _ _))).mono ?_
    rintro e w1 ⟨⟨v, rfl, hv⟩, hb1⟩
    have hvt : v = true := hv.2 HB.out
    subst hvt
    have HX1 : Hid (Below (w.heap.size + 1) (w.alloc (.cells #[.slice f0 d.params.length g0, .int .i64 d.ret, .slice f2 d.blocks.length g2] 27)) w1) := ((Below.refl _ _).alloc (by simp) _).trans (hb1.mono (by simp))
    obtain ⟨b1, b2, b3⟩ := box3 HX1.out
    have HE0 : Hid (w1.ownsRow (w.heap.size + 1) 2 1 (.slice (some ⟨w.heap.size + 1, 0, none⟩) 0 0) 0 []) := (by
      have h := World.ownsRow_lit (e := 2) (size := 1) (base := w.heap.size + 1) (w.alloc (.cells #[.slice f0 d.params.length g0, .int .i64 d.ret, .slice f2 d.blocks.length g2] 27)) #[] 0 (by simp) (by decide) (by simp)
      have hz : (w.alloc (.cells #[.slice f0 d.params.length g0, .int .i64 d.ret, .slice f2 d.blocks.length g2] 27)).heap.size = w.heap.size + 1 := by simp
      rw [hz] at h
      exact ownsRow_block h fun q _ hq => hb1.block q hq)
    have HP1 : Hid (Pst w1 d.blocks.length ([], []) [] (.slice none 0 0) (.slice none 0 0) w1) := ⟨Below.refl _ _, .inl ⟨rfl, rfl⟩, World.ownsRow_nil _ _ _ _, (fun b hb => by cases hb), fun y => Iff.rfl, List.Pairwise.nil, (fun y hy => by cases hy), by show 0 + un d.blocks.length [] ≤ _; rw [un_nil]; omega⟩
    clear hv hb1
    go_wp2_with fail
    refine (postS w1 lo d _ _ _ _ HR.out (HK.out.keep (agree_of_below (below_box HX1.out) _)) (d.blocks.length + 1) 0 ([], []) [] _ _ _ (by omega) (by simp) (by show un d.blocks.length [] < _; rw [un_nil]; omega) HP1.out).mono ?_
    rintro e w2 ⟨mv2, ov2, M2, rfl, hp2, hg2, hq2⟩
    have hown : w2.ownsRow w1.heap.size 2 1 ov2 (ints O).length ((ints O).map (Value.int .i64)) := by rw [ints_len, ← HO.out]; exact hp2.own
    have hil : (ints O).length = O.length := ints_len O
    obtain ⟨pa, pc, hpv, hpo⟩ := own_of_row (by omega) hown
    subst hpv
    have HPI : Hid (IntsAt w2 w1.heap.size pa (ints O)) := hpo.ints
    have hpb : ∀ b off, pa = some ⟨b, off, none⟩ → 0 < O.length → w1.heap.size ≤ b ∧ b < w2.heap.size := fun b off hb h0 => by
      rcases HPI.out.2 with h | ⟨b', off', ha, hl, hlt, _⟩
      · rw [h] at hil; simp at hil; omega
      · rw [hb] at ha; cases ha; exact ⟨hl, hlt⟩
    have HPB : Hid _ := hpb
    have HE2 : Hid (w2.ownsRow (w.heap.size + 1) 2 1 (.slice (some ⟨w.heap.size + 1, 0, none⟩) 0 0) 0 []) := ownsRow_block HE0.out (fun q _ hq => hp2.bel.block q hq)
    have HB2 : Hid (Below w.heap.size w w2) := (below_box HX1.out).trans (hp2.bel.mono (below_box HX1.out).size)
    have hz1 : w.heap.size + 1 < w1.heap.size := (own_ge HE0.out rfl).2
    have hz2 : w1.heap.size ≤ w2.heap.size := hp2.bel.size
    rw [hil]
    clear hown hpo hpb hp2 hg2 hq2 HE0
    go_wp2_with fail
    go_loopw [3, 6] (fun st i wr => ∃ k : Nat, k ≤ O.length ∧ i = .int .i64 ((O.length : Int) - 1 - k) ∧ Hid (wr.ownsRow (w.heap.size + 1) 2 1 st k (((ints O).reverse.take k).map (Value.int .i64))) ∧ Hid (IntsAt wr w1.heap.size pa (ints O)) ∧ Hid (∀ q, st.ownBlock = some q → q = w.heap.size + 1 ∨ w2.heap.size ≤ q) ∧ Hid (Below w.heap.size w wr) ∧ w2.heap.size ≤ wr.heap.size) (fun _ i _ => (intOf i + 1).toNat)
    case atStart => exact ⟨0, by omega, by refine congrArg (Value.int .i64) ?_; omega, by show World.ownsRow w2 (w.heap.size + 1) 2 1 _ 0 (((ints O).reverse.take 0).map (Value.int .i64)); rw [List.take_zero, List.map_nil]; exact HE2.out, HPI.out, (fun q hq => .inl (by cases hq; rfl)), HB2.out, Nat.le_refl _⟩
    case round =>
      obtain ⟨k, hk, rfl, HOW, HIR, HQ, HBr, hzr⟩ := hrel
      obtain ⟨ta, tc, rfl⟩ := own_slice HOW.out
      by_cases hlt : k < O.length
      · obtain ⟨j, hj⟩ : ∃ j : Nat, j = O.length - 1 - k := ⟨_, rfl⟩
        have hjI : ((O.length : Int) - 1 - k) = (j : Int) := by omega
        have hjl : j < O.length := by omega
        obtain ⟨b5, o5, hbo, e5⟩ := (show ∃ b off, pa = some ⟨b, off, none⟩ ∧ wr.cell? ⟨b, off + j, none⟩ = some (.int .i64 ((ints O).getD j 0)) from by
          rcases HIR.out.2 with h | ⟨b, off, ha, _, _, hc⟩
          · rw [h] at hil; simp at hil; omega
          · exact ⟨b, off, ha, hc j (by omega)⟩)
        have hb5 := HPB.out b5 o5 hbo (by omega)
        obtain ⟨y, HY⟩ : ∃ y : Int, Hid ((ints O).getD j 0 = y) := ⟨_, rfl⟩
        have HT : Hid ((ints O).reverse.take (k + 1) = (ints O).reverse.take k ++ [y]) := (by
          show _ = _
          rw [List.take_add_one, List.getElem?_reverse (by omega), show (ints O).length - 1 - k = j by omega]
          have h := HY.out
          rw [List.getD_eq_getElem?_getD, List.getElem?_eq_getElem (by omega)] at h
          rw [List.getElem?_eq_getElem (by omega)]
          simp at h ⊢
          exact h)
        rw [HY.out] at e5
        rw [hjI]
        subst hbo
        have HJI : Hid (((O.length : Int) - 1 - k) = (j : Int)) := hjI
        clear hjI hj
        go_wp2_with (at_builtin; refine wpList_append_sep _ rfl _ _ 24 rfl (w.heap.size + 1) 2 i0 (.int .i64 0) 1 8 Try.underlying24 HI.out HZ0.out HZ1.out HZ2.out rfl (by decide) (.slice ta k tc) k (((ints O).reverse.take k).map (Value.int .i64)) rfl (by exact HOW.out.alloc _) ⟨wr.heap.size, 0, none⟩ 1 1 [.int .i64 y] rfl (by simp) (by exact lit_cell) (by simp [Value.oneCell']) (by decide) (by unfold maxLen; omega) (by omega) (by simp; omega) ?_; intro v6 w6 ho6 hg6 hs6; have HO6 : Hid _ := ho6; have HG6 : Hid _ := hg6; have HS6 : Hid _ := hs6; clear ho6 hg6 hs6)
        go_roundw
        case rel =>
          have hal : Below wr.heap.size wr (wr.alloc (.cells #[.int .i64 y] 2)) := (Below.refl _ _).alloc (Nat.le_refl _) _
          refine ⟨k + 1, by omega, by have := HJI.out; refine congrArg (Value.int .i64) ?_; omega, ?_, ints_grown (HIR.out.keep (agree_of_below hal _)) HG6.out (fun e => ?_), fun q hq => ?_, (HBr.out.alloc HBr.out.size _).grown HG6.out (by simp; omega) (fun q hq => by have := (own_ge HOW.out hq).1; omega), by have := HG6.out.size; simp at this; omega⟩
          · rw [HT.out, List.map_append]
            exact HO6.out
          · rcases HQ.out _ e with h | h <;> omega
          · rcases HS6.out with h | ⟨g, h, hg⟩
            · exact HQ.out q (by rw [← h]; exact hq)
            · have e2 : some g = some q := h.symm.trans hq
              cases e2
              simp at hg
              exact .inr (by omega)
        case measure => simp [intOf]
      · have hke : k = O.length := by omega
        subst hke
        have hm1 : ((O.length : Int) - 1 - (O.length : Nat)) = -1 := by omega
        rw [hm1]
        go_wp2_with fail
        go_ret
        have ho := HOW.out
        rw [List.take_of_length_le (by rw [List.length_reverse]; omega)] at ho
        have hrl : (ints O).reverse.length = O.length := by rw [List.length_reverse]; exact hil
        rw [← hrl] at ho
        obtain ⟨u, c, hv, hw⟩ := own_of_row (l := (ints O).reverse) (by omega) ho
        rw [HE.out]
        refine ⟨u, c, ?_, hw.ints.low (by omega), HBr.out⟩
        rw [← hv, hrl]
        rfl
  · have HB : Hid (¬ (RightL d.blocks ∧ (0 : Int) ≤ 0 ∧ (0 : Int) < d.blocks.length)) := fun h => hR h.1
    have HE : Hid (r = []) := hr.2 hR
    clear hR hr
    go_enter Try.func27, Try.ntmps27
    go_wp2_with (first | (go_at_call 43; refine (thereS lo d _ _ _ _ _ _ HSM.out ((HK.out.keep (agree_alloc _ _ _)).keep (agree_alloc _ _ _))).mono ?_; rintro e w1 ⟨⟨v, rfl, hv⟩, hb1⟩; have hvt : v = false := (by cases hq : v with | false => rfl | true => exact absurd (hv.1 hq) HB.out); subst hvt; have HB1 : Hid (Below w.heap.size w w1) := (((Below.refl _ _).alloc (Nat.le_refl _) _).alloc (by simp) _).trans (hb1.mono (by simp; omega)); clear hv hb1))
    go_ret
    rw [HE.out]
    exact ⟨_, _, rfl, ⟨by simp, .inl rfl⟩, HB1.out⟩
end Go.Proofs.Ytilhmpilkhadfaa
