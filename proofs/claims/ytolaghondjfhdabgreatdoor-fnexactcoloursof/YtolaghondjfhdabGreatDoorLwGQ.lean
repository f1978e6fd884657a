/- What is alive: the program's routine and its sets in memory; slices.Index at int64; atEnd. -/
import Derived.Test.YtolaghondjfhdabGreatDoorAttQ
import Derived.Test.YtolaghondjfhdabGreatDoorLvBQ
import Derived.Test.YtolaghondjfhdabGreatDoorOpsQ
namespace Go.Proofs.YtolaghondjfhdabGreatDoor
open Go.RowKit
set_option linter.unusedVariables false

/-- A routine in memory, as far as it is read. -/
structure RtAt (w : World) (Rb lo lp : Nat) (d : FuncD) (u2 : Option Addr) (c2 : Nat) : Prop where
  lt : Rb < w.heap.size
  f2 : w.cell? ⟨Rb, 2, none⟩ = some (.slice u2 d.blocks.length c2)
  blocks : BlocksAt w lo u2 d.blocks
  firsts : ∀ b, b < d.blocks.length → w.cell? ⟨Rb, 4 + b, none⟩ = some (.int .i64 (firstN d b : Nat))
  preds : ∀ b, b < d.blocks.length → ∃ a c, w.cell? ⟨Rb, 14 + b, none⟩ = some (.slice a (predL d b).length c) ∧ IntsAt w lp a (predL d b)
theorem RtAt.below {w w' : World} {Rb lo lp : Nat} {d : FuncD} {u2 : Option Addr} {c2 : Nat} (h : RtAt w Rb lo lp d u2 c2) (k : Below w.heap.size w w') : RtAt w' Rb lo lp d u2 c2 :=
  ⟨Nat.lt_of_lt_of_le h.lt k.size, (cell_block (k.block Rb h.lt)).trans h.f2, h.blocks.keep (agree_of_below k lo), fun b hb => (cell_block (k.block Rb h.lt)).trans (h.firsts b hb), fun b hb => by
    obtain ⟨a, c, h1, h2⟩ := h.preds b hb
    exact ⟨a, c, (cell_block (k.block Rb h.lt)).trans h1, h2.keep (agree_of_below k lp)⟩⟩
/-- All sets of a run over a function: cell j has F j; X: blocks that none of them lies in. -/
def LvAt (w : World) (M Rb : Nat) (X : Nat → Prop) (F : Alive) : Prop := ∃ cur, w.heap[M]? = some (.cells cur 80 (0, 0)) ∧ cur.size = 81 ∧ cur[0]? = some (.pointer (some ⟨Rb, 0, none⟩)) ∧ ∀ j, 1 ≤ j → j < 81 → ∃ a c, cur[j]? = some (.slice a (F j).length c) ∧ IntsAt w (M + 1) a (F j) ∧ (F j ≠ [] → ∀ q off, a = some ⟨q, off, none⟩ → ¬ X q)
theorem LvAt.lt {w : World} {M Rb : Nat} {X : Nat → Prop} {F : Alive} (h : LvAt w M Rb X F) : M < w.heap.size := by
  obtain ⟨cur, h1, _⟩ := h
  exact (Array.getElem?_eq_some_iff.1 h1).1
theorem LvAt.below {w w' : World} {M Rb : Nat} {X : Nat → Prop} {F : Alive} (h : LvAt w M Rb X F) (k : Below w.heap.size w w') : LvAt w' M Rb X F := by
  have hl := h.lt
  obtain ⟨cur, h1, h2, h3, h4⟩ := h
  exact ⟨cur, (k.block M hl).trans h1, h2, h3, fun j hj hj2 => by
    obtain ⟨a, c, h5, h6, h7⟩ := h4 j hj hj2
    exact ⟨a, c, h5, h6.keep (agree_of_below k _), h7⟩⟩
theorem LvAt.ptr {w : World} {M Rb : Nat} {X : Nat → Prop} {F : Alive} (h : LvAt w M Rb X F) : w.cell? ⟨M, 0, none⟩ = some (.pointer (some ⟨Rb, 0, none⟩)) := by
  obtain ⟨cur, h1, h2, h3, h4⟩ := h
  exact (cell_of_heap h1).trans h3
theorem LvAt.cell {w : World} {M Rb : Nat} {X : Nat → Prop} {F : Alive} (h : LvAt w M Rb X F) {j : Nat} (h1 : 1 ≤ j) (h2 : j < 81) : ∃ a c, w.cell? ⟨M, j, none⟩ = some (.slice a (F j).length c) ∧ IntsAt w (M + 1) a (F j) ∧ (F j ≠ [] → ∀ q off, a = some ⟨q, off, none⟩ → ¬ X q) := by
  obtain ⟨cur, g1, g2, g3, g4⟩ := h
  obtain ⟨a, c, h5, h6, h7⟩ := g4 j h1 h2
  exact ⟨a, c, (cell_of_heap g1).trans h5, h6, h7⟩
set_option maxHeartbeats 1000000 in
set_option maxRecDepth 100000 in
theorem index64 (lo : Nat) (a : Option Addr) (c : Nat) (l : List Int) (n : Int) (w : World) (hl : l.length ≤ 1000) (hv : IntsAt w lo a l) (hn : n ∈ l) :
    Calls Tryz.prog 108 #[.slice a l.length c, .int .i64 n] w fun e w' => e = .returned (.int .i64 (l.findIdx (fun x => x == n) : Nat)) ∧ w' = w := by
  have hlt : l.findIdx (fun x => x == n) < l.length := List.findIdx_lt_length_of_exists ⟨n, hn, by simp⟩
  have hat : l.getD (l.findIdx (fun x => x == n)) 0 = n := by
    have := List.findIdx_getElem (w := hlt)
    simp only [List.getD, List.getElem?_eq_getElem hlt, Option.getD_some]
    simpa using this
  have HM : Hid (∀ j, j < l.findIdx (fun x => x == n) → l.getD j 0 ≠ n) := fun j hj => by
    have := List.not_of_lt_findIdx hj
    have hjl : j < l.length := by omega
    simp only [List.getD, List.getElem?_eq_getElem hjl, Option.getD_some]
    simpa using this
  generalize l.findIdx (fun x => x == n) = K at *
  go_enter Tryz.func108, Tryz.ntmps108
  go_wp2_with fail
  go_loopw [8] (fun i wr => ∃ k : Nat, k ≤ K ∧ i = .int .i64 k ∧ Hid (wr = w)) (fun i _ => l.length - (intOf i).toNat)
  case atStart => exact ⟨0, by omega, rfl, rfl⟩
  case round =>
    obtain ⟨k, hk, rfl, HW⟩ := hrel
    have hW := HW.out
    subst hW
    obtain ⟨g, off, rfl, e1⟩ : ∃ g off, a = some ⟨g, off, none⟩ ∧ wr.cell? ⟨g, off + k, none⟩ = some (.int .i64 (l.getD k 0)) := by
      rcases hv.2 with h | ⟨g, off, ha, _, _, hc⟩
      · rw [h] at hlt; simp at hlt
      · exact ⟨g, off, ha, hc k (by omega)⟩
    have hkl : k < l.length := by omega
    by_cases hkK : k = K
    · subst hkK
      rw [hat] at e1
      go_wp2_with fail
      go_ret
      exact ⟨rfl, rfl⟩
    · have hne : (n == l.getD k 0) = false := by simpa using (HM.out k (by omega)).symm
      generalize l.getD k 0 = x at e1 hne
      go_wp2_with fail
      go_roundw
      case rel => exact ⟨k + 1, by omega, by go_num, (by first | exact rfl | exact trivial)⟩
      case measure => simp [intOf]; omega
theorem SetAt.below {w w' : World} {base A : Nat} {v : Value} {l : List Int} (h : SetAt w base A v l) (k : Below w.heap.size w w') : SetAt w' base A v l := ⟨h.box.below k, h.row.keep k⟩
theorem sum_one (s : List Int) (x : Int) : sumL s [x] = ins s x := rfl
/-- From a set's steps to all that lies below. -/
theorem SetAt.kept_below {w w' : World} {base A : Nat} {v v' : Value} {l : List Int} (h : SetAt w base A v l) (k : Kept w w' A v v') (hA : base ≤ A) (hb : base ≤ w.heap.size) : Below base w w' := k.below hA (fun g hg => (h.row.ge hg).1) hb
end Go.Proofs.YtolaghondjfhdabGreatDoor
namespace Go.Proofs.YtolaghondjfhdabGreatDoor
open Go.RowKit
set_option linter.unusedVariables false

theorem row_ints_at {w : World} {base : Nat} {x : Int} : IntsAt (w.alloc (.cells #[.int .i64 x] 2)) w.heap.size (some ⟨w.heap.size, 0, none⟩) [x] :=
  ⟨by simp, .inr ⟨w.heap.size, 0, rfl, Nat.le_refl _, by simp, fun i hi => by
    have : i = 0 := by simpa using hi
    subst this
    exact (cell_of_heap (heap_alloc_last w _)).trans rfl⟩⟩
theorem row_ne {w : World} {base : Nat} {v : Value} {l : List Int} (h : Row w base v l) {g : Nat} {cs : Array Value} {T : TypeId} (k : At w g cs T) (ht : T ≠ 2) : v.ownBlock ≠ some g := fun e => by
  rcases h.2 with ⟨rfl, _⟩ | ⟨g', c, cur, rfl, _, hc, _⟩
  · cases e
  · have : g' = g := by simpa [Value.ownBlock] using e
    subst this
    unfold At at k
    rw [hc] at k
    cases k
    exact ht rfl
/-- What holds while atEnd goes on. -/
structure EndSt (w w1 wr : World) (v : Value) (s : List Int) : Prop where
  set : SetAt wr w.heap.size (w.heap.size + 1) v s
  below : Below w.heap.size w wr
  res : At wr w.heap.size #[.slice none 0 0] 76
  old : ∀ gs, w.heap.size + 2 ≤ gs → gs < w1.heap.size → v.ownBlock ≠ some gs ∧ wr.heap[gs]? = w1.heap[gs]?
  size : w1.heap.size ≤ wr.heap.size
theorem EndSt.go {w w1 wr wr' : World} {v : Value} {s : List Int} (h : EndSt w w1 wr v s) (k : Below wr.heap.size wr wr') : EndSt w w1 wr' v s :=
  ⟨h.set.below k, h.below.trans (k.mono h.below.size), h.res.below k, fun gs h1 h2 => ⟨(h.old gs h1 h2).1, (k.block gs (Nat.lt_of_lt_of_le h2 h.size)).trans (h.old gs h1 h2).2⟩, Nat.le_trans h.size k.size⟩
theorem EndSt.put {w w1 wr wr' : World} {v v' : Value} {s s' : List Int} (h : EndSt w w1 wr v s) (hs : SetAt wr' w.heap.size (w.heap.size + 1) v' s') (k : Kept wr wr' (w.heap.size + 1) v v') : EndSt w w1 wr' v' s' := by
  refine ⟨hs, h.below.trans (h.set.kept_below k (by omega) h.below.size), (k.block _ h.res.lt (by omega) (row_ne h.set.row h.res (by decide))).trans h.res, fun gs h1 h2 => ?_, Nat.le_trans h.size k.size⟩
  obtain ⟨o1, o2⟩ := h.old gs h1 h2
  refine ⟨fun e => ?_, (k.block gs (Nat.lt_of_lt_of_le h2 h.size) (by omega) o1).trans o2⟩
  rcases k.lies with l1 | ⟨g, l1, l2⟩
  · exact o1 (l1 ▸ e)
  · rw [l1] at e
    have : g = gs := by simpa using e
    have := h.size
    omega
set_option maxHeartbeats 8000000 in
set_option maxRecDepth 100000 in
theorem atEndI (M Rb lo lp : Nat) (d : FuncD) (u2 : Option Addr) (c2 : Nat) (b : Nat) (X : Nat → Prop) (F : Alive) (w : World) (hs : SmFunc d) (hF : LvF d) (hb : b < d.blocks.length) (hR : RtAt w Rb lo lp d u2 c2) (hL : LvAt w M Rb X F) (hf : ∀ j, Fine (cntF d) (F j)) :
    Calls Tryz.prog 93 #[.pointer (some ⟨M, 0, none⟩), .int .i64 b] w fun e w' => ∃ v, e = .returned (.agg #[v]) ∧ Row w' w.heap.size v (outL d b (fun t => F (1 + t))) ∧ Below w.heap.size w w' := by
  have hc60 := hF.cnt
  have hbl : d.blocks.length ≤ 10 := hF.right.2.1
  have HF : Hid (LvF d) := hF
  have HR : Hid (RtAt w Rb lo lp d u2 c2) := hR
  have HL : Hid (LvAt w M Rb X F) := hL
  have HFF : Hid (∀ j, Fine (cntF d) (F j)) := hf
  have HSM : Hid (SmFunc d) := hs
  have HRt : Hid (RightL d.blocks) := hF.right
  clear hF hR hL hf hs
  have hb0 : Below w.heap.size w ((w.alloc (.cells #[.slice none 0 0] 76)).alloc (.cells #[.slice none 0 0] 76)) := ((Below.refl _ _).alloc (Nat.le_refl _) _).alloc (by simp) _
  have hA0 : At ((w.alloc (.cells #[.slice none 0 0] 76)).alloc (.cells #[.slice none 0 0] 76)) (w.heap.size + 1) #[.slice none 0 0] 76 := heap_two _ _ _
  have hR0 : At ((w.alloc (.cells #[.slice none 0 0] 76)).alloc (.cells #[.slice none 0 0] 76)) w.heap.size #[.slice none 0 0] 76 := (At.new w _ _).below ((Below.refl _ _).alloc (Nat.le_refl _) _)
  have hz0 : ((w.alloc (.cells #[.slice none 0 0] 76)).alloc (.cells #[.slice none 0 0] 76)).heap.size = w.heap.size + 2 := by simp
  go_enter Tryz.func93, Tryz.ntmps93
  obtain ⟨g2, o2, hu2, hl2, hg2, _, _, t2, t3, t4, t5⟩ := blk_cell (HR.out.below hb0).blocks hb
  have hu2' : u2 = some ⟨g2, o2, none⟩ := hu2
  subst hu2'
  have m0 := (HL.out.below hb0).ptr
  have r2 := (HR.out.below hb0).f2
  clear hu2
  go_wp2_with fail
  generalize ((w.alloc (.cells #[.slice none 0 0] 76)).alloc (.cells #[.slice none 0 0] 76)) = W at *
  refine (targetsI (blkN d b).term W).mono ?_
  rintro e w1 ⟨us, cs, rfl, is1, b1⟩
  have HB1 : Hid (Below w.heap.size w w1) := hb0.trans (b1.mono hb0.size)
  have HS1 : Hid (SetAt w1 w.heap.size (w.heap.size + 1) (.slice none 0 0) []) := ⟨hA0.below b1, Row.nil _ _⟩
  have HR1 : Hid (At w1 w.heap.size #[.slice none 0 0] 76) := hR0.below b1
  have hz1 : w.heap.size + 2 ≤ w1.heap.size := by have := b1.size; omega
  have HSL : Hid ((succN d.blocks b).length = (tgtD (blkN d b).term).length) := succ_lenL d.blocks b
  have htl : (tgtD (blkN d b).term).length ≤ 2 := tgt_len _
  have HIC : Hid (∀ k, k < (tgtD (blkN d b).term).length → ∃ gs os, us = some ⟨gs, os, none⟩ ∧ w.heap.size + 2 ≤ gs ∧ gs < w1.heap.size ∧ w1.cell? ⟨gs, os + k, none⟩ = some (.int .i64 (((succN d.blocks b).getD k 0 : Nat) : Int))) := fun k hk => by
    rcases is1.2 with h | ⟨g, off, ha, hg1, hg, hc⟩
    · rw [h] at hk; simp at hk
    · refine ⟨g, off, ha, by omega, hg, ?_⟩
      rw [← succ_get HRt.out hb (by rw [HSL.out]; exact hk)]
      exact hc k hk
  clear b1 is1 hb0 hA0 hR0 hz0 m0 r2 t2 t3 t4 t5
  generalize (tgtD (blkN d b).term).length = nT at *
  go_wp2_with fail
  go_loopw [25] (fun i wr => ∃ (k : Nat) (v : Value), k ≤ nT ∧ i = .int .i64 k ∧ Hid (EndSt w w1 wr v (((succN d.blocks b).take k).foldl (outStep d b (fun t => F (1 + t))) []))) (fun i _ => nT - (intOf i).toNat)
  case atStart => exact ⟨0, _, by omega, rfl, HS1.out, HB1.out, HR1.out, fun gs _ _ => ⟨by simp [Value.ownBlock], rfl⟩, Nat.le_refl _⟩
  case round =>
    obtain ⟨k, v, hk, rfl, HE⟩ := hrel
    obtain ⟨wo, hwo⟩ : ∃ wo, wo = wr := ⟨_, rfl⟩
    subst hwo
    clear HS1 HB1 HR1
    have HB : Hid (Below w.heap.size w wo) := HE.out.below
    by_cases hlN : k < nT
    · have hlt : k < (succN d.blocks b).length := by rw [HSL.out]; exact hlN
      have hSf : Fine (cntF d) (((succN d.blocks b).take k).foldl (outStep d b (fun t => F (1 + t))) []) := HF.out.outs hb (fun t => HFF.out (1 + t)) _ (fun t ht => List.mem_of_mem_take ht) (Fine.nil _)
      have htm : (succN d.blocks b).getD k 0 ∈ succN d.blocks b := getD_mem 0 _ k hlt
      have htn := succ_ltL HRt.out hb _ htm
      have HSN : Hid (((succN d.blocks b).take (k + 1)).foldl (outStep d b (fun t => F (1 + t))) [] = outStep d b (fun t => F (1 + t)) (((succN d.blocks b).take k).foldl (outStep d b (fun t => F (1 + t))) []) ((succN d.blocks b).getD k 0)) := out_snoc d b _ hlt
      obtain ⟨gs, os, rfl, hgs1, hgs2, e1'⟩ := HIC.out k hlN
      have e1 := (cell_block (HE.out.old gs hgs1 hgs2).2).trans e1'
      have hatl := atN_lt HRt.out hb htm
      have hmp := mem_predL HRt.out hb htm
      generalize hLs : ((succN d.blocks b).take k).foldl (outStep d b (fun t => F (1 + t))) [] = Ls at *
      generalize (succN d.blocks b).getD k 0 = t at *
      clear hLs hlt e1'
      have Lw := HL.out.below HB.out
      have Rw := HR.out.below HB.out
      obtain ⟨a2, q2, e2, m2, _⟩ := Lw.cell (j := 1 + t) (by omega) (by omega)
      obtain ⟨a20, q20, e20, m20, _⟩ := HL.out.cell (j := 1 + t) (by omega) (by omega)
      have hz := HB.out.size
      have e2e : a20 = a2 := by
        have h1 := (cell_block (HB.out.block M HL.out.lt) (o := 1 + t)).trans e20
        rw [e2] at h1
        simp at h1
        exact h1.1.symm
      have hIl := (HFF.out (1 + t)).len
      have hsl2 := hSf.len
      have hsep : ∀ q off, a2 = some ⟨q, off, none⟩ → F (1 + t) ≠ [] → q < w.heap.size := fun q off e hne => by
        rcases m20.2 with h | ⟨q', off', h, _, hq, _⟩
        · exact absurd h hne
        · rw [e2e, e] at h
          cases h
          exact hq
      have P1 := putI wo w.heap.size (w.heap.size + 1) v Ls (M + 1) a2 q2 (F (1 + t)) (cntF d) HE.out.set m2 (fun hne q off e => ⟨by have := hsep q off e hne; omega, fun e2 => by have := (HE.out.set.row.ge e2).1; have := hsep q off e hne; omega⟩) hSf (HFF.out (1 + t)).2 hc60 (by omega) hz
      have m0 := Lw.ptr
      have lR := Rw.lt
      clear hsep e20 m20 e2e m2
      go_wp2_with fail
      refine P1.mono ?_
      rintro e w2 ⟨rfl, v2, S2, K2⟩
      have HE2 : Hid (EndSt w w1 w2 v2 (sumL Ls (F (1 + t)))) := HE.out.put S2 K2
      have hsf2 : Fine (cntF d) (sumL Ls (F (1 + t))) := hSf.sum (HFF.out (1 + t)).2
      have L2 := HL.out.below HE2.out.below
      have R2 := HR.out.below HE2.out.below
      clear P1 S2 K2 m0 e2 Lw Rw e1 lR
      have m0 := L2.ptr
      have lR := R2.lt
      obtain ⟨pa, pc, p1, p2⟩ := R2.preds t htn
      have PI := index64 lp pa pc (predL d t) (b : Int) w2 (by have := pred_len (S := succN d.blocks) (n := d.blocks.length) (x := t); unfold predL; rw [ints_len]; omega) p2 hmp
      have HAT : Hid ((predL d t).findIdx (fun x => x == (b : Int)) = atN d t b) := rfl
      rw [HAT.out] at PI
      have hcap : atN d t b ≤ 10 := by have := pred_len (S := succN d.blocks) (n := d.blocks.length) (x := t); have h2 : (predL d t).length ≤ 10 := (by unfold predL; rw [ints_len]; omega); omega
      have HPH : Hid (∀ p ∈ (blkN d t).phis, Rng (cntF d) p.ins ∧ atN d t b < p.ins.length) := fun p hp => by
        obtain ⟨h1, h2⟩ := HF.out.phis t htn p hp
        exact ⟨h1, by rw [h2]; exact hatl⟩
      have hpn : (blkN d t).phis.length ≤ 1048576 := (HSM.out.2.2 _ (getD_mem block0 d.blocks t htn)).1.1
      have HOS : Hid (phisL (atN d t b) (blkN d t).phis (sumL Ls (F (1 + t))) = outStep d b (fun t => F (1 + t)) Ls t) := rfl
      have e7 := R2.f2
      obtain ⟨g3, o3, hu3, hl3, hg3, ⟨pv, pq, p0, pm⟩, _⟩ := blk_cell HR.out.blocks htn
      cases hu3
      have HPM : Hid (PhisAt w lo pv (blkN d t).phis) := pm
      have e8 := (cell_block (HE2.out.below.block g2 hg3)).trans p0
      clear p2 pm p0 hSf hsl2
      generalize atN d t b = ka at *
      generalize (blkN d t).phis = ph at *
      generalize sumL Ls (F (1 + t)) = S1 at *
      go_wp2_with fail
      refine PI.mono ?_
      rintro e w9 ⟨rfl, h9⟩
      have h8 := h9.symm
      clear h9
      subst h8
      go_wp2_with fail
      go_loopw [61] (fun i wr => ∃ (n : Nat) (v3 : Value), n ≤ ph.length ∧ i = .int .i64 n ∧ Hid (EndSt w w1 wr v3 (phisL ka (ph.take n) S1)) ∧ Hid (w2.heap.size ≤ wr.heap.size)) (fun i _ => ph.length - (intOf i).toNat)
      case atStart => exact ⟨0, v2, by omega, rfl, HE2, Nat.le_refl _⟩
      case round =>
        obtain ⟨n, v3, hn, rfl, HE3, HZ3⟩ := hrel
        obtain ⟨wp, hwp⟩ : ∃ wp, wp = wr := ⟨_, rfl⟩
        subst hwp
        clear m0 lR p1 e7 e8
        have hfn : Fine (cntF d) (phisL ka (ph.take n) S1) := Fine.phisT HPH.out hsf2
        have hz3 := HE3.out.below.size
        by_cases hnl : n < ph.length
        · rcases (HPM.out.keep (agree_of_below HE3.out.below lo)).2 with hz | ⟨bp, op, rfl, hlop, hbp, hcell⟩
          · rw [hz] at hnl; simp at hnl
          obtain ⟨e0, ⟨i0, j0, e1, m1⟩⟩ := hcell n hnl
          have hpb := HPH.out _ (getD_mem phi0 ph n hnl)
          have HSNp : Hid (phisL ka (ph.take (n + 1)) S1 = ins (phisL ka (ph.take n) S1) ((ph.getD n phi0).ins.getD ka 0)) := phis_snoc ka ph S1 hnl
          generalize ph.getD n phi0 = y at *
          have hyr := hpb.1 _ (getD_mem 0 y.ins ka hpb.2)
          obtain ⟨bq, oq, rfl, hbq, e3⟩ : ∃ bq oq, i0 = some ⟨bq, oq, none⟩ ∧ bq < wp.heap.size ∧ wp.cell? ⟨bq, oq + ka, none⟩ = some (.int .i64 (y.ins.getD ka 0)) := by
            rcases m1.2 with h | ⟨bq, oq, ha, _, hq, hc⟩
            · rw [h] at hpb; simp at hpb
            · exact ⟨bq, oq, ha, hq, hc ka hpb.2⟩
          have hka := hpb.2
          generalize y.ins.getD ka 0 = z at *
          clear hcell m1 hpb
          have bA : Below wp.heap.size wp (wp.alloc (.cells #[.int .i64 y.w, .slice (some ⟨bq, oq, none⟩) y.ins.length j0] 99)) := (Below.refl _ _).alloc (Nat.le_refl _) _
          have hzA : (wp.alloc (.cells #[.int .i64 y.w, .slice (some ⟨bq, oq, none⟩) y.ins.length j0] 99)).heap.size = wp.heap.size + 1 := by simp
          have bB : Below wp.heap.size wp ((wp.alloc (.cells #[.int .i64 y.w, .slice (some ⟨bq, oq, none⟩) y.ins.length j0] 99)).alloc (.cells #[.int .i64 z] 2)) := bA.alloc (by omega) _
          have IZ := row_ints_at (w := wp.alloc (.cells #[.int .i64 y.w, .slice (some ⟨bq, oq, none⟩) y.ins.length j0] 99)) (base := 0) (x := z)
          rw [hzA] at IZ
          have HE4 := HE3.out.go bB
          have P4 := putI _ w.heap.size (w.heap.size + 1) v3 (phisL ka (ph.take n) S1) (wp.heap.size + 1) (some ⟨wp.heap.size + 1, 0, none⟩) 1 [z] (cntF d) HE4.set IZ (fun _ q off e => by
            cases e
            exact ⟨by have := HE3.out.size; omega, fun e2 => by have := (HE3.out.set.row.ge e2).2; omega⟩) hfn (fun x hx => by rw [List.mem_singleton.1 hx]; exact hyr) hc60 (by simp) HE4.below.size
          have HE4 : Hid (EndSt w w1 ((wp.alloc (.cells #[.int .i64 y.w, .slice (some ⟨bq, oq, none⟩) y.ins.length j0] 99)).alloc (.cells #[.int .i64 z] 2)) v3 (phisL ka (ph.take n) S1)) := HE4
          have hzB : ((wp.alloc (.cells #[.int .i64 y.w, .slice (some ⟨bq, oq, none⟩) y.ins.length j0] 99)).alloc (.cells #[.int .i64 z] 2)).heap.size = wp.heap.size + 2 := by simp
          clear bA bB IZ hzA hyr hfn
          go_wp2_with fail
          refine P4.mono ?_
          rintro e w5 ⟨rfl, v5, S5, K5⟩
          have HE5 : Hid (EndSt w w1 w5 v5 (phisL ka (ph.take (n + 1)) S1)) := by
            show EndSt _ _ _ _ _
            rw [HSNp.out]
            exact HE4.out.put S5 K5
          have HZ5 : Hid (w2.heap.size ≤ w5.heap.size) := by show _ ≤ _; have := K5.size; have := HZ3.out; omega
          clear P4 S5 K5 HE4 hzB
          go_wp2_with fail
          go_roundw
          case rel => exact ⟨n + 1, v5, by omega, by go_num, HE5, HZ5⟩
          case measure => simp [intOf]; omega
        · have HSE : Hid (EndSt w w1 wp v3 (((succN d.blocks b).take (k + 1)).foldl (outStep d b (fun t => F (1 + t))) [])) := by
            have := HE3.out
            rw [List.take_of_length_le (by omega), HOS.out, ← HSN.out] at this
            exact this
          go_wp2_with fail
          go_roundw
          case rel => exact ⟨k + 1, v3, by omega, by go_num, HSE⟩
          case measure => simp [intOf]; omega
    · have HE2 : Hid (EndSt w w1 wo v (outL d b (fun t => F (1 + t)))) := by
        have := HE.out
        rw [List.take_of_length_le (by rw [HSL.out]; omega)] at this
        exact this
      obtain ⟨vu, vc, hv⟩ := HE2.out.set.row.slice
      generalize (outL d b (fun t => F (1 + t))).length = nn at hv
      subst hv
      have c1 : wo.cell? ⟨w.heap.size + 1, 0, none⟩ = some (.slice vu nn vc) := (HE2.out.set.box.cell 0).trans rfl
      have c0 : wo.cell? ⟨w.heap.size, 0, none⟩ = some (.slice none 0 0) := (HE2.out.res.cell 0).trans rfl
      have f0 : wo.frozen? ⟨w.heap.size, 0, none⟩ = false := froz_of_heap HE2.out.res
      go_wp2_with fail
      have hset := heap_set (o := 0) (v := .slice vu nn vc) HE2.out.res
      refine bodyPost_ret (v := .agg #[.slice vu nn vc]) ((results_cell_row Tryz.results93 _ _ w.heap.size 76 _ (0, 0) _ rfl hset Tryz.underlying76 rfl (by kernel_rfl)).trans (by rfl)) rfl ?_
      exact ⟨_, rfl, HE2.out.set.row.kept fun g hg => Below.heap_setCell _ _ _ _ (by show g ≠ w.heap.size; intro e; exact row_ne HE2.out.set.row HE2.out.res (by decide) (e ▸ hg)), HE2.out.below.setCell (p := ⟨w.heap.size, 0, none⟩) (Nat.le_refl _) _⟩
end Go.Proofs.YtolaghondjfhdabGreatDoor
namespace Go.Proofs.YtolaghondjfhdabGreatDoor
open Go.RowKit
set_option linter.unusedVariables false

/-- What is barred while a set at A with row v is written into. -/
def Bar (A : Nat) (v : Value) (q : Nat) : Prop := q = A ∨ v.ownBlock = some q
theorem lv_ne {w : World} {M Rb : Nat} {X : Nat → Prop} {F : Alive} (h : LvAt w M Rb X F) {base A : Nat} {v : Value} {l : List Int} (k : SetAt w base A v l) : M ≠ A ∧ v.ownBlock ≠ some M := by
  obtain ⟨cur, h1, _⟩ := h
  refine ⟨fun e => ?_, row_ne k.row (show At w M cur _ from h1) (by decide)⟩
  subst e
  have := k.box
  unfold At at this
  rw [h1] at this
  cases this
theorem ints_hold {w w' : World} {lo : Nat} {a : Option Addr} {l : List Int} (h : IntsAt w lo a l) (hz : w.heap.size ≤ w'.heap.size) (k : l ≠ [] → ∀ q off, a = some ⟨q, off, none⟩ → q < w.heap.size → w'.heap[q]? = w.heap[q]?) : IntsAt w' lo a l := by
  refine ⟨h.1, ?_⟩
  rcases h.2 with e | ⟨b, off, ha, hlo, hb, hc⟩
  · exact .inl e
  · by_cases hn : l = []
    · exact .inl hn
    · exact .inr ⟨b, off, ha, hlo, Nat.lt_of_lt_of_le hb hz, fun i hi => (cell_block (k hn b off ha hb)).trans (hc i hi)⟩
theorem ints_lt {w : World} {lo : Nat} {a : Option Addr} {l : List Int} (h : IntsAt w lo a l) (hn : l ≠ []) {q off : Nat} (e : a = some ⟨q, off, none⟩) : q < w.heap.size := by
  rcases h.2 with e2 | ⟨b, off', ha, hlo, hb, hc⟩
  · exact absurd e2 hn
  · rw [e] at ha
    cases ha
    exact hb
/-- The sets stay where another set is written into. -/
theorem LvAt.kept {w w' : World} {M Rb A base : Nat} {F : Alive} {v v' : Value} {l : List Int} (h : LvAt w M Rb (Bar A v) F) (s : SetAt w base A v l) (k : Kept w w' A v v') : LvAt w' M Rb (Bar A v') F := by
  obtain ⟨n1, n2⟩ := lv_ne h s
  have hl := h.lt
  obtain ⟨cur, h1, h2, h3, h4⟩ := h
  refine ⟨cur, (k.block M hl n1 n2).trans h1, h2, h3, fun j hj hj2 => ?_⟩
  obtain ⟨a, c, h5, h6, h7⟩ := h4 j hj hj2
  refine ⟨a, c, h5, ints_hold h6 k.size (fun hn q off e hq => k.block q hq (fun e2 => h7 hn q off e (.inl e2)) (fun e2 => h7 hn q off e (.inr e2))), fun hn q off e hb => ?_⟩
  rcases hb with e2 | e2
  · exact h7 hn q off e (.inl e2)
  · rcases k.lies with l1 | ⟨g, l1, l2⟩
    · exact h7 hn q off e (.inr (l1 ▸ e2))
    · rw [l1] at e2
      have : g = q := by simpa using e2
      have := ints_lt h6 hn e
      omega
/-- A set more. -/
theorem LvAt.set {w : World} {M Rb : Nat} {X : Nat → Prop} {F : Alive} (h : LvAt w M Rb X F) {j : Nat} (hj1 : 1 ≤ j) (hj2 : j < 81) {a : Option Addr} {c : Nat} {l : List Int} (hi : IntsAt w (M + 1) a l) (hx : l ≠ [] → ∀ q off, a = some ⟨q, off, none⟩ → ¬ X q) : LvAt (w.setCell ⟨M, j, none⟩ (.slice a l.length c)) M Rb X (updL F j l) := by
  obtain ⟨cur, h1, h2, h3, h4⟩ := h
  have hag := agree_setCell w M j (M + 1) (.slice a l.length c) (by omega)
  refine ⟨cur.setIfInBounds j (.slice a l.length c), heap_set h1, by simpa using h2, by rw [Array.getElem?_setIfInBounds_ne (by omega)]; exact h3, fun i hi1 hi2 => ?_⟩
  by_cases e : i = j
  · subst e
    exact ⟨a, c, by rw [updL_same]; simp [h2, hi2], by rw [updL_same]; exact hi.keep hag, by rw [updL_same]; exact hx⟩
  · obtain ⟨a', c', h5, h6, h7⟩ := h4 i hi1 hi2
    exact ⟨a', c', by rw [updL_other _ e, Array.getElem?_setIfInBounds_ne (by omega)]; exact h5, by rw [updL_other _ e]; exact h6.keep hag, by rw [updL_other _ e]; exact h7⟩
theorem LvAt.froz {w : World} {M Rb : Nat} {X : Nat → Prop} {F : Alive} (h : LvAt w M Rb X F) (o : Nat) : w.frozen? ⟨M, o, none⟩ = false := by
  obtain ⟨cur, h1, _⟩ := h
  exact froz_of_heap h1
theorem LvAt.weak {w : World} {M Rb : Nat} {X Y : Nat → Prop} {F : Alive} (h : LvAt w M Rb X F) (k : ∀ j, F j ≠ [] → ∀ a : Option Addr, IntsAt w (M + 1) a (F j) → ∀ q off, a = some ⟨q, off, none⟩ → ¬ Y q) : LvAt w M Rb Y F := by
  obtain ⟨cur, h1, h2, h3, h4⟩ := h
  exact ⟨cur, h1, h2, h3, fun j hj hj2 => by
    obtain ⟨a, c, h5, h6, h7⟩ := h4 j hj hj2
    exact ⟨a, c, h5, h6, fun hn => k j hn a h6⟩⟩
theorem LvAt.drew {w : World} {M Rb : Nat} {X : Nat → Prop} {F : Alive} (h : LvAt w M Rb X F) : LvAt w.drew M Rb X F := h.below ((Below.refl _ _).drew)
theorem LvAt.imp {w : World} {M Rb : Nat} {X Y : Nat → Prop} {F : Alive} (h : LvAt w M Rb X F) (k : ∀ q, Y q → X q) : LvAt w M Rb Y F := by
  obtain ⟨cur, h1, h2, h3, h4⟩ := h
  exact ⟨cur, h1, h2, h3, fun j hj hj2 => by
    obtain ⟨a, c, h5, h6, h7⟩ := h4 j hj hj2
    exact ⟨a, c, h5, h6, fun hn q off e hy => h7 hn q off e (k q hy)⟩⟩
theorem LvAt.old {w : World} {M Rb : Nat} {X : Nat → Prop} {F : Alive} (h : LvAt w M Rb X F) : LvAt w M Rb (fun q => w.heap.size ≤ q) F :=
  h.weak fun j hn a hi q off e hq => by
    have := ints_lt hi hn e
    omega
/-- What the sets are when a block was gone through. -/
def afterI (F : Alive) (l : List InstD) (first : Nat) (s : List Int) : Nat → Alive
  | 0 => F
  | m + 1 => updL (afterI F l first s m) (21 + (first + (l.length - 1 - m))) (bkL l first s m)
def afterP (F : Alive) (first : Nat) (s : List Int) : Nat → Alive
  | 0 => F
  | n + 1 => updL (afterP F first s n) (21 + (first + n)) s
def thruF (d : FuncD) (F : Alive) (b : Nat) : Alive :=
  updL (afterP (afterI (updL F (11 + b) (outL d b (fun t => F (1 + t)))) (blkN d b).insts (firstN d b + (blkN d b).phis.length) (sumL (outL d b (fun t => F (1 + t))) (termO (blkN d b).term)) (blkN d b).insts.length) (firstN d b) (backL d b (outL d b (fun t => F (1 + t))) (blkN d b).insts.length) (blkN d b).phis.length) (1 + b) (inL d b (fun t => F (1 + t)))
theorem first_end {d : FuncD} {b : Nat} (hb : b < d.blocks.length) : firstN d b + (blkN d b).phis.length + (blkN d b).insts.length ≤ cntF d := by
  have h1 := cntL_take d.blocks b hb
  have h2 := cntL_take_le d.blocks (b + 1)
  unfold firstN cntF blkN
  unfold cntB at h1
  omega
/-- What holds while a block is gone through. -/
structure ThSt (w wr : World) (M Rb A : Nat) (cs : Array Value) (v : Value) (s : List Int) (F : Alive) : Prop where
  set : SetAt wr w.heap.size A v s
  lv : LvAt wr M Rb (Bar A v) F
  below : Below M w wr
  box : At wr w.heap.size cs 68
  ge : w.heap.size + 1 ≤ A
theorem ThSt.go {w wr wr' : World} {M Rb A : Nat} {cs : Array Value} {v : Value} {s : List Int} {F : Alive} (h : ThSt w wr M Rb A cs v s F) (k : Below wr.heap.size wr wr') : ThSt w wr' M Rb A cs v s F :=
  ⟨h.set.below k, h.lv.below k, h.below.trans (k.mono (Nat.le_of_lt h.lv.lt)), h.box.below k, h.ge⟩
theorem ThSt.put {w wr wr' : World} {M Rb A : Nat} {cs : Array Value} {v v' : Value} {s s' : List Int} {F : Alive} (h : ThSt w wr M Rb A cs v s F) (hM : M ≤ w.heap.size) (hs : SetAt wr' w.heap.size A v' s') (k : Kept wr wr' A v v') : ThSt w wr' M Rb A cs v' s' F := by
  have hge := h.ge
  have hz : w.heap.size ≤ wr.heap.size := by have := h.set.box.lt; omega
  refine ⟨hs, h.lv.kept h.set k, h.below.trans (k.below (by omega) (fun g hg => Nat.le_trans hM (h.set.row.ge hg).1) (Nat.le_of_lt h.lv.lt)), (k.block _ h.box.lt (by omega) (row_ne h.set.row h.box (by decide))).trans h.box, hge⟩
theorem ThSt.store {w wr : World} {M Rb A : Nat} {cs : Array Value} {v : Value} {s : List Int} {F : Alive} (h : ThSt w wr M Rb A cs v s F) (hM : M < w.heap.size) {j : Nat} (hj1 : 1 ≤ j) (hj2 : j < 81) {a : Option Addr} {c : Nat} {l : List Int} (hi : IntsAt wr (M + 1) a l) (hx : l ≠ [] → ∀ q off, a = some ⟨q, off, none⟩ → ¬ Bar A v q) : ThSt w (wr.setCell ⟨M, j, none⟩ (.slice a l.length c)) M Rb A cs v s (updL F j l) := by
  obtain ⟨n1, n2⟩ := lv_ne h.lv h.set
  refine ⟨⟨h.set.box.setOther (Ne.symm n1), h.set.row.kept fun g hg => Below.heap_setCell _ _ _ _ (by show g ≠ M; intro e; exact n2 (e ▸ hg))⟩, h.lv.set hj1 hj2 hi hx, h.below.setCell (p := ⟨M, j, none⟩) (Nat.le_refl _) _, h.box.setOther (by omega), h.ge⟩
end Go.Proofs.YtolaghondjfhdabGreatDoor
