/- headedBytes: a loop over a program's numbers that writes into a builder. -/
import Derived.Test.YtoekogfbmnjeiaaPbD
import Derived.Test.YtoekogfbmnjeiaaPbE
import Derived.Test.YtoekogfbmnjeiaaVoi
import Derived.Test.YtoekogfbmnjeiaaShelf
namespace Go.Proofs.Ytoekogfbmnjeiaa
open Go.RowKit Go.Shelf
attribute [local go_sem] Oper.semAt_some
set_option linter.unusedVariables false

/-- What a round keeps: all blocks of int64 cells, and what lies below n0. -/
def KpB (n0 : Nat) (W W' : World) : Prop := W.heap.size ≤ W'.heap.size ∧ (∀ (i : Nat) (cs : Array Value), W.heap[i]? = some (.cells cs 2 (0, 0)) → W'.heap[i]? = W.heap[i]?) ∧ (n0 ≤ W.heap.size → Below n0 W W')
theorem KpB.refl (n0 : Nat) (A : World) : KpB n0 A A := ⟨Nat.le_refl _, fun _ _ _ => rfl, fun _ => Below.refl _ _⟩
theorem KpB.trans {n0 : Nat} {A B C : World} (h : KpB n0 A B) (k : KpB n0 B C) : KpB n0 A C :=
  ⟨Nat.le_trans h.1 k.1, fun i cs e => (k.2.1 i cs ((h.2.1 i cs e).trans e)).trans (h.2.1 i cs e), fun hn => (h.2.2 hn).trans (k.2.2 (Nat.le_trans hn h.1))⟩
theorem KpB.alloc (n0 : Nat) (A : World) (o : Obj) : KpB n0 A (A.alloc o) :=
  ⟨by simp, fun i cs e => Below.heap_alloc _ _ _ (by
    rcases Nat.lt_or_ge i A.heap.size with h | h
    · exact h
    · rw [Array.getElem?_eq_none h] at e; cases e), fun hn => (Below.refl _ _).alloc hn _⟩
theorem KpB.fresh (n0 : Nat) (A : World) (cs : Array Value) (B : World) (h : KpB n0 (A.alloc (.cells cs 2)) B) : B.heap[A.heap.size]? = some (.cells cs 2 (0, 0)) :=
  (h.2.1 _ cs (heap_alloc_last A _)).trans (heap_alloc_last A _)
set_option maxHeartbeats 1000000 in
theorem numbers_stops (n lo Bp : Nat) (p : ProgD) (s1 : Option Addr) (c1 : Nat) (s2 : Option Addr) (c2 : Nat) (s3 : Option Addr) (c3 : Nat) (w0 w : World) (hw : Below w0.heap.size w0 w)
    (X : BoxP w0 Bp p s1 c1 s2 c2 s3 c3) (k1 : IntsAt w0 lo s1 p.params) (k2 : IntsAt w0 lo s2 p.widths) (k3 : MinsAt w0 lo s3 p.code) (hl1 : p.params.length ≤ 4) (hl2 : p.widths.length ≤ 4) (hl3 : p.code.length ≤ 600) :
    SeqStopsK Fence.wide n Try.prog 31 #[.pointer (some ⟨Bp, 0, none⟩)] (fun x : Int => #[.int .i64 x]) (KpB w0.heap.size) (fun xs => xs = progN p) (fun _ => True) 100000 w := by
  intro l J Jx W hW hJ hJx hY h0
  have hn0 : w0.heap.size ≤ W.heap.size := Nat.le_trans hw.size hW.size
  have hb : ∀ V, KpB w0.heap.size W V → Below w0.heap.size w0 V := fun V h => (hw.trans (hW.mono hw.size)).trans (h.2.2 hn0)
  have R := numbersI l (KpB w0.heap.size) (KpB.refl _) (fun h k => KpB.trans h k) (KpB.alloc _) (KpB.fresh _) 100000 J Jx (fun m pre x V hj hp => yield_any m (hY pre x V hj hp)) (fun pre A o hj => hJ pre A (A.alloc o) none hj ⟨rfl, rfl, rfl, by simp, fun i hi _ => Below.heap_alloc _ _ _ hi⟩ (fun r e => by cases e)) n lo Bp p s1 c1 s2 c2 s3 c3 W h0
    (fun V h => X.below (hb V h)) (fun V h => k1.keep (agree_of_below (hb V h) lo)) (fun V h => k2.keep (agree_of_below (hb V h) lo)) (fun V h => k3.keep (agree_of_below (hb V h) lo)) hl1 hl2 hl3 (by omega)
  refine R.mono ?_
  rintro e W' ⟨hv, h | ⟨q, h⟩⟩
  · exact ⟨hv, .inl ⟨_, rfl, h⟩⟩
  · exact ⟨hv, .inr ⟨q, trivial, h⟩⟩
theorem cells_ne {W : World} {i r : Nat} {cs : Array Value} {t : TypeId} {z : Nat × Nat} (h : W.heap[i]? = some (.cells cs t z)) (k : ∃ o : Obj, W.heap[r]? = some o ∧ o.isCells = false) : i ≠ r := fun e => by
  obtain ⟨o, ho, hc⟩ := k
  rw [← e, h] at ho
  obtain rfl := Option.some.inj ho
  cases hc
theorem Bld.kept {W W' : World} {B b : Nat} {p v : Value} {bs : List Value} {row : Option Nat} (h : Bld W B b p v bs) (hg : W.grownBy W' row) (hr : ∀ r, row = some r → ∃ o : Obj, W.heap[r]? = some o ∧ o.isCells = false) : Bld W' B b p v bs := by
  refine ⟨h.ge, (hg.block b h.lt (fun e => cells_ne h.block (hr b e.symm) rfl)).trans h.block, ?_, h.ne⟩
  refine h.row.kept hg ?_
  rcases h.row.2 with ⟨hv, _⟩ | ⟨g, cap, cur, hv, _, hcell, _⟩
  · exact .inl (by rw [hv]; rfl)
  · refine .inr fun e => ?_
    have e2 : some g = row := by rw [← e, hv]; rfl
    exact cells_ne hcell (hr g e2.symm) rfl
theorem Bld.own {W : World} {B b : Nat} {p v : Value} {bs : List Value} (h : Bld W B b p v bs) {j : Nat} (e : v.ownBlock = some j) : B ≤ j ∧ ∃ cur, W.heap[j]? = some (.cells cur 5 (0, 0)) := by
  rcases h.row.2 with ⟨hv, _⟩ | ⟨g, cap, cur, hv, hg, hcell, _⟩
  · rw [hv] at e; cases e
  · rw [hv] at e
    have e2 : g = j := by simpa [Value.ownBlock] using e
    subst e2
    exact ⟨hg, cur, hcell⟩
theorem own_cells {W : World} {B b : Nat} {p v : Value} {bs : List Value} (h : Bld W B b p v bs) {j : Nat} {o : Obj} (e : v.ownBlock = some j) (ho : W.heap[j]? = some o) : o.isCells = true := by
  obtain ⟨_, cur, hc⟩ := h.own e
  rw [hc] at ho
  obtain rfl := Option.some.inj ho
  rfl
theorem own_ge {W : World} {B b : Nat} {p v : Value} {bs : List Value} (h : Bld W B b p v bs) {j : Nat} (e : v.ownBlock = some j) : B ≤ j := (h.own e).1
theorem own_other {W : World} {B b : Nat} {p v : Value} {bs : List Value} (h : Bld W B b p v bs) {j : Nat} {cs : Array Value} (e : v.ownBlock = some j) (hi : W.heap[j]? = some (.cells cs 2 (0, 0))) : False := by
  obtain ⟨_, cur, hc⟩ := h.own e
  rw [hc] at hi
  cases hi
theorem frz_other (w : World) (g n i : Nat) (h : i ≠ g) : (w.freeze ⟨g, 0, none⟩ n).heap[i]? = w.heap[i]? := by
  unfold World.freeze
  split
  · rfl
  · show (w.heap.modify g _)[i]? = _
    rw [Array.getElem?_modify, if_neg (fun e => h e.symm)]
set_option maxHeartbeats 1000000 in
set_option maxRecDepth 100000 in
theorem stringI (w : World) (B b : Nat) (p v : Value) (l : List UInt8) (h : Bld w B b p v (Lib.byteCells l)) (h0 : l ≠ []) :
    Calls Try.prog 30 #[.pointer (some ⟨b, 0, none⟩)] w fun e w' => e = .returned (.string ⟨l.toArray⟩) ∧ ∃ g, v.ownBlock = some g ∧ w' = w.drew.freeze ⟨g, 0, none⟩ l.length := by
  obtain ⟨hB, hbk, hown, hne⟩ := h
  have hl0 : l.length ≠ 0 := by simpa using h0
  rw [Lib.byteCells_length] at hown
  obtain ⟨g, cap, cur, rfl, hbg, hg, hnc, hcm, hcs, htake⟩ : ∃ g cap cur, v = .slice (some ⟨g, 0, none⟩) l.length cap ∧ B ≤ g ∧ w.heap[g]? = some (.cells cur 5 (0, 0)) ∧ l.length ≤ cap ∧ cap ≤ maxLen ∧ cur.size = cap * 1 ∧ cur.toList.take (l.length * 1) = Lib.byteCells l := by
    rcases hown.2 with ⟨_, hz⟩ | ⟨g, cap, cur, hv, r⟩
    · exact absurd hz hl0
    · exact ⟨g, cap, cur, hv, r⟩
  have c1 : w.drew.cell? ⟨b, 1, none⟩ = some (.slice (some ⟨g, 0, none⟩) l.length cap) := by
    have : w.drew.heap[b]? = some (.cells #[p, .slice (some ⟨g, 0, none⟩) l.length cap] 60 (0, 0)) := hbk
    rw [cell_of_heap this]; rfl
  have hSD : (Builtin.unsafeSliceData_ #[52] 73 #[.slice (some ⟨g, 0, none⟩) l.length cap]).run Try.prog w.drew = .ok (.pointer (some ⟨g, 0, none⟩)) w.drew :=
    Lib.run_unsafeSliceData_row _ _ _ _ _ _ (by omega)
  have hUS : (Builtin.unsafeString_ #[73, 3] 9 #[.pointer (some ⟨g, 0, none⟩), .int .i64 l.length]).run Try.prog w.drew = .ok (.string ⟨l.toArray⟩) (w.drew.freeze ⟨g, 0, none⟩ l.length) := by
    refine Lib.run_unsafeString_row w.drew 73 3 9 5 Try.underlying73 (by kernel_rfl) g cur.size (by have hg' : w.drew.heap[g]? = some (.cells cur 5 (0, 0)) := hg; simp [World.shape?, hg']) l h0 (by omega) (by unfold maxLen at hcm; omega) ?_
    intro j x hx
    have := hown.cells (g := g) rfl j (.int .u8 x.toNat) (by simp [Lib.byteCells, hx])
    exact this
  clear hown hbk htake hcs
  go_enter Try.func30, Try.ntmps30
  go_wp2_with fail
  go_region
  all_goals (go_wp2_with fail; go_ret; exact ⟨rfl, g, rfl, rfl⟩)
theorem vb_ge : ∀ (l : List Int) (R : ByteArray), R.size ≤ (vb R l).size
  | [], R => Nat.le_refl _
  | n :: l, R => by
    have h := vb_ge l (R ++ vof n)
    rw [ByteArray.size_append] at h
    rw [vb_cons]
    omega
theorem KpB.put {n0 : Nat} {w : World} (hn : n0 ≤ w.heap.size) (W : World) (l : Nat) (o o' : Obj) (hl : w.heap.size ≤ l) (h : W.heap[l]? = some o) (hc : o.isCells = false) (hk : o.isWalk = false) : KpB n0 W (W.putObj l o') :=
  ⟨(grownBy_putObj' W l o').size, fun i cs e => (grownBy_putObj' W l o').block i (by
    rcases Nat.lt_or_ge i W.heap.size with h' | h'
    · exact h'
    · rw [Array.getElem?_eq_none h'] at e; cases e) (fun e2 => cells_ne e ⟨o, h, hc⟩ (Option.some.inj e2)), fun _ => belowK_b hn W l o o' hl h hc hk⟩
set_option maxRecDepth 100000 in
set_option maxHeartbeats 4000000 in
theorem headedI (lo Bp : Nat) (p : ProgD) (s1 : Option Addr) (c1 : Nat) (s2 : Option Addr) (c2 : Nat) (s3 : Option Addr) (c3 : Nat) (w : World)
    (X : BoxP w Bp p s1 c1 s2 c2 s3 c3) (k1 : IntsAt w lo s1 p.params) (k2 : IntsAt w lo s2 p.widths) (k3 : MinsAt w lo s3 p.code) (hl1 : p.params.length ≤ 4) (hl2 : p.widths.length ≤ 4) (hl3 : p.code.length ≤ 600) :
    Calls Try.prog 17 #[.string reg1, .func (.func 31) #[] #[.pointer (some ⟨Bp, 0, none⟩)]] w fun e W' => e = .returned (.string (vb reg1 (progN p))) ∧ Below w.heap.size w W' := by
  refine (callsIn_wide (n := 6)).1 ?_
  have hb0 : Bld (w.alloc (.cells #[.pointer none, .slice none 0 0] 60)) w.heap.size w.heap.size (.pointer none) (.slice none 0 0) [] := ⟨Nat.le_refl _, heap_alloc_last _ _, World.ownsRow_nil _ _ _ _, by simp [Value.ownBlock]⟩
  have hB0 : Below w.heap.size w (w.alloc (.cells #[.pointer none, .slice none 0 0] 60)) := (Below.refl _ _).alloc (Nat.le_refl _) _
  refine callsIn_of_wp_marks Try.func17 rfl trivial ?_ rfl
  simp only [Try.ntmps17, List.size_toArray, List.length_cons, List.length_nil, Nat.reduceAdd, Nat.reduceSub, Array.replicate_succ, Array.replicate_zero, List.push_toArray, List.append_toArray, List.nil_append, List.cons_append]
  gi_wp2
  refine ⟨trivial, (callsIn_wide.2 (writeF _ w.heap.size w.heap.size reg1 hb0 (by decide) hB0.size)).mono ?_⟩
  rintro e w1 ⟨rfl, v1, B1, b1⟩
  have hB1 := hB0.trans b1
  clear hb0 hB0 b1
  gi_wp2
  refine wpIn_rangeFunc_ownG rfl (by omega) (gf := 31) (lb := #[.pointer (some ⟨Bp, 0, none⟩)]) rfl trivial (enters_of Try.func31 (by kernel_rfl) rfl)
    (numbers_stops 5 lo Bp p s1 c1 s2 c2 s3 c3 w w1 hB1 X k1 k2 k3 hl1 hl2 hl3) (fun h k => KpB.trans h k) (KpB.put hB1.size) (Below.refl _ _) (fun _ => rfl)
    (fun pre W => (∃ v, Bld W w.heap.size w.heap.size (.pointer (some ⟨w.heap.size, 0, none⟩)) v (Lib.strCells (vb reg1 pre))) ∧ Below w.heap.size w W)
    (fun _ _ _ => False)
    (OwnFrom.and (fun s A B row hs hg hr => by obtain ⟨v, hv⟩ := hs; exact ⟨v, hv.kept hg (fun r e => (hr r e).2)⟩) (ownFrom_below (Nat.le_refl _) hB1.size))
    (fun _ _ _ _ _ hs _ _ => hs)
    ⟨⟨v1, B1⟩, hB1⟩
    (fun x => { tmps := #[.string reg1, .func (.func 31) #[] #[.pointer (some ⟨Bp, 0, none⟩)], undef, undef, .string ⟨#[]⟩, .pointer (some ⟨w.heap.size, 0, none⟩), .int .i64 x, .string reg1, .tuple #[.int .i64 (reg1.size : Int), .nilIface], .func (.func 31) #[] #[.pointer (some ⟨Bp, 0, none⟩)], .int .i64 x, undef, undef, undef, undef], defers := [] }) ?assign ?body ?done ?stop
  case assign =>
    intro l x W K hK
    gi_wp2
    exact hK
  case body =>
    rintro l pre x W ⟨⟨v, hb⟩, hB⟩ hlen
    have h5 := vof_len x
    have hvs := vb_size pre reg1
    have hr4 : reg1.size = 4 := rfl
    gi_wp2
    refine ⟨trivial, (CallsIn.inRound l (callsIn_wide.2 (varI x W))).mono ?_⟩
    rintro e W1 ⟨rfl, b1⟩
    have g1 : W.grownBy W1 none := ⟨b1.os, b1.tape, b1.output, b1.size, fun i hi _ => b1.block i hi⟩
    have hb1 := hb.kept g1 (fun r e => by cases e)
    have hBw : w.heap.size ≤ W.heap.size := hB.size
    have P2 := writeI W1 w.heap.size w.heap.size v _ (vof x) hb1 (by rw [Lib.strCells_length]; omega) (Nat.le_trans hBw b1.size)
    have E2 : Hid (Lib.strCells (vb reg1 pre) ++ Lib.strCells (vof x) = Lib.strCells (vb reg1 (pre ++ [x]))) := by
      show _ = _
      rw [vb_append, vb_one]
      simp [Lib.strCells]
    generalize vof x = V at P2 h5 E2 ⊢
    gi_wp2
    refine ⟨trivial, (CallsIn.inRound l (callsIn_wide.2 P2)).mono ?_⟩
    rintro e W2 ⟨rfl, v2, W3, hb2, hg2, rfl⟩
    gi_wp2
    have hK1 : KeepsOthers W W1 := KeepsOthers.of_grownBy g1 (fun j o e => by cases e)
    have hK2 : KeepsOthers W1 W3 := KeepsOthers.of_grownBy hg2 (fun j o e ho => own_cells hb1 e ho)
    have hBl : Below w.heap.size W (W3.setCell ⟨w.heap.size, 1, none⟩ v2) := ((b1.mono hBw).grown hg2 (Nat.le_trans hBw b1.size) (fun k e => own_ge hb1 e)).setCell (p := ⟨w.heap.size, 1, none⟩) (Nat.le_refl _) _
    refine ⟨((hK1.trans hK2).trans (KeepsOthers.setCell _ _ _)).from _, ⟨hBl.size, fun i cs hi => ?_, fun _ => hBl⟩, ⟨v2, by rw [← E2.out]; exact hb2⟩, hB.trans hBl⟩
    have hil := (Array.getElem?_eq_some_iff.1 hi).1
    have hi1 : W1.heap[i]? = some (.cells cs 2 (0, 0)) := (b1.block i hil).trans hi
    have hi3 : W3.heap[i]? = W1.heap[i]? := hg2.block i (Nat.lt_of_lt_of_le hil b1.size) (fun e => own_other hb1 e.symm hi1)
    rw [Below.heap_setCell _ _ _ _ (show i ≠ w.heap.size from fun e => by
      have := hb1.block
      rw [← e, hi1] at this
      cases this), hi3, b1.block i hil]
  case done =>
    rintro D ys W hD rfl ⟨⟨v, hb⟩, hB⟩ hK
    have hge := vb_ge (progN p) reg1
    have hr4 : reg1.size = 4 := rfl
    have hne : (vb reg1 (progN p)).data.toList ≠ [] := fun e => by
      have h9 : (vb reg1 (progN p)).size = 0 := by
        show (vb reg1 (progN p)).data.toList.length = 0
        rw [e]
        rfl
      omega
    have SI := stringI W w.heap.size w.heap.size _ v (vb reg1 (progN p)).data.toList hb hne
    rw [show (⟨(vb reg1 (progN p)).data.toList.toArray⟩ : ByteArray) = vb reg1 (progN p) from ByteArray.ext (by simp)] at SI
    generalize hY : vb reg1 (progN p) = Y at SI
    have HY : Hid (vb reg1 (progN p) = Y) := hY
    clear hY
    gi_wp2
    refine ⟨trivial, (callsIn_wide.2 SI).mono ?_⟩
    rintro e W5 ⟨rfl, g, hog, rfl⟩
    have hDg : D ≠ g := fun e => by
      obtain ⟨_, cur, hcur⟩ := hb.own hog
      rw [← e, hK] at hcur
      cases hcur
    have hK5 : (W.drew.freeze ⟨g, 0, none⟩ Y.data.toList.length).heap[D]? = some (.deferred (some [])) := (frz_other _ _ _ _ hDg).trans hK
    have hB5 : Below w.heap.size w (W.drew.freeze ⟨g, 0, none⟩ Y.data.toList.length) := Lib.below_freeze (Below.drew hB) (p := ⟨g, 0, none⟩) (own_ge hb hog) _
    generalize W.drew.freeze ⟨g, 0, none⟩ Y.data.toList.length = W6 at hK5 hB5 ⊢
    gi_wp2
    refine ⟨by simp, .inl ⟨_, _, rfl, run_takeDeferred hK5, ?_⟩⟩
    exact ⟨_, results_tmp rfl _ _ _, by rw [HY.out]; rfl, hB5.trans (belowK_b (w := w) (Nat.le_refl _) W6 D _ _ (by have := hB1.size; omega) hK5 rfl rfl)⟩
  case stop =>
    rintro D c pre W _ _ h _
    exact h.elim
end Go.Proofs.Ytoekogfbmnjeiaa
