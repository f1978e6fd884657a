/- A loop over numbers that writes into a builder: what a round keeps. -/
import Derived.Test.YtiigibffeapjoaaPbC
import Derived.Test.YtiigibffeapjoaaPbE
namespace Go.Proofs.Ytiigibffeapjoaa
open Go.RowKit Go.Shelf
attribute [local go_sem] Oper.semAt_some
set_option linter.unusedVariables false

/-- What a round keeps: all blocks of cells but those of bytes and of builders, and what lies below n0. -/
def KpB (n0 : Nat) (W W' : World) : Prop := W.heap.size ≤ W'.heap.size ∧ (∀ (i : Nat) (cs : Array Value) (t : TypeId), W.heap[i]? = some (.cells cs t (0, 0)) → t ≠ 5 → t ≠ 72 → W'.heap[i]? = W.heap[i]?) ∧ (n0 ≤ W.heap.size → Below n0 W W')
theorem KpB.refl (n0 : Nat) (A : World) : KpB n0 A A := ⟨Nat.le_refl _, fun _ _ _ _ _ _ => rfl, fun _ => Below.refl _ _⟩
theorem KpB.trans {n0 : Nat} {A B C : World} (h : KpB n0 A B) (k : KpB n0 B C) : KpB n0 A C :=
  ⟨Nat.le_trans h.1 k.1, fun i cs t e h1 h2 => (k.2.1 i cs t ((h.2.1 i cs t e h1 h2).trans e) h1 h2).trans (h.2.1 i cs t e h1 h2), fun hn => (h.2.2 hn).trans (k.2.2 (Nat.le_trans hn h.1))⟩
theorem KpB.below (n0 : Nat) {A B : World} (h : Below A.heap.size A B) : KpB n0 A B :=
  ⟨h.size, fun i cs t e _ _ => h.block i (by
    rcases Nat.lt_or_ge i A.heap.size with h | h
    · exact h
    · rw [Array.getElem?_eq_none h] at e; cases e), fun hn => h.mono hn⟩
theorem KpB.alloc (n0 : Nat) (A : World) (o : Obj) : KpB n0 A (A.alloc o) := KpB.below n0 ((Below.refl _ _).alloc (Nat.le_refl _) _)
theorem KpB.fresh (n0 : Nat) (A : World) (cs : Array Value) (B : World) (h : KpB n0 (A.alloc (.cells cs 2)) B) : B.heap[A.heap.size]? = some (.cells cs 2 (0, 0)) :=
  (h.2.1 _ cs _ (heap_alloc_last A _) (by decide) (by decide)).trans (heap_alloc_last A _)
theorem cells_ne {W : World} {i r : Nat} {cs : Array Value} {t : TypeId} {z : Nat × Nat} (h : W.heap[i]? = some (.cells cs t z)) (k : ∃ o : Obj, W.heap[r]? = some o ∧ o.isCells = false) : i ≠ r := fun e => by
  obtain ⟨o, ho, hc⟩ := k
  rw [← e, h] at ho
  obtain rfl := Option.some.inj ho
  cases hc
theorem Bld.kept {W W' : World} {B b : Nat} {p v : Value} {bs : List Value} {row : Option Nat} (h : Bld W B b p v bs) (hg : W.grownBy W' row) (hr : ∀ r, row = some r → ∃ o : Obj, W.heap[r]? = some o ∧ o.isCells = false) : Bld W' B b p v bs := by
  refine ⟨h.ge, (hg.block b h.lt (fun e => cells_ne h.block (hr b e.symm) rfl)).trans h.block, ?_, h.ne⟩
  refine h.row.kept hg ?_
  rcases h.row.2 with ⟨hv, _⟩ | ⟨g, cap, cur, hv, _, hcell, _⟩
  · exact .inl (by rw [hv]; rfl)
  · refine .inr fun e => ?_
    have e2 : some g = row := by rw [← e, hv]; rfl
    exact cells_ne hcell (hr g e2.symm) rfl
theorem Bld.own {W : World} {B b : Nat} {p v : Value} {bs : List Value} (h : Bld W B b p v bs) {j : Nat} (e : v.ownBlock = some j) : B ≤ j ∧ ∃ cur, W.heap[j]? = some (.cells cur 5 (0, 0)) := by
  rcases h.row.2 with ⟨hv, _⟩ | ⟨g, cap, cur, hv, hg, hcell, _⟩
  · rw [hv] at e; cases e
  · rw [hv] at e
    have e2 : g = j := by simpa [Value.ownBlock] using e
    subst e2
    exact ⟨hg, cur, hcell⟩
theorem own_cells {W : World} {B b : Nat} {p v : Value} {bs : List Value} (h : Bld W B b p v bs) {j : Nat} {o : Obj} (e : v.ownBlock = some j) (ho : W.heap[j]? = some o) : o.isCells = true := by
  obtain ⟨_, cur, hc⟩ := h.own e
  rw [hc] at ho
  obtain rfl := Option.some.inj ho
  rfl
theorem own_ge {W : World} {B b : Nat} {p v : Value} {bs : List Value} (h : Bld W B b p v bs) {j : Nat} (e : v.ownBlock = some j) : B ≤ j := (h.own e).1
theorem own_other {W : World} {B b : Nat} {p v : Value} {bs : List Value} (h : Bld W B b p v bs) {j : Nat} {cs : Array Value} {t : TypeId} (ht : t ≠ 5) (e : v.ownBlock = some j) (hi : W.heap[j]? = some (.cells cs t (0, 0))) : False := by
  obtain ⟨_, cur, hc⟩ := h.own e
  rw [hc] at hi
  cases hi
  exact ht rfl
theorem frz_other (w : World) (g n i : Nat) (h : i ≠ g) : (w.freeze ⟨g, 0, none⟩ n).heap[i]? = w.heap[i]? := by
  unfold World.freeze
  split
  · rfl
  · show (w.heap.modify g _)[i]? = _
    rw [Array.getElem?_modify, if_neg (fun e => h e.symm)]
set_option maxHeartbeats 1000000 in
set_option maxRecDepth 100000 in
theorem stringI (w : World) (B b : Nat) (p v : Value) (l : List UInt8) (h : Bld w B b p v (Lib.byteCells l)) (h0 : l ≠ []) :
    Calls Try.prog 31 #[.pointer (some ⟨b, 0, none⟩)] w fun e w' => e = .returned (.string ⟨l.toArray⟩) ∧ ∃ g, v.ownBlock = some g ∧ w' = w.drew.freeze ⟨g, 0, none⟩ l.length := by
  obtain ⟨hB, hbk, hown, hne⟩ := h
  have hl0 : l.length ≠ 0 := by simpa using h0
  rw [Lib.byteCells_length] at hown
  obtain ⟨g, cap, cur, rfl, hbg, hg, hnc, hcm, hcs, htake⟩ : ∃ g cap cur, v = .slice (some ⟨g, 0, none⟩) l.length cap ∧ B ≤ g ∧ w.heap[g]? = some (.cells cur 5 (0, 0)) ∧ l.length ≤ cap ∧ cap ≤ maxLen ∧ cur.size = cap * 1 ∧ cur.toList.take (l.length * 1) = Lib.byteCells l := by
    rcases hown.2 with ⟨_, hz⟩ | ⟨g, cap, cur, hv, r⟩
    · exact absurd hz hl0
    · exact ⟨g, cap, cur, hv, r⟩
  have c1 : w.drew.cell? ⟨b, 1, none⟩ = some (.slice (some ⟨g, 0, none⟩) l.length cap) := by
    have : w.drew.heap[b]? = some (.cells #[p, .slice (some ⟨g, 0, none⟩) l.length cap] 72 (0, 0)) := hbk
    rw [cell_of_heap this]; rfl
  have hSD : (Builtin.unsafeSliceData_ #[68] 95 #[.slice (some ⟨g, 0, none⟩) l.length cap]).run Try.prog w.drew = .ok (.pointer (some ⟨g, 0, none⟩)) w.drew :=
    Lib.run_unsafeSliceData_row _ _ _ _ _ _ (by omega)
  have hUS : (Builtin.unsafeString_ #[95, 3] 9 #[.pointer (some ⟨g, 0, none⟩), .int .i64 l.length]).run Try.prog w.drew = .ok (.string ⟨l.toArray⟩) (w.drew.freeze ⟨g, 0, none⟩ l.length) := by
    refine Lib.run_unsafeString_row w.drew 95 3 9 5 Try.underlying95 (by kernel_rfl) g cur.size (by have hg' : w.drew.heap[g]? = some (.cells cur 5 (0, 0)) := hg; simp [World.shape?, hg']) l h0 (by omega) (by unfold maxLen at hcm; omega) ?_
    intro j x hx
    have := hown.cells (g := g) rfl j (.int .u8 x.toNat) (by simp [Lib.byteCells, hx])
    exact this
  clear hown hbk htake hcs
  go_enter Try.func31, Try.ntmps31
  go_wp2_with fail
  go_region
  all_goals (go_wp2_with fail; go_ret; exact ⟨rfl, g, rfl, rfl⟩)
theorem vb_ge : ∀ (l : List Int) (R : ByteArray), R.size ≤ (vb R l).size
  | [], R => Nat.le_refl _
  | n :: l, R => by
    have h := vb_ge l (R ++ vof n)
    rw [ByteArray.size_append] at h
    rw [vb_cons]
    omega
theorem KpB.put {n0 : Nat} {w : World} (hn : n0 ≤ w.heap.size) (W : World) (l : Nat) (o o' : Obj) (hl : w.heap.size ≤ l) (h : W.heap[l]? = some o) (hc : o.isCells = false) (hk : o.isWalk = false) : KpB n0 W (W.putObj l o') :=
  ⟨(grownBy_putObj' W l o').size, fun i cs t e _ _ => (grownBy_putObj' W l o').block i (by
    rcases Nat.lt_or_ge i W.heap.size with h' | h'
    · exact h'
    · rw [Array.getElem?_eq_none h'] at e; cases e) (fun e2 => cells_ne e ⟨o, h, hc⟩ (Option.some.inj e2)), fun _ => belowK_b hn W l o o' hl h hc hk⟩
end Go.Proofs.Ytiigibffeapjoaa
