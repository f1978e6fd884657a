/- Who meets whom: without a program; the program's sets as they are read. -/
import Derived.Test.YtolaghondjfhdabGreatDoorLyAQ
namespace Go.Proofs.YtolaghondjfhdabGreatDoor
open Go.RowKit
set_option linter.unusedVariables false

def grpB (d : FuncD) (a b : Nat) : Bool := decide ((placeF d a).1 = (placeF d b).1) && (decide ((placeF d a).1 = -1) || (decide ((placeF d a).2 < (blkN d (placeF d a).1.toNat).phis.length) && decide ((placeF d b).2 < (blkN d (placeF d a).1.toNat).phis.length)))
def meetB (d : FuncD) (I : Alive) (a b : Nat) : Bool := !decide (a = b) && !decide (typeF d a = 0) && !decide (typeF d b = 0) && (grpB d a b || decide ((b : Int) ∈ aftL d I a) || decide ((a : Int) ∈ aftL d I b))
theorem grp_sym (d : FuncD) (a b : Nat) : grpB d a b = grpB d b a := by
  unfold grpB
  by_cases h : (placeF d a).1 = (placeF d b).1
  · rw [h]
    generalize decide ((placeF d a).2 < _) = x
    generalize decide ((placeF d b).2 < _) = y
    cases x <;> cases y <;> rfl
  · have h2 : ¬ (placeF d b).1 = (placeF d a).1 := fun e => h e.symm
    simp [h, h2]
theorem meet_sym (d : FuncD) (I : Alive) (a b : Nat) : meetB d I a b = meetB d I b a := by
  unfold meetB
  rw [grp_sym d a b, show decide (a = b) = decide (b = a) from by rw [decide_eq_decide]; exact eq_comm]
  generalize decide (b = a) = x
  generalize decide (typeF d a = 0) = y
  generalize decide (typeF d b = 0) = z
  generalize grpB d b a = u
  generalize decide ((b : Int) ∈ aftL d I a) = s
  generalize decide ((a : Int) ∈ aftL d I b) = t
  cases x <;> cases y <;> cases z <;> cases u <;> cases s <;> cases t <;> rfl
/-- The sets as they are read. -/
structure Lvs (w : World) (M Rb lo : Nat) (d : FuncD) (u2 : Option Addr) (c2 : Nat) (I : Alive) : Prop where
  lt : M < w.heap.size
  ptr : w.cell? ⟨M, 0, none⟩ = some (.pointer (some ⟨Rb, 0, none⟩))
  rt : RtAt w Rb lo (Rb + 1) d u2 c2
  two : ∃ u c, w.cell? ⟨Rb, 0, none⟩ = some (.slice u d.params.length c) ∧ w.cell? ⟨Rb, 1, none⟩ = some (.int .i64 d.ret)
  ty : ∃ T, w.cell? ⟨Rb, 3, none⟩ = some (.slice (some ⟨T, 0, none⟩) (cntF d) (cntF d)) ∧ ∀ n, n < cntF d → T < w.heap.size ∧ w.cell? ⟨T, n, none⟩ = some (.int .i64 (typeF d n))
  aft : ∀ n, n < cntF d → ∃ a c, w.cell? ⟨M, 21 + n, none⟩ = some (.slice a (aftL d I n).length c) ∧ IntsAt w (M + 1) a (aftL d I n)
theorem Lvs.below {w w' : World} {M Rb lo : Nat} {d : FuncD} {u2 : Option Addr} {c2 : Nat} {I : Alive} (h : Lvs w M Rb lo d u2 c2 I) (k : Below w.heap.size w w') : Lvs w' M Rb lo d u2 c2 I := by
  refine ⟨Nat.lt_of_lt_of_le h.lt k.size, (cell_block (k.block M h.lt)).trans h.ptr, h.rt.below k, ?_, ?_, fun n hn => ?_⟩
  · obtain ⟨u, c, h1, h2⟩ := h.two
    exact ⟨u, c, (cell_block (k.block Rb h.rt.lt)).trans h1, (cell_block (k.block Rb h.rt.lt)).trans h2⟩
  · obtain ⟨T, h1, h2⟩ := h.ty
    exact ⟨T, (cell_block (k.block Rb h.rt.lt)).trans h1, fun n hn => ⟨Nat.lt_of_lt_of_le (h2 n hn).1 k.size, (cell_block (k.block T (h2 n hn).1)).trans (h2 n hn).2⟩⟩
  · obtain ⟨a, c, h1, h2⟩ := h.aft n hn
    exact ⟨a, c, (cell_block (k.block M h.lt)).trans h1, h2.keep (agree_of_below k _)⟩
theorem LivesOut.lvs {w w' : World} {M lo : Nat} {d : FuncD} {u2 : Option Addr} {c2 Rb : Nat} {I F : Alive} (h : LivesOut w w' M lo d u2 c2 Rb I F) (hF : LvF d) : Lvs w' M Rb lo d u2 c2 I := by
  refine ⟨h.lv.lt, h.lv.ptr, h.rt, h.two, ?_, fun n hn => ?_⟩
  · obtain ⟨T, h1, h2⟩ := h.ty
    rcases h2.2 with h3 | ⟨g, off, h3, h4, h5, h6⟩
    · have hc : cntF d = 0 := by rw [← tys_len, h3]; rfl
      exact ⟨T, h1, fun n hn => by omega⟩
    · injection h3 with h3
      injection h3 with e1 e2 _
      subst e1
      refine ⟨_, h1, fun n hn => ⟨h5, ?_⟩⟩
      have := h6 n (by rw [tys_len]; exact hn)
      rw [tys_at hn] at this
      rw [← this, ← e2, Nat.zero_add]
  · obtain ⟨a, c, h1, h2, _⟩ := h.lv.cell (j := 21 + n) (by omega) (by have := hF.cnt; omega)
    rw [par_aft h.told hn] at h1 h2
    exact ⟨a, c, h1, h2⟩
end Go.Proofs.YtolaghondjfhdabGreatDoor
