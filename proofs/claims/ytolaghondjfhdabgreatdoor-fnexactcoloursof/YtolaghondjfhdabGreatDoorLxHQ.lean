/- What is alive: the program's LiveIn and LiveOut. -/
import Derived.Test.YtolaghondjfhdabGreatDoorLxEQ
namespace Go.Proofs.YtolaghondjfhdabGreatDoor
open Go.RowKit
set_option linter.unusedVariables false

/-- It is asked of a function in its form, its phis as long as they should be. -/
def okB (d : FuncD) : Bool := funcB 3 d && phsB d
/-- What is told at the beginning of a block, and at its end. -/
def LiveInR (d : FuncD) (b : Int) (l : List Int) : Prop := ((okB d && belowB b d.blocks.length) = false ∧ l = []) ∨ ((okB d && belowB b d.blocks.length) = true ∧ ∃ I, Fix d I ∧ l = I b.toNat)
def LiveOutR (d : FuncD) (b : Int) (l : List Int) : Prop := ((okB d && belowB b d.blocks.length) = false ∧ l = []) ∨ ((okB d && belowB b d.blocks.length) = true ∧ ∃ I, Fix d I ∧ l = outL d b.toNat I)
theorem LiveInR.one {d : FuncD} {b : Int} {l m : List Int} (h : LiveInR d b l) (k : LiveInR d b m) : l = m := by
  rcases h with ⟨h1, rfl⟩ | ⟨h1, I, h2, rfl⟩ <;> rcases k with ⟨k1, rfl⟩ | ⟨k1, J, k2, rfl⟩
  · rfl
  · rw [h1] at k1; cases k1
  · rw [h1] at k1; cases k1
  · rw [h2.one k2]
theorem LiveOutR.one {d : FuncD} {b : Int} {l m : List Int} (h : LiveOutR d b l) (k : LiveOutR d b m) : l = m := by
  rcases h with ⟨h1, rfl⟩ | ⟨h1, I, h2, rfl⟩ <;> rcases k with ⟨k1, rfl⟩ | ⟨k1, J, k2, rfl⟩
  · rfl
  · rw [h1] at k1; cases k1
  · rw [h1] at k1; cases k1
  · rw [h2.one k2]
end Go.Proofs.YtolaghondjfhdabGreatDoor
