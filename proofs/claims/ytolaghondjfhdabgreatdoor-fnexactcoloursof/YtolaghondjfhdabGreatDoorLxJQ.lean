/- What is alive: the model's LiveIn. -/
import Derived.Test.YtolaghondjfhdabGreatDoorLxIQ
namespace Go.Proofs.YtolaghondjfhdabGreatDoor
open Go.RowKit
set_option linter.unusedVariables false

theorem sl_none (w : World) (g : Nat) (lo : Nat) (h : lo ≤ g) : SlAt w lo (.slice (some ⟨g, 0, none⟩) 0 0) [] := ⟨g, 0, 0, rfl, by simp, h, by simp, .inl rfl⟩
end Go.Proofs.YtolaghondjfhdabGreatDoor
