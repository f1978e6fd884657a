/- The text of an instruction: InstText, the program's; the model's. -/
import Derived.Test.YtjpiiemhklphlaaGreatDoorTxJ
namespace Go.Proofs.YtjpiiemhklphlaaGreatDoor
open Go.RowKit
set_option linter.unusedVariables false

theorem opW_size (k : Nat) : (opW k).size ≤ 6 := by unfold opW; rw [bs_size]; exact opWL_len k
end Go.Proofs.YtjpiiemhklphlaaGreatDoor
