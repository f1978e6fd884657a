/- What the listed tables hold, for the law FnPassTexts. -/
import Derived.Test.YtjbmlebaaehjjaaDoorPasX
namespace Go.Proofs.YtjbmlebaaehjjaaDoor
open Go.ChangeShapes Go.WideShapes Go.RowKit
set_option linter.unusedVariables false

theorem laid_sameP : Rows.fnPassTextsRow.laid = Rows.fnExactPassesOfRow.laid := rfl
theorem words_of_laid4 {W : World} (h : laidMetH Tryd.prog Rows.fnPassTextsRow.laid W) : WordsAt W := words_of_laid3 (laid_sameP ▸ h)
theorem all_met4 (os : Os) (args : Array Value) : laidMetH Tryd.prog Rows.fnPassTextsRow.laid ((World.laidAll Tryd.prog os Rows.fnPassTextsRow.laid).forCall (fun _ _ => 0) ⟨#[], args, []⟩).memory := by
  rw [MakeChecks.laidMetH_plain _ _ _ (by kernel_rfl)]
  exact laidMet_laidAll _ (by kernel_rfl) (by kernel_rfl)
end Go.Proofs.YtjbmlebaaehjjaaDoor
