/-
  DERIVED. GIVEN WITH THE SEED: THE PROGRAM's TIES (one call each: nine closed facts by the kernel) AND EACH ROW's TIE, after the 31st guide's Derived/Test/Toyas{Tie, Card}.lean. No idea stands in it: it is a product of the set-up. Laid BY PROGRAM, IN A SANDBOX (cutbox-door.mjs). By AI agents, Wed Nov 11 2026. No macro, syntax, notation, axiom, sorry.
-/
import Derived.Test.YtgojlnclpebdcaaGreatDoorRows
import Derived.LaidByTextLater
import Derived.SevenTiedAt
import Derived.LaidSub
import Derived.LaidOnce
namespace Go.Proofs.YtgojlnclpebdcaaGreatDoor
open Go
set_option maxRecDepth 100000
theorem seatTie1 : Tryz.prog.laidByTextLater [("errors.errorType", Rows.laid_errors_errorType), ("loop.example/g00457/impl.errForm", Rows.laid_loop_example_g00457_impl_errForm), ("loop.example/g00457/impl.errNoFunc", Rows.laid_loop_example_g00457_impl_errNoFunc), ("loop.example/g00457/impl.errEntry", Rows.laid_loop_example_g00457_impl_errEntry), ("loop.example/g00457/impl.errCount", Rows.laid_loop_example_g00457_impl_errCount), ("loop.example/g00457/impl.errWidth", Rows.laid_loop_example_g00457_impl_errWidth), ("loop.example/g00457/impl.errUnseen", Rows.laid_loop_example_g00457_impl_errUnseen)] [.handle, .sentinel, .sentinel, .sentinel, .sentinel, .sentinel, .sentinel] true :=
  Program.laidByTextLater_by_one 130 8 2 (by kernel_rfl) (by kernel_rfl) (by kernel_rfl) (by kernel_rfl) (by kernel_rfl) (by kernel_rfl) (fun _ _ => by kernel_rfl)
theorem noOwnUnsafe : Tryz.pinned.checked.prog.headLifts.contains "ownunsafe" = false := by kernel_rfl
theorem tie : Tryz.prog.laidByTextLater [("errors.errorType", Rows.laid_errors_errorType), ("loop.example/g00457/impl.errForm", Rows.laid_loop_example_g00457_impl_errForm), ("loop.example/g00457/impl.errNoFunc", Rows.laid_loop_example_g00457_impl_errNoFunc), ("loop.example/g00457/impl.errEntry", Rows.laid_loop_example_g00457_impl_errEntry), ("loop.example/g00457/impl.errCount", Rows.laid_loop_example_g00457_impl_errCount), ("loop.example/g00457/impl.errWidth", Rows.laid_loop_example_g00457_impl_errWidth), ("loop.example/g00457/impl.errUnseen", Rows.laid_loop_example_g00457_impl_errUnseen)] [.handle, .sentinel, .sentinel, .sentinel, .sentinel, .sentinel, .sentinel] true :=
  Program.laidByTextLater.sub seatTie1 ["errors.errorType", "loop.example/g00457/impl.errForm", "loop.example/g00457/impl.errNoFunc", "loop.example/g00457/impl.errEntry", "loop.example/g00457/impl.errCount", "loop.example/g00457/impl.errWidth", "loop.example/g00457/impl.errUnseen"] (by kernel_rfl) (by kernel_rfl)
theorem fnChecked_row_tie : Rows.fnCheckedRow.laidByTextAt .later Tryz.pinned [.handle, .sentinel, .sentinel, .sentinel, .sentinel, .sentinel, .sentinel] true :=
  OpenClaim.laidByTextAt_later rfl rfl tie noOwnUnsafe
theorem fnDefined_row_tie : Rows.fnDefinedRow.laidByTextAt .later Tryz.pinned [.handle, .sentinel, .sentinel, .sentinel, .sentinel, .sentinel, .sentinel] true :=
  OpenClaim.laidByTextAt_later rfl rfl tie noOwnUnsafe
theorem fnCheckedUpto_row_tie : Rows.fnCheckedUptoRow.laidByTextAt .later Tryz.pinned [.handle, .sentinel, .sentinel, .sentinel, .sentinel, .sentinel, .sentinel] true :=
  OpenClaim.laidByTextAt_later rfl rfl tie noOwnUnsafe
theorem fnDefinedUpto_row_tie : Rows.fnDefinedUptoRow.laidByTextAt .later Tryz.pinned [.handle, .sentinel, .sentinel, .sentinel, .sentinel, .sentinel, .sentinel] true :=
  OpenClaim.laidByTextAt_later rfl rfl tie noOwnUnsafe
end Go.Proofs.YtgojlnclpebdcaaGreatDoor
