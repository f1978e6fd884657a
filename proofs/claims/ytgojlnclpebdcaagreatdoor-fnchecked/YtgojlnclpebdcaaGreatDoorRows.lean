/-
  NARROWER THAN 'FOR EVERY INPUT', by the rows' own cells (each row's printed sentence says how): FnChecked: ifaces, laid · FnDefined: ifaces, laid.
  DERIVED. THE GIVEN ROWS OF THIS SEAT. 2 by the template 'for every input the law returns true; each argument reads behind the call as it read before'; 0 by the template 'total and deterministic' (their statements: YtgojlnclpebdcaaGreatDoorTotals.lean).
  GIVEN WITH THE SEED: the statements are not yours to turn. If you find one false, say at which input.
  Laid BY PROGRAM, IN A SANDBOX (cutbox-rows.mjs): the forced cells as the released guide's own fill.sh prints them over the translation ba628d66f87ce8f7… (all of the seat's roots in one cut). By AI agents, Wed Nov 11 2026. No macro, syntax, notation, axiom, sorry.
-/
import Derived.Test.YtgojlnclpebdcaaGreatDoorChecked
import GoSem.Claim
import GoSem.ClaimJoined
import GoSem.ClaimMapViews
import Derived.JoinedTies
import Derived.KernelRfl
namespace Go.Proofs.YtgojlnclpebdcaaGreatDoor
/- THE CELL 'sum', in the pinned program and in every row, IS THE sha256 OF THE DUMP (.gsa) THAT YtgojlnclpebdcaaGreatDoorProg.lean LOADS. Nothing in Lean hashes anything: it is a label: what it is worth is what the hold of that sum in a sandbox is worth. -/
noncomputable def Tryz.pinned : Pinned := { name := "ytgojlnclpebdcaagreatdoor", sum := "ba628d66f87ce8f7f6cf4cf3b0705a069b1f27cd041fefe417c75020a9ce8c83", checked := Tryz.checked }
namespace Rows
def none {H : Type} : Left H := { results := [], args := [] }

/- WHAT THE LISTED PACKAGE-LEVEL VARIABLES READ AS WHEN THE CALL BEGINS. Each datum BY PROGRAM (the guide's laid-datum.mjs) off the statement by which the dump's own 'gosem.cut.vars' lays the variable. In a bare row this is a premise. The card (YtgojlnclpebdcaaGreatDoorCards.lean) ties it to the program's text. -/
def laid_errors_errorType {H : Type} : DataW H := .iface "internal/reflectlite.rtype" (.agg [.ptr (.lit (.string [101, 114, 114, 111, 114]))])
def laid_loop_example_g00457_impl_errForm {H : Type} : DataW H := .iface "*errors.errorString" (.ptr (.agg [.lit (.string [110, 111, 116, 32, 105, 110, 32, 105, 116, 115, 32, 102, 111, 114, 109])]))
def laid_loop_example_g00457_impl_errNoFunc {H : Type} : DataW H := .iface "*errors.errorString" (.ptr (.agg [.lit (.string [110, 111, 32, 115, 117, 99, 104, 32, 102, 117, 110, 99, 116, 105, 111, 110])]))
def laid_loop_example_g00457_impl_errEntry {H : Type} : DataW H := .iface "*errors.errorString" (.ptr (.agg [.lit (.string [115, 111, 109, 101, 116, 104, 105, 110, 103, 32, 99, 111, 109, 101, 115, 32, 116, 111, 32, 116, 104, 101, 32, 102, 105, 114, 115, 116, 32, 98, 108, 111, 99, 107])]))
def laid_loop_example_g00457_impl_errCount {H : Type} : DataW H := .iface "*errors.errorString" (.ptr (.agg [.lit (.string [110, 111, 116, 32, 97, 115, 32, 109, 97, 110, 121, 32, 97, 115, 32, 97, 114, 101, 32, 119, 97, 110, 116, 101, 100])]))
def laid_loop_example_g00457_impl_errWidth {H : Type} : DataW H := .iface "*errors.errorString" (.ptr (.agg [.lit (.string [110, 111, 116, 32, 111, 102, 32, 116, 104, 101, 32, 119, 105, 100, 116, 104, 32, 116, 104, 97, 116, 32, 105, 115, 32, 119, 97, 110, 116, 101, 100])]))
def laid_loop_example_g00457_impl_errUnseen {H : Type} : DataW H := .iface "*errors.errorString" (.ptr (.agg [.lit (.string [110, 111, 116, 32, 115, 101, 101, 110, 32, 119, 104, 101, 114, 101, 32, 105, 116, 32, 105, 115, 32, 110, 97, 109, 101, 100])]))

/-- 'laws.FnChecked': WHATEVER THE INPUT: true; the input reads as it did. -/
def fnCheckedSpec : ChangeSpec := { name := "fnChecked", vars := ["loop.example/g00457/impl.errNoFunc", "loop.example/g00457/impl.errForm", "loop.example/g00457/impl.errWidth", "loop.example/g00457/impl.errCount", "loop.example/g00457/impl.errEntry", "loop.example/g00457/impl.errUnseen"], fn := fun _ => fun
  | [d, g1, g2, g3, g4, g5, g6] => { results := [.lit (.bool true)], args := [d], vars := [g1, g2, g3, g4, g5, g6] }
  | _ => none }
def fnCheckedRow : OpenClaim := { program := "ytgojlnclpebdcaagreatdoor", sum := "ba628d66f87ce8f7f6cf4cf3b0705a069b1f27cd041fefe417c75020a9ce8c83", func := "loop.example/g00457/laws.FnChecked", spec := "fnChecked", inPlace := ["internal/reflectlite.TypeOf", "internal/reflectlite.ValueOf", "(internal/reflectlite.Value).Type", "(internal/reflectlite.Value).IsNil", "(internal/reflectlite.Value).Elem", "(internal/reflectlite.Value).Set"], unfollowed := true, recurses := true, named := ["loop.example/g00457/impl.errNoFunc", "loop.example/g00457/impl.errForm", "loop.example/g00457/impl.errWidth", "loop.example/g00457/impl.errCount", "loop.example/g00457/impl.errEntry", "loop.example/g00457/impl.errUnseen", "errors.errorType"], ifaces := true, apart := false, laid := [("errors.errorType", laid_errors_errorType), ("loop.example/g00457/impl.errForm", laid_loop_example_g00457_impl_errForm), ("loop.example/g00457/impl.errNoFunc", laid_loop_example_g00457_impl_errNoFunc), ("loop.example/g00457/impl.errEntry", laid_loop_example_g00457_impl_errEntry), ("loop.example/g00457/impl.errCount", laid_loop_example_g00457_impl_errCount), ("loop.example/g00457/impl.errWidth", laid_loop_example_g00457_impl_errWidth), ("loop.example/g00457/impl.errUnseen", laid_loop_example_g00457_impl_errUnseen)] }
def FnCheckedSaid : Prop := fnCheckedRow.holds Tryz.pinned (OpenSpec.ofChange fnCheckedSpec)

/-- ITS FALSE NEIGHBOUR: 'it returns false'. Refute it at one input. -/
def fnCheckedWrong : ChangeSpec := { name := "fnChecked", vars := ["loop.example/g00457/impl.errNoFunc", "loop.example/g00457/impl.errForm", "loop.example/g00457/impl.errWidth", "loop.example/g00457/impl.errCount", "loop.example/g00457/impl.errEntry", "loop.example/g00457/impl.errUnseen"], fn := fun _ => fun
  | [d, g1, g2, g3, g4, g5, g6] => { results := [.lit (.bool false)], args := [d], vars := [g1, g2, g3, g4, g5, g6] }
  | _ => none }
def FnCheckedWrongFalsely : Prop := fnCheckedRow.holds Tryz.pinned (OpenSpec.ofChange fnCheckedWrong)

/-- 'laws.FnDefined': WHATEVER THE INPUT: true; the input reads as it did. -/
def fnDefinedSpec : ChangeSpec := { name := "fnDefined", vars := ["loop.example/g00457/impl.errNoFunc", "loop.example/g00457/impl.errForm", "loop.example/g00457/impl.errWidth", "loop.example/g00457/impl.errCount", "loop.example/g00457/impl.errEntry", "loop.example/g00457/impl.errUnseen"], fn := fun _ => fun
  | [d, g1, g2, g3, g4, g5, g6] => { results := [.lit (.bool true)], args := [d], vars := [g1, g2, g3, g4, g5, g6] }
  | _ => none }
def fnDefinedRow : OpenClaim := { program := "ytgojlnclpebdcaagreatdoor", sum := "ba628d66f87ce8f7f6cf4cf3b0705a069b1f27cd041fefe417c75020a9ce8c83", func := "loop.example/g00457/laws.FnDefined", spec := "fnDefined", inPlace := ["internal/reflectlite.TypeOf", "internal/reflectlite.ValueOf", "(internal/reflectlite.Value).Type", "(internal/reflectlite.Value).IsNil", "(internal/reflectlite.Value).Elem", "(internal/reflectlite.Value).Set"], unfollowed := true, recurses := true, named := ["loop.example/g00457/impl.errNoFunc", "loop.example/g00457/impl.errForm", "loop.example/g00457/impl.errWidth", "loop.example/g00457/impl.errCount", "loop.example/g00457/impl.errEntry", "loop.example/g00457/impl.errUnseen", "errors.errorType"], ifaces := true, apart := false, laid := [("errors.errorType", laid_errors_errorType), ("loop.example/g00457/impl.errForm", laid_loop_example_g00457_impl_errForm), ("loop.example/g00457/impl.errNoFunc", laid_loop_example_g00457_impl_errNoFunc), ("loop.example/g00457/impl.errEntry", laid_loop_example_g00457_impl_errEntry), ("loop.example/g00457/impl.errCount", laid_loop_example_g00457_impl_errCount), ("loop.example/g00457/impl.errWidth", laid_loop_example_g00457_impl_errWidth), ("loop.example/g00457/impl.errUnseen", laid_loop_example_g00457_impl_errUnseen)] }
def FnDefinedSaid : Prop := fnDefinedRow.holds Tryz.pinned (OpenSpec.ofChange fnDefinedSpec)

/-- ITS FALSE NEIGHBOUR: 'it returns false'. Refute it at one input. -/
def fnDefinedWrong : ChangeSpec := { name := "fnDefined", vars := ["loop.example/g00457/impl.errNoFunc", "loop.example/g00457/impl.errForm", "loop.example/g00457/impl.errWidth", "loop.example/g00457/impl.errCount", "loop.example/g00457/impl.errEntry", "loop.example/g00457/impl.errUnseen"], fn := fun _ => fun
  | [d, g1, g2, g3, g4, g5, g6] => { results := [.lit (.bool false)], args := [d], vars := [g1, g2, g3, g4, g5, g6] }
  | _ => none }
def FnDefinedWrongFalsely : Prop := fnDefinedRow.holds Tryz.pinned (OpenSpec.ofChange fnDefinedWrong)

/- THE SECOND FORM. 'bulk': how many values and letters a reading holds, each counted each time it is reached (what is shared counts as often as it is met; a slice's spare places count too). A statement '..UptoSaid' is the law's where the arguments, and the package variables that the reading takes, are together of bulk at most 1048576: NARROWER than '..Said'. Prove '..Said' where nothing that the law and all that it calls make is longer than what came in: it says more and counts as full. Else prove '..UptoSaid'. A law counts once. -/
mutual
def uptoBulk {H : Type} : DataW H → Nat
  | .lit (.string bytes) => bytes.length + 1
  | .lit _ => 1
  | .nil => 1
  | .ptr d => uptoBulk d + 1
  | .slice elems spare => uptoBulkAll elems + uptoBulkAll spare + 1
  | .agg parts => uptoBulkAll parts + 1
  | .iface _ d => uptoBulk d + 1
  | .map entries => uptoBulkEntries entries + 1
  | .held _ => 1
def uptoBulkAll {H : Type} : List (DataW H) → Nat
  | [] => 0
  | d :: r => uptoBulk d + uptoBulkAll r
def uptoBulkEntries {H : Type} : List (Lit × DataW H) → Nat
  | [] => 0
  | x :: r => uptoBulkEntry x + uptoBulkEntries r
def uptoBulkEntry {H : Type} : Lit × DataW H → Nat
  | (.string bytes, d) => bytes.length + uptoBulk d + 1
  | (_, d) => uptoBulk d + 1
 end
def uptoSmall : (H : Type) → List (DataW H) → Bool := fun _ ds => decide (uptoBulkAll ds ≤ 1048576)
def OpenSpec.upto (s : _root_.Go.ChangeSpec) : _root_.Go.OpenSpec := { _root_.Go.OpenSpec.ofChange s with cond := some uptoSmall }

/-- 'laws.FnChecked', WHERE WHAT IT READS IS OF BULK AT MOST 1048576: true; the input reads as it did. -/
def fnCheckedUptoRow : OpenClaim := { program := "ytgojlnclpebdcaagreatdoor", sum := "ba628d66f87ce8f7f6cf4cf3b0705a069b1f27cd041fefe417c75020a9ce8c83", func := "loop.example/g00457/laws.FnChecked", spec := "fnChecked", inPlace := ["internal/reflectlite.TypeOf", "internal/reflectlite.ValueOf", "(internal/reflectlite.Value).Type", "(internal/reflectlite.Value).IsNil", "(internal/reflectlite.Value).Elem", "(internal/reflectlite.Value).Set"], unfollowed := true, recurses := true, named := ["loop.example/g00457/impl.errNoFunc", "loop.example/g00457/impl.errForm", "loop.example/g00457/impl.errWidth", "loop.example/g00457/impl.errCount", "loop.example/g00457/impl.errEntry", "loop.example/g00457/impl.errUnseen", "errors.errorType"], ifaces := true, apart := false, laid := [("errors.errorType", laid_errors_errorType), ("loop.example/g00457/impl.errForm", laid_loop_example_g00457_impl_errForm), ("loop.example/g00457/impl.errNoFunc", laid_loop_example_g00457_impl_errNoFunc), ("loop.example/g00457/impl.errEntry", laid_loop_example_g00457_impl_errEntry), ("loop.example/g00457/impl.errCount", laid_loop_example_g00457_impl_errCount), ("loop.example/g00457/impl.errWidth", laid_loop_example_g00457_impl_errWidth), ("loop.example/g00457/impl.errUnseen", laid_loop_example_g00457_impl_errUnseen)], narrowed := true }
def FnCheckedUptoSaid : Prop := fnCheckedUptoRow.holds Tryz.pinned (OpenSpec.upto fnCheckedSpec)

/-- 'laws.FnDefined', WHERE WHAT IT READS IS OF BULK AT MOST 1048576: true; the input reads as it did. -/
def fnDefinedUptoRow : OpenClaim := { program := "ytgojlnclpebdcaagreatdoor", sum := "ba628d66f87ce8f7f6cf4cf3b0705a069b1f27cd041fefe417c75020a9ce8c83", func := "loop.example/g00457/laws.FnDefined", spec := "fnDefined", inPlace := ["internal/reflectlite.TypeOf", "internal/reflectlite.ValueOf", "(internal/reflectlite.Value).Type", "(internal/reflectlite.Value).IsNil", "(internal/reflectlite.Value).Elem", "(internal/reflectlite.Value).Set"], unfollowed := true, recurses := true, named := ["loop.example/g00457/impl.errNoFunc", "loop.example/g00457/impl.errForm", "loop.example/g00457/impl.errWidth", "loop.example/g00457/impl.errCount", "loop.example/g00457/impl.errEntry", "loop.example/g00457/impl.errUnseen", "errors.errorType"], ifaces := true, apart := false, laid := [("errors.errorType", laid_errors_errorType), ("loop.example/g00457/impl.errForm", laid_loop_example_g00457_impl_errForm), ("loop.example/g00457/impl.errNoFunc", laid_loop_example_g00457_impl_errNoFunc), ("loop.example/g00457/impl.errEntry", laid_loop_example_g00457_impl_errEntry), ("loop.example/g00457/impl.errCount", laid_loop_example_g00457_impl_errCount), ("loop.example/g00457/impl.errWidth", laid_loop_example_g00457_impl_errWidth), ("loop.example/g00457/impl.errUnseen", laid_loop_example_g00457_impl_errUnseen)], narrowed := true }
def FnDefinedUptoSaid : Prop := fnDefinedUptoRow.holds Tryz.pinned (OpenSpec.upto fnDefinedSpec)

end Rows
end Go.Proofs.YtgojlnclpebdcaaGreatDoor
