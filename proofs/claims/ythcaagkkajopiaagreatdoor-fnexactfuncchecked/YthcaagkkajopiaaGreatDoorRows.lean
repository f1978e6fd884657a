/-
  NARROWER THAN 'FOR EVERY INPUT', by the rows' own cells (each row's printed sentence says how): FnExactFuncChecked: ifaces, laid · FnExactChecked: ifaces, laid.
  DERIVED. THE GIVEN ROWS OF THIS SEAT. 2 by the template 'for every input the law returns true; each argument reads behind the call as it read before'; 0 by the template 'total and deterministic' (their statements: YthcaagkkajopiaaGreatDoorTotals.lean).
  GIVEN WITH THE SEED: the statements are not yours to turn. If you find one false, say at which input.
  Laid BY PROGRAM, IN A SANDBOX (cutbox-rows.mjs): the forced cells as the released guide's own fill.sh prints them over the translation 3ce3910931153a2a… (all of the seat's roots in one cut). By AI agents, Wed Nov 11 2026. No macro, syntax, notation, axiom, sorry.
-/
import Derived.Test.YthcaagkkajopiaaGreatDoorChecked
import GoSem.Claim
import GoSem.ClaimJoined
import GoSem.ClaimMapViews
import Derived.JoinedTies
import Derived.KernelRfl
namespace Go.Proofs.YthcaagkkajopiaaGreatDoor
/- THE CELL 'sum', in the pinned program and in every row, IS THE sha256 OF THE DUMP (.gsa) THAT YthcaagkkajopiaaGreatDoorProg.lean LOADS. Nothing in Lean hashes anything: it is a label: what it is worth is what the hold of that sum in a sandbox is worth. -/
noncomputable def Tryz.pinned : Pinned := { name := "ythcaagkkajopiaagreatdoor", sum := "3ce3910931153a2ad057971c33c22944bf6258adce07978c1c1b62beff82bd65", checked := Tryz.checked }
namespace Rows
def none {H : Type} : Left H := { results := [], args := [] }

/- WHAT THE LISTED PACKAGE-LEVEL VARIABLES READ AS WHEN THE CALL BEGINS. Each datum BY PROGRAM (the guide's laid-datum.mjs) off the statement by which the dump's own 'gosem.cut.vars' lays the variable. In a bare row this is a premise. The card (YthcaagkkajopiaaGreatDoorCards.lean) ties it to the program's text. -/
def laid_errors_errorType {H : Type} : DataW H := .iface "internal/reflectlite.rtype" (.agg [.ptr (.lit (.string [101, 114, 114, 111, 114]))])
def laid_loop_example_g00457_impl_errForm {H : Type} : DataW H := .iface "*errors.errorString" (.ptr (.agg [.lit (.string [110, 111, 116, 32, 105, 110, 32, 105, 116, 115, 32, 102, 111, 114, 109])]))
def laid_loop_example_g00457_impl_errNoFunc {H : Type} : DataW H := .iface "*errors.errorString" (.ptr (.agg [.lit (.string [110, 111, 32, 115, 117, 99, 104, 32, 102, 117, 110, 99, 116, 105, 111, 110])]))
def laid_loop_example_g00457_impl_errEntry {H : Type} : DataW H := .iface "*errors.errorString" (.ptr (.agg [.lit (.string [115, 111, 109, 101, 116, 104, 105, 110, 103, 32, 99, 111, 109, 101, 115, 32, 116, 111, 32, 116, 104, 101, 32, 102, 105, 114, 115, 116, 32, 98, 108, 111, 99, 107])]))
def laid_loop_example_g00457_impl_errCount {H : Type} : DataW H := .iface "*errors.errorString" (.ptr (.agg [.lit (.string [110, 111, 116, 32, 97, 115, 32, 109, 97, 110, 121, 32, 97, 115, 32, 97, 114, 101, 32, 119, 97, 110, 116, 101, 100])]))
def laid_loop_example_g00457_impl_errWidth {H : Type} : DataW H := .iface "*errors.errorString" (.ptr (.agg [.lit (.string [110, 111, 116, 32, 111, 102, 32, 116, 104, 101, 32, 119, 105, 100, 116, 104, 32, 116, 104, 97, 116, 32, 105, 115, 32, 119, 97, 110, 116, 101, 100])]))
def laid_loop_example_g00457_impl_errUnseen {H : Type} : DataW H := .iface "*errors.errorString" (.ptr (.agg [.lit (.string [110, 111, 116, 32, 115, 101, 101, 110, 32, 119, 104, 101, 114, 101, 32, 105, 116, 32, 105, 115, 32, 110, 97, 109, 101, 100])]))

/-- 'laws.FnExactFuncChecked': WHATEVER THE INPUT: true; the input reads as it did. -/
def fnExactFuncCheckedSpec : ChangeSpec := { name := "fnExactFuncChecked", vars := ["loop.example/g00457/impl.errForm", "loop.example/g00457/impl.errNoFunc", "loop.example/g00457/impl.errWidth", "loop.example/g00457/impl.errCount", "loop.example/g00457/impl.errEntry", "loop.example/g00457/impl.errUnseen"], fn := fun _ => fun
  | [d1, d2, g1, g2, g3, g4, g5, g6] => { results := [.lit (.bool true)], args := [d1, d2], vars := [g1, g2, g3, g4, g5, g6] }
  | _ => none }
def fnExactFuncCheckedRow : OpenClaim := { program := "ythcaagkkajopiaagreatdoor", sum := "3ce3910931153a2ad057971c33c22944bf6258adce07978c1c1b62beff82bd65", func := "loop.example/g00457/laws.FnExactFuncChecked", spec := "fnExactFuncChecked", inPlace := ["internal/reflectlite.ValueOf", "(internal/reflectlite.Value).Type", "(internal/reflectlite.Value).IsNil", "internal/reflectlite.TypeOf", "(internal/reflectlite.Value).Elem", "(internal/reflectlite.Value).Set"], unfollowed := true, recurses := true, named := ["loop.example/g00457/impl.errForm", "loop.example/g00457/impl.errNoFunc", "loop.example/g00457/impl.errWidth", "loop.example/g00457/impl.errCount", "loop.example/g00457/impl.errEntry", "loop.example/g00457/impl.errUnseen", "errors.errorType"], ifaces := true, apart := false, laid := [("errors.errorType", laid_errors_errorType), ("loop.example/g00457/impl.errForm", laid_loop_example_g00457_impl_errForm), ("loop.example/g00457/impl.errNoFunc", laid_loop_example_g00457_impl_errNoFunc), ("loop.example/g00457/impl.errEntry", laid_loop_example_g00457_impl_errEntry), ("loop.example/g00457/impl.errCount", laid_loop_example_g00457_impl_errCount), ("loop.example/g00457/impl.errWidth", laid_loop_example_g00457_impl_errWidth), ("loop.example/g00457/impl.errUnseen", laid_loop_example_g00457_impl_errUnseen)] }
def FnExactFuncCheckedSaid : Prop := fnExactFuncCheckedRow.holds Tryz.pinned (OpenSpec.ofChange fnExactFuncCheckedSpec)

/-- ITS FALSE NEIGHBOUR: 'it returns false'. Refute it at one input. -/
def fnExactFuncCheckedWrong : ChangeSpec := { name := "fnExactFuncChecked", vars := ["loop.example/g00457/impl.errForm", "loop.example/g00457/impl.errNoFunc", "loop.example/g00457/impl.errWidth", "loop.example/g00457/impl.errCount", "loop.example/g00457/impl.errEntry", "loop.example/g00457/impl.errUnseen"], fn := fun _ => fun
  | [d1, d2, g1, g2, g3, g4, g5, g6] => { results := [.lit (.bool false)], args := [d1, d2], vars := [g1, g2, g3, g4, g5, g6] }
  | _ => none }
def FnExactFuncCheckedWrongFalsely : Prop := fnExactFuncCheckedRow.holds Tryz.pinned (OpenSpec.ofChange fnExactFuncCheckedWrong)

/-- 'laws.FnExactChecked': WHATEVER THE INPUT: true; the input reads as it did. -/
def fnExactCheckedSpec : ChangeSpec := { name := "fnExactChecked", vars := ["loop.example/g00457/impl.errNoFunc", "loop.example/g00457/impl.errForm", "loop.example/g00457/impl.errWidth", "loop.example/g00457/impl.errCount", "loop.example/g00457/impl.errEntry", "loop.example/g00457/impl.errUnseen"], fn := fun _ => fun
  | [d, g1, g2, g3, g4, g5, g6] => { results := [.lit (.bool true)], args := [d], vars := [g1, g2, g3, g4, g5, g6] }
  | _ => none }
def fnExactCheckedRow : OpenClaim := { program := "ythcaagkkajopiaagreatdoor", sum := "3ce3910931153a2ad057971c33c22944bf6258adce07978c1c1b62beff82bd65", func := "loop.example/g00457/laws.FnExactChecked", spec := "fnExactChecked", inPlace := ["internal/reflectlite.TypeOf", "internal/reflectlite.ValueOf", "(internal/reflectlite.Value).Type", "(internal/reflectlite.Value).IsNil", "(internal/reflectlite.Value).Elem", "(internal/reflectlite.Value).Set"], unfollowed := true, recurses := true, named := ["loop.example/g00457/impl.errNoFunc", "loop.example/g00457/impl.errForm", "loop.example/g00457/impl.errWidth", "loop.example/g00457/impl.errCount", "loop.example/g00457/impl.errEntry", "loop.example/g00457/impl.errUnseen", "errors.errorType"], ifaces := true, apart := false, laid := [("errors.errorType", laid_errors_errorType), ("loop.example/g00457/impl.errForm", laid_loop_example_g00457_impl_errForm), ("loop.example/g00457/impl.errNoFunc", laid_loop_example_g00457_impl_errNoFunc), ("loop.example/g00457/impl.errEntry", laid_loop_example_g00457_impl_errEntry), ("loop.example/g00457/impl.errCount", laid_loop_example_g00457_impl_errCount), ("loop.example/g00457/impl.errWidth", laid_loop_example_g00457_impl_errWidth), ("loop.example/g00457/impl.errUnseen", laid_loop_example_g00457_impl_errUnseen)] }
def FnExactCheckedSaid : Prop := fnExactCheckedRow.holds Tryz.pinned (OpenSpec.ofChange fnExactCheckedSpec)

/-- ITS FALSE NEIGHBOUR: 'it returns false'. Refute it at one input. -/
def fnExactCheckedWrong : ChangeSpec := { name := "fnExactChecked", vars := ["loop.example/g00457/impl.errNoFunc", "loop.example/g00457/impl.errForm", "loop.example/g00457/impl.errWidth", "loop.example/g00457/impl.errCount", "loop.example/g00457/impl.errEntry", "loop.example/g00457/impl.errUnseen"], fn := fun _ => fun
  | [d, g1, g2, g3, g4, g5, g6] => { results := [.lit (.bool false)], args := [d], vars := [g1, g2, g3, g4, g5, g6] }
  | _ => none }
def FnExactCheckedWrongFalsely : Prop := fnExactCheckedRow.holds Tryz.pinned (OpenSpec.ofChange fnExactCheckedWrong)

/- THE SECOND FORM. 'bulk': how many values and letters a reading holds, each counted each time it is reached (what is shared counts as often as it is met; a slice's spare places count too). A statement '..UptoSaid' is the law's where the arguments, and the package variables that the reading takes, are together of bulk at most 1048576: NARROWER than '..Said'. Prove '..Said' where nothing that the law and all that it calls make is longer than what came in: it says more and counts as full. Else prove '..UptoSaid'. A law counts once. -/
mutual
def uptoBulk {H : Type} : DataW H → Nat
  | .lit (.string bytes) => bytes.length + 1
  | .lit _ => 1
  | .nil => 1
  | .ptr d => uptoBulk d + 1
  | .slice elems spare => uptoBulkAll elems + uptoBulkAll spare + 1
  | .agg parts => uptoBulkAll parts + 1
  | .iface _ d => uptoBulk d + 1
  | .map entries => uptoBulkEntries entries + 1
  | .held _ => 1
def uptoBulkAll {H : Type} : List (DataW H) → Nat
  | [] => 0
  | d :: r => uptoBulk d + uptoBulkAll r
def uptoBulkEntries {H : Type} : List (Lit × DataW H) → Nat
  | [] => 0
  | x :: r => uptoBulkEntry x + uptoBulkEntries r
def uptoBulkEntry {H : Type} : Lit × DataW H → Nat
  | (.string bytes, d) => bytes.length + uptoBulk d + 1
  | (_, d) => uptoBulk d + 1
 end
def uptoSmall : (H : Type) → List (DataW H) → Bool := fun _ ds => decide (uptoBulkAll ds ≤ 1048576)
def OpenSpec.upto (s : _root_.Go.ChangeSpec) : _root_.Go.OpenSpec := { _root_.Go.OpenSpec.ofChange s with cond := some uptoSmall }

/-- 'laws.FnExactFuncChecked', WHERE WHAT IT READS IS OF BULK AT MOST 1048576: true; the input reads as it did. -/
def fnExactFuncCheckedUptoRow : OpenClaim := { program := "ythcaagkkajopiaagreatdoor", sum := "3ce3910931153a2ad057971c33c22944bf6258adce07978c1c1b62beff82bd65", func := "loop.example/g00457/laws.FnExactFuncChecked", spec := "fnExactFuncChecked", inPlace := ["internal/reflectlite.ValueOf", "(internal/reflectlite.Value).Type", "(internal/reflectlite.Value).IsNil", "internal/reflectlite.TypeOf", "(internal/reflectlite.Value).Elem", "(internal/reflectlite.Value).Set"], unfollowed := true, recurses := true, named := ["loop.example/g00457/impl.errForm", "loop.example/g00457/impl.errNoFunc", "loop.example/g00457/impl.errWidth", "loop.example/g00457/impl.errCount", "loop.example/g00457/impl.errEntry", "loop.example/g00457/impl.errUnseen", "errors.errorType"], ifaces := true, apart := false, laid := [("errors.errorType", laid_errors_errorType), ("loop.example/g00457/impl.errForm", laid_loop_example_g00457_impl_errForm), ("loop.example/g00457/impl.errNoFunc", laid_loop_example_g00457_impl_errNoFunc), ("loop.example/g00457/impl.errEntry", laid_loop_example_g00457_impl_errEntry), ("loop.example/g00457/impl.errCount", laid_loop_example_g00457_impl_errCount), ("loop.example/g00457/impl.errWidth", laid_loop_example_g00457_impl_errWidth), ("loop.example/g00457/impl.errUnseen", laid_loop_example_g00457_impl_errUnseen)], narrowed := true }
def FnExactFuncCheckedUptoSaid : Prop := fnExactFuncCheckedUptoRow.holds Tryz.pinned (OpenSpec.upto fnExactFuncCheckedSpec)

/-- 'laws.FnExactChecked', WHERE WHAT IT READS IS OF BULK AT MOST 1048576: true; the input reads as it did. -/
def fnExactCheckedUptoRow : OpenClaim := { program := "ythcaagkkajopiaagreatdoor", sum := "3ce3910931153a2ad057971c33c22944bf6258adce07978c1c1b62beff82bd65", func := "loop.example/g00457/laws.FnExactChecked", spec := "fnExactChecked", inPlace := ["internal/reflectlite.TypeOf", "internal/reflectlite.ValueOf", "(internal/reflectlite.Value).Type", "(internal/reflectlite.Value).IsNil", "(internal/reflectlite.Value).Elem", "(internal/reflectlite.Value).Set"], unfollowed := true, recurses := true, named := ["loop.example/g00457/impl.errNoFunc", "loop.example/g00457/impl.errForm", "loop.example/g00457/impl.errWidth", "loop.example/g00457/impl.errCount", "loop.example/g00457/impl.errEntry", "loop.example/g00457/impl.errUnseen", "errors.errorType"], ifaces := true, apart := false, laid := [("errors.errorType", laid_errors_errorType), ("loop.example/g00457/impl.errForm", laid_loop_example_g00457_impl_errForm), ("loop.example/g00457/impl.errNoFunc", laid_loop_example_g00457_impl_errNoFunc), ("loop.example/g00457/impl.errEntry", laid_loop_example_g00457_impl_errEntry), ("loop.example/g00457/impl.errCount", laid_loop_example_g00457_impl_errCount), ("loop.example/g00457/impl.errWidth", laid_loop_example_g00457_impl_errWidth), ("loop.example/g00457/impl.errUnseen", laid_loop_example_g00457_impl_errUnseen)], narrowed := true }
def FnExactCheckedUptoSaid : Prop := fnExactCheckedUptoRow.holds Tryz.pinned (OpenSpec.upto fnExactCheckedSpec)

end Rows
end Go.Proofs.YthcaagkkajopiaaGreatDoor
