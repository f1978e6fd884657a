/-
  NARROWER THAN 'FOR EVERY INPUT', by the rows' own cells (each row's printed sentence says how): FnExactLiveIn: ifaces, laid · FnExactLiveOut: ifaces, laid · FnExactLiveAfter: ifaces, laid · FnExactPressure: ifaces, laid · FnExactMeet: ifaces, laid · FnExactColoursOk: ifaces, laid.
  DERIVED. THE GIVEN ROWS OF THIS SEAT. 6 by the template 'for every input the law returns true; each argument reads behind the call as it read before'; 0 by the template 'total and deterministic' (their statements: YtolaghondjfhdaaGreatDoorTotals.lean).
  GIVEN WITH THE SEED: the statements are not yours to turn. If you find one false, say at which input.
  Laid BY PROGRAM, IN A SANDBOX (cutbox-rows.mjs): the forced cells as the released guide's own fill.sh prints them over the translation 6434ae2b1a067941… (all of the seat's roots in one cut). By AI agents, Wed Nov 11 2026. No macro, syntax, notation, axiom, sorry.
-/
import Derived.Test.YtolaghondjfhdaaGreatDoorChecked
import GoSem.Claim
import GoSem.ClaimJoined
import GoSem.ClaimMapViews
import Derived.JoinedTies
import Derived.KernelRfl
namespace Go.Proofs.YtolaghondjfhdaaGreatDoor
/- THE CELL 'sum', in the pinned program and in every row, IS THE sha256 OF THE DUMP (.gsa) THAT YtolaghondjfhdaaGreatDoorProg.lean LOADS. Nothing in Lean hashes anything: it is a label: what it is worth is what the hold of that sum in a sandbox is worth. -/
noncomputable def Tryz.pinned : Pinned := { name := "ytolaghondjfhdaagreatdoor", sum := "6434ae2b1a06794174c5ba1a8efefc4715768f659e307225e452691b92d028ea", checked := Tryz.checked }
namespace Rows
def none {H : Type} : Left H := { results := [], args := [] }

/- WHAT THE LISTED PACKAGE-LEVEL VARIABLES READ AS WHEN THE CALL BEGINS. Each datum BY PROGRAM (the guide's laid-datum.mjs) off the statement by which the dump's own 'gosem.cut.vars' lays the variable. In a bare row this is a premise. The card (YtolaghondjfhdaaGreatDoorCards.lean) ties it to the program's text. -/
def laid_loop_example_g00457_impl_errCount {H : Type} : DataW H := .iface "*errors.errorString" (.ptr (.agg [.lit (.string [110, 111, 116, 32, 97, 115, 32, 109, 97, 110, 121, 32, 97, 115, 32, 97, 114, 101, 32, 119, 97, 110, 116, 101, 100])]))

/-- 'laws.FnExactLiveIn': WHATEVER THE INPUT: true; the input reads as it did. -/
def fnExactLiveInSpec : ChangeSpec := { name := "fnExactLiveIn", vars := ["loop.example/g00457/impl.errCount"], fn := fun _ => fun
  | [d1, d2, g1] => { results := [.lit (.bool true)], args := [d1, d2], vars := [g1] }
  | _ => none }
def fnExactLiveInRow : OpenClaim := { program := "ytolaghondjfhdaagreatdoor", sum := "6434ae2b1a06794174c5ba1a8efefc4715768f659e307225e452691b92d028ea", func := "loop.example/g00457/laws.FnExactLiveIn", spec := "fnExactLiveIn", inPlace := ["slices.overlaps[int64]"], unfollowed := true, recurses := true, named := ["loop.example/g00457/impl.errCount"], ifaces := true, apart := false, laid := [("loop.example/g00457/impl.errCount", laid_loop_example_g00457_impl_errCount)] }
def FnExactLiveInSaid : Prop := fnExactLiveInRow.holds Tryz.pinned (OpenSpec.ofChange fnExactLiveInSpec)

/-- ITS FALSE NEIGHBOUR: 'it returns false'. Refute it at one input. -/
def fnExactLiveInWrong : ChangeSpec := { name := "fnExactLiveIn", vars := ["loop.example/g00457/impl.errCount"], fn := fun _ => fun
  | [d1, d2, g1] => { results := [.lit (.bool false)], args := [d1, d2], vars := [g1] }
  | _ => none }
def FnExactLiveInWrongFalsely : Prop := fnExactLiveInRow.holds Tryz.pinned (OpenSpec.ofChange fnExactLiveInWrong)

/-- 'laws.FnExactLiveOut': WHATEVER THE INPUT: true; the input reads as it did. -/
def fnExactLiveOutSpec : ChangeSpec := { name := "fnExactLiveOut", vars := ["loop.example/g00457/impl.errCount"], fn := fun _ => fun
  | [d1, d2, g1] => { results := [.lit (.bool true)], args := [d1, d2], vars := [g1] }
  | _ => none }
def fnExactLiveOutRow : OpenClaim := { program := "ytolaghondjfhdaagreatdoor", sum := "6434ae2b1a06794174c5ba1a8efefc4715768f659e307225e452691b92d028ea", func := "loop.example/g00457/laws.FnExactLiveOut", spec := "fnExactLiveOut", inPlace := ["slices.overlaps[int64]"], unfollowed := true, recurses := true, named := ["loop.example/g00457/impl.errCount"], ifaces := true, apart := false, laid := [("loop.example/g00457/impl.errCount", laid_loop_example_g00457_impl_errCount)] }
def FnExactLiveOutSaid : Prop := fnExactLiveOutRow.holds Tryz.pinned (OpenSpec.ofChange fnExactLiveOutSpec)

/-- ITS FALSE NEIGHBOUR: 'it returns false'. Refute it at one input. -/
def fnExactLiveOutWrong : ChangeSpec := { name := "fnExactLiveOut", vars := ["loop.example/g00457/impl.errCount"], fn := fun _ => fun
  | [d1, d2, g1] => { results := [.lit (.bool false)], args := [d1, d2], vars := [g1] }
  | _ => none }
def FnExactLiveOutWrongFalsely : Prop := fnExactLiveOutRow.holds Tryz.pinned (OpenSpec.ofChange fnExactLiveOutWrong)

/-- 'laws.FnExactLiveAfter': WHATEVER THE INPUT: true; the input reads as it did. -/
def fnExactLiveAfterSpec : ChangeSpec := { name := "fnExactLiveAfter", vars := ["loop.example/g00457/impl.errCount"], fn := fun _ => fun
  | [d1, d2, g1] => { results := [.lit (.bool true)], args := [d1, d2], vars := [g1] }
  | _ => none }
def fnExactLiveAfterRow : OpenClaim := { program := "ytolaghondjfhdaagreatdoor", sum := "6434ae2b1a06794174c5ba1a8efefc4715768f659e307225e452691b92d028ea", func := "loop.example/g00457/laws.FnExactLiveAfter", spec := "fnExactLiveAfter", inPlace := ["slices.overlaps[int64]"], unfollowed := true, recurses := true, named := ["loop.example/g00457/impl.errCount"], ifaces := true, apart := false, laid := [("loop.example/g00457/impl.errCount", laid_loop_example_g00457_impl_errCount)] }
def FnExactLiveAfterSaid : Prop := fnExactLiveAfterRow.holds Tryz.pinned (OpenSpec.ofChange fnExactLiveAfterSpec)

/-- ITS FALSE NEIGHBOUR: 'it returns false'. Refute it at one input. -/
def fnExactLiveAfterWrong : ChangeSpec := { name := "fnExactLiveAfter", vars := ["loop.example/g00457/impl.errCount"], fn := fun _ => fun
  | [d1, d2, g1] => { results := [.lit (.bool false)], args := [d1, d2], vars := [g1] }
  | _ => none }
def FnExactLiveAfterWrongFalsely : Prop := fnExactLiveAfterRow.holds Tryz.pinned (OpenSpec.ofChange fnExactLiveAfterWrong)

/-- 'laws.FnExactPressure': WHATEVER THE INPUT: true; the input reads as it did. -/
def fnExactPressureSpec : ChangeSpec := { name := "fnExactPressure", vars := ["loop.example/g00457/impl.errCount"], fn := fun _ => fun
  | [d, g1] => { results := [.lit (.bool true)], args := [d], vars := [g1] }
  | _ => none }
def fnExactPressureRow : OpenClaim := { program := "ytolaghondjfhdaagreatdoor", sum := "6434ae2b1a06794174c5ba1a8efefc4715768f659e307225e452691b92d028ea", func := "loop.example/g00457/laws.FnExactPressure", spec := "fnExactPressure", inPlace := ["slices.overlaps[int64]"], unfollowed := true, recurses := true, named := ["loop.example/g00457/impl.errCount"], ifaces := true, apart := false, laid := [("loop.example/g00457/impl.errCount", laid_loop_example_g00457_impl_errCount)] }
def FnExactPressureSaid : Prop := fnExactPressureRow.holds Tryz.pinned (OpenSpec.ofChange fnExactPressureSpec)

/-- ITS FALSE NEIGHBOUR: 'it returns false'. Refute it at one input. -/
def fnExactPressureWrong : ChangeSpec := { name := "fnExactPressure", vars := ["loop.example/g00457/impl.errCount"], fn := fun _ => fun
  | [d, g1] => { results := [.lit (.bool false)], args := [d], vars := [g1] }
  | _ => none }
def FnExactPressureWrongFalsely : Prop := fnExactPressureRow.holds Tryz.pinned (OpenSpec.ofChange fnExactPressureWrong)

/-- 'laws.FnExactMeet': WHATEVER THE INPUT: true; the input reads as it did. -/
def fnExactMeetSpec : ChangeSpec := { name := "fnExactMeet", vars := ["loop.example/g00457/impl.errCount"], fn := fun _ => fun
  | [d1, d2, d3, g1] => { results := [.lit (.bool true)], args := [d1, d2, d3], vars := [g1] }
  | _ => none }
def fnExactMeetRow : OpenClaim := { program := "ytolaghondjfhdaagreatdoor", sum := "6434ae2b1a06794174c5ba1a8efefc4715768f659e307225e452691b92d028ea", func := "loop.example/g00457/laws.FnExactMeet", spec := "fnExactMeet", inPlace := ["slices.overlaps[int64]"], unfollowed := true, recurses := true, named := ["loop.example/g00457/impl.errCount"], ifaces := true, apart := false, laid := [("loop.example/g00457/impl.errCount", laid_loop_example_g00457_impl_errCount)] }
def FnExactMeetSaid : Prop := fnExactMeetRow.holds Tryz.pinned (OpenSpec.ofChange fnExactMeetSpec)

/-- ITS FALSE NEIGHBOUR: 'it returns false'. Refute it at one input. -/
def fnExactMeetWrong : ChangeSpec := { name := "fnExactMeet", vars := ["loop.example/g00457/impl.errCount"], fn := fun _ => fun
  | [d1, d2, d3, g1] => { results := [.lit (.bool false)], args := [d1, d2, d3], vars := [g1] }
  | _ => none }
def FnExactMeetWrongFalsely : Prop := fnExactMeetRow.holds Tryz.pinned (OpenSpec.ofChange fnExactMeetWrong)

/-- 'laws.FnExactColoursOk': WHATEVER THE INPUT: true; the input reads as it did. -/
def fnExactColoursOkSpec : ChangeSpec := { name := "fnExactColoursOk", vars := ["loop.example/g00457/impl.errCount"], fn := fun _ => fun
  | [d1, d2, g1] => { results := [.lit (.bool true)], args := [d1, d2], vars := [g1] }
  | _ => none }
def fnExactColoursOkRow : OpenClaim := { program := "ytolaghondjfhdaagreatdoor", sum := "6434ae2b1a06794174c5ba1a8efefc4715768f659e307225e452691b92d028ea", func := "loop.example/g00457/laws.FnExactColoursOk", spec := "fnExactColoursOk", inPlace := ["slices.overlaps[int64]"], unfollowed := true, recurses := true, named := ["loop.example/g00457/impl.errCount"], ifaces := true, apart := false, laid := [("loop.example/g00457/impl.errCount", laid_loop_example_g00457_impl_errCount)] }
def FnExactColoursOkSaid : Prop := fnExactColoursOkRow.holds Tryz.pinned (OpenSpec.ofChange fnExactColoursOkSpec)

/-- ITS FALSE NEIGHBOUR: 'it returns false'. Refute it at one input. -/
def fnExactColoursOkWrong : ChangeSpec := { name := "fnExactColoursOk", vars := ["loop.example/g00457/impl.errCount"], fn := fun _ => fun
  | [d1, d2, g1] => { results := [.lit (.bool false)], args := [d1, d2], vars := [g1] }
  | _ => none }
def FnExactColoursOkWrongFalsely : Prop := fnExactColoursOkRow.holds Tryz.pinned (OpenSpec.ofChange fnExactColoursOkWrong)

/- THE SECOND FORM. 'bulk': how many values and letters a reading holds, each counted each time it is reached (what is shared counts as often as it is met; a slice's spare places count too). A statement '..UptoSaid' is the law's where the arguments, and the package variables that the reading takes, are together of bulk at most 1048576: NARROWER than '..Said'. Prove '..Said' where nothing that the law and all that it calls make is longer than what came in: it says more and counts as full. Else prove '..UptoSaid'. A law counts once. -/
mutual
def uptoBulk {H : Type} : DataW H → Nat
  | .lit (.string bytes) => bytes.length + 1
  | .lit _ => 1
  | .nil => 1
  | .ptr d => uptoBulk d + 1
  | .slice elems spare => uptoBulkAll elems + uptoBulkAll spare + 1
  | .agg parts => uptoBulkAll parts + 1
  | .iface _ d => uptoBulk d + 1
  | .map entries => uptoBulkEntries entries + 1
  | .held _ => 1
def uptoBulkAll {H : Type} : List (DataW H) → Nat
  | [] => 0
  | d :: r => uptoBulk d + uptoBulkAll r
def uptoBulkEntries {H : Type} : List (Lit × DataW H) → Nat
  | [] => 0
  | x :: r => uptoBulkEntry x + uptoBulkEntries r
def uptoBulkEntry {H : Type} : Lit × DataW H → Nat
  | (.string bytes, d) => bytes.length + uptoBulk d + 1
  | (_, d) => uptoBulk d + 1
 end
def uptoSmall : (H : Type) → List (DataW H) → Bool := fun _ ds => decide (uptoBulkAll ds ≤ 1048576)
def OpenSpec.upto (s : _root_.Go.ChangeSpec) : _root_.Go.OpenSpec := { _root_.Go.OpenSpec.ofChange s with cond := some uptoSmall }

/-- 'laws.FnExactLiveIn', WHERE WHAT IT READS IS OF BULK AT MOST 1048576: true; the input reads as it did. -/
def fnExactLiveInUptoRow : OpenClaim := { program := "ytolaghondjfhdaagreatdoor", sum := "6434ae2b1a06794174c5ba1a8efefc4715768f659e307225e452691b92d028ea", func := "loop.example/g00457/laws.FnExactLiveIn", spec := "fnExactLiveIn", inPlace := ["slices.overlaps[int64]"], unfollowed := true, recurses := true, named := ["loop.example/g00457/impl.errCount"], ifaces := true, apart := false, laid := [("loop.example/g00457/impl.errCount", laid_loop_example_g00457_impl_errCount)], narrowed := true }
def FnExactLiveInUptoSaid : Prop := fnExactLiveInUptoRow.holds Tryz.pinned (OpenSpec.upto fnExactLiveInSpec)

/-- 'laws.FnExactLiveOut', WHERE WHAT IT READS IS OF BULK AT MOST 1048576: true; the input reads as it did. -/
def fnExactLiveOutUptoRow : OpenClaim := { program := "ytolaghondjfhdaagreatdoor", sum := "6434ae2b1a06794174c5ba1a8efefc4715768f659e307225e452691b92d028ea", func := "loop.example/g00457/laws.FnExactLiveOut", spec := "fnExactLiveOut", inPlace := ["slices.overlaps[int64]"], unfollowed := true, recurses := true, named := ["loop.example/g00457/impl.errCount"], ifaces := true, apart := false, laid := [("loop.example/g00457/impl.errCount", laid_loop_example_g00457_impl_errCount)], narrowed := true }
def FnExactLiveOutUptoSaid : Prop := fnExactLiveOutUptoRow.holds Tryz.pinned (OpenSpec.upto fnExactLiveOutSpec)

/-- 'laws.FnExactLiveAfter', WHERE WHAT IT READS IS OF BULK AT MOST 1048576: true; the input reads as it did. -/
def fnExactLiveAfterUptoRow : OpenClaim := { program := "ytolaghondjfhdaagreatdoor", sum := "6434ae2b1a06794174c5ba1a8efefc4715768f659e307225e452691b92d028ea", func := "loop.example/g00457/laws.FnExactLiveAfter", spec := "fnExactLiveAfter", inPlace := ["slices.overlaps[int64]"], unfollowed := true, recurses := true, named := ["loop.example/g00457/impl.errCount"], ifaces := true, apart := false, laid := [("loop.example/g00457/impl.errCount", laid_loop_example_g00457_impl_errCount)], narrowed := true }
def FnExactLiveAfterUptoSaid : Prop := fnExactLiveAfterUptoRow.holds Tryz.pinned (OpenSpec.upto fnExactLiveAfterSpec)

/-- 'laws.FnExactPressure', WHERE WHAT IT READS IS OF BULK AT MOST 1048576: true; the input reads as it did. -/
def fnExactPressureUptoRow : OpenClaim := { program := "ytolaghondjfhdaagreatdoor", sum := "6434ae2b1a06794174c5ba1a8efefc4715768f659e307225e452691b92d028ea", func := "loop.example/g00457/laws.FnExactPressure", spec := "fnExactPressure", inPlace := ["slices.overlaps[int64]"], unfollowed := true, recurses := true, named := ["loop.example/g00457/impl.errCount"], ifaces := true, apart := false, laid := [("loop.example/g00457/impl.errCount", laid_loop_example_g00457_impl_errCount)], narrowed := true }
def FnExactPressureUptoSaid : Prop := fnExactPressureUptoRow.holds Tryz.pinned (OpenSpec.upto fnExactPressureSpec)

/-- 'laws.FnExactMeet', WHERE WHAT IT READS IS OF BULK AT MOST 1048576: true; the input reads as it did. -/
def fnExactMeetUptoRow : OpenClaim := { program := "ytolaghondjfhdaagreatdoor", sum := "6434ae2b1a06794174c5ba1a8efefc4715768f659e307225e452691b92d028ea", func := "loop.example/g00457/laws.FnExactMeet", spec := "fnExactMeet", inPlace := ["slices.overlaps[int64]"], unfollowed := true, recurses := true, named := ["loop.example/g00457/impl.errCount"], ifaces := true, apart := false, laid := [("loop.example/g00457/impl.errCount", laid_loop_example_g00457_impl_errCount)], narrowed := true }
def FnExactMeetUptoSaid : Prop := fnExactMeetUptoRow.holds Tryz.pinned (OpenSpec.upto fnExactMeetSpec)

/-- 'laws.FnExactColoursOk', WHERE WHAT IT READS IS OF BULK AT MOST 1048576: true; the input reads as it did. -/
def fnExactColoursOkUptoRow : OpenClaim := { program := "ytolaghondjfhdaagreatdoor", sum := "6434ae2b1a06794174c5ba1a8efefc4715768f659e307225e452691b92d028ea", func := "loop.example/g00457/laws.FnExactColoursOk", spec := "fnExactColoursOk", inPlace := ["slices.overlaps[int64]"], unfollowed := true, recurses := true, named := ["loop.example/g00457/impl.errCount"], ifaces := true, apart := false, laid := [("loop.example/g00457/impl.errCount", laid_loop_example_g00457_impl_errCount)], narrowed := true }
def FnExactColoursOkUptoSaid : Prop := fnExactColoursOkUptoRow.holds Tryz.pinned (OpenSpec.upto fnExactColoursOkSpec)

end Rows
end Go.Proofs.YtolaghondjfhdaaGreatDoor
