/-
  NARROWER THAN 'FOR EVERY INPUT', by the rows' own cells (each row's printed sentence says how): FnBytes: ifaces, laid · FnOneBit: ifaces, laid · FnExactReadBytes: ifaces, laid.
  DERIVED. THE GIVEN ROWS OF THIS SEAT. 3 by the template 'for every input the law returns true; each argument reads behind the call as it read before'; 0 by the template 'total and deterministic' (their statements: YtojhakjkfkmklaaGreatDoorTotals.lean).
  GIVEN WITH THE SEED: the statements are not yours to turn. If you find one false, say at which input.
  Laid BY PROGRAM, IN A SANDBOX (cutbox-rows.mjs): the forced cells as the released guide's own fill.sh prints them over the translation 361af2cf7d861bc6… (all of the seat's roots in one cut). By AI agents, Wed Nov 11 2026. No macro, syntax, notation, axiom, sorry.
-/
import Derived.Test.YtojhakjkfkmklaaGreatDoorChecked
import GoSem.Claim
import GoSem.ClaimJoined
import GoSem.ClaimMapViews
import Derived.JoinedTies
import Derived.KernelRfl
namespace Go.Proofs.YtojhakjkfkmklaaGreatDoor
/- THE CELL 'sum', in the pinned program and in every row, IS THE sha256 OF THE DUMP (.gsa) THAT YtojhakjkfkmklaaGreatDoorProg.lean LOADS. Nothing in Lean hashes anything: it is a label: what it is worth is what the hold of that sum in a sandbox is worth. -/
noncomputable def Tryz.pinned : Pinned := { name := "ytojhakjkfkmklaagreatdoor", sum := "361af2cf7d861bc6eb7a06a7f94be9ddbac385af60eaf7b91c7d1355b93cc7a8", checked := Tryz.checked }
namespace Rows
def none {H : Type} : Left H := { results := [], args := [] }

/- WHAT THE LISTED PACKAGE-LEVEL VARIABLES READ AS WHEN THE CALL BEGINS. Each datum BY PROGRAM (the guide's laid-datum.mjs) off the statement by which the dump's own 'gosem.cut.vars' lays the variable. In a bare row this is a premise. The card (YtojhakjkfkmklaaGreatDoorCards.lean) ties it to the program's text. -/
def laid_loop_example_g00457_impl_errUnread {H : Type} : DataW H := .iface "*errors.errorString" (.ptr (.agg [.lit (.string [110, 111, 116, 104, 105, 110, 103, 32, 104, 97, 115, 32, 116, 104, 105, 115, 32, 116, 101, 120, 116])]))

/-- 'laws.FnBytes': WHATEVER THE INPUT: true; the input reads as it did. -/
def fnBytesSpec : ChangeSpec := { name := "fnBytes", vars := ["loop.example/g00457/impl.errUnread"], fn := fun _ => fun
  | [d, g1] => { results := [.lit (.bool true)], args := [d], vars := [g1] }
  | _ => none }
def fnBytesRow : OpenClaim := { program := "ytojhakjkfkmklaagreatdoor", sum := "361af2cf7d861bc6eb7a06a7f94be9ddbac385af60eaf7b91c7d1355b93cc7a8", func := "loop.example/g00457/laws.FnBytes", spec := "fnBytes", inPlace := ["internal/abi.NoEscape"], unfollowed := true, recurses := true, named := ["loop.example/g00457/impl.errUnread"], ifaces := true, apart := false, laid := [("loop.example/g00457/impl.errUnread", laid_loop_example_g00457_impl_errUnread)] }
def FnBytesSaid : Prop := fnBytesRow.holds Tryz.pinned (OpenSpec.ofChange fnBytesSpec)

/-- ITS FALSE NEIGHBOUR: 'it returns false'. Refute it at one input. -/
def fnBytesWrong : ChangeSpec := { name := "fnBytes", vars := ["loop.example/g00457/impl.errUnread"], fn := fun _ => fun
  | [d, g1] => { results := [.lit (.bool false)], args := [d], vars := [g1] }
  | _ => none }
def FnBytesWrongFalsely : Prop := fnBytesRow.holds Tryz.pinned (OpenSpec.ofChange fnBytesWrong)

/-- 'laws.FnOneBit': WHATEVER THE INPUT: true; the input reads as it did. -/
def fnOneBitSpec : ChangeSpec := { name := "fnOneBit", vars := ["loop.example/g00457/impl.errUnread"], fn := fun _ => fun
  | [d, g1] => { results := [.lit (.bool true)], args := [d], vars := [g1] }
  | _ => none }
def fnOneBitRow : OpenClaim := { program := "ytojhakjkfkmklaagreatdoor", sum := "361af2cf7d861bc6eb7a06a7f94be9ddbac385af60eaf7b91c7d1355b93cc7a8", func := "loop.example/g00457/laws.FnOneBit", spec := "fnOneBit", inPlace := ["internal/abi.NoEscape"], unfollowed := true, recurses := true, named := ["loop.example/g00457/impl.errUnread"], ifaces := true, apart := false, laid := [("loop.example/g00457/impl.errUnread", laid_loop_example_g00457_impl_errUnread)] }
def FnOneBitSaid : Prop := fnOneBitRow.holds Tryz.pinned (OpenSpec.ofChange fnOneBitSpec)

/-- ITS FALSE NEIGHBOUR: 'it returns false'. Refute it at one input. -/
def fnOneBitWrong : ChangeSpec := { name := "fnOneBit", vars := ["loop.example/g00457/impl.errUnread"], fn := fun _ => fun
  | [d, g1] => { results := [.lit (.bool false)], args := [d], vars := [g1] }
  | _ => none }
def FnOneBitWrongFalsely : Prop := fnOneBitRow.holds Tryz.pinned (OpenSpec.ofChange fnOneBitWrong)

/-- 'laws.FnExactReadBytes': WHATEVER THE INPUT: true; the input reads as it did. -/
def fnExactReadBytesSpec : ChangeSpec := { name := "fnExactReadBytes", vars := ["loop.example/g00457/impl.errUnread"], fn := fun _ => fun
  | [d, g1] => { results := [.lit (.bool true)], args := [d], vars := [g1] }
  | _ => none }
def fnExactReadBytesRow : OpenClaim := { program := "ytojhakjkfkmklaagreatdoor", sum := "361af2cf7d861bc6eb7a06a7f94be9ddbac385af60eaf7b91c7d1355b93cc7a8", func := "loop.example/g00457/laws.FnExactReadBytes", spec := "fnExactReadBytes", unfollowed := true, recurses := true, named := ["loop.example/g00457/impl.errUnread"], ifaces := true, apart := false, laid := [("loop.example/g00457/impl.errUnread", laid_loop_example_g00457_impl_errUnread)] }
def FnExactReadBytesSaid : Prop := fnExactReadBytesRow.holds Tryz.pinned (OpenSpec.ofChange fnExactReadBytesSpec)

/-- ITS FALSE NEIGHBOUR: 'it returns false'. Refute it at one input. -/
def fnExactReadBytesWrong : ChangeSpec := { name := "fnExactReadBytes", vars := ["loop.example/g00457/impl.errUnread"], fn := fun _ => fun
  | [d, g1] => { results := [.lit (.bool false)], args := [d], vars := [g1] }
  | _ => none }
def FnExactReadBytesWrongFalsely : Prop := fnExactReadBytesRow.holds Tryz.pinned (OpenSpec.ofChange fnExactReadBytesWrong)

/- THE SECOND FORM. 'bulk': how many values and letters a reading holds, each counted each time it is reached (what is shared counts as often as it is met; a slice's spare places count too). A statement '..UptoSaid' is the law's where the arguments, and the package variables that the reading takes, are together of bulk at most 1048576: NARROWER than '..Said'. Prove '..Said' where nothing that the law and all that it calls make is longer than what came in: it says more and counts as full. Else prove '..UptoSaid'. A law counts once. -/
mutual
def uptoBulk {H : Type} : DataW H → Nat
  | .lit (.string bytes) => bytes.length + 1
  | .lit _ => 1
  | .nil => 1
  | .ptr d => uptoBulk d + 1
  | .slice elems spare => uptoBulkAll elems + uptoBulkAll spare + 1
  | .agg parts => uptoBulkAll parts + 1
  | .iface _ d => uptoBulk d + 1
  | .map entries => uptoBulkEntries entries + 1
  | .held _ => 1
def uptoBulkAll {H : Type} : List (DataW H) → Nat
  | [] => 0
  | d :: r => uptoBulk d + uptoBulkAll r
def uptoBulkEntries {H : Type} : List (Lit × DataW H) → Nat
  | [] => 0
  | x :: r => uptoBulkEntry x + uptoBulkEntries r
def uptoBulkEntry {H : Type} : Lit × DataW H → Nat
  | (.string bytes, d) => bytes.length + uptoBulk d + 1
  | (_, d) => uptoBulk d + 1
 end
def uptoSmall : (H : Type) → List (DataW H) → Bool := fun _ ds => decide (uptoBulkAll ds ≤ 1048576)
def OpenSpec.upto (s : _root_.Go.ChangeSpec) : _root_.Go.OpenSpec := { _root_.Go.OpenSpec.ofChange s with cond := some uptoSmall }

/-- 'laws.FnBytes', WHERE WHAT IT READS IS OF BULK AT MOST 1048576: true; the input reads as it did. -/
def fnBytesUptoRow : OpenClaim := { program := "ytojhakjkfkmklaagreatdoor", sum := "361af2cf7d861bc6eb7a06a7f94be9ddbac385af60eaf7b91c7d1355b93cc7a8", func := "loop.example/g00457/laws.FnBytes", spec := "fnBytes", inPlace := ["internal/abi.NoEscape"], unfollowed := true, recurses := true, named := ["loop.example/g00457/impl.errUnread"], ifaces := true, apart := false, laid := [("loop.example/g00457/impl.errUnread", laid_loop_example_g00457_impl_errUnread)], narrowed := true }
def FnBytesUptoSaid : Prop := fnBytesUptoRow.holds Tryz.pinned (OpenSpec.upto fnBytesSpec)

/-- 'laws.FnOneBit', WHERE WHAT IT READS IS OF BULK AT MOST 1048576: true; the input reads as it did. -/
def fnOneBitUptoRow : OpenClaim := { program := "ytojhakjkfkmklaagreatdoor", sum := "361af2cf7d861bc6eb7a06a7f94be9ddbac385af60eaf7b91c7d1355b93cc7a8", func := "loop.example/g00457/laws.FnOneBit", spec := "fnOneBit", inPlace := ["internal/abi.NoEscape"], unfollowed := true, recurses := true, named := ["loop.example/g00457/impl.errUnread"], ifaces := true, apart := false, laid := [("loop.example/g00457/impl.errUnread", laid_loop_example_g00457_impl_errUnread)], narrowed := true }
def FnOneBitUptoSaid : Prop := fnOneBitUptoRow.holds Tryz.pinned (OpenSpec.upto fnOneBitSpec)

/-- 'laws.FnExactReadBytes', WHERE WHAT IT READS IS OF BULK AT MOST 1048576: true; the input reads as it did. -/
def fnExactReadBytesUptoRow : OpenClaim := { program := "ytojhakjkfkmklaagreatdoor", sum := "361af2cf7d861bc6eb7a06a7f94be9ddbac385af60eaf7b91c7d1355b93cc7a8", func := "loop.example/g00457/laws.FnExactReadBytes", spec := "fnExactReadBytes", unfollowed := true, recurses := true, named := ["loop.example/g00457/impl.errUnread"], ifaces := true, apart := false, laid := [("loop.example/g00457/impl.errUnread", laid_loop_example_g00457_impl_errUnread)], narrowed := true }
def FnExactReadBytesUptoSaid : Prop := fnExactReadBytesUptoRow.holds Tryz.pinned (OpenSpec.upto fnExactReadBytesSpec)

end Rows
end Go.Proofs.YtojhakjkfkmklaaGreatDoor
