/-
  No cell of these rows narrows 'for every input' (looked for: loops, veiled, ifaces, maps, wideKeys, modest, calm, conditions, laid).
  DERIVED. THE GIVEN ROWS OF THIS SEAT. 6 by the template 'for every input the law returns true; each argument reads behind the call as it read before'; 0 by the template 'total and deterministic' (their statements: YteggklicmmnhpaaTotals.lean).
  GIVEN WITH THE SEED: the statements are not yours to turn. If you find one false, say at which input.
  Laid BY PROGRAM, IN A SANDBOX (cutbox-rows.mjs): the forced cells as the released guide's own fill.sh prints them over the translation e6c94d75191a915b… (all of the seat's roots in one cut). By AI agents, Wed Nov 11 2026. No macro, syntax, notation, axiom, sorry.
-/
import Derived.Test.YteggklicmmnhpaaChecked
import GoSem.Claim
import GoSem.ClaimJoined
import GoSem.ClaimMapViews
import Derived.JoinedTies
import Derived.KernelRfl
namespace Go.Proofs.Yteggklicmmnhpaa
/- THE CELL 'sum', in the pinned program and in every row, IS THE sha256 OF THE DUMP (.gsa) THAT YteggklicmmnhpaaProg.lean LOADS. Nothing in Lean hashes anything: it is a label: what it is worth is what the hold of that sum in a sandbox is worth. -/
noncomputable def Try.pinned : Pinned := { name := "yteggklicmmnhpaa", sum := "e6c94d75191a915b96e6d034dddeb94bcecc48415b0aa7fcaccf8e160a3e4559", checked := Try.checked }
namespace Rows
def none {H : Type} : Left H := { results := [], args := [] }

/-- 'laws.FnExactWidthOk': WHATEVER THE INPUT: true; the input reads as it did. -/
def fnExactWidthOkSpec : ChangeSpec := { name := "fnExactWidthOk", fn := fun _ => fun
  | [d] => { results := [.lit (.bool true)], args := [d] }
  | _ => none }
def fnExactWidthOkRow : OpenClaim := { program := "yteggklicmmnhpaa", sum := "e6c94d75191a915b96e6d034dddeb94bcecc48415b0aa7fcaccf8e160a3e4559", func := "loop.example/g00457/laws.FnExactWidthOk", spec := "fnExactWidthOk", apart := false }
def FnExactWidthOkSaid : Prop := fnExactWidthOkRow.holds Try.pinned (OpenSpec.ofChange fnExactWidthOkSpec)

/-- ITS FALSE NEIGHBOUR: 'it returns false'. Refute it at one input. -/
def fnExactWidthOkWrong : ChangeSpec := { name := "fnExactWidthOk", fn := fun _ => fun
  | [d] => { results := [.lit (.bool false)], args := [d] }
  | _ => none }
def FnExactWidthOkWrongFalsely : Prop := fnExactWidthOkRow.holds Try.pinned (OpenSpec.ofChange fnExactWidthOkWrong)

/-- 'laws.FnExactMasked': WHATEVER THE INPUT: true; the input reads as it did. -/
def fnExactMaskedSpec : ChangeSpec := { name := "fnExactMasked", fn := fun _ => fun
  | [d1, d2] => { results := [.lit (.bool true)], args := [d1, d2] }
  | _ => none }
def fnExactMaskedRow : OpenClaim := { program := "yteggklicmmnhpaa", sum := "e6c94d75191a915b96e6d034dddeb94bcecc48415b0aa7fcaccf8e160a3e4559", func := "loop.example/g00457/laws.FnExactMasked", spec := "fnExactMasked", apart := false }
def FnExactMaskedSaid : Prop := fnExactMaskedRow.holds Try.pinned (OpenSpec.ofChange fnExactMaskedSpec)

/-- ITS FALSE NEIGHBOUR: 'it returns false'. Refute it at one input. -/
def fnExactMaskedWrong : ChangeSpec := { name := "fnExactMasked", fn := fun _ => fun
  | [d1, d2] => { results := [.lit (.bool false)], args := [d1, d2] }
  | _ => none }
def FnExactMaskedWrongFalsely : Prop := fnExactMaskedRow.holds Try.pinned (OpenSpec.ofChange fnExactMaskedWrong)

/-- 'laws.FnExactSignOf': WHATEVER THE INPUT: true; the input reads as it did. -/
def fnExactSignOfSpec : ChangeSpec := { name := "fnExactSignOf", fn := fun _ => fun
  | [d1, d2] => { results := [.lit (.bool true)], args := [d1, d2] }
  | _ => none }
def fnExactSignOfRow : OpenClaim := { program := "yteggklicmmnhpaa", sum := "e6c94d75191a915b96e6d034dddeb94bcecc48415b0aa7fcaccf8e160a3e4559", func := "loop.example/g00457/laws.FnExactSignOf", spec := "fnExactSignOf", apart := false }
def FnExactSignOfSaid : Prop := fnExactSignOfRow.holds Try.pinned (OpenSpec.ofChange fnExactSignOfSpec)

/-- ITS FALSE NEIGHBOUR: 'it returns false'. Refute it at one input. -/
def fnExactSignOfWrong : ChangeSpec := { name := "fnExactSignOf", fn := fun _ => fun
  | [d1, d2] => { results := [.lit (.bool false)], args := [d1, d2] }
  | _ => none }
def FnExactSignOfWrongFalsely : Prop := fnExactSignOfRow.holds Try.pinned (OpenSpec.ofChange fnExactSignOfWrong)

/-- 'laws.FnExactBinary': WHATEVER THE INPUT: true; the input reads as it did. -/
def fnExactBinarySpec : ChangeSpec := { name := "fnExactBinary", fn := fun _ => fun
  | [d1, d2, d3, d4] => { results := [.lit (.bool true)], args := [d1, d2, d3, d4] }
  | _ => none }
def fnExactBinaryRow : OpenClaim := { program := "yteggklicmmnhpaa", sum := "e6c94d75191a915b96e6d034dddeb94bcecc48415b0aa7fcaccf8e160a3e4559", func := "loop.example/g00457/laws.FnExactBinary", spec := "fnExactBinary", unfollowed := true, recurses := true, apart := false }
def FnExactBinarySaid : Prop := fnExactBinaryRow.holds Try.pinned (OpenSpec.ofChange fnExactBinarySpec)

/-- ITS FALSE NEIGHBOUR: 'it returns false'. Refute it at one input. -/
def fnExactBinaryWrong : ChangeSpec := { name := "fnExactBinary", fn := fun _ => fun
  | [d1, d2, d3, d4] => { results := [.lit (.bool false)], args := [d1, d2, d3, d4] }
  | _ => none }
def FnExactBinaryWrongFalsely : Prop := fnExactBinaryRow.holds Try.pinned (OpenSpec.ofChange fnExactBinaryWrong)

/-- 'laws.FnExactCasted': WHATEVER THE INPUT: true; the input reads as it did. -/
def fnExactCastedSpec : ChangeSpec := { name := "fnExactCasted", fn := fun _ => fun
  | [d1, d2, d3, d4] => { results := [.lit (.bool true)], args := [d1, d2, d3, d4] }
  | _ => none }
def fnExactCastedRow : OpenClaim := { program := "yteggklicmmnhpaa", sum := "e6c94d75191a915b96e6d034dddeb94bcecc48415b0aa7fcaccf8e160a3e4559", func := "loop.example/g00457/laws.FnExactCasted", spec := "fnExactCasted", apart := false }
def FnExactCastedSaid : Prop := fnExactCastedRow.holds Try.pinned (OpenSpec.ofChange fnExactCastedSpec)

/-- ITS FALSE NEIGHBOUR: 'it returns false'. Refute it at one input. -/
def fnExactCastedWrong : ChangeSpec := { name := "fnExactCasted", fn := fun _ => fun
  | [d1, d2, d3, d4] => { results := [.lit (.bool false)], args := [d1, d2, d3, d4] }
  | _ => none }
def FnExactCastedWrongFalsely : Prop := fnExactCastedRow.holds Try.pinned (OpenSpec.ofChange fnExactCastedWrong)

/-- 'laws.FnExactResultWidth': WHATEVER THE INPUT: true; the input reads as it did. -/
def fnExactResultWidthSpec : ChangeSpec := { name := "fnExactResultWidth", fn := fun _ => fun
  | [d1, d2] => { results := [.lit (.bool true)], args := [d1, d2] }
  | _ => none }
def fnExactResultWidthRow : OpenClaim := { program := "yteggklicmmnhpaa", sum := "e6c94d75191a915b96e6d034dddeb94bcecc48415b0aa7fcaccf8e160a3e4559", func := "loop.example/g00457/laws.FnExactResultWidth", spec := "fnExactResultWidth", apart := false }
def FnExactResultWidthSaid : Prop := fnExactResultWidthRow.holds Try.pinned (OpenSpec.ofChange fnExactResultWidthSpec)

/-- ITS FALSE NEIGHBOUR: 'it returns false'. Refute it at one input. -/
def fnExactResultWidthWrong : ChangeSpec := { name := "fnExactResultWidth", fn := fun _ => fun
  | [d1, d2] => { results := [.lit (.bool false)], args := [d1, d2] }
  | _ => none }
def FnExactResultWidthWrongFalsely : Prop := fnExactResultWidthRow.holds Try.pinned (OpenSpec.ofChange fnExactResultWidthWrong)

/- THE SECOND FORM. 'bulk': how many values and letters a reading holds, each counted each time it is reached (what is shared counts as often as it is met; a slice's spare places count too). A statement '..UptoSaid' is the law's where the arguments, and the package variables that the reading takes, are together of bulk at most 1048576: NARROWER than '..Said'. Prove '..Said' where nothing that the law and all that it calls make is longer than what came in: it says more and counts as full. Else prove '..UptoSaid'. A law counts once. -/
mutual
def uptoBulk {H : Type} : DataW H → Nat
  | .lit (.string bytes) => bytes.length + 1
  | .lit _ => 1
  | .nil => 1
  | .ptr d => uptoBulk d + 1
  | .slice elems spare => uptoBulkAll elems + uptoBulkAll spare + 1
  | .agg parts => uptoBulkAll parts + 1
  | .iface _ d => uptoBulk d + 1
  | .map entries => uptoBulkEntries entries + 1
  | .held _ => 1
def uptoBulkAll {H : Type} : List (DataW H) → Nat
  | [] => 0
  | d :: r => uptoBulk d + uptoBulkAll r
def uptoBulkEntries {H : Type} : List (Lit × DataW H) → Nat
  | [] => 0
  | x :: r => uptoBulkEntry x + uptoBulkEntries r
def uptoBulkEntry {H : Type} : Lit × DataW H → Nat
  | (.string bytes, d) => bytes.length + uptoBulk d + 1
  | (_, d) => uptoBulk d + 1
 end
def uptoSmall : (H : Type) → List (DataW H) → Bool := fun _ ds => decide (uptoBulkAll ds ≤ 1048576)
def OpenSpec.upto (s : _root_.Go.ChangeSpec) : _root_.Go.OpenSpec := { _root_.Go.OpenSpec.ofChange s with cond := some uptoSmall }

/-- 'laws.FnExactWidthOk', WHERE WHAT IT READS IS OF BULK AT MOST 1048576: true; the input reads as it did. -/
def fnExactWidthOkUptoRow : OpenClaim := { program := "yteggklicmmnhpaa", sum := "e6c94d75191a915b96e6d034dddeb94bcecc48415b0aa7fcaccf8e160a3e4559", func := "loop.example/g00457/laws.FnExactWidthOk", spec := "fnExactWidthOk", apart := false, narrowed := true }
def FnExactWidthOkUptoSaid : Prop := fnExactWidthOkUptoRow.holds Try.pinned (OpenSpec.upto fnExactWidthOkSpec)

/-- 'laws.FnExactMasked', WHERE WHAT IT READS IS OF BULK AT MOST 1048576: true; the input reads as it did. -/
def fnExactMaskedUptoRow : OpenClaim := { program := "yteggklicmmnhpaa", sum := "e6c94d75191a915b96e6d034dddeb94bcecc48415b0aa7fcaccf8e160a3e4559", func := "loop.example/g00457/laws.FnExactMasked", spec := "fnExactMasked", apart := false, narrowed := true }
def FnExactMaskedUptoSaid : Prop := fnExactMaskedUptoRow.holds Try.pinned (OpenSpec.upto fnExactMaskedSpec)

/-- 'laws.FnExactSignOf', WHERE WHAT IT READS IS OF BULK AT MOST 1048576: true; the input reads as it did. -/
def fnExactSignOfUptoRow : OpenClaim := { program := "yteggklicmmnhpaa", sum := "e6c94d75191a915b96e6d034dddeb94bcecc48415b0aa7fcaccf8e160a3e4559", func := "loop.example/g00457/laws.FnExactSignOf", spec := "fnExactSignOf", apart := false, narrowed := true }
def FnExactSignOfUptoSaid : Prop := fnExactSignOfUptoRow.holds Try.pinned (OpenSpec.upto fnExactSignOfSpec)

/-- 'laws.FnExactBinary', WHERE WHAT IT READS IS OF BULK AT MOST 1048576: true; the input reads as it did. -/
def fnExactBinaryUptoRow : OpenClaim := { program := "yteggklicmmnhpaa", sum := "e6c94d75191a915b96e6d034dddeb94bcecc48415b0aa7fcaccf8e160a3e4559", func := "loop.example/g00457/laws.FnExactBinary", spec := "fnExactBinary", unfollowed := true, recurses := true, apart := false, narrowed := true }
def FnExactBinaryUptoSaid : Prop := fnExactBinaryUptoRow.holds Try.pinned (OpenSpec.upto fnExactBinarySpec)

/-- 'laws.FnExactCasted', WHERE WHAT IT READS IS OF BULK AT MOST 1048576: true; the input reads as it did. -/
def fnExactCastedUptoRow : OpenClaim := { program := "yteggklicmmnhpaa", sum := "e6c94d75191a915b96e6d034dddeb94bcecc48415b0aa7fcaccf8e160a3e4559", func := "loop.example/g00457/laws.FnExactCasted", spec := "fnExactCasted", apart := false, narrowed := true }
def FnExactCastedUptoSaid : Prop := fnExactCastedUptoRow.holds Try.pinned (OpenSpec.upto fnExactCastedSpec)

/-- 'laws.FnExactResultWidth', WHERE WHAT IT READS IS OF BULK AT MOST 1048576: true; the input reads as it did. -/
def fnExactResultWidthUptoRow : OpenClaim := { program := "yteggklicmmnhpaa", sum := "e6c94d75191a915b96e6d034dddeb94bcecc48415b0aa7fcaccf8e160a3e4559", func := "loop.example/g00457/laws.FnExactResultWidth", spec := "fnExactResultWidth", apart := false, narrowed := true }
def FnExactResultWidthUptoSaid : Prop := fnExactResultWidthUptoRow.holds Try.pinned (OpenSpec.upto fnExactResultWidthSpec)

end Rows
end Go.Proofs.Yteggklicmmnhpaa
