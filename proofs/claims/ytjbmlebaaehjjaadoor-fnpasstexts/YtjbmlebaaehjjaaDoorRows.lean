/-
  NARROWER THAN 'FOR EVERY INPUT', by the rows' own cells (each row's printed sentence says how): FnPassTexts: laid · FnExactPassesOf: laid · FnExactPassText: laid.
  DERIVED. THE GIVEN ROWS OF THIS SEAT. 3 by the template 'for every input the law returns true; each argument reads behind the call as it read before'; 0 by the template 'total and deterministic' (their statements: YtjbmlebaaehjjaaDoorTotals.lean).
  GIVEN WITH THE SEED: the statements are not yours to turn. If you find one false, say at which input.
  Laid BY PROGRAM, IN A SANDBOX (cutbox-rows.mjs): the forced cells as the released guide's own fill.sh prints them over the translation bee55ac2640d2f0f… (all of the seat's roots in one cut). By AI agents, Wed Nov 11 2026. No macro, syntax, notation, axiom, sorry.
-/
import Derived.Test.YtjbmlebaaehjjaaDoorChecked
import GoSem.PinnedTables
import GoSem.Claim
import GoSem.ClaimJoined
import GoSem.ClaimMapViews
import Derived.JoinedTies
import Derived.KernelRfl
namespace Go.Proofs.YtjbmlebaaehjjaaDoor
/- THE CELL 'sum', in the pinned program and in every row, IS THE sha256 OF THE DUMP (.gsa) THAT YtjbmlebaaehjjaaDoorProg.lean LOADS. Nothing in Lean hashes anything: it is a label: what it is worth is what the hold of that sum in a sandbox is worth. -/
noncomputable def Tryd.pinned : Pinned := { name := "ytjbmlebaaehjjaadoor", sum := "bee55ac2640d2f0fda10e5ec9322c5f0545a088a096d18af3c794d80d5c72210", checked := Tryd.checked }
namespace Rows
def none {H : Type} : Left H := { results := [], args := [] }

/- WHAT THE LISTED PACKAGE-LEVEL VARIABLES READ AS WHEN THE CALL BEGINS. Each datum BY PROGRAM (the guide's laid-datum.mjs) off the statement by which the dump's own 'gosem.cut.vars' lays the variable. In a bare row this is a premise. The card (YtjbmlebaaehjjaaDoorCards.lean) ties it to the program's text. -/
def laid_unicode_utf8_acceptRanges {H : Type} : DataW H := .agg [.agg [.lit (.int .u8 128), .lit (.int .u8 191)], .agg [.lit (.int .u8 160), .lit (.int .u8 191)], .agg [.lit (.int .u8 128), .lit (.int .u8 159)], .agg [.lit (.int .u8 144), .lit (.int .u8 191)], .agg [.lit (.int .u8 128), .lit (.int .u8 143)], .agg [.lit (.int .u8 0), .lit (.int .u8 0)], .agg [.lit (.int .u8 0), .lit (.int .u8 0)], .agg [.lit (.int .u8 0), .lit (.int .u8 0)], .agg [.lit (.int .u8 0), .lit (.int .u8 0)], .agg [.lit (.int .u8 0), .lit (.int .u8 0)], .agg [.lit (.int .u8 0), .lit (.int .u8 0)], .agg [.lit (.int .u8 0), .lit (.int .u8 0)], .agg [.lit (.int .u8 0), .lit (.int .u8 0)], .agg [.lit (.int .u8 0), .lit (.int .u8 0)], .agg [.lit (.int .u8 0), .lit (.int .u8 0)], .agg [.lit (.int .u8 0), .lit (.int .u8 0)]]
def laid_loop_example_g00457_impl_passWords {H : Type} : DataW H := .agg [.lit (.string []), .lit (.string [102, 111, 108, 100]), .lit (.string [99, 111, 112, 105, 101, 115]), .lit (.string [99, 108, 101, 97, 110]), .lit (.string [115, 104, 97, 114, 101]), .lit (.string [99, 104, 111, 111, 115, 101]), .lit (.string [112, 114, 117, 110, 101]), .lit (.string [106, 111, 105, 110]), .lit (.string [102, 97, 99, 116, 115]), .lit (.string [115, 112, 108, 105, 116])]
/-- One of Go's own tables, pinned by name: the form's constant. -/
def laid_unicode_utf8_first : DataW Unit := Go.Pinned.utf8First

/-- 'laws.FnPassTexts': WHATEVER THE INPUT: true; the input reads as it did. -/
def fnPassTextsSpec : ChangeSpec := { name := "fnPassTexts", vars := ["loop.example/g00457/impl.passWords"], fn := fun _ => fun
  | [d, g1] => { results := [.lit (.bool true)], args := [d], vars := [g1] }
  | _ => none }
def fnPassTextsRow : OpenClaim := { program := "ytjbmlebaaehjjaadoor", sum := "bee55ac2640d2f0fda10e5ec9322c5f0545a088a096d18af3c794d80d5c72210", func := "loop.example/g00457/laws.FnPassTexts", spec := "fnPassTexts", inPlace := ["internal/abi.NoEscape", "internal/bytealg.MakeNoZero", "internal/bytealg.CountString", "internal/bytealg.IndexByteString", "internal/bytealg.IndexString"], unfollowed := true, recurses := true, named := ["loop.example/g00457/impl.passWords", "unicode/utf8.first", "unicode/utf8.acceptRanges", "internal/bytealg.MaxLen"], apart := false, laid := [("unicode/utf8.acceptRanges", laid_unicode_utf8_acceptRanges), ("loop.example/g00457/impl.passWords", laid_loop_example_g00457_impl_passWords), ("unicode/utf8.first", laid_unicode_utf8_first)] }
def FnPassTextsSaid : Prop := fnPassTextsRow.holds Tryd.pinned (OpenSpec.ofChange fnPassTextsSpec)

/-- ITS FALSE NEIGHBOUR: 'it returns false'. Refute it at one input. -/
def fnPassTextsWrong : ChangeSpec := { name := "fnPassTexts", vars := ["loop.example/g00457/impl.passWords"], fn := fun _ => fun
  | [d, g1] => { results := [.lit (.bool false)], args := [d], vars := [g1] }
  | _ => none }
def FnPassTextsWrongFalsely : Prop := fnPassTextsRow.holds Tryd.pinned (OpenSpec.ofChange fnPassTextsWrong)

/-- 'laws.FnExactPassesOf': WHATEVER THE INPUT: true; the input reads as it did. -/
def fnExactPassesOfSpec : ChangeSpec := { name := "fnExactPassesOf", vars := ["loop.example/g00457/impl.passWords"], fn := fun _ => fun
  | [d, g1] => { results := [.lit (.bool true)], args := [d], vars := [g1] }
  | _ => none }
def fnExactPassesOfRow : OpenClaim := { program := "ytjbmlebaaehjjaadoor", sum := "bee55ac2640d2f0fda10e5ec9322c5f0545a088a096d18af3c794d80d5c72210", func := "loop.example/g00457/laws.FnExactPassesOf", spec := "fnExactPassesOf", inPlace := ["internal/bytealg.CountString", "internal/bytealg.IndexByteString", "internal/bytealg.IndexString"], unfollowed := true, recurses := true, named := ["unicode/utf8.first", "unicode/utf8.acceptRanges", "internal/bytealg.MaxLen", "loop.example/g00457/impl.passWords"], apart := false, laid := [("unicode/utf8.acceptRanges", laid_unicode_utf8_acceptRanges), ("loop.example/g00457/impl.passWords", laid_loop_example_g00457_impl_passWords), ("unicode/utf8.first", laid_unicode_utf8_first)] }
def FnExactPassesOfSaid : Prop := fnExactPassesOfRow.holds Tryd.pinned (OpenSpec.ofChange fnExactPassesOfSpec)

/-- ITS FALSE NEIGHBOUR: 'it returns false'. Refute it at one input. -/
def fnExactPassesOfWrong : ChangeSpec := { name := "fnExactPassesOf", vars := ["loop.example/g00457/impl.passWords"], fn := fun _ => fun
  | [d, g1] => { results := [.lit (.bool false)], args := [d], vars := [g1] }
  | _ => none }
def FnExactPassesOfWrongFalsely : Prop := fnExactPassesOfRow.holds Tryd.pinned (OpenSpec.ofChange fnExactPassesOfWrong)

/-- 'laws.FnExactPassText': WHATEVER THE INPUT: true; the input reads as it did. -/
def fnExactPassTextSpec : ChangeSpec := { name := "fnExactPassText", vars := ["loop.example/g00457/impl.passWords"], fn := fun _ => fun
  | [d, g1] => { results := [.lit (.bool true)], args := [d], vars := [g1] }
  | _ => none }
def fnExactPassTextRow : OpenClaim := { program := "ytjbmlebaaehjjaadoor", sum := "bee55ac2640d2f0fda10e5ec9322c5f0545a088a096d18af3c794d80d5c72210", func := "loop.example/g00457/laws.FnExactPassText", spec := "fnExactPassText", inPlace := ["internal/abi.NoEscape", "internal/bytealg.MakeNoZero"], unfollowed := true, recurses := true, named := ["loop.example/g00457/impl.passWords"], apart := false, laid := [("loop.example/g00457/impl.passWords", laid_loop_example_g00457_impl_passWords)] }
def FnExactPassTextSaid : Prop := fnExactPassTextRow.holds Tryd.pinned (OpenSpec.ofChange fnExactPassTextSpec)

/-- ITS FALSE NEIGHBOUR: 'it returns false'. Refute it at one input. -/
def fnExactPassTextWrong : ChangeSpec := { name := "fnExactPassText", vars := ["loop.example/g00457/impl.passWords"], fn := fun _ => fun
  | [d, g1] => { results := [.lit (.bool false)], args := [d], vars := [g1] }
  | _ => none }
def FnExactPassTextWrongFalsely : Prop := fnExactPassTextRow.holds Tryd.pinned (OpenSpec.ofChange fnExactPassTextWrong)

/- THE SECOND FORM. 'bulk': how many values and letters a reading holds, each counted each time it is reached (what is shared counts as often as it is met; a slice's spare places count too). A statement '..UptoSaid' is the law's where the arguments, and the package variables that the reading takes, are together of bulk at most 1048576: NARROWER than '..Said'. Prove '..Said' where nothing that the law and all that it calls make is longer than what came in: it says more and counts as full. Else prove '..UptoSaid'. A law counts once. -/
mutual
def uptoBulk {H : Type} : DataW H → Nat
  | .lit (.string bytes) => bytes.length + 1
  | .lit _ => 1
  | .nil => 1
  | .ptr d => uptoBulk d + 1
  | .slice elems spare => uptoBulkAll elems + uptoBulkAll spare + 1
  | .agg parts => uptoBulkAll parts + 1
  | .iface _ d => uptoBulk d + 1
  | .map entries => uptoBulkEntries entries + 1
  | .held _ => 1
def uptoBulkAll {H : Type} : List (DataW H) → Nat
  | [] => 0
  | d :: r => uptoBulk d + uptoBulkAll r
def uptoBulkEntries {H : Type} : List (Lit × DataW H) → Nat
  | [] => 0
  | x :: r => uptoBulkEntry x + uptoBulkEntries r
def uptoBulkEntry {H : Type} : Lit × DataW H → Nat
  | (.string bytes, d) => bytes.length + uptoBulk d + 1
  | (_, d) => uptoBulk d + 1
 end
def uptoSmall : (H : Type) → List (DataW H) → Bool := fun _ ds => decide (uptoBulkAll ds ≤ 1048576)
def OpenSpec.upto (s : _root_.Go.ChangeSpec) : _root_.Go.OpenSpec := { _root_.Go.OpenSpec.ofChange s with cond := some uptoSmall }

/-- 'laws.FnPassTexts', WHERE WHAT IT READS IS OF BULK AT MOST 1048576: true; the input reads as it did. -/
def fnPassTextsUptoRow : OpenClaim := { program := "ytjbmlebaaehjjaadoor", sum := "bee55ac2640d2f0fda10e5ec9322c5f0545a088a096d18af3c794d80d5c72210", func := "loop.example/g00457/laws.FnPassTexts", spec := "fnPassTexts", inPlace := ["internal/abi.NoEscape", "internal/bytealg.MakeNoZero", "internal/bytealg.CountString", "internal/bytealg.IndexByteString", "internal/bytealg.IndexString"], unfollowed := true, recurses := true, named := ["loop.example/g00457/impl.passWords", "unicode/utf8.first", "unicode/utf8.acceptRanges", "internal/bytealg.MaxLen"], apart := false, laid := [("unicode/utf8.acceptRanges", laid_unicode_utf8_acceptRanges), ("loop.example/g00457/impl.passWords", laid_loop_example_g00457_impl_passWords), ("unicode/utf8.first", laid_unicode_utf8_first)], narrowed := true }
def FnPassTextsUptoSaid : Prop := fnPassTextsUptoRow.holds Tryd.pinned (OpenSpec.upto fnPassTextsSpec)

/-- 'laws.FnExactPassesOf', WHERE WHAT IT READS IS OF BULK AT MOST 1048576: true; the input reads as it did. -/
def fnExactPassesOfUptoRow : OpenClaim := { program := "ytjbmlebaaehjjaadoor", sum := "bee55ac2640d2f0fda10e5ec9322c5f0545a088a096d18af3c794d80d5c72210", func := "loop.example/g00457/laws.FnExactPassesOf", spec := "fnExactPassesOf", inPlace := ["internal/bytealg.CountString", "internal/bytealg.IndexByteString", "internal/bytealg.IndexString"], unfollowed := true, recurses := true, named := ["unicode/utf8.first", "unicode/utf8.acceptRanges", "internal/bytealg.MaxLen", "loop.example/g00457/impl.passWords"], apart := false, laid := [("unicode/utf8.acceptRanges", laid_unicode_utf8_acceptRanges), ("loop.example/g00457/impl.passWords", laid_loop_example_g00457_impl_passWords), ("unicode/utf8.first", laid_unicode_utf8_first)], narrowed := true }
def FnExactPassesOfUptoSaid : Prop := fnExactPassesOfUptoRow.holds Tryd.pinned (OpenSpec.upto fnExactPassesOfSpec)

/-- 'laws.FnExactPassText', WHERE WHAT IT READS IS OF BULK AT MOST 1048576: true; the input reads as it did. -/
def fnExactPassTextUptoRow : OpenClaim := { program := "ytjbmlebaaehjjaadoor", sum := "bee55ac2640d2f0fda10e5ec9322c5f0545a088a096d18af3c794d80d5c72210", func := "loop.example/g00457/laws.FnExactPassText", spec := "fnExactPassText", inPlace := ["internal/abi.NoEscape", "internal/bytealg.MakeNoZero"], unfollowed := true, recurses := true, named := ["loop.example/g00457/impl.passWords"], apart := false, laid := [("loop.example/g00457/impl.passWords", laid_loop_example_g00457_impl_passWords)], narrowed := true }
def FnExactPassTextUptoSaid : Prop := fnExactPassTextUptoRow.holds Tryd.pinned (OpenSpec.upto fnExactPassTextSpec)

end Rows
end Go.Proofs.YtjbmlebaaehjjaaDoor
