/-
  DERIVED. GIVEN WITH THE SEED: THE CARDS: each row of YtjmoonbpfieifaaGreatDoorRows.lean that lists a variable, with what it lists TIED to the program's text (the seventh form; the later family's looks); each row that meets fmt, with fmt's text TOLD by the authors' own Lean function (tested against real Go, not proved from fmt's source: count such statements apart). THE CARD IS WHAT COUNTS. Prove the row's statement (the work); the ties are given (YtjmoonbpfieifaaGreatDoorTie.lean); close each card by the builder's one call (the guide's Derived/Test/ToyasCard.lean, 'card_holds'). Laid BY PROGRAM, IN A SANDBOX (cutbox-door.mjs). By AI agents, Wed Nov 11 2026. No macro, syntax, notation, axiom, sorry.
-/
import Derived.Test.YtjmoonbpfieifaaGreatDoorRows
import GoSem.ClaimSeven
namespace Go.Proofs.YtjmoonbpfieifaaGreatDoor
namespace Rows

/-- THE TIED CARD OF 'laws.FnInstTexts'. -/
def fnInstTextsCard : Claim7 := { stood := { row := fnInstTextsRow, standIns := [], harness := (true, "46ead0bc44e0921b5ae9e00e28755af59786cc6ffd9913d719a3dd91a77fb3c2"), looks := true }, kinds := [], alts := [], laidByText := true, laidKinds := [.data, .data, .data, .data, .sentinel, .sentinel, .data, .sentinel, .pinned], laidTests := true, laidLooks := .later }
def FnInstTextsCardSaid : Prop := Claim7.holds Tryz.pinned (.plain (OpenSpec.ofChange fnInstTextsSpec)) fnInstTextsCard

/-- THE TIED CARD OF 'laws.FnExactReadInst'. -/
def fnExactReadInstCard : Claim7 := { stood := { row := fnExactReadInstRow, standIns := [], harness := (true, "46ead0bc44e0921b5ae9e00e28755af59786cc6ffd9913d719a3dd91a77fb3c2"), looks := true }, kinds := [], alts := [], laidByText := true, laidKinds := [.data, .data, .data, .data, .sentinel, .sentinel, .data, .sentinel, .pinned], laidTests := true, laidLooks := .later }
def FnExactReadInstCardSaid : Prop := Claim7.holds Tryz.pinned (.plain (OpenSpec.ofChange fnExactReadInstSpec)) fnExactReadInstCard

/-- THE SECOND FORM's CARD OF 'laws.FnInstTexts'. -/
def fnInstTextsUptoCard : Claim7 := { stood := { row := fnInstTextsUptoRow, standIns := [], harness := (true, "46ead0bc44e0921b5ae9e00e28755af59786cc6ffd9913d719a3dd91a77fb3c2"), looks := true }, kinds := [], alts := [], laidByText := true, laidKinds := [.data, .data, .data, .data, .sentinel, .sentinel, .data, .sentinel, .pinned], laidTests := true, laidLooks := .later }
def FnInstTextsUptoCardSaid : Prop := Claim7.holds Tryz.pinned (.plain (OpenSpec.upto fnInstTextsSpec)) fnInstTextsUptoCard

/-- THE SECOND FORM's CARD OF 'laws.FnExactReadInst'. -/
def fnExactReadInstUptoCard : Claim7 := { stood := { row := fnExactReadInstUptoRow, standIns := [], harness := (true, "46ead0bc44e0921b5ae9e00e28755af59786cc6ffd9913d719a3dd91a77fb3c2"), looks := true }, kinds := [], alts := [], laidByText := true, laidKinds := [.data, .data, .data, .data, .sentinel, .sentinel, .data, .sentinel, .pinned], laidTests := true, laidLooks := .later }
def FnExactReadInstUptoCardSaid : Prop := Claim7.holds Tryz.pinned (.plain (OpenSpec.upto fnExactReadInstSpec)) fnExactReadInstUptoCard
end Rows
end Go.Proofs.YtjmoonbpfieifaaGreatDoor
