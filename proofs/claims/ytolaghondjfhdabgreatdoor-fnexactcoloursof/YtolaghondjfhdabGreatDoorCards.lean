/-
  DERIVED. GIVEN WITH THE SEED: THE CARDS: each row of YtolaghondjfhdabGreatDoorRows.lean that lists a variable, with what it lists TIED to the program's text (the seventh form; the later family's looks); each row that meets fmt, with fmt's text TOLD by the authors' own Lean function (tested against real Go, not proved from fmt's source: count such statements apart). THE CARD IS WHAT COUNTS. Prove the row's statement (the work); the ties are given (YtolaghondjfhdabGreatDoorTie.lean); close each card by the builder's one call (the guide's Derived/Test/ToyasCard.lean, 'card_holds'). Laid BY PROGRAM, IN A SANDBOX (cutbox-door.mjs). By AI agents, Wed Nov 11 2026. No macro, syntax, notation, axiom, sorry.
-/
import Derived.Test.YtolaghondjfhdabGreatDoorRows
import GoSem.ClaimSeven
namespace Go.Proofs.YtolaghondjfhdabGreatDoor
namespace Rows

/-- THE TIED CARD OF 'laws.FnExactColoursOf'. -/
def fnExactColoursOfCard : Claim7 := { stood := { row := fnExactColoursOfRow, standIns := [], harness := (true, "9c4e74c4ecf2e11c37631f792759be134e9a98d1017bf73a16d4e76e195edeab"), looks := true }, kinds := [], alts := [], laidByText := true, laidKinds := [.sentinel], laidTests := true, laidLooks := .later }
def FnExactColoursOfCardSaid : Prop := Claim7.holds Tryz.pinned (.plain (OpenSpec.ofChange fnExactColoursOfSpec)) fnExactColoursOfCard

/-- THE SECOND FORM's CARD OF 'laws.FnExactColoursOf'. -/
def fnExactColoursOfUptoCard : Claim7 := { stood := { row := fnExactColoursOfUptoRow, standIns := [], harness := (true, "9c4e74c4ecf2e11c37631f792759be134e9a98d1017bf73a16d4e76e195edeab"), looks := true }, kinds := [], alts := [], laidByText := true, laidKinds := [.sentinel], laidTests := true, laidLooks := .later }
def FnExactColoursOfUptoCardSaid : Prop := Claim7.holds Tryz.pinned (.plain (OpenSpec.upto fnExactColoursOfSpec)) fnExactColoursOfUptoCard
end Rows
end Go.Proofs.YtolaghondjfhdabGreatDoor
