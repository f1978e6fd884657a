/-
  DERIVED. GIVEN WITH THE SEED: THE CARDS: each row of YtgojlnclpebdcaaGreatDoorRows.lean that lists a variable, with what it lists TIED to the program's text (the seventh form; the later family's looks); each row that meets fmt, with fmt's text TOLD by the authors' own Lean function (tested against real Go, not proved from fmt's source: count such statements apart). THE CARD IS WHAT COUNTS. Prove the row's statement (the work); the ties are given (YtgojlnclpebdcaaGreatDoorTie.lean); close each card by the builder's one call (the guide's Derived/Test/ToyasCard.lean, 'card_holds'). Laid BY PROGRAM, IN A SANDBOX (cutbox-door.mjs). By AI agents, Wed Nov 11 2026. No macro, syntax, notation, axiom, sorry.
-/
import Derived.Test.YtgojlnclpebdcaaGreatDoorRows
import GoSem.ClaimSeven
namespace Go.Proofs.YtgojlnclpebdcaaGreatDoor
namespace Rows

/-- THE TIED CARD OF 'laws.FnChecked'. -/
def fnCheckedCard : Claim7 := { stood := { row := fnCheckedRow, standIns := [], harness := (true, "0b8c7f4b8791a85c28a5455d28c75fba0341085b635a34601209fcce989162ef"), looks := true }, kinds := [], alts := [], laidByText := true, laidKinds := [.handle, .sentinel, .sentinel, .sentinel, .sentinel, .sentinel, .sentinel], laidTests := true, laidLooks := .later }
def FnCheckedCardSaid : Prop := Claim7.holds Tryz.pinned (.plain (OpenSpec.ofChange fnCheckedSpec)) fnCheckedCard

/-- THE TIED CARD OF 'laws.FnDefined'. -/
def fnDefinedCard : Claim7 := { stood := { row := fnDefinedRow, standIns := [], harness := (true, "0b8c7f4b8791a85c28a5455d28c75fba0341085b635a34601209fcce989162ef"), looks := true }, kinds := [], alts := [], laidByText := true, laidKinds := [.handle, .sentinel, .sentinel, .sentinel, .sentinel, .sentinel, .sentinel], laidTests := true, laidLooks := .later }
def FnDefinedCardSaid : Prop := Claim7.holds Tryz.pinned (.plain (OpenSpec.ofChange fnDefinedSpec)) fnDefinedCard

/-- THE SECOND FORM's CARD OF 'laws.FnChecked'. -/
def fnCheckedUptoCard : Claim7 := { stood := { row := fnCheckedUptoRow, standIns := [], harness := (true, "0b8c7f4b8791a85c28a5455d28c75fba0341085b635a34601209fcce989162ef"), looks := true }, kinds := [], alts := [], laidByText := true, laidKinds := [.handle, .sentinel, .sentinel, .sentinel, .sentinel, .sentinel, .sentinel], laidTests := true, laidLooks := .later }
def FnCheckedUptoCardSaid : Prop := Claim7.holds Tryz.pinned (.plain (OpenSpec.upto fnCheckedSpec)) fnCheckedUptoCard

/-- THE SECOND FORM's CARD OF 'laws.FnDefined'. -/
def fnDefinedUptoCard : Claim7 := { stood := { row := fnDefinedUptoRow, standIns := [], harness := (true, "0b8c7f4b8791a85c28a5455d28c75fba0341085b635a34601209fcce989162ef"), looks := true }, kinds := [], alts := [], laidByText := true, laidKinds := [.handle, .sentinel, .sentinel, .sentinel, .sentinel, .sentinel, .sentinel], laidTests := true, laidLooks := .later }
def FnDefinedUptoCardSaid : Prop := Claim7.holds Tryz.pinned (.plain (OpenSpec.upto fnDefinedSpec)) fnDefinedUptoCard
end Rows
end Go.Proofs.YtgojlnclpebdcaaGreatDoor
