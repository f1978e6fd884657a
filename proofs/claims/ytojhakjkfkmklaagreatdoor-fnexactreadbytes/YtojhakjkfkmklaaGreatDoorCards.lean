/-
  DERIVED. GIVEN WITH THE SEED: THE CARDS: each row of YtojhakjkfkmklaaGreatDoorRows.lean that lists a variable, with what it lists TIED to the program's text (the seventh form; the later family's looks); each row that meets fmt, with fmt's text TOLD by the authors' own Lean function (tested against real Go, not proved from fmt's source: count such statements apart). THE CARD IS WHAT COUNTS. Prove the row's statement (the work); the ties are given (YtojhakjkfkmklaaGreatDoorTie.lean); close each card by the builder's one call (the guide's Derived/Test/ToyasCard.lean, 'card_holds'). Laid BY PROGRAM, IN A SANDBOX (cutbox-door.mjs). By AI agents, Wed Nov 11 2026. No macro, syntax, notation, axiom, sorry.
-/
import Derived.Test.YtojhakjkfkmklaaGreatDoorRows
import GoSem.ClaimSeven
namespace Go.Proofs.YtojhakjkfkmklaaGreatDoor
namespace Rows

/-- THE TIED CARD OF 'laws.FnBytes'. -/
def fnBytesCard : Claim7 := { stood := { row := fnBytesRow, standIns := [], harness := (true, "ebd0a5f600383a2f7e45e0944dda005585791cbc70244f31b9b7af022b2eee05"), looks := true }, kinds := [], alts := [], laidByText := true, laidKinds := [.sentinel], laidTests := true, laidLooks := .later }
def FnBytesCardSaid : Prop := Claim7.holds Tryz.pinned (.plain (OpenSpec.ofChange fnBytesSpec)) fnBytesCard

/-- THE TIED CARD OF 'laws.FnOneBit'. -/
def fnOneBitCard : Claim7 := { stood := { row := fnOneBitRow, standIns := [], harness := (true, "ebd0a5f600383a2f7e45e0944dda005585791cbc70244f31b9b7af022b2eee05"), looks := true }, kinds := [], alts := [], laidByText := true, laidKinds := [.sentinel], laidTests := true, laidLooks := .later }
def FnOneBitCardSaid : Prop := Claim7.holds Tryz.pinned (.plain (OpenSpec.ofChange fnOneBitSpec)) fnOneBitCard

/-- THE TIED CARD OF 'laws.FnExactReadBytes'. -/
def fnExactReadBytesCard : Claim7 := { stood := { row := fnExactReadBytesRow, standIns := [], harness := (true, "ebd0a5f600383a2f7e45e0944dda005585791cbc70244f31b9b7af022b2eee05"), looks := true }, kinds := [], alts := [], laidByText := true, laidKinds := [.sentinel], laidTests := true, laidLooks := .later }
def FnExactReadBytesCardSaid : Prop := Claim7.holds Tryz.pinned (.plain (OpenSpec.ofChange fnExactReadBytesSpec)) fnExactReadBytesCard

/-- THE SECOND FORM's CARD OF 'laws.FnBytes'. -/
def fnBytesUptoCard : Claim7 := { stood := { row := fnBytesUptoRow, standIns := [], harness := (true, "ebd0a5f600383a2f7e45e0944dda005585791cbc70244f31b9b7af022b2eee05"), looks := true }, kinds := [], alts := [], laidByText := true, laidKinds := [.sentinel], laidTests := true, laidLooks := .later }
def FnBytesUptoCardSaid : Prop := Claim7.holds Tryz.pinned (.plain (OpenSpec.upto fnBytesSpec)) fnBytesUptoCard

/-- THE SECOND FORM's CARD OF 'laws.FnOneBit'. -/
def fnOneBitUptoCard : Claim7 := { stood := { row := fnOneBitUptoRow, standIns := [], harness := (true, "ebd0a5f600383a2f7e45e0944dda005585791cbc70244f31b9b7af022b2eee05"), looks := true }, kinds := [], alts := [], laidByText := true, laidKinds := [.sentinel], laidTests := true, laidLooks := .later }
def FnOneBitUptoCardSaid : Prop := Claim7.holds Tryz.pinned (.plain (OpenSpec.upto fnOneBitSpec)) fnOneBitUptoCard

/-- THE SECOND FORM's CARD OF 'laws.FnExactReadBytes'. -/
def fnExactReadBytesUptoCard : Claim7 := { stood := { row := fnExactReadBytesUptoRow, standIns := [], harness := (true, "ebd0a5f600383a2f7e45e0944dda005585791cbc70244f31b9b7af022b2eee05"), looks := true }, kinds := [], alts := [], laidByText := true, laidKinds := [.sentinel], laidTests := true, laidLooks := .later }
def FnExactReadBytesUptoCardSaid : Prop := Claim7.holds Tryz.pinned (.plain (OpenSpec.upto fnExactReadBytesSpec)) fnExactReadBytesUptoCard
end Rows
end Go.Proofs.YtojhakjkfkmklaaGreatDoor
