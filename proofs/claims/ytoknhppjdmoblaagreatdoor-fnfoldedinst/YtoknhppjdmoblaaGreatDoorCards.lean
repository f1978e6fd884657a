/-
  DERIVED. GIVEN WITH THE SEED: THE CARDS: each row of YtoknhppjdmoblaaGreatDoorRows.lean that lists a variable, with what it lists TIED to the program's text (the seventh form; the later family's looks); each row that meets fmt, with fmt's text TOLD by the authors' own Lean function (tested against real Go, not proved from fmt's source: count such statements apart). THE CARD IS WHAT COUNTS. Prove the row's statement (the work); the ties are given (YtoknhppjdmoblaaGreatDoorTie.lean); close each card by the builder's one call (the guide's Derived/Test/ToyasCard.lean, 'card_holds'). Laid BY PROGRAM, IN A SANDBOX (cutbox-door.mjs). By AI agents, Wed Nov 11 2026. No macro, syntax, notation, axiom, sorry.
-/
import Derived.Test.YtoknhppjdmoblaaGreatDoorRows
import GoSem.ClaimSeven
namespace Go.Proofs.YtoknhppjdmoblaaGreatDoor
namespace Rows

/-- THE TIED CARD OF 'laws.FnFoldedInst'. -/
def fnFoldedInstCard : Claim7 := { stood := { row := fnFoldedInstRow, standIns := [], harness := (true, "26f4cef2a4ddac88d0e58066df2af07afb9786ce595fb2fe98f7b7dd63813369"), looks := true }, kinds := [], alts := [], laidByText := true, laidKinds := [.sentinel], laidTests := true, laidLooks := .later }
def FnFoldedInstCardSaid : Prop := Claim7.holds Tryz.pinned (.plain (OpenSpec.ofChange fnFoldedInstSpec)) fnFoldedInstCard

/-- THE TIED CARD OF 'laws.FnExactFoldedInst'. -/
def fnExactFoldedInstCard : Claim7 := { stood := { row := fnExactFoldedInstRow, standIns := [], harness := (true, "26f4cef2a4ddac88d0e58066df2af07afb9786ce595fb2fe98f7b7dd63813369"), looks := true }, kinds := [], alts := [], laidByText := true, laidKinds := [.sentinel], laidTests := true, laidLooks := .later }
def FnExactFoldedInstCardSaid : Prop := Claim7.holds Tryz.pinned (.plain (OpenSpec.ofChange fnExactFoldedInstSpec)) fnExactFoldedInstCard

/-- THE SECOND FORM's CARD OF 'laws.FnFoldedInst'. -/
def fnFoldedInstUptoCard : Claim7 := { stood := { row := fnFoldedInstUptoRow, standIns := [], harness := (true, "26f4cef2a4ddac88d0e58066df2af07afb9786ce595fb2fe98f7b7dd63813369"), looks := true }, kinds := [], alts := [], laidByText := true, laidKinds := [.sentinel], laidTests := true, laidLooks := .later }
def FnFoldedInstUptoCardSaid : Prop := Claim7.holds Tryz.pinned (.plain (OpenSpec.upto fnFoldedInstSpec)) fnFoldedInstUptoCard

/-- THE SECOND FORM's CARD OF 'laws.FnExactFoldedInst'. -/
def fnExactFoldedInstUptoCard : Claim7 := { stood := { row := fnExactFoldedInstUptoRow, standIns := [], harness := (true, "26f4cef2a4ddac88d0e58066df2af07afb9786ce595fb2fe98f7b7dd63813369"), looks := true }, kinds := [], alts := [], laidByText := true, laidKinds := [.sentinel], laidTests := true, laidLooks := .later }
def FnExactFoldedInstUptoCardSaid : Prop := Claim7.holds Tryz.pinned (.plain (OpenSpec.upto fnExactFoldedInstSpec)) fnExactFoldedInstUptoCard
end Rows
end Go.Proofs.YtoknhppjdmoblaaGreatDoor
