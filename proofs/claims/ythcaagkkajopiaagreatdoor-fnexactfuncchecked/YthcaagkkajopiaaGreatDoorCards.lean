/-
  DERIVED. GIVEN WITH THE SEED: THE CARDS: each row of YthcaagkkajopiaaGreatDoorRows.lean that lists a variable, with what it lists TIED to the program's text (the seventh form; the later family's looks); each row that meets fmt, with fmt's text TOLD by the authors' own Lean function (tested against real Go, not proved from fmt's source: count such statements apart). THE CARD IS WHAT COUNTS. Prove the row's statement (the work); the ties are given (YthcaagkkajopiaaGreatDoorTie.lean); close each card by the builder's one call (the guide's Derived/Test/ToyasCard.lean, 'card_holds'). Laid BY PROGRAM, IN A SANDBOX (cutbox-door.mjs). By AI agents, Wed Nov 11 2026. No macro, syntax, notation, axiom, sorry.
-/
import Derived.Test.YthcaagkkajopiaaGreatDoorRows
import GoSem.ClaimSeven
namespace Go.Proofs.YthcaagkkajopiaaGreatDoor
namespace Rows

/-- THE TIED CARD OF 'laws.FnExactFuncChecked'. -/
def fnExactFuncCheckedCard : Claim7 := { stood := { row := fnExactFuncCheckedRow, standIns := [], harness := (true, "f55cfc82ce5bf0504c8d93f7184d027c0dcf1125e25381872d396cbff03f4daf"), looks := true }, kinds := [], alts := [], laidByText := true, laidKinds := [.handle, .sentinel, .sentinel, .sentinel, .sentinel, .sentinel, .sentinel], laidTests := true, laidLooks := .later }
def FnExactFuncCheckedCardSaid : Prop := Claim7.holds Tryz.pinned (.plain (OpenSpec.ofChange fnExactFuncCheckedSpec)) fnExactFuncCheckedCard

/-- THE TIED CARD OF 'laws.FnExactChecked'. -/
def fnExactCheckedCard : Claim7 := { stood := { row := fnExactCheckedRow, standIns := [], harness := (true, "f55cfc82ce5bf0504c8d93f7184d027c0dcf1125e25381872d396cbff03f4daf"), looks := true }, kinds := [], alts := [], laidByText := true, laidKinds := [.handle, .sentinel, .sentinel, .sentinel, .sentinel, .sentinel, .sentinel], laidTests := true, laidLooks := .later }
def FnExactCheckedCardSaid : Prop := Claim7.holds Tryz.pinned (.plain (OpenSpec.ofChange fnExactCheckedSpec)) fnExactCheckedCard

/-- THE SECOND FORM's CARD OF 'laws.FnExactFuncChecked'. -/
def fnExactFuncCheckedUptoCard : Claim7 := { stood := { row := fnExactFuncCheckedUptoRow, standIns := [], harness := (true, "f55cfc82ce5bf0504c8d93f7184d027c0dcf1125e25381872d396cbff03f4daf"), looks := true }, kinds := [], alts := [], laidByText := true, laidKinds := [.handle, .sentinel, .sentinel, .sentinel, .sentinel, .sentinel, .sentinel], laidTests := true, laidLooks := .later }
def FnExactFuncCheckedUptoCardSaid : Prop := Claim7.holds Tryz.pinned (.plain (OpenSpec.upto fnExactFuncCheckedSpec)) fnExactFuncCheckedUptoCard

/-- THE SECOND FORM's CARD OF 'laws.FnExactChecked'. -/
def fnExactCheckedUptoCard : Claim7 := { stood := { row := fnExactCheckedUptoRow, standIns := [], harness := (true, "f55cfc82ce5bf0504c8d93f7184d027c0dcf1125e25381872d396cbff03f4daf"), looks := true }, kinds := [], alts := [], laidByText := true, laidKinds := [.handle, .sentinel, .sentinel, .sentinel, .sentinel, .sentinel, .sentinel], laidTests := true, laidLooks := .later }
def FnExactCheckedUptoCardSaid : Prop := Claim7.holds Tryz.pinned (.plain (OpenSpec.upto fnExactCheckedSpec)) fnExactCheckedUptoCard
end Rows
end Go.Proofs.YthcaagkkajopiaaGreatDoor
