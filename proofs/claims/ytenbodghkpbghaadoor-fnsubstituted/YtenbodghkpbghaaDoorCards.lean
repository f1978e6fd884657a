/-
  DERIVED. GIVEN WITH THE SEED: THE CARDS: each row of YtenbodghkpbghaaDoorRows.lean that lists a variable, with what it lists TIED to the program's text (the seventh form; the later family's looks); each row that meets fmt, with fmt's text TOLD by the authors' own Lean function (tested against real Go, not proved from fmt's source: count such statements apart). THE CARD IS WHAT COUNTS. Prove the row's statement (the work); the ties are given (YtenbodghkpbghaaDoorTie.lean); close each card by the builder's one call (the guide's Derived/Test/ToyasCard.lean, 'card_holds'). Laid BY PROGRAM, IN A SANDBOX (cutbox-door.mjs). By AI agents, Wed Nov 11 2026. No macro, syntax, notation, axiom, sorry.
-/
import Derived.Test.YtenbodghkpbghaaDoorRows
import GoSem.ClaimSeven
namespace Go.Proofs.YtenbodghkpbghaaDoor
namespace Rows

/-- THE TIED CARD OF 'laws.FnSubstituted'. -/
def fnSubstitutedCard : Claim7 := { stood := { row := fnSubstitutedRow, standIns := [], harness := (true, "b8d4bd325c9d1cea839ee4bb293d2b224ba7e41c68941e7826997f3ab995967d"), looks := true }, kinds := [], alts := [], laidByText := true, laidKinds := [.sentinel], laidTests := true, laidLooks := .later }
def FnSubstitutedCardSaid : Prop := Claim7.holds Tryd.pinned (.plain (OpenSpec.ofChange fnSubstitutedSpec)) fnSubstitutedCard

/-- THE TIED CARD OF 'laws.FnExactSubstituted'. -/
def fnExactSubstitutedCard : Claim7 := { stood := { row := fnExactSubstitutedRow, standIns := [], harness := (true, "b8d4bd325c9d1cea839ee4bb293d2b224ba7e41c68941e7826997f3ab995967d"), looks := true }, kinds := [], alts := [], laidByText := true, laidKinds := [.sentinel], laidTests := true, laidLooks := .later }
def FnExactSubstitutedCardSaid : Prop := Claim7.holds Tryd.pinned (.plain (OpenSpec.ofChange fnExactSubstitutedSpec)) fnExactSubstitutedCard

/-- THE SECOND FORM's CARD OF 'laws.FnSubstituted'. -/
def fnSubstitutedUptoCard : Claim7 := { stood := { row := fnSubstitutedUptoRow, standIns := [], harness := (true, "b8d4bd325c9d1cea839ee4bb293d2b224ba7e41c68941e7826997f3ab995967d"), looks := true }, kinds := [], alts := [], laidByText := true, laidKinds := [.sentinel], laidTests := true, laidLooks := .later }
def FnSubstitutedUptoCardSaid : Prop := Claim7.holds Tryd.pinned (.plain (OpenSpec.upto fnSubstitutedSpec)) fnSubstitutedUptoCard

/-- THE SECOND FORM's CARD OF 'laws.FnExactSubstituted'. -/
def fnExactSubstitutedUptoCard : Claim7 := { stood := { row := fnExactSubstitutedUptoRow, standIns := [], harness := (true, "b8d4bd325c9d1cea839ee4bb293d2b224ba7e41c68941e7826997f3ab995967d"), looks := true }, kinds := [], alts := [], laidByText := true, laidKinds := [.sentinel], laidTests := true, laidLooks := .later }
def FnExactSubstitutedUptoCardSaid : Prop := Claim7.holds Tryd.pinned (.plain (OpenSpec.upto fnExactSubstitutedSpec)) fnExactSubstitutedUptoCard
end Rows
end Go.Proofs.YtenbodghkpbghaaDoor
