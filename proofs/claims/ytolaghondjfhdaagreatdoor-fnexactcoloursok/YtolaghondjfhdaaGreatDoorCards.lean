/-
  DERIVED. GIVEN WITH THE SEED: THE CARDS: each row of YtolaghondjfhdaaGreatDoorRows.lean that lists a variable, with what it lists TIED to the program's text (the seventh form; the later family's looks); each row that meets fmt, with fmt's text TOLD by the authors' own Lean function (tested against real Go, not proved from fmt's source: count such statements apart). THE CARD IS WHAT COUNTS. Prove the row's statement (the work); the ties are given (YtolaghondjfhdaaGreatDoorTie.lean); close each card by the builder's one call (the guide's Derived/Test/ToyasCard.lean, 'card_holds'). Laid BY PROGRAM, IN A SANDBOX (cutbox-door.mjs). By AI agents, Wed Nov 11 2026. No macro, syntax, notation, axiom, sorry.
-/
import Derived.Test.YtolaghondjfhdaaGreatDoorRows
import GoSem.ClaimSeven
namespace Go.Proofs.YtolaghondjfhdaaGreatDoor
namespace Rows

/-- THE TIED CARD OF 'laws.FnExactLiveIn'. -/
def fnExactLiveInCard : Claim7 := { stood := { row := fnExactLiveInRow, standIns := [], harness := (true, "057ed4bf84cc4efadac6fac59a81360220b030941d60d158bd3d8677118ca085"), looks := true }, kinds := [], alts := [], laidByText := true, laidKinds := [.sentinel], laidTests := true, laidLooks := .later }
def FnExactLiveInCardSaid : Prop := Claim7.holds Tryz.pinned (.plain (OpenSpec.ofChange fnExactLiveInSpec)) fnExactLiveInCard

/-- THE TIED CARD OF 'laws.FnExactLiveOut'. -/
def fnExactLiveOutCard : Claim7 := { stood := { row := fnExactLiveOutRow, standIns := [], harness := (true, "057ed4bf84cc4efadac6fac59a81360220b030941d60d158bd3d8677118ca085"), looks := true }, kinds := [], alts := [], laidByText := true, laidKinds := [.sentinel], laidTests := true, laidLooks := .later }
def FnExactLiveOutCardSaid : Prop := Claim7.holds Tryz.pinned (.plain (OpenSpec.ofChange fnExactLiveOutSpec)) fnExactLiveOutCard

/-- THE TIED CARD OF 'laws.FnExactLiveAfter'. -/
def fnExactLiveAfterCard : Claim7 := { stood := { row := fnExactLiveAfterRow, standIns := [], harness := (true, "057ed4bf84cc4efadac6fac59a81360220b030941d60d158bd3d8677118ca085"), looks := true }, kinds := [], alts := [], laidByText := true, laidKinds := [.sentinel], laidTests := true, laidLooks := .later }
def FnExactLiveAfterCardSaid : Prop := Claim7.holds Tryz.pinned (.plain (OpenSpec.ofChange fnExactLiveAfterSpec)) fnExactLiveAfterCard

/-- THE TIED CARD OF 'laws.FnExactPressure'. -/
def fnExactPressureCard : Claim7 := { stood := { row := fnExactPressureRow, standIns := [], harness := (true, "057ed4bf84cc4efadac6fac59a81360220b030941d60d158bd3d8677118ca085"), looks := true }, kinds := [], alts := [], laidByText := true, laidKinds := [.sentinel], laidTests := true, laidLooks := .later }
def FnExactPressureCardSaid : Prop := Claim7.holds Tryz.pinned (.plain (OpenSpec.ofChange fnExactPressureSpec)) fnExactPressureCard

/-- THE TIED CARD OF 'laws.FnExactMeet'. -/
def fnExactMeetCard : Claim7 := { stood := { row := fnExactMeetRow, standIns := [], harness := (true, "057ed4bf84cc4efadac6fac59a81360220b030941d60d158bd3d8677118ca085"), looks := true }, kinds := [], alts := [], laidByText := true, laidKinds := [.sentinel], laidTests := true, laidLooks := .later }
def FnExactMeetCardSaid : Prop := Claim7.holds Tryz.pinned (.plain (OpenSpec.ofChange fnExactMeetSpec)) fnExactMeetCard

/-- THE TIED CARD OF 'laws.FnExactColoursOk'. -/
def fnExactColoursOkCard : Claim7 := { stood := { row := fnExactColoursOkRow, standIns := [], harness := (true, "057ed4bf84cc4efadac6fac59a81360220b030941d60d158bd3d8677118ca085"), looks := true }, kinds := [], alts := [], laidByText := true, laidKinds := [.sentinel], laidTests := true, laidLooks := .later }
def FnExactColoursOkCardSaid : Prop := Claim7.holds Tryz.pinned (.plain (OpenSpec.ofChange fnExactColoursOkSpec)) fnExactColoursOkCard

/-- THE SECOND FORM's CARD OF 'laws.FnExactLiveIn'. -/
def fnExactLiveInUptoCard : Claim7 := { stood := { row := fnExactLiveInUptoRow, standIns := [], harness := (true, "057ed4bf84cc4efadac6fac59a81360220b030941d60d158bd3d8677118ca085"), looks := true }, kinds := [], alts := [], laidByText := true, laidKinds := [.sentinel], laidTests := true, laidLooks := .later }
def FnExactLiveInUptoCardSaid : Prop := Claim7.holds Tryz.pinned (.plain (OpenSpec.upto fnExactLiveInSpec)) fnExactLiveInUptoCard

/-- THE SECOND FORM's CARD OF 'laws.FnExactLiveOut'. -/
def fnExactLiveOutUptoCard : Claim7 := { stood := { row := fnExactLiveOutUptoRow, standIns := [], harness := (true, "057ed4bf84cc4efadac6fac59a81360220b030941d60d158bd3d8677118ca085"), looks := true }, kinds := [], alts := [], laidByText := true, laidKinds := [.sentinel], laidTests := true, laidLooks := .later }
def FnExactLiveOutUptoCardSaid : Prop := Claim7.holds Tryz.pinned (.plain (OpenSpec.upto fnExactLiveOutSpec)) fnExactLiveOutUptoCard

/-- THE SECOND FORM's CARD OF 'laws.FnExactLiveAfter'. -/
def fnExactLiveAfterUptoCard : Claim7 := { stood := { row := fnExactLiveAfterUptoRow, standIns := [], harness := (true, "057ed4bf84cc4efadac6fac59a81360220b030941d60d158bd3d8677118ca085"), looks := true }, kinds := [], alts := [], laidByText := true, laidKinds := [.sentinel], laidTests := true, laidLooks := .later }
def FnExactLiveAfterUptoCardSaid : Prop := Claim7.holds Tryz.pinned (.plain (OpenSpec.upto fnExactLiveAfterSpec)) fnExactLiveAfterUptoCard

/-- THE SECOND FORM's CARD OF 'laws.FnExactPressure'. -/
def fnExactPressureUptoCard : Claim7 := { stood := { row := fnExactPressureUptoRow, standIns := [], harness := (true, "057ed4bf84cc4efadac6fac59a81360220b030941d60d158bd3d8677118ca085"), looks := true }, kinds := [], alts := [], laidByText := true, laidKinds := [.sentinel], laidTests := true, laidLooks := .later }
def FnExactPressureUptoCardSaid : Prop := Claim7.holds Tryz.pinned (.plain (OpenSpec.upto fnExactPressureSpec)) fnExactPressureUptoCard

/-- THE SECOND FORM's CARD OF 'laws.FnExactMeet'. -/
def fnExactMeetUptoCard : Claim7 := { stood := { row := fnExactMeetUptoRow, standIns := [], harness := (true, "057ed4bf84cc4efadac6fac59a81360220b030941d60d158bd3d8677118ca085"), looks := true }, kinds := [], alts := [], laidByText := true, laidKinds := [.sentinel], laidTests := true, laidLooks := .later }
def FnExactMeetUptoCardSaid : Prop := Claim7.holds Tryz.pinned (.plain (OpenSpec.upto fnExactMeetSpec)) fnExactMeetUptoCard

/-- THE SECOND FORM's CARD OF 'laws.FnExactColoursOk'. -/
def fnExactColoursOkUptoCard : Claim7 := { stood := { row := fnExactColoursOkUptoRow, standIns := [], harness := (true, "057ed4bf84cc4efadac6fac59a81360220b030941d60d158bd3d8677118ca085"), looks := true }, kinds := [], alts := [], laidByText := true, laidKinds := [.sentinel], laidTests := true, laidLooks := .later }
def FnExactColoursOkUptoCardSaid : Prop := Claim7.holds Tryz.pinned (.plain (OpenSpec.upto fnExactColoursOkSpec)) fnExactColoursOkUptoCard
end Rows
end Go.Proofs.YtolaghondjfhdaaGreatDoor
