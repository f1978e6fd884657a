/-
  DERIVED. GIVEN WITH THE SEED: THE CARDS: each row of YtkepaamflhpodaaDoorRows.lean that lists a variable, with what it lists TIED to the program's text (the seventh form; the later family's looks); each row that meets fmt, with fmt's text TOLD by the authors' own Lean function (tested against real Go, not proved from fmt's source: count such statements apart). THE CARD IS WHAT COUNTS. Prove the row's statement (the work); the ties are given (YtkepaamflhpodaaDoorTie.lean); close each card by the builder's one call (the guide's Derived/Test/ToyasCard.lean, 'card_holds'). Laid BY PROGRAM, IN A SANDBOX (cutbox-door.mjs). By AI agents, Wed Nov 11 2026. No macro, syntax, notation, axiom, sorry.
-/
import Derived.Test.YtkepaamflhpodaaDoorRows
import GoSem.ClaimSeven
namespace Go.Proofs.YtkepaamflhpodaaDoor
namespace Rows

/-- THE TIED CARD OF 'laws.FnExactInstText'. -/
def fnExactInstTextCard : Claim7 := { stood := { row := fnExactInstTextRow, standIns := [], harness := (true, "948de3e08cce80c86cb921dea0ed21843bd300483da31b2f76f07077f1c0c73a"), looks := true }, kinds := [], alts := [], laidByText := true, laidKinds := [.data, .data, .data, .data], laidTests := true, laidLooks := .later }
def FnExactInstTextCardSaid : Prop := Claim7.holds Tryd.pinned (.plain (OpenSpec.ofChange fnExactInstTextSpec)) fnExactInstTextCard

/-- THE TIED CARD OF 'laws.FnExactKeyOf'. -/
def fnExactKeyOfCard : Claim7 := { stood := { row := fnExactKeyOfRow, standIns := [], harness := (true, "948de3e08cce80c86cb921dea0ed21843bd300483da31b2f76f07077f1c0c73a"), looks := true }, kinds := [], alts := [], laidByText := true, laidKinds := [.data, .data, .data, .data], laidTests := true, laidLooks := .later }
def FnExactKeyOfCardSaid : Prop := Claim7.holds Tryd.pinned (.plain (OpenSpec.ofChange fnExactKeyOfSpec)) fnExactKeyOfCard

/-- THE SECOND FORM's CARD OF 'laws.FnExactInstText'. -/
def fnExactInstTextUptoCard : Claim7 := { stood := { row := fnExactInstTextUptoRow, standIns := [], harness := (true, "948de3e08cce80c86cb921dea0ed21843bd300483da31b2f76f07077f1c0c73a"), looks := true }, kinds := [], alts := [], laidByText := true, laidKinds := [.data, .data, .data, .data], laidTests := true, laidLooks := .later }
def FnExactInstTextUptoCardSaid : Prop := Claim7.holds Tryd.pinned (.plain (OpenSpec.upto fnExactInstTextSpec)) fnExactInstTextUptoCard

/-- THE SECOND FORM's CARD OF 'laws.FnExactKeyOf'. -/
def fnExactKeyOfUptoCard : Claim7 := { stood := { row := fnExactKeyOfUptoRow, standIns := [], harness := (true, "948de3e08cce80c86cb921dea0ed21843bd300483da31b2f76f07077f1c0c73a"), looks := true }, kinds := [], alts := [], laidByText := true, laidKinds := [.data, .data, .data, .data], laidTests := true, laidLooks := .later }
def FnExactKeyOfUptoCardSaid : Prop := Claim7.holds Tryd.pinned (.plain (OpenSpec.upto fnExactKeyOfSpec)) fnExactKeyOfUptoCard
end Rows
end Go.Proofs.YtkepaamflhpodaaDoor
