/- A region that draws its order and whose callees make memory of their own: one walk in the order of the text, in a class of worlds. -/
import Derived.Test.YtclagbdomfgodaaGreatDoorRows
import Derived.WalkKit
import Derived.Below
import Derived.Deep.QuietTactic
import Derived.BigQuiet
namespace Go.Proofs.YtclagbdomfgodaaGreatDoor
open Go.RowKit

/-- A world of the class. -/
structure Abv (C : World → Prop) where
  v : World
  ok : C v
theorem wp_region_abv {P : Program} {id : Nat} {Q : Exit → Act → World → Prop} {a : Act} {w : World} {l : List Oper} (C : World → Prop) (hm : P.follows .mixedOrders = true) (hB : Region.lexB .any l.toArray = true) (h0 : C w.drew)
    (h : wpQuiet P l.toArray (fun w' => ∃ x : Abv C, w' = x.v) (fun a' => ∀ w', (∃ x : Abv C, w' = x.v) → Q .normal a' w') l a) : (Code.region id l.toArray true).wp P Q a w :=
  wp_region_quiet (C := fun w' => ∃ x : Abv C, w' = x.v) hm hB ⟨⟨w.drew, h0⟩, rfl⟩ (by simpa using h)
theorem abv_ne {C : World → Prop} {w : World} (h : C w) : Nonempty (Abv C) := ⟨⟨w, h⟩⟩
theorem below_drew {w w' : World} (h : Below w.drew.heap.size w.drew w') : Below w.heap.size w w' := ⟨h.os, h.tape, h.output, h.size, h.block⟩
theorem drew_below {b : Nat} {w w' : World} (h : Below b w w') : Below b w w'.drew := ⟨h.os, h.tape, h.output, h.size, h.block⟩
/-- A callee that makes memory of its own, in the class of what stands above a world. -/
theorem abv_call {P : Program} {f : FuncId} {args : Array Value} {w : World} {v : Value} (x : Abv (fun v => Below w.heap.size w v))
    (h : Calls P f args x.v fun e w' => e = .returned v ∧ Below x.v.heap.size x.v w') : Calls P f args x.v fun e w'' => e = .returned v ∧ ∃ y : Abv (fun v => Below w.heap.size w v), w'' = y.v :=
  h.mono fun _ w' ⟨he, hb⟩ => ⟨he, ⟨w', x.ok.trans (hb.mono x.ok.size)⟩, rfl⟩
end Go.Proofs.YtclagbdomfgodaaGreatDoor
