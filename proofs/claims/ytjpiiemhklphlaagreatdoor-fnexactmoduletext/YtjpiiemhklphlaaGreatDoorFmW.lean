/- The core of the law FnExactShapeOk. -/
import Derived.Test.YtjpiiemhklphlaaGreatDoorFmI
import Derived.Test.YtjpiiemhklphlaaGreatDoorFmK
import Derived.Test.YtjpiiemhklphlaaGreatDoorToM
import Derived.Test.YtjpiiemhklphlaaGreatDoorEqM
namespace Go.Proofs.YtjpiiemhklphlaaGreatDoor
open Go.RowKit
set_option linter.unusedVariables false

/-- A boxed module. -/
def Box1 (w : World) (B : Nat) (n : Nat) (u : Option Addr) (c : Nat) : Prop := B < w.heap.size ∧ w.cell? ⟨B, 0, none⟩ = some (.slice u n c)
theorem Box1.new (w : World) (n : Nat) (u : Option Addr) (c : Nat) (T : TypeId) : Box1 (w.alloc (.cells #[.slice u n c] T)) w.heap.size n u c :=
  ⟨by simp, (cell_of_heap (heap_alloc_last _ _)).trans rfl⟩
theorem Box1.below {w w' : World} {B n : Nat} {u : Option Addr} {c : Nat} (h : Box1 w B n u c) (k : Below w.heap.size w w') : Box1 w' B n u c := ⟨Nat.lt_of_lt_of_le h.1 k.size, (cell_block (k.block _ h.1)).trans h.2⟩
theorem Box1.alloc {w : World} {B n : Nat} {u : Option Addr} {c : Nat} (h : Box1 w B n u c) (o : Obj) : Box1 (w.alloc o) B n u c := h.below ((Below.refl _ _).alloc (Nat.le_refl _) o)
theorem bel_drew {w w' : World} (h : Below w.drew.heap.size w.drew w') : Below w.heap.size w w' := ⟨h.os, h.tape, h.output, h.size, h.block⟩
end Go.Proofs.YtjpiiemhklphlaaGreatDoor
