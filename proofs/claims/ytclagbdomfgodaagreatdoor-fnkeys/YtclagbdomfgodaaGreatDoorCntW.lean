/- The walk of the law FnExactCountOf, out of the contracts. -/
import Derived.Test.YtclagbdomfgodaaGreatDoorCnt
namespace Go.Proofs.YtclagbdomfgodaaGreatDoor
open Go.RowKit

/-- The cells of a boxed function, wherever memory from there on stays. -/
theorem box3 {w w' : World} {x y z : Value} {t : TypeId} (h : Below (w.heap.size + 1) (w.alloc (.cells #[x, y, z] t)) w') :
    w'.cell? ⟨w.heap.size, 0, none⟩ = some x ∧ w'.cell? ⟨w.heap.size, 1, none⟩ = some y ∧ w'.cell? ⟨w.heap.size, 2, none⟩ = some z := by
  have hb : w'.heap[w.heap.size]? = some (.cells #[x, y, z] t (0, 0)) := (h.block w.heap.size (by omega)).trans (heap_alloc_last _ _)
  exact ⟨(cell_of_heap hb).trans rfl, (cell_of_heap hb).trans rfl, (cell_of_heap hb).trans rfl⟩
theorem below_box {w w' : World} {o : Obj} (h : Below (w.heap.size + 1) (w.alloc o) w') : Below w.heap.size w w' :=
  ((Below.refl w.heap.size w).alloc (Nat.le_refl _) o).trans (h.mono (by omega))
theorem box_next {w w1 w2 : World} {o : Obj} (h : Below (w.heap.size + 1) (w.alloc o) w1) (k : Below w1.heap.size w1 w2) : Below (w.heap.size + 1) (w.alloc o) w2 :=
  h.trans (k.mono (by have := h.size; simp at this; omega))
theorem box_alloc {w w1 : World} {o p : Obj} (h : Below (w.heap.size + 1) (w.alloc o) w1) : Below (w.heap.size + 1) (w.alloc o) (w1.alloc p) :=
  h.alloc (by have := h.size; simp at this; omega) p
theorem box_first {w w1 : World} {o : Obj} (h : Below (w.alloc o).heap.size (w.alloc o) w1) : Below (w.heap.size + 1) (w.alloc o) w1 := h.mono (by simp)

end Go.Proofs.YtclagbdomfgodaaGreatDoor
