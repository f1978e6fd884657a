/- The two boxes that Seen begins with, and what stays of them. -/
import Derived.Test.YtgdehnmhiiodoaaSen
import Derived.Deep.RegionHeld2
namespace Go.Proofs.Ytgdehnmhiiodoaa
open Go.RowKit
/-- The two boxes that Seen begins with: what came in, what will be told. -/
def boxes0 (d : ResD) (u : Option Addr) (c : Nat) (w : World) : World := ((w.alloc (.cells #[.int .i64 d.code, .int .i64 d.value, .slice u d.out.length c, .string d.mem, .int .i64 d.steps] 26)).alloc (.cells #[.int .i64 0, .int .i64 0, .slice none 0 0, .string ⟨#[]⟩, .int .i64 0] 26))
theorem heap_alloc_at1 (w : World) (o p : Obj) : ((w.alloc o).alloc p).heap[w.heap.size + 1]? = some p := by
  have h := heap_alloc_last (w.alloc o) p
  have e : (w.alloc o).heap.size = w.heap.size + 1 := by simp
  rw [e] at h
  exact h
structure Boxed (d : ResD) (u : Option Addr) (c : Nat) (w w1 : World) : Prop where
  a0 : w1.cell? ⟨w.heap.size, 0, none⟩ = some (.int .i64 d.code)
  a1 : w1.cell? ⟨w.heap.size, 1, none⟩ = some (.int .i64 d.value)
  a2 : w1.cell? ⟨w.heap.size, 2, none⟩ = some (.slice u d.out.length c)
  a3 : w1.cell? ⟨w.heap.size, 3, none⟩ = some (.string d.mem)
  last : w1.heap[w.heap.size + 1]? = some (.cells #[.int .i64 0, .int .i64 0, .slice none 0 0, .string ⟨#[]⟩, .int .i64 0] 26 (0, 0))
  below : Below w.heap.size w w1
  size : w.heap.size + 2 ≤ w1.heap.size
theorem boxes_at (d : ResD) (u : Option Addr) (c : Nat) (w : World) : Boxed d u c w (boxes0 d u c w) := by
  unfold boxes0
  have hb := ((Below.heap_alloc _ (.cells #[.int .i64 0, .int .i64 0, .slice none 0 0, .string ⟨#[]⟩, .int .i64 0] 26) _ (by simp)).trans (heap_alloc_last w (.cells #[.int .i64 d.code, .int .i64 d.value, .slice u d.out.length c, .string d.mem, .int .i64 d.steps] 26)))
  exact ⟨(cell_of_heap hb).trans rfl, (cell_of_heap hb).trans rfl, (cell_of_heap hb).trans rfl, (cell_of_heap hb).trans rfl, heap_alloc_at1 _ _ _, ((Below.refl w.heap.size w).alloc (Nat.le_refl _) _).alloc (by simp) _, by simp⟩
theorem Boxed.keep {d : ResD} {u : Option Addr} {c : Nat} {w W w1 : World} (h : Boxed d u c w W) (k : Below W.heap.size W w1) : Boxed d u c w w1 := by
  have hz := h.size
  exact ⟨(cell_block (k.block _ (by omega))).trans h.a0, (cell_block (k.block _ (by omega))).trans h.a1, (cell_block (k.block _ (by omega))).trans h.a2, (cell_block (k.block _ (by omega))).trans h.a3, (k.block _ (by omega)).trans h.last, h.below.trans (k.mono (by omega)), Nat.le_trans hz k.size⟩
/-- The cells of what will be told, for the store. -/
theorem Boxed.told {d : ResD} {u : Option Addr} {c : Nat} {w w1 : World} (h : Boxed d u c w w1) : (w1.cell? ⟨w.heap.size + 1, 0, none⟩ = some (.int .i64 0) ∧ w1.frozen? ⟨w.heap.size + 1, 0, none⟩ = false) ∧ (w1.cell? ⟨w.heap.size + 1, 1, none⟩ = some (.int .i64 0) ∧ w1.frozen? ⟨w.heap.size + 1, 1, none⟩ = false) ∧ (w1.cell? ⟨w.heap.size + 1, 2, none⟩ = some (.slice none 0 0) ∧ w1.frozen? ⟨w.heap.size + 1, 2, none⟩ = false) ∧ (w1.cell? ⟨w.heap.size + 1, 3, none⟩ = some (.string ⟨#[]⟩) ∧ w1.frozen? ⟨w.heap.size + 1, 3, none⟩ = false) ∧ w1.cell? ⟨w.heap.size + 1, 4, none⟩ = some (.int .i64 0) ∧ w1.frozen? ⟨w.heap.size + 1, 4, none⟩ = false :=
  ⟨⟨(cell_of_heap h.last).trans rfl, froz_of_heap h.last⟩, ⟨(cell_of_heap h.last).trans rfl, froz_of_heap h.last⟩, ⟨(cell_of_heap h.last).trans rfl, froz_of_heap h.last⟩, ⟨(cell_of_heap h.last).trans rfl, froz_of_heap h.last⟩, (cell_of_heap h.last).trans rfl, froz_of_heap h.last⟩
theorem ints_drew {w : World} {lo : Nat} {u : Option Addr} {l : List Int} (h : IntsAt w lo u l) : IntsAt w.drew lo u l := h.keep ⟨Nat.le_refl _, fun _ _ _ => rfl⟩
theorem ints_boxes {w : World} {lo : Nat} {d : ResD} {u : Option Addr} {c : Nat} (k : IntsAt w lo u d.out) : IntsAt (boxes0 d u c w) lo u d.out := k.keep ((agree_alloc _ _ _).trans (agree_alloc _ _ _))
theorem below_drew {w w' : World} (h : Below w.drew.heap.size w.drew w') : Below w.heap.size w w' := ⟨h.os, h.tape, h.output, h.size, h.block⟩
theorem cell_far {w : World} {g o h p : Nat} {v : Value} {x : Option Value} (hn : h < g) (hx : w.cell? ⟨h, p, none⟩ = x) : (w.setCell ⟨g, o, none⟩ v).cell? ⟨h, p, none⟩ = x := (cell_block (Below.heap_setCell _ _ _ _ (by show h ≠ g; omega))).trans hx
end Go.Proofs.Ytgdehnmhiiodoaa
