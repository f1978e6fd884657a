/- The contracts of the copying functions: what they give holds the same, in new memory. -/
import Derived.Test.YtclagbdomfgodaaGreatDoorSz
namespace Go.Proofs.YtclagbdomfgodaaGreatDoor
open Go.RowKit

theorem heap_alloc_last (w : World) (o : Obj) : (w.alloc o).heap[w.heap.size]? = some o := by
  show (w.heap.push o)[w.heap.size]? = _
  simp
theorem cell_of_heap {w : World} {g o : Nat} {cur : Array Value} {t : TypeId} (h : w.heap[g]? = some (.cells cur t (0, 0))) : w.cell? ⟨g, o, none⟩ = cur[o]? := by
  unfold World.cell?; rw [h]; rfl
theorem froz_of_heap {w : World} {g o : Nat} {cur : Array Value} {t : TypeId} (h : w.heap[g]? = some (.cells cur t (0, 0))) : w.frozen? ⟨g, o, none⟩ = false := by
  unfold World.frozen?; rw [h]; rfl
theorem heap_set {w : World} {g o : Nat} {cur : Array Value} {t : TypeId} {v : Value} (h : w.heap[g]? = some (.cells cur t (0, 0))) : (w.setCell ⟨g, o, none⟩ v).heap[g]? = some (.cells (cur.setIfInBounds o v) t (0, 0)) := by
  show (w.heap.modify g _)[g]? = _
  rw [Array.getElem?_modify, if_pos rfl, h]
  rfl
theorem heap_other {w : World} {g : Nat} {p : Addr} {v : Value} {x : Option Obj} (hp : g ≠ p.block) (h : w.heap[g]? = x) : (w.setCell p v).heap[g]? = x := (Below.heap_setCell w p v g hp).trans h
theorem heap_mid (w : World) (o1 o2 o3 : Obj) : (((w.alloc o1).alloc o2).alloc o3).heap[w.heap.size + 1]? = some o2 := by
  rw [Below.heap_alloc _ _ _ (by simp)]
  have h := heap_alloc_last (w.alloc o1) o2
  have e : (w.alloc o1).heap.size = w.heap.size + 1 := by simp
  rw [e] at h
  exact h
theorem heap_alloc_at (w : World) (o : Obj) : (w.alloc o).heap[w.heap.size]? = some o := by
  show (w.heap.push o)[w.heap.size]? = _
  simp
theorem mk_any {t e : TypeId} {i : TypeInfo} {z : Value} {s by' : Nat} (n : Nat) (ht : Tryz.prog.underlying t = some (.slice e)) (hi : Tryz.prog.info? e = some i) (hz : i.zero = some z) (hs : i.size = s) (hb : i.bytes = by') (hm : by' ≤ 1000) (hn : n ≤ 1048576) (W : World) :
    (Instr.makeSlice t (.int .i64 (n : Int)) (.int .i64 (n : Int))).run Tryz.prog W = .ok (.slice (some ⟨W.heap.size, 0, none⟩) n n) (W.alloc (.cells (madeCells z.cells (n * s)) e)) := by
  subst hs hb
  have h := run_make (P := Tryz.prog) W t e i z ht hi hz .i64 .i64 n n (by omega) (Int.le_refl _) (by
    have : i.bytes * n ≤ 1000 * 1048576 := Nat.mul_le_mul hm hn
    have h2 : ((i.bytes * n : Nat) : Int) ≤ 1048576000 := by omega
    rw [Int.natCast_mul] at h2; omega) (by omega)
  simpa using h
theorem infoI : (Tryz.prog.info? 2).map (fun i => (i.zero, i.size, i.bytes)) = some (some (.int .i64 0), 1, 8) := by kernel_rfl

theorem infoPhi : (Tryz.prog.info? 70).map (fun i => (i.zero, i.size, i.bytes)) = some (some (.agg #[.int .i64 0, .slice none 0 0]), 2, 32) := by kernel_rfl
theorem infoInst : (Tryz.prog.info? 33).map (fun i => (i.zero, i.size, i.bytes)) = some (some (.agg #[.int .i64 0, .int .i64 0, .int .i64 0, .int .i64 0, .int .i64 0, .int .i64 0, .slice none 0 0]), 7, 72) := by kernel_rfl
end Go.Proofs.YtclagbdomfgodaaGreatDoor
