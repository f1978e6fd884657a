/- The contracts of the copying functions: what they give holds the same, in new memory. -/
import Derived.Test.YtoekogfbmnjeiaaSz
namespace Go.Proofs.Ytoekogfbmnjeiaa
open Go.RowKit

theorem heap_alloc_last (w : World) (o : Obj) : (w.alloc o).heap[w.heap.size]? = some o := by
  show (w.heap.push o)[w.heap.size]? = _
  simp
theorem cell_of_heap {w : World} {g o : Nat} {cur : Array Value} {t : TypeId} (h : w.heap[g]? = some (.cells cur t (0, 0))) : w.cell? ⟨g, o, none⟩ = cur[o]? := by
  unfold World.cell?; rw [h]; rfl
theorem froz_of_heap {w : World} {g o : Nat} {cur : Array Value} {t : TypeId} (h : w.heap[g]? = some (.cells cur t (0, 0))) : w.frozen? ⟨g, o, none⟩ = false := by
  unfold World.frozen?; rw [h]; rfl
theorem heap_set {w : World} {g o : Nat} {cur : Array Value} {t : TypeId} {v : Value} (h : w.heap[g]? = some (.cells cur t (0, 0))) : (w.setCell ⟨g, o, none⟩ v).heap[g]? = some (.cells (cur.setIfInBounds o v) t (0, 0)) := by
  show (w.heap.modify g _)[g]? = _
  rw [Array.getElem?_modify, if_pos rfl, h]
  rfl
theorem heap_other {w : World} {g : Nat} {p : Addr} {v : Value} {x : Option Obj} (hp : g ≠ p.block) (h : w.heap[g]? = x) : (w.setCell p v).heap[g]? = x := (Below.heap_setCell w p v g hp).trans h
theorem heap_mid (w : World) (o1 o2 o3 : Obj) : (((w.alloc o1).alloc o2).alloc o3).heap[w.heap.size + 1]? = some o2 := by
  rw [Below.heap_alloc _ _ _ (by simp)]
  have h := heap_alloc_last (w.alloc o1) o2
  have e : (w.alloc o1).heap.size = w.heap.size + 1 := by simp
  rw [e] at h
  exact h
theorem heap_alloc_at (w : World) (o : Obj) : (w.alloc o).heap[w.heap.size]? = some o := by
  show (w.heap.push o)[w.heap.size]? = _
  simp
theorem mk_any {t e : TypeId} {i : TypeInfo} {z : Value} {s by' : Nat} (n : Nat) (ht : Try.prog.underlying t = some (.slice e)) (hi : Try.prog.info? e = some i) (hz : i.zero = some z) (hs : i.size = s) (hb : i.bytes = by') (hm : by' ≤ 1000) (hn : n ≤ 1048576) (W : World) :
    (Instr.makeSlice t (.int .i64 (n : Int)) (.int .i64 (n : Int))).run Try.prog W = .ok (.slice (some ⟨W.heap.size, 0, none⟩) n n) (W.alloc (.cells (madeCells z.cells (n * s)) e)) := by
  subst hs hb
  have h := run_make (P := Try.prog) W t e i z ht hi hz .i64 .i64 n n (by omega) (Int.le_refl _) (by
    have : i.bytes * n ≤ 1000 * 1048576 := Nat.mul_le_mul hm hn
    have h2 : ((i.bytes * n : Nat) : Int) ≤ 1048576000 := by omega
    rw [Int.natCast_mul] at h2; omega) (by omega)
  simpa using h
theorem infoI : (Try.prog.info? 2).map (fun i => (i.zero, i.size, i.bytes)) = some (some (.int .i64 0), 1, 8) := by kernel_rfl

set_option maxHeartbeats 1000000 in
theorem toInts_any (lo : Nat) (a : Option Addr) (cap : Nat) (l : List Int) (w : World) (hl : l.length ≤ 1048576) (hv : IntsAt w lo a l) :
    Calls Try.prog 14 #[.slice a l.length cap] w fun e w' => ∃ u c, e = .returned (.slice u l.length c) ∧ IntsAt w' w.heap.size u l ∧ Below w.heap.size w w' := by
  obtain ⟨i0, hi, hz0, hz1, hz2⟩ := info_parts infoI
  have hmk := mk_any (t := 22) l.length Try.underlying22 hi hz0 hz1 hz2 (by omega) hl
  clear hi hz0 hz1 hz2
  have hm := hv.1
  go_enter Try.func14, Try.ntmps14
  go_wp2_with fail
  go_loopw [4] (fun i wr => ∃ (k : Nat) (cur : Array Value), k ≤ l.length ∧ i = .int .i64 k ∧ cur.size = l.length ∧ wr.heap[w.heap.size]? = some (.cells cur 2 (0, 0)) ∧ (∀ j, j < k → cur[j]? = some (.int .i64 (l.getD j 0))) ∧ Below w.heap.size w wr) (fun i _ => l.length - (intOf i).toNat)
  case atStart => exact ⟨0, _, by omega, rfl, by simp [size_madeCells], heap_alloc_at _ _, fun j hj => by omega, (Below.refl _ _).alloc (Nat.le_refl _) _⟩
  case round =>
    obtain ⟨k, cur, hk, rfl, hcs, hblk, hdone, hB⟩ := hrel
    by_cases hlt : k < l.length
    · rcases hv.2 with rfl | ⟨b, off, rfl, hlo, hb, hcell⟩
      · simp at hlt
      have e0 : wr.cell? ⟨b, off + k, none⟩ = some (.int .i64 (l.getD k 0)) := (cell_block (hB.block b hb)).trans (hcell k hlt)
      have e1 : wr.cell? ⟨w.heap.size, k, none⟩ = some (cur[k]'(by omega)) := by rw [cell_of_heap hblk]; simp [hcs, hlt]
      have e2 : wr.frozen? ⟨w.heap.size, k, none⟩ = false := froz_of_heap hblk
      have hdone2 : ∀ j, j < k + 1 → (cur.setIfInBounds k (.int .i64 (l.getD k 0)))[j]? = some (.int .i64 (l.getD j 0)) := fun j hj => by
        by_cases hjk : j = k
        · subst hjk; simp [hcs, hlt]
        · rw [Array.getElem?_setIfInBounds_ne (by omega)]; exact hdone j (by omega)
      have HD : Hid (∀ j, j < k + 1 → (cur.setIfInBounds k (.int .i64 (l.getD k 0)))[j]? = some (.int .i64 (l.getD j 0))) := hdone2
      have HH : Hid ((wr.setCell ⟨w.heap.size, k, none⟩ (.int .i64 (l.getD k 0))).heap[w.heap.size]? = some (.cells (cur.setIfInBounds k (.int .i64 (l.getD k 0))) 2 (0, 0))) := heap_set hblk
      generalize l.getD k 0 = d at e0 HD HH
      clear hmk hdone hdone2 hblk
      go_wp2_with fail
      go_roundw
      case rel => exact ⟨k + 1, _, by omega, by go_num, by simpa using hcs, HH.out, HD.out, hB.setCell (Nat.le_refl _) _⟩
      case measure => simp [intOf]; omega
    · have hke : k = l.length := by omega
      have HH : Hid (wr.heap[w.heap.size]? = some (.cells cur 2 (0, 0))) := hblk
      clear hmk hblk
      go_wp2_with fail
      go_ret
      refine ⟨_, _, rfl, ⟨hm, .inr ⟨w.heap.size, 0, rfl, Nat.le_refl _, ?_, fun i hi => ?_⟩⟩, hB⟩
      · exact (Array.getElem?_eq_some_iff.1 HH.out).1
      · rw [Nat.zero_add, cell_of_heap HH.out]; exact hdone i (by omega)

end Go.Proofs.Ytoekogfbmnjeiaa
