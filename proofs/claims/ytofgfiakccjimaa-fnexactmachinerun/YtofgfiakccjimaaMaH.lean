/- A machine: what it begins with. -/
import Derived.Test.YtofgfiakccjimaaMaG
import Derived.Test.YtofgfiakccjimaaArr
import Derived.Lib.BufferWrite
import Derived.Laws.Tables
import Derived.Laws.Rows
namespace Go.Proofs.Ytofgfiakccjimaa
open Go.RowKit
set_option linter.unusedVariables false
set_option linter.unusedSimpArgs false

def memF (s : ByteArray) : Nat → Int := fun j => ((s.data.toList.getD j 0).toNat : Int)
theorem memF_rng (s : ByteArray) (j : Nat) : 0 ≤ memF s j ∧ memF s j ≤ 255 := by
  unfold memF
  have := (s.data.toList.getD j 0).toNat_lt
  omega
def worldA (fuel : Int) : Array Value := #[.int .u8 0, .int .u8 0, .int .u8 0, .int .u8 0, .int .u8 0, .int .u8 0, .int .u8 0, .int .u8 0, .int .u8 0, .int .u8 0, .int .u8 0, .int .u8 0, .int .u8 0, .int .u8 0, .int .u8 0, .int .u8 0, .int .u8 0, .int .u8 0, .int .u8 0, .int .u8 0, .int .u8 0, .int .u8 0, .int .u8 0, .int .u8 0, .int .u8 0, .int .u8 0, .int .u8 0, .int .u8 0, .int .u8 0, .int .u8 0, .int .u8 0, .int .u8 0, .slice none 0 0, .int .i64 fuel, .int .i64 0]
theorem info74 : (Try.prog.info? 74).map (·.size) = some 35 := by kernel_rfl
theorem bytes_at (s : ByteArray) (j : Nat) (h : j < s.size) : (Lib.byteCells s.data.toList)[j]? = some (.int .u8 (memF s j)) := by
  have h' : j < s.data.toList.length := by rw [← Lib.size_eq]; exact h
  unfold Lib.byteCells memF
  rw [List.getElem?_map, List.getElem?_eq_getElem h']
  simp only [Option.map_some]
  rw [List.getD, List.getElem?_eq_getElem h']
  rfl
theorem worldA_one (fuel : Int) : (worldA fuel).all (·.oneCell') = true := by rw [← Array.all_toList]; rfl
theorem heap_alloc2_at (w : World) (o p : Obj) : ((w.alloc o).alloc p).heap[w.heap.size]? = some o := (Below.heap_alloc _ _ _ (by simp)).trans (heap_alloc_at _ _)
structure WorldA (cs : Array Value) (s : ByteArray) (fuel : Int) : Prop where
  size : cs.size = 35
  mem : ∀ j, j < 32 → cs[j]? = some (.int .u8 (memF s j))
  out : cs[32]? = some (.slice none 0 0)
  fuel : cs[33]? = some (.int .i64 fuel)
  steps : cs[34]? = some (.int .i64 0)
theorem WorldA.one {cs : Array Value} {s : ByteArray} {fuel : Int} (h : WorldA cs s fuel) : cs.all (·.oneCell') = true := by
  rw [Array.all_eq_true]
  intro i hi
  have hg : cs[i]? = some cs[i] := Array.getElem?_eq_getElem hi
  have hs := h.size
  by_cases c0 : i < 32
  · have e := h.mem i c0; rw [hg] at e; rw [Option.some.inj e]; rfl
  by_cases c1 : i = 32
  · subst c1; have e := h.out; rw [hg] at e; rw [Option.some.inj e]; rfl
  by_cases c2 : i = 33
  · subst c2; have e := h.fuel; rw [hg] at e; rw [Option.some.inj e]; rfl
  have c3 : i = 34 := by omega
  subst c3; have e := h.steps; rw [hg] at e; rw [Option.some.inj e]; rfl
theorem copied (s : ByteArray) (fuel : Int) (hs : s.size = 32) : WorldA ((worldA fuel).toList.take 0 ++ Lib.byteCells s.data.toList ++ (worldA fuel).toList.drop (0 + s.size)).toArray s fuel := by
  have hl : (Lib.byteCells s.data.toList).length = 32 := by rw [Lib.byteCells_length, ← Lib.size_eq, hs]
  have hd : (worldA fuel).toList.drop (0 + s.size) = [.slice none 0 0, .int .i64 fuel, .int .i64 0] := by rw [hs]; rfl
  rw [hd]
  simp only [List.take_zero, List.nil_append]
  refine ⟨by simp [hl], fun j hj => ?_, ?_, ?_, ?_⟩
  · rw [List.getElem?_toArray, List.getElem?_append_left (by omega)]
    exact bytes_at s j (by omega)
  · rw [List.getElem?_toArray, List.getElem?_append_right (by omega), hl]; rfl
  · rw [List.getElem?_toArray, List.getElem?_append_right (by omega), hl]; rfl
  · rw [List.getElem?_toArray, List.getElem?_append_right (by omega), hl]; rfl
set_option maxHeartbeats 2000000 in
set_option maxRecDepth 100000 in
theorem worldI (s : ByteArray) (fuel : Int) (w : World) (hs : s.size = 32) :
    Calls Try.prog 40 #[.string s, .int .i64 fuel] w fun e w' => (∃ cs, e = .returned (.agg cs) ∧ WorldA cs s fuel) ∧ Below w.heap.size w w' := by
  have CP := copied s fuel hs
  have hinf : (Try.prog.info? 5).map (·.size) = some 1 := by kernel_rfl
  have W1 : (((w.alloc (.cells (worldA 0) 74)).alloc (.cells (worldA 0) 74)).setRow (w.heap.size + 1) (worldA fuel)) = (w.alloc (.cells (worldA 0) 74)).alloc (.cells (worldA fuel) 74) := setRow_new2 _ _ _ _ _
  have hcp := Lib.run_copy_row_string (P := Try.prog) ((w.alloc (.cells (worldA 0) 74)).alloc (.cells (worldA fuel) 74)) 67 9 3 5 (w.heap.size + 1) 0 32 32 s (worldA fuel) 74 Try.underlying67 hinf (heap_new2 _ _ _) (by omega) (by rw [hs]; show 0 + 32 ≤ 35; omega)
  generalize ((worldA fuel).toList.take 0 ++ Lib.byteCells s.data.toList ++ (worldA fuel).toList.drop (0 + s.size)).toArray = Y at hcp CP
  rw [setRow_new2] at hcp
  have HC : Hid (WorldA Y s fuel) := CP
  clear CP hinf
  go_enter Try.func40, Try.ntmps40
  go_upto_region 1 with fail
  show Code.wp _ _ _ _ (w.alloc (.cells (worldA 0) 74))
  go_wp2_with (first | (refine wpList_store_row rfl 74 _ _ rfl (w.heap.size + 1) (worldA fuel) rfl rfl 74 (worldA 0) (heap_new2 _ _ _) info74 rfl (worldA_one fuel) ?_; rw [setRow_new2]) | (refine wpList_load_row rfl 74 _ rfl (w.heap.size + 1) rfl 74 Y (0, 0) _ (heap_new2 _ _ _) Try.underlying74 rfl (by rw [info74, HC.out.size]) ?_) | (refine wpList_store_row rfl 74 _ _ rfl w.heap.size Y rfl rfl 74 (worldA 0) (heap_alloc2_at _ _ _) (by rw [info74, HC.out.size]) (by rw [HC.out.size]; rfl) HC.out.one ?_))
  have B2 : Below w.heap.size w ((w.alloc (.cells (worldA 0) 74)).alloc (.cells Y 74)) := ((Below.refl _ _).alloc (Nat.le_refl _) _).alloc (by simp) _
  refine bodyPost_ret (v := .agg Y) (results_cell_row Try.results40 _ _ w.heap.size 74 Y (0, 0) _ rfl (setRow_heap _ _ _ _ _ _ (heap_alloc2_at _ _ _)) Try.underlying74 rfl (by rw [info74, HC.out.size])) rfl ⟨⟨Y, rfl, HC.out⟩, ?_⟩
  exact ⟨B2.os, B2.tape, B2.output, by simp; omega, fun k hk => (setRow_other _ _ _ _ (by omega)).trans (B2.block k hk)⟩
end Go.Proofs.Ytofgfiakccjimaa
