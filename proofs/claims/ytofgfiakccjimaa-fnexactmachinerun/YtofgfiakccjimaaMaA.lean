/- What a run leaves behind: the contracts of its steps, loads and stores. -/
import Derived.Test.YtofgfiakccjimaaBlw
import Derived.Test.YtofgfiakccjimaaTo1
import Derived.Laws.AppendOwnNone
import Derived.Deep.QuietTactic
import Derived.BigQuiet
import Derived.WalkSmall
namespace Go.Proofs.Ytofgfiakccjimaa
open Go.RowKit
set_option linter.unusedVariables false
set_option linter.unusedSimpArgs false

theorem grown_refl (w : World) (r : Option Nat) : w.grownBy w r := ⟨rfl, rfl, rfl, Nat.le_refl _, fun _ _ _ => rfl⟩
theorem grown_set {w w1 : World} {M : Nat} (h : w.grownBy w1 (some M)) (o : Nat) (v : Value) : w.grownBy (w1.setCell ⟨M, o, none⟩ v) (some M) :=
  ⟨h.os, h.tape, h.output, by have := h.size; simp [World.setCell]; omega, fun k hk hn => (Below.heap_setCell _ _ _ _ (by show k ≠ M; intro e; exact hn (by rw [e]))).trans (h.block k hk hn)⟩
theorem grown_below {w w1 : World} {M : Nat} (h : Below w.heap.size w w1) : w.grownBy w1 (some M) := ⟨h.os, h.tape, h.output, h.size, fun k hk _ => h.block k hk⟩
theorem setI_same {cur : Array Value} {o : Nat} {v : Value} (h : o < cur.size) : (cur.setIfInBounds o v)[o]? = some v := by rw [Array.getElem?_setIfInBounds_self]; simp [h]
theorem setI_other {cur : Array Value} {o j : Nat} {v : Value} (h : o ≠ j) : (cur.setIfInBounds o v)[j]? = cur[j]? := Array.getElem?_setIfInBounds_ne h

set_option maxHeartbeats 1000000 in
theorem stepI_no (M : Nat) (cur : Array Value) (T : TypeId) (fuel : Int) (w : World) (hb : w.heap[M]? = some (.cells cur T (0, 0))) (h3 : cur[33]? = some (.int .i64 fuel)) (h4 : cur[34]? = some (.int .i64 fuel)) :
    Calls Try.prog 66 #[.pointer (some ⟨M, 0, none⟩)] w fun e w' => e = .returned (.int .i64 4) ∧ Below w.heap.size w w' := by
  have y3 := (cell_of_heap (o := 33) hb).trans h3
  have y4 := (cell_of_heap (o := 34) hb).trans h4
  go_enter Try.func66, Try.ntmps66
  go_wp2_with fail
  go_quiet (fail)
  go_wp2_with fail
  go_ret
  exact ⟨rfl, below_drewN (Below.refl _ _) _⟩
set_option maxHeartbeats 1000000 in
theorem stepI_ok (M : Nat) (cur : Array Value) (T : TypeId) (fuel steps : Int) (w : World) (hb : w.heap[M]? = some (.cells cur T (0, 0))) (h3 : cur[33]? = some (.int .i64 fuel)) (h4 : cur[34]? = some (.int .i64 steps)) (hn : ¬ steps = fuel) (s0 : 0 ≤ steps) (s1 : steps ≤ 20000) :
    Calls Try.prog 66 #[.pointer (some ⟨M, 0, none⟩)] w fun e w' => e = .returned (.int .i64 0) ∧ w'.heap[M]? = some (.cells (cur.setIfInBounds 34 (.int .i64 (steps + 1))) T (0, 0)) ∧ w.grownBy w' (some M) := by
  have y3 := (cell_of_heap (o := 33) hb).trans h3
  have y4 := (cell_of_heap (o := 34) hb).trans h4
  have f4 : w.frozen? ⟨M, 34, none⟩ = false := froz_of_heap hb
  go_enter Try.func66, Try.ntmps66
  go_wp2_with fail
  go_quiet (fail)
  go_wp2_with fail
  go_ret
  refine ⟨rfl, heap_set ?_, grown_set (grown_below (below_drewN (Below.refl _ _) _)) _ _⟩
  exact ((below_drewN (Below.refl (M + 1) w) nq).block M (by omega)).trans hb
theorem loadI_no (M : Nat) (a : Int) (w : World) (h : 32 ≤ a) : Calls Try.prog 88 #[.pointer (some ⟨M, 0, none⟩), .int .i64 a] w fun e w' => e = .returned (.tuple #[.int .i64 0, .int .i64 2]) ∧ w' = w := by
  go_enter Try.func88, Try.ntmps88
  go_wp2_with fail
  go_ret2
  exact ⟨rfl, rfl⟩
theorem loadI_ok (M : Nat) (cur : Array Value) (T : TypeId) (a : Nat) (x : Int) (w : World) (hb : w.heap[M]? = some (.cells cur T (0, 0))) (h : a < 32) (hx : cur[a]? = some (.int .u8 x)) (x0 : 0 ≤ x) (x1 : x ≤ 255) :
    Calls Try.prog 88 #[.pointer (some ⟨M, 0, none⟩), .int .i64 a] w fun e w' => e = .returned (.tuple #[.int .i64 x, .int .i64 0]) ∧ w' = w := by
  have y := (cell_of_heap (o := a) hb).trans hx
  have h' : ¬ (32 : Int) ≤ a := by omega
  have h2 : (a : Int) < 32 := by omega
  go_enter Try.func88, Try.ntmps88
  go_wp2_with fail
  go_ret2
  exact ⟨rfl, rfl⟩
theorem storeI_no (M : Nat) (a v : Int) (w : World) (h : 32 ≤ a) : Calls Try.prog 80 #[.pointer (some ⟨M, 0, none⟩), .int .i64 a, .int .i64 v] w fun e w' => e = .returned (.int .i64 2) ∧ w' = w := by
  go_enter Try.func80, Try.ntmps80
  go_wp2_with fail
  go_ret
  exact ⟨rfl, rfl⟩
theorem storeI_ok (M : Nat) (cur : Array Value) (T : TypeId) (a : Nat) (x v : Int) (w : World) (hb : w.heap[M]? = some (.cells cur T (0, 0))) (h : a < 32) (hx : cur[a]? = some (.int .u8 x)) :
    Calls Try.prog 80 #[.pointer (some ⟨M, 0, none⟩), .int .i64 a, .int .i64 v] w fun e w' => e = .returned (.int .i64 0) ∧ w'.heap[M]? = some (.cells (cur.setIfInBounds a (.int .u8 (v % 256))) T (0, 0)) ∧ w.grownBy w' (some M) := by
  have y := (cell_of_heap (o := a) hb).trans hx
  have f : w.frozen? ⟨M, a, none⟩ = false := froz_of_heap hb
  have h' : ¬ (32 : Int) ≤ a := by omega
  have h2 : (a : Int) < 32 := by omega
  go_enter Try.func80, Try.ntmps80
  go_wp2_with fail
  go_ret
  exact ⟨rfl, heap_set hb, grown_set (grown_refl _ _) _ _⟩
end Go.Proofs.Ytofgfiakccjimaa
