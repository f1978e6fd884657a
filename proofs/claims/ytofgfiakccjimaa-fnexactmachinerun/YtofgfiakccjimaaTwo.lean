/- What a binary op gives: the number before it is cut, and the contracts of the model's l1Shift and l1Two. -/
import Derived.Test.YtofgfiakccjimaaRul
namespace Go.Proofs.Ytofgfiakccjimaa
open Go.RowKit

theorem l1shl (a x y : Int) (w : World) (hx : valueB a x = true) (hy : valueB a y = true) : Calls Try.prog 87 #[.int .i64 11, .int .i64 a, .int .i64 x, .int .i64 y] w fun e w' => e = .returned (.int .i64 (shlZ a x y)) ∧ w' = w := by
  have bx := value_bd hx
  have by_ := value_bd hy
  have bw := width_bd hx
  by_cases hc : a ≤ y
  · have es : shlZ a x y = 0 := if_pos hc
    rw [es]; clear es
    go_enter Try.func87, Try.ntmps87
    go_wp2_with fail
    go_ret
    exact ⟨ret_int (by rfl), rfl⟩
  · have es : shlZ a x y = wrap64 (x * 2 ^ y.toNat) := if_neg hc
    rw [es]; clear es
    go_enter Try.func87, Try.ntmps87
    go_wp2_with fail
    go_ret
    exact ⟨ret_int (by rfl), rfl⟩
theorem l1lshr (a x y : Int) (w : World) (hx : valueB a x = true) (hy : valueB a y = true) : Calls Try.prog 87 #[.int .i64 12, .int .i64 a, .int .i64 x, .int .i64 y] w fun e w' => e = .returned (.int .i64 (lshrZ a x y)) ∧ w' = w := by
  have bx := value_bd hx
  have by_ := value_bd hy
  have bw := width_bd hx
  by_cases hc : a ≤ y
  · have es : lshrZ a x y = 0 := if_pos hc
    rw [es]; clear es
    go_enter Try.func87, Try.ntmps87
    go_wp2_with fail
    go_ret
    exact ⟨ret_int (by rfl), rfl⟩
  · have es : lshrZ a x y = x / 2 ^ y.toNat := if_neg hc
    rw [es]; clear es
    go_enter Try.func87, Try.ntmps87
    go_wp2_with fail
    go_ret
    exact ⟨ret_int (by rfl), rfl⟩
theorem l1ashr (a x y : Int) (w : World) (hx : valueB a x = true) (hy : valueB a y = true) : Calls Try.prog 87 #[.int .i64 13, .int .i64 a, .int .i64 x, .int .i64 y] w fun e w' => e = .returned (.int .i64 (sgnZ a x / 2 ^ (shB a y).toNat)) ∧ w' = w := by
  have bx := value_bd hx
  have by_ := value_bd hy
  have bw := width_bd hx
  have sx := sgn_bd hx
  by_cases hc : a ≤ y
  · have es : shB a y = a - 1 := if_pos hc
    rw [es]; clear es
    go_enter Try.func87, Try.ntmps87
    go_wp2_with (go_at_call 77; refine (sgnS _ _ _ (by assumption)).mono ?_; rintro e w' ⟨rfl, rfl⟩)
    go_ret
    exact ⟨ret_int (by first | rfl | rw [show a.toNat - 1 = (a - 1).toNat by omega]), rfl⟩
  · have es : shB a y = y := if_neg hc
    rw [es]; clear es
    go_enter Try.func87, Try.ntmps87
    go_wp2_with (go_at_call 77; refine (sgnS _ _ _ (by assumption)).mono ?_; rintro e w' ⟨rfl, rfl⟩)
    go_ret
    exact ⟨ret_int (by rfl), rfl⟩

theorem addS (a x y : Int) (w : World) (hx : valueB a x = true) (hy : valueB a y = true) : Calls Try.prog 76 #[.int .i64 1, .int .i64 a, .int .i64 x, .int .i64 y] w fun e w' => e = .returned (.int .i64 (x + y)) ∧ w' = w := by
  have bx := value_bd hx
  have by_ := value_bd hy
  go_enter Try.func76, Try.ntmps76
  go_wp2_with (first | (go_at_call 77; refine (sgnS _ _ _ (by assumption)).mono ?_; rintro e w' ⟨rfl, rfl⟩) | (go_at_call 86; refine (bitS _ _).mono ?_; rintro e w' ⟨rfl, rfl⟩))
  go_ret
  exact ⟨ret_int (by rfl), rfl⟩

theorem subS (a x y : Int) (w : World) (hx : valueB a x = true) (hy : valueB a y = true) : Calls Try.prog 76 #[.int .i64 2, .int .i64 a, .int .i64 x, .int .i64 y] w fun e w' => e = .returned (.int .i64 (x - y)) ∧ w' = w := by
  have bx := value_bd hx
  have by_ := value_bd hy
  go_enter Try.func76, Try.ntmps76
  go_wp2_with (first | (go_at_call 77; refine (sgnS _ _ _ (by assumption)).mono ?_; rintro e w' ⟨rfl, rfl⟩) | (go_at_call 86; refine (bitS _ _).mono ?_; rintro e w' ⟨rfl, rfl⟩))
  go_ret
  exact ⟨ret_int (by rfl), rfl⟩

theorem mulS (a x y : Int) (w : World) (hx : valueB a x = true) (hy : valueB a y = true) : Calls Try.prog 76 #[.int .i64 3, .int .i64 a, .int .i64 x, .int .i64 y] w fun e w' => e = .returned (.int .i64 (wrap64 (sgnZ a x * sgnZ a y))) ∧ w' = w := by
  have bx := value_bd hx
  have by_ := value_bd hy
  have sx := sgn_bd hx
  have sy := sgn_bd hy
  go_enter Try.func76, Try.ntmps76
  go_wp2_with (first | (go_at_call 77; refine (sgnS _ _ _ (by assumption)).mono ?_; rintro e w' ⟨rfl, rfl⟩) | (go_at_call 86; refine (bitS _ _).mono ?_; rintro e w' ⟨rfl, rfl⟩))
  go_ret
  exact ⟨ret_int (by rfl), rfl⟩

theorem udivS (a x y : Int) (w : World) (hx : valueB a x = true) (hy : valueB a y = true) (hz : ¬ y = 0) : Calls Try.prog 76 #[.int .i64 4, .int .i64 a, .int .i64 x, .int .i64 y] w fun e w' => e = .returned (.int .i64 (x / y)) ∧ w' = w := by
  have bx := value_bd hx
  have by_ := value_bd hy
  have hp : 1 ≤ y := by omega
  go_enter Try.func76, Try.ntmps76
  go_wp2_with (first | (go_at_call 77; refine (sgnS _ _ _ (by assumption)).mono ?_; rintro e w' ⟨rfl, rfl⟩) | (go_at_call 86; refine (bitS _ _).mono ?_; rintro e w' ⟨rfl, rfl⟩))
  go_ret
  exact ⟨ret_int (by rfl), rfl⟩

theorem sdivS (a x y : Int) (w : World) (hx : valueB a x = true) (hy : valueB a y = true) (hz : ¬ y = 0) : Calls Try.prog 76 #[.int .i64 5, .int .i64 a, .int .i64 x, .int .i64 y] w fun e w' => e = .returned (.int .i64 (wrap64 ((sgnZ a x).tdiv (sgnZ a y)))) ∧ w' = w := by
  have bx := value_bd hx
  have by_ := value_bd hy
  have sx := sgn_bd hx
  have sy := sgn_bd hy
  have sz := sgn_zero hy hz
  go_enter Try.func76, Try.ntmps76
  go_wp2_with (first | (go_at_call 77; refine (sgnS _ _ _ (by assumption)).mono ?_; rintro e w' ⟨rfl, rfl⟩) | (go_at_call 86; refine (bitS _ _).mono ?_; rintro e w' ⟨rfl, rfl⟩))
  go_ret
  exact ⟨ret_int (by rfl), rfl⟩

theorem uremS (a x y : Int) (w : World) (hx : valueB a x = true) (hy : valueB a y = true) (hz : ¬ y = 0) : Calls Try.prog 76 #[.int .i64 6, .int .i64 a, .int .i64 x, .int .i64 y] w fun e w' => e = .returned (.int .i64 (x % y)) ∧ w' = w := by
  have bx := value_bd hx
  have by_ := value_bd hy
  have hp : 1 ≤ y := by omega
  go_enter Try.func76, Try.ntmps76
  go_wp2_with (first | (go_at_call 77; refine (sgnS _ _ _ (by assumption)).mono ?_; rintro e w' ⟨rfl, rfl⟩) | (go_at_call 86; refine (bitS _ _).mono ?_; rintro e w' ⟨rfl, rfl⟩))
  go_ret
  exact ⟨ret_int (by rfl), rfl⟩

theorem sremS (a x y : Int) (w : World) (hx : valueB a x = true) (hy : valueB a y = true) (hz : ¬ y = 0) : Calls Try.prog 76 #[.int .i64 7, .int .i64 a, .int .i64 x, .int .i64 y] w fun e w' => e = .returned (.int .i64 ((sgnZ a x).tmod (sgnZ a y))) ∧ w' = w := by
  have bx := value_bd hx
  have by_ := value_bd hy
  have sx := sgn_bd hx
  have sy := sgn_bd hy
  have sz := sgn_zero hy hz
  go_enter Try.func76, Try.ntmps76
  go_wp2_with (first | (go_at_call 77; refine (sgnS _ _ _ (by assumption)).mono ?_; rintro e w' ⟨rfl, rfl⟩) | (go_at_call 86; refine (bitS _ _).mono ?_; rintro e w' ⟨rfl, rfl⟩))
  go_ret
  exact ⟨ret_int (by rfl), rfl⟩

theorem andS (a x y : Int) (w : World) (hx : valueB a x = true) (hy : valueB a y = true) : Calls Try.prog 76 #[.int .i64 8, .int .i64 a, .int .i64 x, .int .i64 y] w fun e w' => e = .returned (.int .i64 (bits .and .i64 x y)) ∧ w' = w := by
  have bx := value_bd hx
  have by_ := value_bd hy
  go_enter Try.func76, Try.ntmps76
  go_wp2_with (first | (go_at_call 77; refine (sgnS _ _ _ (by assumption)).mono ?_; rintro e w' ⟨rfl, rfl⟩) | (go_at_call 86; refine (bitS _ _).mono ?_; rintro e w' ⟨rfl, rfl⟩))
  go_ret
  exact ⟨ret_int (by rfl), rfl⟩

theorem orS (a x y : Int) (w : World) (hx : valueB a x = true) (hy : valueB a y = true) : Calls Try.prog 76 #[.int .i64 9, .int .i64 a, .int .i64 x, .int .i64 y] w fun e w' => e = .returned (.int .i64 (bits .or .i64 x y)) ∧ w' = w := by
  have bx := value_bd hx
  have by_ := value_bd hy
  go_enter Try.func76, Try.ntmps76
  go_wp2_with (first | (go_at_call 77; refine (sgnS _ _ _ (by assumption)).mono ?_; rintro e w' ⟨rfl, rfl⟩) | (go_at_call 86; refine (bitS _ _).mono ?_; rintro e w' ⟨rfl, rfl⟩))
  go_ret
  exact ⟨ret_int (by rfl), rfl⟩

theorem xorS (a x y : Int) (w : World) (hx : valueB a x = true) (hy : valueB a y = true) : Calls Try.prog 76 #[.int .i64 10, .int .i64 a, .int .i64 x, .int .i64 y] w fun e w' => e = .returned (.int .i64 (bits .xor .i64 x y)) ∧ w' = w := by
  have bx := value_bd hx
  have by_ := value_bd hy
  go_enter Try.func76, Try.ntmps76
  go_wp2_with (first | (go_at_call 77; refine (sgnS _ _ _ (by assumption)).mono ?_; rintro e w' ⟨rfl, rfl⟩) | (go_at_call 86; refine (bitS _ _).mono ?_; rintro e w' ⟨rfl, rfl⟩))
  go_ret
  exact ⟨ret_int (by rfl), rfl⟩

theorem shlS (a x y : Int) (w : World) (hx : valueB a x = true) (hy : valueB a y = true) : Calls Try.prog 76 #[.int .i64 11, .int .i64 a, .int .i64 x, .int .i64 y] w fun e w' => e = .returned (.int .i64 (shlZ a x y)) ∧ w' = w := by
  have bx := value_bd hx
  have by_ := value_bd hy
  go_enter Try.func76, Try.ntmps76
  go_wp2_with (go_at_call 87; refine (l1shl _ _ _ _ (by assumption) (by assumption)).mono ?_; rintro e w' ⟨rfl, rfl⟩)
  go_ret
  exact ⟨ret_int (by rfl), rfl⟩

theorem lshrS (a x y : Int) (w : World) (hx : valueB a x = true) (hy : valueB a y = true) : Calls Try.prog 76 #[.int .i64 12, .int .i64 a, .int .i64 x, .int .i64 y] w fun e w' => e = .returned (.int .i64 (lshrZ a x y)) ∧ w' = w := by
  have bx := value_bd hx
  have by_ := value_bd hy
  go_enter Try.func76, Try.ntmps76
  go_wp2_with (go_at_call 87; refine (l1lshr _ _ _ _ (by assumption) (by assumption)).mono ?_; rintro e w' ⟨rfl, rfl⟩)
  go_ret
  exact ⟨ret_int (by rfl), rfl⟩

theorem ashrS (a x y : Int) (w : World) (hx : valueB a x = true) (hy : valueB a y = true) : Calls Try.prog 76 #[.int .i64 13, .int .i64 a, .int .i64 x, .int .i64 y] w fun e w' => e = .returned (.int .i64 (sgnZ a x / 2 ^ (shB a y).toNat)) ∧ w' = w := by
  have bx := value_bd hx
  have by_ := value_bd hy
  go_enter Try.func76, Try.ntmps76
  go_wp2_with (go_at_call 87; refine (l1ashr _ _ _ _ (by assumption) (by assumption)).mono ?_; rintro e w' ⟨rfl, rfl⟩)
  go_ret
  exact ⟨ret_int (by rfl), rfl⟩

theorem eqS (a x y : Int) (w : World) (hx : valueB a x = true) (hy : valueB a y = true) : Calls Try.prog 76 #[.int .i64 14, .int .i64 a, .int .i64 x, .int .i64 y] w fun e w' => e = .returned (.int .i64 (bitZ (x == y))) ∧ w' = w := by
  have bx := value_bd hx
  have by_ := value_bd hy
  go_enter Try.func76, Try.ntmps76
  go_wp2_with (first | (go_at_call 77; refine (sgnS _ _ _ (by assumption)).mono ?_; rintro e w' ⟨rfl, rfl⟩) | (go_at_call 86; refine (bitS _ _).mono ?_; rintro e w' ⟨rfl, rfl⟩))
  go_ret
  exact ⟨ret_int (by rfl), rfl⟩

theorem neS (a x y : Int) (w : World) (hx : valueB a x = true) (hy : valueB a y = true) : Calls Try.prog 76 #[.int .i64 15, .int .i64 a, .int .i64 x, .int .i64 y] w fun e w' => e = .returned (.int .i64 (bitZ (x != y))) ∧ w' = w := by
  have bx := value_bd hx
  have by_ := value_bd hy
  go_enter Try.func76, Try.ntmps76
  go_wp2_with (first | (go_at_call 77; refine (sgnS _ _ _ (by assumption)).mono ?_; rintro e w' ⟨rfl, rfl⟩) | (go_at_call 86; refine (bitS _ _).mono ?_; rintro e w' ⟨rfl, rfl⟩))
  go_ret
  exact ⟨ret_int (by rfl), rfl⟩

theorem ultS (a x y : Int) (w : World) (hx : valueB a x = true) (hy : valueB a y = true) : Calls Try.prog 76 #[.int .i64 16, .int .i64 a, .int .i64 x, .int .i64 y] w fun e w' => e = .returned (.int .i64 (bitZ (decide (x < y)))) ∧ w' = w := by
  have bx := value_bd hx
  have by_ := value_bd hy
  go_enter Try.func76, Try.ntmps76
  go_wp2_with (first | (go_at_call 77; refine (sgnS _ _ _ (by assumption)).mono ?_; rintro e w' ⟨rfl, rfl⟩) | (go_at_call 86; refine (bitS _ _).mono ?_; rintro e w' ⟨rfl, rfl⟩))
  go_ret
  exact ⟨ret_int (by rfl), rfl⟩

theorem sltS (a x y : Int) (w : World) (hx : valueB a x = true) (hy : valueB a y = true) : Calls Try.prog 76 #[.int .i64 17, .int .i64 a, .int .i64 x, .int .i64 y] w fun e w' => e = .returned (.int .i64 (bitZ (decide (sgnZ a x < sgnZ a y)))) ∧ w' = w := by
  have bx := value_bd hx
  have by_ := value_bd hy
  have sx := sgn_bd hx
  have sy := sgn_bd hy
  go_enter Try.func76, Try.ntmps76
  go_wp2_with (first | (go_at_call 77; refine (sgnS _ _ _ (by assumption)).mono ?_; rintro e w' ⟨rfl, rfl⟩) | (go_at_call 86; refine (bitS _ _).mono ?_; rintro e w' ⟨rfl, rfl⟩))
  go_ret
  exact ⟨ret_int (by rfl), rfl⟩
end Go.Proofs.Ytofgfiakccjimaa
