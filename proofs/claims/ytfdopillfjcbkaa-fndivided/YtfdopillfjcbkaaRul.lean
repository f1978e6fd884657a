/- Contracts of the rules of the binary ops: what each gives of two values of a width, before it is cut. -/
import Derived.Test.YtfdopillfjcbkaaCas
namespace Go.Proofs.Ytfdopillfjcbkaa
open Go.RowKit

def shlZ (a x y : Int) : Int := if a ≤ y then 0 else wrap64 (x * 2 ^ y.toNat)
def lshrZ (a x y : Int) : Int := if a ≤ y then 0 else x / 2 ^ y.toNat
def shB (a y : Int) : Int := if a ≤ y then a - 1 else y
def bitZ (b : Bool) : Int := if b = true then 1 else 0
theorem sgn_bd {a v : Int} (hv : valueB a v = true) : -2147483648 ≤ sgnZ a v ∧ sgnZ a v ≤ 2147483647 := by
  obtain ⟨hw, h0, h1⟩ := value_yes hv
  unfold sgnZ
  rcases width_yes hw with rfl | rfl | rfl | rfl
  all_goals simp only [top1, top8, top16, top32] at h1 ⊢
  all_goals split
  all_goals omega
theorem sgn_zero {a v : Int} (hv : valueB a v = true) (h : ¬ v = 0) : ¬ sgnZ a v = 0 := by
  obtain ⟨hw, h0, h1⟩ := value_yes hv
  unfold sgnZ
  rcases width_yes hw with rfl | rfl | rfl | rfl
  all_goals simp only [top1, top8, top16, top32] at h1 ⊢
  all_goals split
  all_goals omega
theorem value_bd {a v : Int} (hv : valueB a v = true) : 0 ≤ v ∧ v ≤ 4294967295 := by
  obtain ⟨_, h0, h1⟩ := value_yes hv
  have := top_pos a
  omega
theorem width_bd {a v : Int} (hv : valueB a v = true) : 1 ≤ a ∧ a ≤ 32 := by
  obtain ⟨hw, _, _⟩ := value_yes hv
  rcases width_yes hw with rfl | rfl | rfl | rfl
  all_goals omega

theorem sgnI (a v : Int) (w : World) (hv : valueB a v = true) : Calls Try.prog 14 #[.int .i64 a, .int .i64 v] w fun e w' => e = .returned (.int .i64 (sgnZ a v)) ∧ w' = w := by
  have E : signZ a v = sgnZ a v := by rw [signZ, if_pos hv]
  rw [← E]; exact signI a v w

theorem bitS (b : Bool) (w : World) : Calls Try.prog 60 #[.bool b] w fun e w' => e = .returned (.int .i64 (bitZ b)) ∧ w' = w := by
  cases b
  all_goals
    go_enter Try.func60, Try.ntmps60
    go_wp2
    go_ret
    exact ⟨rfl, rfl⟩
theorem bitI (b : Bool) (w : World) : Calls Try.prog 62 #[.bool b] w fun e w' => e = .returned (.int .i64 (bitZ b)) ∧ w' = w := by
  cases b
  all_goals
    go_enter Try.func62, Try.ntmps62
    go_wp2
    go_ret
    exact ⟨rfl, rfl⟩

theorem addI (a x y : Int) (w : World) (hx : valueB a x = true) (hy : valueB a y = true) : Calls Try.prog 43 #[.int .i64 a, .int .i64 x, .int .i64 y] w fun e w' => e = .returned (.int .i64 (x + y)) ∧ w' = w := by
  have bx := value_bd hx
  have by_ := value_bd hy
  have bw := width_bd hx
  go_enter Try.func43, Try.ntmps43
  go_wp2_with (fail)
  go_ret
  exact ⟨ret_int (by rfl), rfl⟩

theorem subI (a x y : Int) (w : World) (hx : valueB a x = true) (hy : valueB a y = true) : Calls Try.prog 44 #[.int .i64 a, .int .i64 x, .int .i64 y] w fun e w' => e = .returned (.int .i64 (x - y)) ∧ w' = w := by
  have bx := value_bd hx
  have by_ := value_bd hy
  have bw := width_bd hx
  go_enter Try.func44, Try.ntmps44
  go_wp2_with (fail)
  go_ret
  exact ⟨ret_int (by rfl), rfl⟩

theorem mulI (a x y : Int) (w : World) (hx : valueB a x = true) (hy : valueB a y = true) : Calls Try.prog 45 #[.int .i64 a, .int .i64 x, .int .i64 y] w fun e w' => e = .returned (.int .i64 (wrap64 (bits BinOp.and IntKind.u64 (IntKind.u64.wrap (x * y)) 4294967295))) ∧ w' = w := by
  have bx := value_bd hx
  have by_ := value_bd hy
  have bw := width_bd hx
  go_enter Try.func45, Try.ntmps45
  go_wp2_with (fail)
  go_ret
  exact ⟨ret_int (by rfl), rfl⟩

theorem udivI (a x y : Int) (w : World) (hx : valueB a x = true) (hy : valueB a y = true) (hz : ¬ y = 0) : Calls Try.prog 46 #[.int .i64 a, .int .i64 x, .int .i64 y] w fun e w' => e = .returned (.int .i64 (x / y)) ∧ w' = w := by
  have bx := value_bd hx
  have by_ := value_bd hy
  have bw := width_bd hx
  have hp : 1 ≤ y := by omega
  go_enter Try.func46, Try.ntmps46
  go_wp2_with (fail)
  go_ret
  exact ⟨ret_int (by rfl), rfl⟩

theorem sdivI (a x y : Int) (w : World) (hx : valueB a x = true) (hy : valueB a y = true) (hz : ¬ y = 0) : Calls Try.prog 47 #[.int .i64 a, .int .i64 x, .int .i64 y] w fun e w' => e = .returned (.int .i64 (wrap64 ((sgnZ a x).tdiv (sgnZ a y)))) ∧ w' = w := by
  have bx := value_bd hx
  have by_ := value_bd hy
  have bw := width_bd hx
  have sx := sgn_bd hx
  have sy := sgn_bd hy
  have sz := sgn_zero hy hz
  go_enter Try.func47, Try.ntmps47
  go_wp2_with (first | (go_at_call 14; refine (sgnI _ _ _ (by assumption)).mono ?_; rintro e w' ⟨rfl, rfl⟩) | (go_at_call 62; refine (bitI _ _).mono ?_; rintro e w' ⟨rfl, rfl⟩))
  go_ret
  exact ⟨ret_int (by rfl), rfl⟩

theorem uremI (a x y : Int) (w : World) (hx : valueB a x = true) (hy : valueB a y = true) (hz : ¬ y = 0) : Calls Try.prog 48 #[.int .i64 a, .int .i64 x, .int .i64 y] w fun e w' => e = .returned (.int .i64 (x % y)) ∧ w' = w := by
  have bx := value_bd hx
  have by_ := value_bd hy
  have bw := width_bd hx
  have hp : 1 ≤ y := by omega
  go_enter Try.func48, Try.ntmps48
  go_wp2_with (fail)
  go_ret
  exact ⟨ret_int (by rfl), rfl⟩

theorem sremI (a x y : Int) (w : World) (hx : valueB a x = true) (hy : valueB a y = true) (hz : ¬ y = 0) : Calls Try.prog 49 #[.int .i64 a, .int .i64 x, .int .i64 y] w fun e w' => e = .returned (.int .i64 ((sgnZ a x).tmod (sgnZ a y))) ∧ w' = w := by
  have bx := value_bd hx
  have by_ := value_bd hy
  have bw := width_bd hx
  have sx := sgn_bd hx
  have sy := sgn_bd hy
  have sz := sgn_zero hy hz
  go_enter Try.func49, Try.ntmps49
  go_wp2_with (first | (go_at_call 14; refine (sgnI _ _ _ (by assumption)).mono ?_; rintro e w' ⟨rfl, rfl⟩) | (go_at_call 62; refine (bitI _ _).mono ?_; rintro e w' ⟨rfl, rfl⟩))
  go_ret
  exact ⟨ret_int (by rfl), rfl⟩

theorem andI (a x y : Int) (w : World) (hx : valueB a x = true) (hy : valueB a y = true) : Calls Try.prog 50 #[.int .i64 a, .int .i64 x, .int .i64 y] w fun e w' => e = .returned (.int .i64 (bits .and .i64 x y)) ∧ w' = w := by
  have bx := value_bd hx
  have by_ := value_bd hy
  have bw := width_bd hx
  go_enter Try.func50, Try.ntmps50
  go_wp2_with (fail)
  go_ret
  exact ⟨ret_int (by rfl), rfl⟩

theorem orI (a x y : Int) (w : World) (hx : valueB a x = true) (hy : valueB a y = true) : Calls Try.prog 51 #[.int .i64 a, .int .i64 x, .int .i64 y] w fun e w' => e = .returned (.int .i64 (bits .or .i64 x y)) ∧ w' = w := by
  have bx := value_bd hx
  have by_ := value_bd hy
  have bw := width_bd hx
  go_enter Try.func51, Try.ntmps51
  go_wp2_with (fail)
  go_ret
  exact ⟨ret_int (by rfl), rfl⟩

theorem xorI (a x y : Int) (w : World) (hx : valueB a x = true) (hy : valueB a y = true) : Calls Try.prog 52 #[.int .i64 a, .int .i64 x, .int .i64 y] w fun e w' => e = .returned (.int .i64 (bits .xor .i64 x y)) ∧ w' = w := by
  have bx := value_bd hx
  have by_ := value_bd hy
  have bw := width_bd hx
  go_enter Try.func52, Try.ntmps52
  go_wp2_with (fail)
  go_ret
  exact ⟨ret_int (by rfl), rfl⟩

theorem shlI (a x y : Int) (w : World) (hx : valueB a x = true) (hy : valueB a y = true) : Calls Try.prog 53 #[.int .i64 a, .int .i64 x, .int .i64 y] w fun e w' => e = .returned (.int .i64 (shlZ a x y)) ∧ w' = w := by
  have bx := value_bd hx
  have by_ := value_bd hy
  have bw := width_bd hx
  by_cases hc : a ≤ y
  · have es : shlZ a x y = 0 := if_pos hc
    rw [es]; clear es
    go_enter Try.func53, Try.ntmps53
    go_wp2_with (fail)
    go_ret
    exact ⟨ret_int (by rfl), rfl⟩
  · have es : shlZ a x y = wrap64 (x * 2 ^ y.toNat) := if_neg hc
    rw [es]; clear es
    go_enter Try.func53, Try.ntmps53
    go_wp2_with (fail)
    go_ret
    exact ⟨ret_int (by rfl), rfl⟩

theorem lshrI (a x y : Int) (w : World) (hx : valueB a x = true) (hy : valueB a y = true) : Calls Try.prog 54 #[.int .i64 a, .int .i64 x, .int .i64 y] w fun e w' => e = .returned (.int .i64 (lshrZ a x y)) ∧ w' = w := by
  have bx := value_bd hx
  have by_ := value_bd hy
  have bw := width_bd hx
  by_cases hc : a ≤ y
  · have es : lshrZ a x y = 0 := if_pos hc
    rw [es]; clear es
    go_enter Try.func54, Try.ntmps54
    go_wp2_with (fail)
    go_ret
    exact ⟨ret_int (by rfl), rfl⟩
  · have es : lshrZ a x y = x / 2 ^ y.toNat := if_neg hc
    rw [es]; clear es
    go_enter Try.func54, Try.ntmps54
    go_wp2_with (fail)
    go_ret
    exact ⟨ret_int (by rfl), rfl⟩

theorem ashrI (a x y : Int) (w : World) (hx : valueB a x = true) (hy : valueB a y = true) : Calls Try.prog 55 #[.int .i64 a, .int .i64 x, .int .i64 y] w fun e w' => e = .returned (.int .i64 (sgnZ a x / 2 ^ (shB a y).toNat)) ∧ w' = w := by
  have bx := value_bd hx
  have by_ := value_bd hy
  have bw := width_bd hx
  have sx := sgn_bd hx
  by_cases hc : a ≤ y
  · have es : shB a y = a - 1 := if_pos hc
    rw [es]; clear es
    go_enter Try.func55, Try.ntmps55
    go_wp2_with (first | (go_at_call 14; refine (sgnI _ _ _ (by assumption)).mono ?_; rintro e w' ⟨rfl, rfl⟩) | (go_at_call 62; refine (bitI _ _).mono ?_; rintro e w' ⟨rfl, rfl⟩))
    go_ret
    exact ⟨ret_int (by first | rfl | rw [show a.toNat - 1 = (a - 1).toNat by omega]), rfl⟩
  · have es : shB a y = y := if_neg hc
    rw [es]; clear es
    go_enter Try.func55, Try.ntmps55
    go_wp2_with (first | (go_at_call 14; refine (sgnI _ _ _ (by assumption)).mono ?_; rintro e w' ⟨rfl, rfl⟩) | (go_at_call 62; refine (bitI _ _).mono ?_; rintro e w' ⟨rfl, rfl⟩))
    go_ret
    exact ⟨ret_int (by first | rfl | rw [show a.toNat - 1 = (a - 1).toNat by omega]), rfl⟩

theorem eqI (a x y : Int) (w : World) (hx : valueB a x = true) (hy : valueB a y = true) : Calls Try.prog 56 #[.int .i64 a, .int .i64 x, .int .i64 y] w fun e w' => e = .returned (.int .i64 (bitZ (x == y))) ∧ w' = w := by
  have bx := value_bd hx
  have by_ := value_bd hy
  have bw := width_bd hx
  go_enter Try.func56, Try.ntmps56
  go_wp2_with (first | (go_at_call 14; refine (sgnI _ _ _ (by assumption)).mono ?_; rintro e w' ⟨rfl, rfl⟩) | (go_at_call 62; refine (bitI _ _).mono ?_; rintro e w' ⟨rfl, rfl⟩))
  go_ret
  exact ⟨ret_int (by rfl), rfl⟩

theorem neI (a x y : Int) (w : World) (hx : valueB a x = true) (hy : valueB a y = true) : Calls Try.prog 57 #[.int .i64 a, .int .i64 x, .int .i64 y] w fun e w' => e = .returned (.int .i64 (bitZ (x != y))) ∧ w' = w := by
  have bx := value_bd hx
  have by_ := value_bd hy
  have bw := width_bd hx
  go_enter Try.func57, Try.ntmps57
  go_wp2_with (first | (go_at_call 14; refine (sgnI _ _ _ (by assumption)).mono ?_; rintro e w' ⟨rfl, rfl⟩) | (go_at_call 62; refine (bitI _ _).mono ?_; rintro e w' ⟨rfl, rfl⟩))
  go_ret
  exact ⟨ret_int (by rfl), rfl⟩

theorem ultI (a x y : Int) (w : World) (hx : valueB a x = true) (hy : valueB a y = true) : Calls Try.prog 58 #[.int .i64 a, .int .i64 x, .int .i64 y] w fun e w' => e = .returned (.int .i64 (bitZ (decide (x < y)))) ∧ w' = w := by
  have bx := value_bd hx
  have by_ := value_bd hy
  have bw := width_bd hx
  go_enter Try.func58, Try.ntmps58
  go_wp2_with (first | (go_at_call 14; refine (sgnI _ _ _ (by assumption)).mono ?_; rintro e w' ⟨rfl, rfl⟩) | (go_at_call 62; refine (bitI _ _).mono ?_; rintro e w' ⟨rfl, rfl⟩))
  go_ret
  exact ⟨ret_int (by rfl), rfl⟩

theorem sltI (a x y : Int) (w : World) (hx : valueB a x = true) (hy : valueB a y = true) : Calls Try.prog 59 #[.int .i64 a, .int .i64 x, .int .i64 y] w fun e w' => e = .returned (.int .i64 (bitZ (decide (sgnZ a x < sgnZ a y)))) ∧ w' = w := by
  have bx := value_bd hx
  have by_ := value_bd hy
  have bw := width_bd hx
  have sx := sgn_bd hx
  have sy := sgn_bd hy
  go_enter Try.func59, Try.ntmps59
  go_wp2_with (first | (go_at_call 14; refine (sgnI _ _ _ (by assumption)).mono ?_; rintro e w' ⟨rfl, rfl⟩) | (go_at_call 62; refine (bitI _ _).mono ?_; rintro e w' ⟨rfl, rfl⟩))
  go_ret
  exact ⟨ret_int (by rfl), rfl⟩
end Go.Proofs.Ytfdopillfjcbkaa
