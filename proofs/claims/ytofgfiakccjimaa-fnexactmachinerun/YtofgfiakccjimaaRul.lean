/- Contracts of the rules of the binary ops: what each gives of two values of a width, before it is cut. -/
import Derived.Test.YtofgfiakccjimaaCas
namespace Go.Proofs.Ytofgfiakccjimaa
open Go.RowKit

def shlZ (a x y : Int) : Int := if a ≤ y then 0 else wrap64 (x * 2 ^ y.toNat)
def lshrZ (a x y : Int) : Int := if a ≤ y then 0 else x / 2 ^ y.toNat
def shB (a y : Int) : Int := if a ≤ y then a - 1 else y
def bitZ (b : Bool) : Int := if b = true then 1 else 0
theorem sgn_bd {a v : Int} (hv : valueB a v = true) : -2147483648 ≤ sgnZ a v ∧ sgnZ a v ≤ 2147483647 := by
  obtain ⟨hw, h0, h1⟩ := value_yes hv
  unfold sgnZ
  rcases width_yes hw with rfl | rfl | rfl | rfl
  all_goals simp only [top1, top8, top16, top32] at h1 ⊢
  all_goals split
  all_goals omega
theorem sgn_zero {a v : Int} (hv : valueB a v = true) (h : ¬ v = 0) : ¬ sgnZ a v = 0 := by
  obtain ⟨hw, h0, h1⟩ := value_yes hv
  unfold sgnZ
  rcases width_yes hw with rfl | rfl | rfl | rfl
  all_goals simp only [top1, top8, top16, top32] at h1 ⊢
  all_goals split
  all_goals omega
theorem value_bd {a v : Int} (hv : valueB a v = true) : 0 ≤ v ∧ v ≤ 4294967295 := by
  obtain ⟨_, h0, h1⟩ := value_yes hv
  have := top_pos a
  omega
theorem width_bd {a v : Int} (hv : valueB a v = true) : 1 ≤ a ∧ a ≤ 32 := by
  obtain ⟨hw, _, _⟩ := value_yes hv
  rcases width_yes hw with rfl | rfl | rfl | rfl
  all_goals omega

theorem sgnI (a v : Int) (w : World) (hv : valueB a v = true) : Calls Try.prog 84 #[.int .i64 a, .int .i64 v] w fun e w' => e = .returned (.int .i64 (sgnZ a v)) ∧ w' = w := by
  have E : signZ a v = sgnZ a v := by rw [signZ, if_pos hv]
  rw [← E]; exact signI a v w

theorem bitS (b : Bool) (w : World) : Calls Try.prog 86 #[.bool b] w fun e w' => e = .returned (.int .i64 (bitZ b)) ∧ w' = w := by
  cases b
  all_goals
    go_enter Try.func86, Try.ntmps86
    go_wp2
    go_ret
    exact ⟨rfl, rfl⟩
theorem bitI (b : Bool) (w : World) : Calls Try.prog 108 #[.bool b] w fun e w' => e = .returned (.int .i64 (bitZ b)) ∧ w' = w := by
  cases b
  all_goals
    go_enter Try.func108, Try.ntmps108
    go_wp2
    go_ret
    exact ⟨rfl, rfl⟩

theorem addI (a x y : Int) (w : World) (hx : valueB a x = true) (hy : valueB a y = true) : Calls Try.prog 91 #[.int .i64 a, .int .i64 x, .int .i64 y] w fun e w' => e = .returned (.int .i64 (x + y)) ∧ w' = w := by
  have bx := value_bd hx
  have by_ := value_bd hy
  have bw := width_bd hx
  go_enter Try.func91, Try.ntmps91
  go_wp2_with (fail)
  go_ret
  exact ⟨ret_int (by rfl), rfl⟩

theorem subI (a x y : Int) (w : World) (hx : valueB a x = true) (hy : valueB a y = true) : Calls Try.prog 92 #[.int .i64 a, .int .i64 x, .int .i64 y] w fun e w' => e = .returned (.int .i64 (x - y)) ∧ w' = w := by
  have bx := value_bd hx
  have by_ := value_bd hy
  have bw := width_bd hx
  go_enter Try.func92, Try.ntmps92
  go_wp2_with (fail)
  go_ret
  exact ⟨ret_int (by rfl), rfl⟩

theorem mulI (a x y : Int) (w : World) (hx : valueB a x = true) (hy : valueB a y = true) : Calls Try.prog 93 #[.int .i64 a, .int .i64 x, .int .i64 y] w fun e w' => e = .returned (.int .i64 (wrap64 (bits BinOp.and IntKind.u64 (IntKind.u64.wrap (x * y)) 4294967295))) ∧ w' = w := by
  have bx := value_bd hx
  have by_ := value_bd hy
  have bw := width_bd hx
  go_enter Try.func93, Try.ntmps93
  go_wp2_with (fail)
  go_ret
  exact ⟨ret_int (by rfl), rfl⟩

theorem udivI (a x y : Int) (w : World) (hx : valueB a x = true) (hy : valueB a y = true) (hz : ¬ y = 0) : Calls Try.prog 94 #[.int .i64 a, .int .i64 x, .int .i64 y] w fun e w' => e = .returned (.int .i64 (x / y)) ∧ w' = w := by
  have bx := value_bd hx
  have by_ := value_bd hy
  have bw := width_bd hx
  have hp : 1 ≤ y := by omega
  go_enter Try.func94, Try.ntmps94
  go_wp2_with (fail)
  go_ret
  exact ⟨ret_int (by rfl), rfl⟩

theorem sdivI (a x y : Int) (w : World) (hx : valueB a x = true) (hy : valueB a y = true) (hz : ¬ y = 0) : Calls Try.prog 95 #[.int .i64 a, .int .i64 x, .int .i64 y] w fun e w' => e = .returned (.int .i64 (wrap64 ((sgnZ a x).tdiv (sgnZ a y)))) ∧ w' = w := by
  have bx := value_bd hx
  have by_ := value_bd hy
  have bw := width_bd hx
  have sx := sgn_bd hx
  have sy := sgn_bd hy
  have sz := sgn_zero hy hz
  go_enter Try.func95, Try.ntmps95
  go_wp2_with (first | (go_at_call 84; refine (sgnI _ _ _ (by assumption)).mono ?_; rintro e w' ⟨rfl, rfl⟩) | (go_at_call 108; refine (bitI _ _).mono ?_; rintro e w' ⟨rfl, rfl⟩))
  go_ret
  exact ⟨ret_int (by rfl), rfl⟩

theorem uremI (a x y : Int) (w : World) (hx : valueB a x = true) (hy : valueB a y = true) (hz : ¬ y = 0) : Calls Try.prog 96 #[.int .i64 a, .int .i64 x, .int .i64 y] w fun e w' => e = .returned (.int .i64 (x % y)) ∧ w' = w := by
  have bx := value_bd hx
  have by_ := value_bd hy
  have bw := width_bd hx
  have hp : 1 ≤ y := by omega
  go_enter Try.func96, Try.ntmps96
  go_wp2_with (fail)
  go_ret
  exact ⟨ret_int (by rfl), rfl⟩

theorem sremI (a x y : Int) (w : World) (hx : valueB a x = true) (hy : valueB a y = true) (hz : ¬ y = 0) : Calls Try.prog 97 #[.int .i64 a, .int .i64 x, .int .i64 y] w fun e w' => e = .returned (.int .i64 ((sgnZ a x).tmod (sgnZ a y))) ∧ w' = w := by
  have bx := value_bd hx
  have by_ := value_bd hy
  have bw := width_bd hx
  have sx := sgn_bd hx
  have sy := sgn_bd hy
  have sz := sgn_zero hy hz
  go_enter Try.func97, Try.ntmps97
  go_wp2_with (first | (go_at_call 84; refine (sgnI _ _ _ (by assumption)).mono ?_; rintro e w' ⟨rfl, rfl⟩) | (go_at_call 108; refine (bitI _ _).mono ?_; rintro e w' ⟨rfl, rfl⟩))
  go_ret
  exact ⟨ret_int (by rfl), rfl⟩

theorem andI (a x y : Int) (w : World) (hx : valueB a x = true) (hy : valueB a y = true) : Calls Try.prog 98 #[.int .i64 a, .int .i64 x, .int .i64 y] w fun e w' => e = .returned (.int .i64 (bits .and .i64 x y)) ∧ w' = w := by
  have bx := value_bd hx
  have by_ := value_bd hy
  have bw := width_bd hx
  go_enter Try.func98, Try.ntmps98
  go_wp2_with (fail)
  go_ret
  exact ⟨ret_int (by rfl), rfl⟩

theorem orI (a x y : Int) (w : World) (hx : valueB a x = true) (hy : valueB a y = true) : Calls Try.prog 99 #[.int .i64 a, .int .i64 x, .int .i64 y] w fun e w' => e = .returned (.int .i64 (bits .or .i64 x y)) ∧ w' = w := by
  have bx := value_bd hx
  have by_ := value_bd hy
  have bw := width_bd hx
  go_enter Try.func99, Try.ntmps99
  go_wp2_with (fail)
  go_ret
  exact ⟨ret_int (by rfl), rfl⟩

theorem xorI (a x y : Int) (w : World) (hx : valueB a x = true) (hy : valueB a y = true) : Calls Try.prog 100 #[.int .i64 a, .int .i64 x, .int .i64 y] w fun e w' => e = .returned (.int .i64 (bits .xor .i64 x y)) ∧ w' = w := by
  have bx := value_bd hx
  have by_ := value_bd hy
  have bw := width_bd hx
  go_enter Try.func100, Try.ntmps100
  go_wp2_with (fail)
  go_ret
  exact ⟨ret_int (by rfl), rfl⟩

theorem shlI (a x y : Int) (w : World) (hx : valueB a x = true) (hy : valueB a y = true) : Calls Try.prog 101 #[.int .i64 a, .int .i64 x, .int .i64 y] w fun e w' => e = .returned (.int .i64 (shlZ a x y)) ∧ w' = w := by
  have bx := value_bd hx
  have by_ := value_bd hy
  have bw := width_bd hx
  by_cases hc : a ≤ y
  · have es : shlZ a x y = 0 := if_pos hc
    rw [es]; clear es
    go_enter Try.func101, Try.ntmps101
    go_wp2_with (fail)
    go_ret
    exact ⟨ret_int (by rfl), rfl⟩
  · have es : shlZ a x y = wrap64 (x * 2 ^ y.toNat) := if_neg hc
    rw [es]; clear es
    go_enter Try.func101, Try.ntmps101
    go_wp2_with (fail)
    go_ret
    exact ⟨ret_int (by rfl), rfl⟩

theorem lshrI (a x y : Int) (w : World) (hx : valueB a x = true) (hy : valueB a y = true) : Calls Try.prog 102 #[.int .i64 a, .int .i64 x, .int .i64 y] w fun e w' => e = .returned (.int .i64 (lshrZ a x y)) ∧ w' = w := by
  have bx := value_bd hx
  have by_ := value_bd hy
  have bw := width_bd hx
  by_cases hc : a ≤ y
  · have es : lshrZ a x y = 0 := if_pos hc
    rw [es]; clear es
    go_enter Try.func102, Try.ntmps102
    go_wp2_with (fail)
    go_ret
    exact ⟨ret_int (by rfl), rfl⟩
  · have es : lshrZ a x y = x / 2 ^ y.toNat := if_neg hc
    rw [es]; clear es
    go_enter Try.func102, Try.ntmps102
    go_wp2_with (fail)
    go_ret
    exact ⟨ret_int (by rfl), rfl⟩

theorem ashrI (a x y : Int) (w : World) (hx : valueB a x = true) (hy : valueB a y = true) : Calls Try.prog 103 #[.int .i64 a, .int .i64 x, .int .i64 y] w fun e w' => e = .returned (.int .i64 (sgnZ a x / 2 ^ (shB a y).toNat)) ∧ w' = w := by
  have bx := value_bd hx
  have by_ := value_bd hy
  have bw := width_bd hx
  have sx := sgn_bd hx
  by_cases hc : a ≤ y
  · have es : shB a y = a - 1 := if_pos hc
    rw [es]; clear es
    go_enter Try.func103, Try.ntmps103
    go_wp2_with (first | (go_at_call 84; refine (sgnI _ _ _ (by assumption)).mono ?_; rintro e w' ⟨rfl, rfl⟩) | (go_at_call 108; refine (bitI _ _).mono ?_; rintro e w' ⟨rfl, rfl⟩))
    go_ret
    exact ⟨ret_int (by first | rfl | rw [show a.toNat - 1 = (a - 1).toNat by omega]), rfl⟩
  · have es : shB a y = y := if_neg hc
    rw [es]; clear es
    go_enter Try.func103, Try.ntmps103
    go_wp2_with (first | (go_at_call 84; refine (sgnI _ _ _ (by assumption)).mono ?_; rintro e w' ⟨rfl, rfl⟩) | (go_at_call 108; refine (bitI _ _).mono ?_; rintro e w' ⟨rfl, rfl⟩))
    go_ret
    exact ⟨ret_int (by first | rfl | rw [show a.toNat - 1 = (a - 1).toNat by omega]), rfl⟩

theorem eqI (a x y : Int) (w : World) (hx : valueB a x = true) (hy : valueB a y = true) : Calls Try.prog 104 #[.int .i64 a, .int .i64 x, .int .i64 y] w fun e w' => e = .returned (.int .i64 (bitZ (x == y))) ∧ w' = w := by
  have bx := value_bd hx
  have by_ := value_bd hy
  have bw := width_bd hx
  go_enter Try.func104, Try.ntmps104
  go_wp2_with (first | (go_at_call 84; refine (sgnI _ _ _ (by assumption)).mono ?_; rintro e w' ⟨rfl, rfl⟩) | (go_at_call 108; refine (bitI _ _).mono ?_; rintro e w' ⟨rfl, rfl⟩))
  go_ret
  exact ⟨ret_int (by rfl), rfl⟩

theorem neI (a x y : Int) (w : World) (hx : valueB a x = true) (hy : valueB a y = true) : Calls Try.prog 105 #[.int .i64 a, .int .i64 x, .int .i64 y] w fun e w' => e = .returned (.int .i64 (bitZ (x != y))) ∧ w' = w := by
  have bx := value_bd hx
  have by_ := value_bd hy
  have bw := width_bd hx
  go_enter Try.func105, Try.ntmps105
  go_wp2_with (first | (go_at_call 84; refine (sgnI _ _ _ (by assumption)).mono ?_; rintro e w' ⟨rfl, rfl⟩) | (go_at_call 108; refine (bitI _ _).mono ?_; rintro e w' ⟨rfl, rfl⟩))
  go_ret
  exact ⟨ret_int (by rfl), rfl⟩

theorem ultI (a x y : Int) (w : World) (hx : valueB a x = true) (hy : valueB a y = true) : Calls Try.prog 106 #[.int .i64 a, .int .i64 x, .int .i64 y] w fun e w' => e = .returned (.int .i64 (bitZ (decide (x < y)))) ∧ w' = w := by
  have bx := value_bd hx
  have by_ := value_bd hy
  have bw := width_bd hx
  go_enter Try.func106, Try.ntmps106
  go_wp2_with (first | (go_at_call 84; refine (sgnI _ _ _ (by assumption)).mono ?_; rintro e w' ⟨rfl, rfl⟩) | (go_at_call 108; refine (bitI _ _).mono ?_; rintro e w' ⟨rfl, rfl⟩))
  go_ret
  exact ⟨ret_int (by rfl), rfl⟩

theorem sltI (a x y : Int) (w : World) (hx : valueB a x = true) (hy : valueB a y = true) : Calls Try.prog 107 #[.int .i64 a, .int .i64 x, .int .i64 y] w fun e w' => e = .returned (.int .i64 (bitZ (decide (sgnZ a x < sgnZ a y)))) ∧ w' = w := by
  have bx := value_bd hx
  have by_ := value_bd hy
  have bw := width_bd hx
  have sx := sgn_bd hx
  have sy := sgn_bd hy
  go_enter Try.func107, Try.ntmps107
  go_wp2_with (first | (go_at_call 84; refine (sgnI _ _ _ (by assumption)).mono ?_; rintro e w' ⟨rfl, rfl⟩) | (go_at_call 108; refine (bitI _ _).mono ?_; rintro e w' ⟨rfl, rfl⟩))
  go_ret
  exact ⟨ret_int (by rfl), rfl⟩
end Go.Proofs.Ytofgfiakccjimaa
