/- Contracts of the rules of the binary ops: what each gives of two values of a width, before it is cut. -/
import Derived.Test.YtoknhppjdmoblaaGreatDoorCntQ
namespace Go.Proofs.YtoknhppjdmoblaaGreatDoor
open Go.RowKit

def shlZ (a x y : Int) : Int := if a ≤ y then 0 else wrap64 (x * 2 ^ y.toNat)
def lshrZ (a x y : Int) : Int := if a ≤ y then 0 else x / 2 ^ y.toNat
def shB (a y : Int) : Int := if a ≤ y then a - 1 else y
def bitZ (b : Bool) : Int := if b = true then 1 else 0
theorem sgn_bd {a v : Int} (hv : valueB a v = true) : -2147483648 ≤ sgnZ a v ∧ sgnZ a v ≤ 2147483647 := by
  obtain ⟨hw, h0, h1⟩ := value_yes hv
  unfold sgnZ
  rcases width_yes hw with rfl | rfl | rfl | rfl
  all_goals simp only [top1, top8, top16, top32] at h1 ⊢
  all_goals split
  all_goals omega
theorem sgn_zero {a v : Int} (hv : valueB a v = true) (h : ¬ v = 0) : ¬ sgnZ a v = 0 := by
  obtain ⟨hw, h0, h1⟩ := value_yes hv
  unfold sgnZ
  rcases width_yes hw with rfl | rfl | rfl | rfl
  all_goals simp only [top1, top8, top16, top32] at h1 ⊢
  all_goals split
  all_goals omega
theorem value_bd {a v : Int} (hv : valueB a v = true) : 0 ≤ v ∧ v ≤ 4294967295 := by
  obtain ⟨_, h0, h1⟩ := value_yes hv
  have := top_pos a
  omega
theorem width_bd {a v : Int} (hv : valueB a v = true) : 1 ≤ a ∧ a ≤ 32 := by
  obtain ⟨hw, _, _⟩ := value_yes hv
  rcases width_yes hw with rfl | rfl | rfl | rfl
  all_goals omega

theorem sgnI (a v : Int) (w : World) (hv : valueB a v = true) : Calls Tryz.prog 135 #[.int .i64 a, .int .i64 v] w fun e w' => e = .returned (.int .i64 (sgnZ a v)) ∧ w' = w := by
  have E : signZ a v = sgnZ a v := by rw [signZ, if_pos hv]
  rw [← E]; exact signI a v w

theorem bitS (b : Bool) (w : World) : Calls Tryz.prog 139 #[.bool b] w fun e w' => e = .returned (.int .i64 (bitZ b)) ∧ w' = w := by
  cases b
  all_goals
    go_enter Tryz.func139, Tryz.ntmps139
    go_wp2
    go_ret
    exact ⟨rfl, rfl⟩
theorem bitI (b : Bool) (w : World) : Calls Tryz.prog 162 #[.bool b] w fun e w' => e = .returned (.int .i64 (bitZ b)) ∧ w' = w := by
  cases b
  all_goals
    go_enter Tryz.func162, Tryz.ntmps162
    go_wp2
    go_ret
    exact ⟨rfl, rfl⟩

theorem addI (a x y : Int) (w : World) (hx : valueB a x = true) (hy : valueB a y = true) : Calls Tryz.prog 144 #[.int .i64 a, .int .i64 x, .int .i64 y] w fun e w' => e = .returned (.int .i64 (x + y)) ∧ w' = w := by
  have bx := value_bd hx
  have by_ := value_bd hy
  have bw := width_bd hx
  go_enter Tryz.func144, Tryz.ntmps144
  go_wp2_with (fail)
  go_ret
  exact ⟨ret_int (by rfl), rfl⟩

theorem subI (a x y : Int) (w : World) (hx : valueB a x = true) (hy : valueB a y = true) : Calls Tryz.prog 145 #[.int .i64 a, .int .i64 x, .int .i64 y] w fun e w' => e = .returned (.int .i64 (x - y)) ∧ w' = w := by
  have bx := value_bd hx
  have by_ := value_bd hy
  have bw := width_bd hx
  go_enter Tryz.func145, Tryz.ntmps145
  go_wp2_with (fail)
  go_ret
  exact ⟨ret_int (by rfl), rfl⟩

theorem mulI (a x y : Int) (w : World) (hx : valueB a x = true) (hy : valueB a y = true) : Calls Tryz.prog 146 #[.int .i64 a, .int .i64 x, .int .i64 y] w fun e w' => e = .returned (.int .i64 (wrap64 (bits BinOp.and IntKind.u64 (IntKind.u64.wrap (x * y)) 4294967295))) ∧ w' = w := by
  have bx := value_bd hx
  have by_ := value_bd hy
  have bw := width_bd hx
  go_enter Tryz.func146, Tryz.ntmps146
  go_wp2_with (fail)
  go_ret
  exact ⟨ret_int (by rfl), rfl⟩

theorem udivI (a x y : Int) (w : World) (hx : valueB a x = true) (hy : valueB a y = true) (hz : ¬ y = 0) : Calls Tryz.prog 147 #[.int .i64 a, .int .i64 x, .int .i64 y] w fun e w' => e = .returned (.int .i64 (x / y)) ∧ w' = w := by
  have bx := value_bd hx
  have by_ := value_bd hy
  have bw := width_bd hx
  have hp : 1 ≤ y := by omega
  go_enter Tryz.func147, Tryz.ntmps147
  go_wp2_with (fail)
  go_ret
  exact ⟨ret_int (by rfl), rfl⟩

theorem sdivI (a x y : Int) (w : World) (hx : valueB a x = true) (hy : valueB a y = true) (hz : ¬ y = 0) : Calls Tryz.prog 148 #[.int .i64 a, .int .i64 x, .int .i64 y] w fun e w' => e = .returned (.int .i64 (wrap64 ((sgnZ a x).tdiv (sgnZ a y)))) ∧ w' = w := by
  have bx := value_bd hx
  have by_ := value_bd hy
  have bw := width_bd hx
  have sx := sgn_bd hx
  have sy := sgn_bd hy
  have sz := sgn_zero hy hz
  go_enter Tryz.func148, Tryz.ntmps148
  go_wp2_with (first | (go_at_call 135; refine (sgnI _ _ _ (by assumption)).mono ?_; rintro e w' ⟨rfl, rfl⟩) | (go_at_call 162; refine (bitI _ _).mono ?_; rintro e w' ⟨rfl, rfl⟩))
  go_ret
  exact ⟨ret_int (by rfl), rfl⟩

theorem uremI (a x y : Int) (w : World) (hx : valueB a x = true) (hy : valueB a y = true) (hz : ¬ y = 0) : Calls Tryz.prog 149 #[.int .i64 a, .int .i64 x, .int .i64 y] w fun e w' => e = .returned (.int .i64 (x % y)) ∧ w' = w := by
  have bx := value_bd hx
  have by_ := value_bd hy
  have bw := width_bd hx
  have hp : 1 ≤ y := by omega
  go_enter Tryz.func149, Tryz.ntmps149
  go_wp2_with (fail)
  go_ret
  exact ⟨ret_int (by rfl), rfl⟩

theorem sremI (a x y : Int) (w : World) (hx : valueB a x = true) (hy : valueB a y = true) (hz : ¬ y = 0) : Calls Tryz.prog 150 #[.int .i64 a, .int .i64 x, .int .i64 y] w fun e w' => e = .returned (.int .i64 ((sgnZ a x).tmod (sgnZ a y))) ∧ w' = w := by
  have bx := value_bd hx
  have by_ := value_bd hy
  have bw := width_bd hx
  have sx := sgn_bd hx
  have sy := sgn_bd hy
  have sz := sgn_zero hy hz
  go_enter Tryz.func150, Tryz.ntmps150
  go_wp2_with (first | (go_at_call 135; refine (sgnI _ _ _ (by assumption)).mono ?_; rintro e w' ⟨rfl, rfl⟩) | (go_at_call 162; refine (bitI _ _).mono ?_; rintro e w' ⟨rfl, rfl⟩))
  go_ret
  exact ⟨ret_int (by rfl), rfl⟩

theorem andI (a x y : Int) (w : World) (hx : valueB a x = true) (hy : valueB a y = true) : Calls Tryz.prog 151 #[.int .i64 a, .int .i64 x, .int .i64 y] w fun e w' => e = .returned (.int .i64 (bits .and .i64 x y)) ∧ w' = w := by
  have bx := value_bd hx
  have by_ := value_bd hy
  have bw := width_bd hx
  go_enter Tryz.func151, Tryz.ntmps151
  go_wp2_with (fail)
  go_ret
  exact ⟨ret_int (by rfl), rfl⟩

theorem orI (a x y : Int) (w : World) (hx : valueB a x = true) (hy : valueB a y = true) : Calls Tryz.prog 152 #[.int .i64 a, .int .i64 x, .int .i64 y] w fun e w' => e = .returned (.int .i64 (bits .or .i64 x y)) ∧ w' = w := by
  have bx := value_bd hx
  have by_ := value_bd hy
  have bw := width_bd hx
  go_enter Tryz.func152, Tryz.ntmps152
  go_wp2_with (fail)
  go_ret
  exact ⟨ret_int (by rfl), rfl⟩

theorem xorI (a x y : Int) (w : World) (hx : valueB a x = true) (hy : valueB a y = true) : Calls Tryz.prog 153 #[.int .i64 a, .int .i64 x, .int .i64 y] w fun e w' => e = .returned (.int .i64 (bits .xor .i64 x y)) ∧ w' = w := by
  have bx := value_bd hx
  have by_ := value_bd hy
  have bw := width_bd hx
  go_enter Tryz.func153, Tryz.ntmps153
  go_wp2_with (fail)
  go_ret
  exact ⟨ret_int (by rfl), rfl⟩

theorem shlI (a x y : Int) (w : World) (hx : valueB a x = true) (hy : valueB a y = true) : Calls Tryz.prog 154 #[.int .i64 a, .int .i64 x, .int .i64 y] w fun e w' => e = .returned (.int .i64 (shlZ a x y)) ∧ w' = w := by
  have bx := value_bd hx
  have by_ := value_bd hy
  have bw := width_bd hx
  by_cases hc : a ≤ y
  · have es : shlZ a x y = 0 := if_pos hc
    rw [es]; clear es
    go_enter Tryz.func154, Tryz.ntmps154
    go_wp2_with (fail)
    go_ret
    exact ⟨ret_int (by rfl), rfl⟩
  · have es : shlZ a x y = wrap64 (x * 2 ^ y.toNat) := if_neg hc
    rw [es]; clear es
    go_enter Tryz.func154, Tryz.ntmps154
    go_wp2_with (fail)
    go_ret
    exact ⟨ret_int (by rfl), rfl⟩

theorem lshrI (a x y : Int) (w : World) (hx : valueB a x = true) (hy : valueB a y = true) : Calls Tryz.prog 155 #[.int .i64 a, .int .i64 x, .int .i64 y] w fun e w' => e = .returned (.int .i64 (lshrZ a x y)) ∧ w' = w := by
  have bx := value_bd hx
  have by_ := value_bd hy
  have bw := width_bd hx
  by_cases hc : a ≤ y
  · have es : lshrZ a x y = 0 := if_pos hc
    rw [es]; clear es
    go_enter Tryz.func155, Tryz.ntmps155
    go_wp2_with (fail)
    go_ret
    exact ⟨ret_int (by rfl), rfl⟩
  · have es : lshrZ a x y = x / 2 ^ y.toNat := if_neg hc
    rw [es]; clear es
    go_enter Tryz.func155, Tryz.ntmps155
    go_wp2_with (fail)
    go_ret
    exact ⟨ret_int (by rfl), rfl⟩

theorem ashrI (a x y : Int) (w : World) (hx : valueB a x = true) (hy : valueB a y = true) : Calls Tryz.prog 156 #[.int .i64 a, .int .i64 x, .int .i64 y] w fun e w' => e = .returned (.int .i64 (sgnZ a x / 2 ^ (shB a y).toNat)) ∧ w' = w := by
  have bx := value_bd hx
  have by_ := value_bd hy
  have bw := width_bd hx
  have sx := sgn_bd hx
  by_cases hc : a ≤ y
  · have es : shB a y = a - 1 := if_pos hc
    rw [es]; clear es
    go_enter Tryz.func156, Tryz.ntmps156
    go_wp2_with (first | (go_at_call 135; refine (sgnI _ _ _ (by assumption)).mono ?_; rintro e w' ⟨rfl, rfl⟩) | (go_at_call 162; refine (bitI _ _).mono ?_; rintro e w' ⟨rfl, rfl⟩))
    go_ret
    exact ⟨ret_int (by first | rfl | rw [show a.toNat - 1 = (a - 1).toNat by omega]), rfl⟩
  · have es : shB a y = y := if_neg hc
    rw [es]; clear es
    go_enter Tryz.func156, Tryz.ntmps156
    go_wp2_with (first | (go_at_call 135; refine (sgnI _ _ _ (by assumption)).mono ?_; rintro e w' ⟨rfl, rfl⟩) | (go_at_call 162; refine (bitI _ _).mono ?_; rintro e w' ⟨rfl, rfl⟩))
    go_ret
    exact ⟨ret_int (by first | rfl | rw [show a.toNat - 1 = (a - 1).toNat by omega]), rfl⟩

theorem eqI (a x y : Int) (w : World) (hx : valueB a x = true) (hy : valueB a y = true) : Calls Tryz.prog 157 #[.int .i64 a, .int .i64 x, .int .i64 y] w fun e w' => e = .returned (.int .i64 (bitZ (x == y))) ∧ w' = w := by
  have bx := value_bd hx
  have by_ := value_bd hy
  have bw := width_bd hx
  go_enter Tryz.func157, Tryz.ntmps157
  go_wp2_with (first | (go_at_call 135; refine (sgnI _ _ _ (by assumption)).mono ?_; rintro e w' ⟨rfl, rfl⟩) | (go_at_call 162; refine (bitI _ _).mono ?_; rintro e w' ⟨rfl, rfl⟩))
  go_ret
  exact ⟨ret_int (by rfl), rfl⟩

theorem neI (a x y : Int) (w : World) (hx : valueB a x = true) (hy : valueB a y = true) : Calls Tryz.prog 158 #[.int .i64 a, .int .i64 x, .int .i64 y] w fun e w' => e = .returned (.int .i64 (bitZ (x != y))) ∧ w' = w := by
  have bx := value_bd hx
  have by_ := value_bd hy
  have bw := width_bd hx
  go_enter Tryz.func158, Tryz.ntmps158
  go_wp2_with (first | (go_at_call 135; refine (sgnI _ _ _ (by assumption)).mono ?_; rintro e w' ⟨rfl, rfl⟩) | (go_at_call 162; refine (bitI _ _).mono ?_; rintro e w' ⟨rfl, rfl⟩))
  go_ret
  exact ⟨ret_int (by rfl), rfl⟩

theorem ultI (a x y : Int) (w : World) (hx : valueB a x = true) (hy : valueB a y = true) : Calls Tryz.prog 159 #[.int .i64 a, .int .i64 x, .int .i64 y] w fun e w' => e = .returned (.int .i64 (bitZ (decide (x < y)))) ∧ w' = w := by
  have bx := value_bd hx
  have by_ := value_bd hy
  have bw := width_bd hx
  go_enter Tryz.func159, Tryz.ntmps159
  go_wp2_with (first | (go_at_call 135; refine (sgnI _ _ _ (by assumption)).mono ?_; rintro e w' ⟨rfl, rfl⟩) | (go_at_call 162; refine (bitI _ _).mono ?_; rintro e w' ⟨rfl, rfl⟩))
  go_ret
  exact ⟨ret_int (by rfl), rfl⟩

theorem sltI (a x y : Int) (w : World) (hx : valueB a x = true) (hy : valueB a y = true) : Calls Tryz.prog 160 #[.int .i64 a, .int .i64 x, .int .i64 y] w fun e w' => e = .returned (.int .i64 (bitZ (decide (sgnZ a x < sgnZ a y)))) ∧ w' = w := by
  have bx := value_bd hx
  have by_ := value_bd hy
  have bw := width_bd hx
  have sx := sgn_bd hx
  have sy := sgn_bd hy
  go_enter Tryz.func160, Tryz.ntmps160
  go_wp2_with (first | (go_at_call 135; refine (sgnI _ _ _ (by assumption)).mono ?_; rintro e w' ⟨rfl, rfl⟩) | (go_at_call 162; refine (bitI _ _).mono ?_; rintro e w' ⟨rfl, rfl⟩))
  go_ret
  exact ⟨ret_int (by rfl), rfl⟩
end Go.Proofs.YtoknhppjdmoblaaGreatDoor
namespace Go.Proofs.YtoknhppjdmoblaaGreatDoor
open Go.RowKit

theorem l1shl (a x y : Int) (w : World) (hx : valueB a x = true) (hy : valueB a y = true) : Calls Tryz.prog 140 #[.int .i64 11, .int .i64 a, .int .i64 x, .int .i64 y] w fun e w' => e = .returned (.int .i64 (shlZ a x y)) ∧ w' = w := by
  have bx := value_bd hx
  have by_ := value_bd hy
  have bw := width_bd hx
  by_cases hc : a ≤ y
  · have es : shlZ a x y = 0 := if_pos hc
    rw [es]; clear es
    go_enter Tryz.func140, Tryz.ntmps140
    go_wp2_with fail
    go_ret
    exact ⟨ret_int (by rfl), rfl⟩
  · have es : shlZ a x y = wrap64 (x * 2 ^ y.toNat) := if_neg hc
    rw [es]; clear es
    go_enter Tryz.func140, Tryz.ntmps140
    go_wp2_with fail
    go_ret
    exact ⟨ret_int (by rfl), rfl⟩
theorem l1lshr (a x y : Int) (w : World) (hx : valueB a x = true) (hy : valueB a y = true) : Calls Tryz.prog 140 #[.int .i64 12, .int .i64 a, .int .i64 x, .int .i64 y] w fun e w' => e = .returned (.int .i64 (lshrZ a x y)) ∧ w' = w := by
  have bx := value_bd hx
  have by_ := value_bd hy
  have bw := width_bd hx
  by_cases hc : a ≤ y
  · have es : lshrZ a x y = 0 := if_pos hc
    rw [es]; clear es
    go_enter Tryz.func140, Tryz.ntmps140
    go_wp2_with fail
    go_ret
    exact ⟨ret_int (by rfl), rfl⟩
  · have es : lshrZ a x y = x / 2 ^ y.toNat := if_neg hc
    rw [es]; clear es
    go_enter Tryz.func140, Tryz.ntmps140
    go_wp2_with fail
    go_ret
    exact ⟨ret_int (by rfl), rfl⟩
theorem l1ashr (a x y : Int) (w : World) (hx : valueB a x = true) (hy : valueB a y = true) : Calls Tryz.prog 140 #[.int .i64 13, .int .i64 a, .int .i64 x, .int .i64 y] w fun e w' => e = .returned (.int .i64 (sgnZ a x / 2 ^ (shB a y).toNat)) ∧ w' = w := by
  have bx := value_bd hx
  have by_ := value_bd hy
  have bw := width_bd hx
  have sx := sgn_bd hx
  by_cases hc : a ≤ y
  · have es : shB a y = a - 1 := if_pos hc
    rw [es]; clear es
    go_enter Tryz.func140, Tryz.ntmps140
    go_wp2_with (go_at_call 115; refine (sgnS _ _ _ (by assumption)).mono ?_; rintro e w' ⟨rfl, rfl⟩)
    go_ret
    exact ⟨ret_int (by first | rfl | rw [show a.toNat - 1 = (a - 1).toNat by omega]), rfl⟩
  · have es : shB a y = y := if_neg hc
    rw [es]; clear es
    go_enter Tryz.func140, Tryz.ntmps140
    go_wp2_with (go_at_call 115; refine (sgnS _ _ _ (by assumption)).mono ?_; rintro e w' ⟨rfl, rfl⟩)
    go_ret
    exact ⟨ret_int (by rfl), rfl⟩

theorem addS (a x y : Int) (w : World) (hx : valueB a x = true) (hy : valueB a y = true) : Calls Tryz.prog 113 #[.int .i64 1, .int .i64 a, .int .i64 x, .int .i64 y] w fun e w' => e = .returned (.int .i64 (x + y)) ∧ w' = w := by
  have bx := value_bd hx
  have by_ := value_bd hy
  go_enter Tryz.func113, Tryz.ntmps113
  go_wp2_with (first | (go_at_call 115; refine (sgnS _ _ _ (by assumption)).mono ?_; rintro e w' ⟨rfl, rfl⟩) | (go_at_call 139; refine (bitS _ _).mono ?_; rintro e w' ⟨rfl, rfl⟩))
  go_ret
  exact ⟨ret_int (by rfl), rfl⟩

theorem subS (a x y : Int) (w : World) (hx : valueB a x = true) (hy : valueB a y = true) : Calls Tryz.prog 113 #[.int .i64 2, .int .i64 a, .int .i64 x, .int .i64 y] w fun e w' => e = .returned (.int .i64 (x - y)) ∧ w' = w := by
  have bx := value_bd hx
  have by_ := value_bd hy
  go_enter Tryz.func113, Tryz.ntmps113
  go_wp2_with (first | (go_at_call 115; refine (sgnS _ _ _ (by assumption)).mono ?_; rintro e w' ⟨rfl, rfl⟩) | (go_at_call 139; refine (bitS _ _).mono ?_; rintro e w' ⟨rfl, rfl⟩))
  go_ret
  exact ⟨ret_int (by rfl), rfl⟩

theorem mulS (a x y : Int) (w : World) (hx : valueB a x = true) (hy : valueB a y = true) : Calls Tryz.prog 113 #[.int .i64 3, .int .i64 a, .int .i64 x, .int .i64 y] w fun e w' => e = .returned (.int .i64 (wrap64 (sgnZ a x * sgnZ a y))) ∧ w' = w := by
  have bx := value_bd hx
  have by_ := value_bd hy
  have sx := sgn_bd hx
  have sy := sgn_bd hy
  go_enter Tryz.func113, Tryz.ntmps113
  go_wp2_with (first | (go_at_call 115; refine (sgnS _ _ _ (by assumption)).mono ?_; rintro e w' ⟨rfl, rfl⟩) | (go_at_call 139; refine (bitS _ _).mono ?_; rintro e w' ⟨rfl, rfl⟩))
  go_ret
  exact ⟨ret_int (by rfl), rfl⟩

theorem udivS (a x y : Int) (w : World) (hx : valueB a x = true) (hy : valueB a y = true) (hz : ¬ y = 0) : Calls Tryz.prog 113 #[.int .i64 4, .int .i64 a, .int .i64 x, .int .i64 y] w fun e w' => e = .returned (.int .i64 (x / y)) ∧ w' = w := by
  have bx := value_bd hx
  have by_ := value_bd hy
  have hp : 1 ≤ y := by omega
  go_enter Tryz.func113, Tryz.ntmps113
  go_wp2_with (first | (go_at_call 115; refine (sgnS _ _ _ (by assumption)).mono ?_; rintro e w' ⟨rfl, rfl⟩) | (go_at_call 139; refine (bitS _ _).mono ?_; rintro e w' ⟨rfl, rfl⟩))
  go_ret
  exact ⟨ret_int (by rfl), rfl⟩

theorem sdivS (a x y : Int) (w : World) (hx : valueB a x = true) (hy : valueB a y = true) (hz : ¬ y = 0) : Calls Tryz.prog 113 #[.int .i64 5, .int .i64 a, .int .i64 x, .int .i64 y] w fun e w' => e = .returned (.int .i64 (wrap64 ((sgnZ a x).tdiv (sgnZ a y)))) ∧ w' = w := by
  have bx := value_bd hx
  have by_ := value_bd hy
  have sx := sgn_bd hx
  have sy := sgn_bd hy
  have sz := sgn_zero hy hz
  go_enter Tryz.func113, Tryz.ntmps113
  go_wp2_with (first | (go_at_call 115; refine (sgnS _ _ _ (by assumption)).mono ?_; rintro e w' ⟨rfl, rfl⟩) | (go_at_call 139; refine (bitS _ _).mono ?_; rintro e w' ⟨rfl, rfl⟩))
  go_ret
  exact ⟨ret_int (by rfl), rfl⟩

theorem uremS (a x y : Int) (w : World) (hx : valueB a x = true) (hy : valueB a y = true) (hz : ¬ y = 0) : Calls Tryz.prog 113 #[.int .i64 6, .int .i64 a, .int .i64 x, .int .i64 y] w fun e w' => e = .returned (.int .i64 (x % y)) ∧ w' = w := by
  have bx := value_bd hx
  have by_ := value_bd hy
  have hp : 1 ≤ y := by omega
  go_enter Tryz.func113, Tryz.ntmps113
  go_wp2_with (first | (go_at_call 115; refine (sgnS _ _ _ (by assumption)).mono ?_; rintro e w' ⟨rfl, rfl⟩) | (go_at_call 139; refine (bitS _ _).mono ?_; rintro e w' ⟨rfl, rfl⟩))
  go_ret
  exact ⟨ret_int (by rfl), rfl⟩

theorem sremS (a x y : Int) (w : World) (hx : valueB a x = true) (hy : valueB a y = true) (hz : ¬ y = 0) : Calls Tryz.prog 113 #[.int .i64 7, .int .i64 a, .int .i64 x, .int .i64 y] w fun e w' => e = .returned (.int .i64 ((sgnZ a x).tmod (sgnZ a y))) ∧ w' = w := by
  have bx := value_bd hx
  have by_ := value_bd hy
  have sx := sgn_bd hx
  have sy := sgn_bd hy
  have sz := sgn_zero hy hz
  go_enter Tryz.func113, Tryz.ntmps113
  go_wp2_with (first | (go_at_call 115; refine (sgnS _ _ _ (by assumption)).mono ?_; rintro e w' ⟨rfl, rfl⟩) | (go_at_call 139; refine (bitS _ _).mono ?_; rintro e w' ⟨rfl, rfl⟩))
  go_ret
  exact ⟨ret_int (by rfl), rfl⟩

theorem andS (a x y : Int) (w : World) (hx : valueB a x = true) (hy : valueB a y = true) : Calls Tryz.prog 113 #[.int .i64 8, .int .i64 a, .int .i64 x, .int .i64 y] w fun e w' => e = .returned (.int .i64 (bits .and .i64 x y)) ∧ w' = w := by
  have bx := value_bd hx
  have by_ := value_bd hy
  go_enter Tryz.func113, Tryz.ntmps113
  go_wp2_with (first | (go_at_call 115; refine (sgnS _ _ _ (by assumption)).mono ?_; rintro e w' ⟨rfl, rfl⟩) | (go_at_call 139; refine (bitS _ _).mono ?_; rintro e w' ⟨rfl, rfl⟩))
  go_ret
  exact ⟨ret_int (by rfl), rfl⟩

theorem orS (a x y : Int) (w : World) (hx : valueB a x = true) (hy : valueB a y = true) : Calls Tryz.prog 113 #[.int .i64 9, .int .i64 a, .int .i64 x, .int .i64 y] w fun e w' => e = .returned (.int .i64 (bits .or .i64 x y)) ∧ w' = w := by
  have bx := value_bd hx
  have by_ := value_bd hy
  go_enter Tryz.func113, Tryz.ntmps113
  go_wp2_with (first | (go_at_call 115; refine (sgnS _ _ _ (by assumption)).mono ?_; rintro e w' ⟨rfl, rfl⟩) | (go_at_call 139; refine (bitS _ _).mono ?_; rintro e w' ⟨rfl, rfl⟩))
  go_ret
  exact ⟨ret_int (by rfl), rfl⟩

theorem xorS (a x y : Int) (w : World) (hx : valueB a x = true) (hy : valueB a y = true) : Calls Tryz.prog 113 #[.int .i64 10, .int .i64 a, .int .i64 x, .int .i64 y] w fun e w' => e = .returned (.int .i64 (bits .xor .i64 x y)) ∧ w' = w := by
  have bx := value_bd hx
  have by_ := value_bd hy
  go_enter Tryz.func113, Tryz.ntmps113
  go_wp2_with (first | (go_at_call 115; refine (sgnS _ _ _ (by assumption)).mono ?_; rintro e w' ⟨rfl, rfl⟩) | (go_at_call 139; refine (bitS _ _).mono ?_; rintro e w' ⟨rfl, rfl⟩))
  go_ret
  exact ⟨ret_int (by rfl), rfl⟩

theorem shlS (a x y : Int) (w : World) (hx : valueB a x = true) (hy : valueB a y = true) : Calls Tryz.prog 113 #[.int .i64 11, .int .i64 a, .int .i64 x, .int .i64 y] w fun e w' => e = .returned (.int .i64 (shlZ a x y)) ∧ w' = w := by
  have bx := value_bd hx
  have by_ := value_bd hy
  go_enter Tryz.func113, Tryz.ntmps113
  go_wp2_with (go_at_call 140; refine (l1shl _ _ _ _ (by assumption) (by assumption)).mono ?_; rintro e w' ⟨rfl, rfl⟩)
  go_ret
  exact ⟨ret_int (by rfl), rfl⟩

theorem lshrS (a x y : Int) (w : World) (hx : valueB a x = true) (hy : valueB a y = true) : Calls Tryz.prog 113 #[.int .i64 12, .int .i64 a, .int .i64 x, .int .i64 y] w fun e w' => e = .returned (.int .i64 (lshrZ a x y)) ∧ w' = w := by
  have bx := value_bd hx
  have by_ := value_bd hy
  go_enter Tryz.func113, Tryz.ntmps113
  go_wp2_with (go_at_call 140; refine (l1lshr _ _ _ _ (by assumption) (by assumption)).mono ?_; rintro e w' ⟨rfl, rfl⟩)
  go_ret
  exact ⟨ret_int (by rfl), rfl⟩

theorem ashrS (a x y : Int) (w : World) (hx : valueB a x = true) (hy : valueB a y = true) : Calls Tryz.prog 113 #[.int .i64 13, .int .i64 a, .int .i64 x, .int .i64 y] w fun e w' => e = .returned (.int .i64 (sgnZ a x / 2 ^ (shB a y).toNat)) ∧ w' = w := by
  have bx := value_bd hx
  have by_ := value_bd hy
  go_enter Tryz.func113, Tryz.ntmps113
  go_wp2_with (go_at_call 140; refine (l1ashr _ _ _ _ (by assumption) (by assumption)).mono ?_; rintro e w' ⟨rfl, rfl⟩)
  go_ret
  exact ⟨ret_int (by rfl), rfl⟩

theorem eqS (a x y : Int) (w : World) (hx : valueB a x = true) (hy : valueB a y = true) : Calls Tryz.prog 113 #[.int .i64 14, .int .i64 a, .int .i64 x, .int .i64 y] w fun e w' => e = .returned (.int .i64 (bitZ (x == y))) ∧ w' = w := by
  have bx := value_bd hx
  have by_ := value_bd hy
  go_enter Tryz.func113, Tryz.ntmps113
  go_wp2_with (first | (go_at_call 115; refine (sgnS _ _ _ (by assumption)).mono ?_; rintro e w' ⟨rfl, rfl⟩) | (go_at_call 139; refine (bitS _ _).mono ?_; rintro e w' ⟨rfl, rfl⟩))
  go_ret
  exact ⟨ret_int (by rfl), rfl⟩

theorem neS (a x y : Int) (w : World) (hx : valueB a x = true) (hy : valueB a y = true) : Calls Tryz.prog 113 #[.int .i64 15, .int .i64 a, .int .i64 x, .int .i64 y] w fun e w' => e = .returned (.int .i64 (bitZ (x != y))) ∧ w' = w := by
  have bx := value_bd hx
  have by_ := value_bd hy
  go_enter Tryz.func113, Tryz.ntmps113
  go_wp2_with (first | (go_at_call 115; refine (sgnS _ _ _ (by assumption)).mono ?_; rintro e w' ⟨rfl, rfl⟩) | (go_at_call 139; refine (bitS _ _).mono ?_; rintro e w' ⟨rfl, rfl⟩))
  go_ret
  exact ⟨ret_int (by rfl), rfl⟩

theorem ultS (a x y : Int) (w : World) (hx : valueB a x = true) (hy : valueB a y = true) : Calls Tryz.prog 113 #[.int .i64 16, .int .i64 a, .int .i64 x, .int .i64 y] w fun e w' => e = .returned (.int .i64 (bitZ (decide (x < y)))) ∧ w' = w := by
  have bx := value_bd hx
  have by_ := value_bd hy
  go_enter Tryz.func113, Tryz.ntmps113
  go_wp2_with (first | (go_at_call 115; refine (sgnS _ _ _ (by assumption)).mono ?_; rintro e w' ⟨rfl, rfl⟩) | (go_at_call 139; refine (bitS _ _).mono ?_; rintro e w' ⟨rfl, rfl⟩))
  go_ret
  exact ⟨ret_int (by rfl), rfl⟩

theorem sltS (a x y : Int) (w : World) (hx : valueB a x = true) (hy : valueB a y = true) : Calls Tryz.prog 113 #[.int .i64 17, .int .i64 a, .int .i64 x, .int .i64 y] w fun e w' => e = .returned (.int .i64 (bitZ (decide (sgnZ a x < sgnZ a y)))) ∧ w' = w := by
  have bx := value_bd hx
  have by_ := value_bd hy
  have sx := sgn_bd hx
  have sy := sgn_bd hy
  go_enter Tryz.func113, Tryz.ntmps113
  go_wp2_with (first | (go_at_call 115; refine (sgnS _ _ _ (by assumption)).mono ?_; rintro e w' ⟨rfl, rfl⟩) | (go_at_call 139; refine (bitS _ _).mono ?_; rintro e w' ⟨rfl, rfl⟩))
  go_ret
  exact ⟨ret_int (by rfl), rfl⟩
end Go.Proofs.YtoknhppjdmoblaaGreatDoor
namespace Go.Proofs.YtoknhppjdmoblaaGreatDoor
open Go.RowKit

def twoZ (op a x y : Int) : Int :=
  if op = 1 then x + y else if op = 2 then x - y else if op = 3 then x * y else if op = 4 then x / y else
  if op = 5 then (sgnZ a x).tdiv (sgnZ a y) else if op = 6 then x % y else if op = 7 then (sgnZ a x).tmod (sgnZ a y) else
  if op = 8 then bits .and .i64 x y else if op = 9 then bits .or .i64 x y else if op = 10 then bits .xor .i64 x y else
  if op = 11 then shlZ a x y else if op = 12 then lshrZ a x y else if op = 13 then sgnZ a x / 2 ^ (shB a y).toNat else
  if op = 14 then bitZ (x == y) else if op = 15 then bitZ (x != y) else if op = 16 then bitZ (decide (x < y)) else bitZ (decide (sgnZ a x < sgnZ a y))
def divB (op : Int) : Bool := decide (4 ≤ op) && decide (op ≤ 7)
def binOk (op a x y : Int) : Bool := opB op && (valueB a x && valueB a y)
def binC (op a x y : Int) : Int := if binOk op a x y = true then (if divB op = true ∧ y = 0 then 1 else 0) else 2
def binZ (op a x y : Int) : Int := if binOk op a x y = true ∧ ¬ (divB op = true ∧ y = 0) then maskZ a (twoZ op a x y) else 0

theorem top_dvd {a : Int} (h : widthB a = true) : topZ a ∣ 4294967296 := by
  rcases width_yes h with rfl | rfl | rfl | rfl
  · exact ⟨2147483648, by simp [top1]⟩
  · exact ⟨16777216, by simp [top8]⟩
  · exact ⟨65536, by simp [top16]⟩
  · exact ⟨1, by simp [top32]⟩
theorem and_u64 (n : Int) (h0 : 0 ≤ n) (h1 : n < 18446744073709551616) : bits .and .u64 n 4294967295 = n % 4294967296 := by
  rw [u64_and n 4294967295 h0 h1 (by decide) (by decide)]
  have e : n.toNat &&& (4294967295 : Int).toNat = n.toNat % 4294967296 := Nat.and_two_pow_sub_one_eq_mod n.toNat 32
  rw [e]; omega
theorem mulI_eq {x y : Int} : wrap64 (bits BinOp.and IntKind.u64 (IntKind.u64.wrap (x * y)) 4294967295) = x * y % 4294967296 := by
  rw [IntKind.wrap_u64, and_u64 _ (by omega) (by omega)]
  generalize x * y = m
  unfold wrap64; omega
theorem sgn_emod {a x : Int} : sgnZ a x % topZ a = x % topZ a := by
  unfold sgnZ; split
  · exact Int.sub_emod_right x (topZ a)
  · rfl
theorem mask_mod {a m n : Int} (h : m % topZ a = n % topZ a) : maskZ a m = maskZ a n := by
  unfold maskZ; rw [h]
theorem mask_mulI {a x y : Int} (h : widthB a = true) : maskZ a (x * y % 4294967296) = maskZ a (x * y) :=
  mask_mod (Int.emod_emod_of_dvd _ (top_dvd h))
theorem mul_bd {p q : Int} (hp : -2147483648 ≤ p ∧ p ≤ 2147483647) (hq : -2147483648 ≤ q ∧ q ≤ 2147483647) : -4611686018427387904 ≤ p * q ∧ p * q ≤ 4611686018427387904 := by
  have h1 : (p * q).natAbs ≤ 2147483648 * 2147483648 := by
    rw [Int.natAbs_mul]; exact Nat.mul_le_mul (by omega) (by omega)
  omega
theorem mulS_eq {a x y : Int} (hx : valueB a x = true) (hy : valueB a y = true) : maskZ a (wrap64 (sgnZ a x * sgnZ a y)) = maskZ a (x * y) := by
  have hb := mul_bd (sgn_bd hx) (sgn_bd hy)
  have e : wrap64 (sgnZ a x * sgnZ a y) = sgnZ a x * sgnZ a y := by
    generalize sgnZ a x * sgnZ a y = m at hb
    unfold wrap64; omega
  rw [e]
  refine mask_mod ?_
  rw [Int.mul_emod, sgn_emod, sgn_emod, ← Int.mul_emod]
theorem tdiv_bd {p q : Int} (hp : -2147483648 ≤ p ∧ p ≤ 2147483647) : wrap64 (p.tdiv q) = p.tdiv q := by
  have h1 : (p.tdiv q).natAbs ≤ 2147483648 := by
    rw [Int.natAbs_tdiv]; exact Nat.le_trans (Nat.div_le_self _ _) (by omega)
  generalize p.tdiv q = m at h1
  unfold wrap64; omega
theorem op_cases {op : Int} (h : opB op = true) : op = 1 ∨ op = 2 ∨ op = 3 ∨ op = 4 ∨ op = 5 ∨ op = 6 ∨ op = 7 ∨ op = 8 ∨ op = 9 ∨ op = 10 ∨ op = 11 ∨ op = 12 ∨ op = 13 ∨ op = 14 ∨ op = 15 ∨ op = 16 ∨ op = 17 := by
  have := op_yes h; omega
theorem bin_form {op a x y : Int} (h : binOk op a x y = false) : 0 = binZ op a x y ∧ 2 = binC op a x y := by simp [binZ, binC, h]
theorem bin_zero {op a x y : Int} (h : binOk op a x y = true) (hd : divB op = true) (hy : y = 0) : 0 = binZ op a x y ∧ 1 = binC op a x y := by subst hy; simp [binZ, binC, h, hd]
theorem bin_ok {op a x y : Int} (h : binOk op a x y = true) (hd : ¬ (divB op = true ∧ y = 0)) : maskZ a (twoZ op a x y) = binZ op a x y ∧ 0 = binC op a x y := by
  constructor
  · rw [binZ, if_pos ⟨h, hd⟩]
  · rw [binC, if_pos h, if_neg hd]
theorem divS (op : Int) (w : World) : Calls Tryz.prog 111 #[.int .i64 op] w fun e w' => e = .returned (.bool (divB op)) ∧ w' = w := by
  go_enter Tryz.func111, Tryz.ntmps111
  go_wp2_with (go_at_call 69; refine (inS _ _ _ _).mono ?_; rintro e w' ⟨rfl, rfl⟩)
  go_ret
  exact ⟨ret_bool (by rfl), rfl⟩
end Go.Proofs.YtoknhppjdmoblaaGreatDoor
