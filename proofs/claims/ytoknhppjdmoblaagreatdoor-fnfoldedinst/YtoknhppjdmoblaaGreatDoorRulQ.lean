import Derived.Test.YtoknhppjdmoblaaGreatDoorWidQ
import Derived.Test.YtoknhppjdmoblaaGreatDoorMemQ
import Derived.Laws.AppendOwnNone
import Derived.Deep.LoopGhost
import Derived.Test.YtoknhppjdmoblaaGreatDoorKnd
namespace Go.Proofs.YtoknhppjdmoblaaGreatDoor
set_option linter.unusedVariables false
set_option linter.unusedSimpArgs false
open Go.RowKit
def shlZ (a x y : Int) : Int := if a ≤ y then 0 else wrap64 (x * 2 ^ y.toNat)
def lshrZ (a x y : Int) : Int := if a ≤ y then 0 else x / 2 ^ y.toNat
def shB (a y : Int) : Int := if a ≤ y then a - 1 else y
def bitZ (b : Bool) : Int := if b = true then 1 else 0
theorem sgn_bd {a v : Int} (hv : valueB a v = true) : -2147483648 ≤ sgnZ a v ∧ sgnZ a v ≤ 2147483647 := by
 obtain ⟨hw, h0, h1⟩ := value_yes hv
 unfold sgnZ
 rcases width_yes hw with rfl | rfl | rfl | rfl
 all_goals simp only [top1, top8, top16, top32] at h1 ⊢
 all_goals split
 all_goals omega
theorem sgn_zero {a v : Int} (hv : valueB a v = true) (h : ¬ v = 0) : ¬ sgnZ a v = 0 := by
 obtain ⟨hw, h0, h1⟩ := value_yes hv
 unfold sgnZ
 rcases width_yes hw with rfl | rfl | rfl | rfl
 all_goals simp only [top1, top8, top16, top32] at h1 ⊢
 all_goals split
 all_goals omega
theorem value_bd {a v : Int} (hv : valueB a v = true) : 0 ≤ v ∧ v ≤ 4294967295 := by
 obtain ⟨_, h0, h1⟩ := value_yes hv
 have := top_pos a
 omega
theorem width_bd {a v : Int} (hv : valueB a v = true) : 1 ≤ a ∧ a ≤ 32 := by
 obtain ⟨hw, _, _⟩ := value_yes hv
 rcases width_yes hw with rfl | rfl | rfl | rfl
 all_goals omega
theorem sgnI (a v : Int) (w : World) (hv : valueB a v = true) : Calls Tryz.prog 135 #[.int .i64 a, .int .i64 v] w fun e w' => e = .returned (.int .i64 (sgnZ a v)) ∧ w' = w := by
 have E : signZ a v = sgnZ a v := by rw [signZ, if_pos hv]
 rw [← E]; exact signI a v w
theorem bitS (b : Bool) (w : World) : Calls Tryz.prog 139 #[.bool b] w fun e w' => e = .returned (.int .i64 (bitZ b)) ∧ w' = w := by
 cases b
 all_goals
  go_enter Tryz.func139, Tryz.ntmps139
  go_wp2
  go_ret
  exact ⟨rfl, rfl⟩
theorem bitI (b : Bool) (w : World) : Calls Tryz.prog 162 #[.bool b] w fun e w' => e = .returned (.int .i64 (bitZ b)) ∧ w' = w := by
 cases b
 all_goals
  go_enter Tryz.func162, Tryz.ntmps162
  go_wp2
  go_ret
  exact ⟨rfl, rfl⟩
theorem addI (a x y : Int) (w : World) (hx : valueB a x = true) (hy : valueB a y = true) : Calls Tryz.prog 144 #[.int .i64 a, .int .i64 x, .int .i64 y] w fun e w' => e = .returned (.int .i64 (x + y)) ∧ w' = w := by
 have bx := value_bd hx
 have by_ := value_bd hy
 have bw := width_bd hx
 go_enter Tryz.func144, Tryz.ntmps144
 go_wp2_with (fail)
 go_ret
 exact ⟨ret_int (by rfl), rfl⟩
theorem subI (a x y : Int) (w : World) (hx : valueB a x = true) (hy : valueB a y = true) : Calls Tryz.prog 145 #[.int .i64 a, .int .i64 x, .int .i64 y] w fun e w' => e = .returned (.int .i64 (x - y)) ∧ w' = w := by
 have bx := value_bd hx
 have by_ := value_bd hy
 have bw := width_bd hx
 go_enter Tryz.func145, Tryz.ntmps145
 go_wp2_with (fail)
 go_ret
 exact ⟨ret_int (by rfl), rfl⟩
theorem mulI (a x y : Int) (w : World) (hx : valueB a x = true) (hy : valueB a y = true) : Calls Tryz.prog 146 #[.int .i64 a, .int .i64 x, .int .i64 y] w fun e w' => e = .returned (.int .i64 (wrap64 (bits BinOp.and IntKind.u64 (IntKind.u64.wrap (x * y)) 4294967295))) ∧ w' = w := by
 have bx := value_bd hx
 have by_ := value_bd hy
 have bw := width_bd hx
 go_enter Tryz.func146, Tryz.ntmps146
 go_wp2_with (fail)
 go_ret
 exact ⟨ret_int (by rfl), rfl⟩
theorem udivI (a x y : Int) (w : World) (hx : valueB a x = true) (hy : valueB a y = true) (hz : ¬ y = 0) : Calls Tryz.prog 147 #[.int .i64 a, .int .i64 x, .int .i64 y] w fun e w' => e = .returned (.int .i64 (x / y)) ∧ w' = w := by
 have bx := value_bd hx
 have by_ := value_bd hy
 have bw := width_bd hx
 have hp : 1 ≤ y := by omega
 go_enter Tryz.func147, Tryz.ntmps147
 go_wp2_with (fail)
 go_ret
 exact ⟨ret_int (by rfl), rfl⟩
theorem sdivI (a x y : Int) (w : World) (hx : valueB a x = true) (hy : valueB a y = true) (hz : ¬ y = 0) : Calls Tryz.prog 148 #[.int .i64 a, .int .i64 x, .int .i64 y] w fun e w' => e = .returned (.int .i64 (wrap64 ((sgnZ a x).tdiv (sgnZ a y)))) ∧ w' = w := by
 have bx := value_bd hx
 have by_ := value_bd hy
 have bw := width_bd hx
 have sx := sgn_bd hx
 have sy := sgn_bd hy
 have sz := sgn_zero hy hz
 go_enter Tryz.func148, Tryz.ntmps148
 go_wp2_with (first | (go_at_call 135; refine (sgnI _ _ _ (by assumption)).mono ?_; rintro e w' ⟨rfl, rfl⟩) | (go_at_call 162; refine (bitI _ _).mono ?_; rintro e w' ⟨rfl, rfl⟩))
 go_ret
 exact ⟨ret_int (by rfl), rfl⟩
theorem uremI (a x y : Int) (w : World) (hx : valueB a x = true) (hy : valueB a y = true) (hz : ¬ y = 0) : Calls Tryz.prog 149 #[.int .i64 a, .int .i64 x, .int .i64 y] w fun e w' => e = .returned (.int .i64 (x % y)) ∧ w' = w := by
 have bx := value_bd hx
 have by_ := value_bd hy
 have bw := width_bd hx
 have hp : 1 ≤ y := by omega
 go_enter Tryz.func149, Tryz.ntmps149
 go_wp2_with (fail)
 go_ret
 exact ⟨ret_int (by rfl), rfl⟩
theorem sremI (a x y : Int) (w : World) (hx : valueB a x = true) (hy : valueB a y = true) (hz : ¬ y = 0) : Calls Tryz.prog 150 #[.int .i64 a, .int .i64 x, .int .i64 y] w fun e w' => e = .returned (.int .i64 ((sgnZ a x).tmod (sgnZ a y))) ∧ w' = w := by
 have bx := value_bd hx
 have by_ := value_bd hy
 have bw := width_bd hx
 have sx := sgn_bd hx
 have sy := sgn_bd hy
 have sz := sgn_zero hy hz
 go_enter Tryz.func150, Tryz.ntmps150
 go_wp2_with (first | (go_at_call 135; refine (sgnI _ _ _ (by assumption)).mono ?_; rintro e w' ⟨rfl, rfl⟩) | (go_at_call 162; refine (bitI _ _).mono ?_; rintro e w' ⟨rfl, rfl⟩))
 go_ret
 exact ⟨ret_int (by rfl), rfl⟩
theorem andI (a x y : Int) (w : World) (hx : valueB a x = true) (hy : valueB a y = true) : Calls Tryz.prog 151 #[.int .i64 a, .int .i64 x, .int .i64 y] w fun e w' => e = .returned (.int .i64 (bits .and .i64 x y)) ∧ w' = w := by
 have bx := value_bd hx
 have by_ := value_bd hy
 have bw := width_bd hx
 go_enter Tryz.func151, Tryz.ntmps151
 go_wp2_with (fail)
 go_ret
 exact ⟨ret_int (by rfl), rfl⟩
theorem orI (a x y : Int) (w : World) (hx : valueB a x = true) (hy : valueB a y = true) : Calls Tryz.prog 152 #[.int .i64 a, .int .i64 x, .int .i64 y] w fun e w' => e = .returned (.int .i64 (bits .or .i64 x y)) ∧ w' = w := by
 have bx := value_bd hx
 have by_ := value_bd hy
 have bw := width_bd hx
 go_enter Tryz.func152, Tryz.ntmps152
 go_wp2_with (fail)
 go_ret
 exact ⟨ret_int (by rfl), rfl⟩
theorem xorI (a x y : Int) (w : World) (hx : valueB a x = true) (hy : valueB a y = true) : Calls Tryz.prog 153 #[.int .i64 a, .int .i64 x, .int .i64 y] w fun e w' => e = .returned (.int .i64 (bits .xor .i64 x y)) ∧ w' = w := by
 have bx := value_bd hx
 have by_ := value_bd hy
 have bw := width_bd hx
 go_enter Tryz.func153, Tryz.ntmps153
 go_wp2_with (fail)
 go_ret
 exact ⟨ret_int (by rfl), rfl⟩
theorem shlI (a x y : Int) (w : World) (hx : valueB a x = true) (hy : valueB a y = true) : Calls Tryz.prog 154 #[.int .i64 a, .int .i64 x, .int .i64 y] w fun e w' => e = .returned (.int .i64 (shlZ a x y)) ∧ w' = w := by
 have bx := value_bd hx
 have by_ := value_bd hy
 have bw := width_bd hx
 by_cases hc : a ≤ y
 ·have es : shlZ a x y = 0 := if_pos hc
  rw [es]; clear es
  go_enter Tryz.func154, Tryz.ntmps154
  go_wp2_with (fail)
  go_ret
  exact ⟨ret_int (by rfl), rfl⟩
 ·have es : shlZ a x y = wrap64 (x * 2 ^ y.toNat) := if_neg hc
  rw [es]; clear es
  go_enter Tryz.func154, Tryz.ntmps154
  go_wp2_with (fail)
  go_ret
  exact ⟨ret_int (by rfl), rfl⟩
theorem lshrI (a x y : Int) (w : World) (hx : valueB a x = true) (hy : valueB a y = true) : Calls Tryz.prog 155 #[.int .i64 a, .int .i64 x, .int .i64 y] w fun e w' => e = .returned (.int .i64 (lshrZ a x y)) ∧ w' = w := by
 have bx := value_bd hx
 have by_ := value_bd hy
 have bw := width_bd hx
 by_cases hc : a ≤ y
 ·have es : lshrZ a x y = 0 := if_pos hc
  rw [es]; clear es
  go_enter Tryz.func155, Tryz.ntmps155
  go_wp2_with (fail)
  go_ret
  exact ⟨ret_int (by rfl), rfl⟩
 ·have es : lshrZ a x y = x / 2 ^ y.toNat := if_neg hc
  rw [es]; clear es
  go_enter Tryz.func155, Tryz.ntmps155
  go_wp2_with (fail)
  go_ret
  exact ⟨ret_int (by rfl), rfl⟩
theorem ashrI (a x y : Int) (w : World) (hx : valueB a x = true) (hy : valueB a y = true) : Calls Tryz.prog 156 #[.int .i64 a, .int .i64 x, .int .i64 y] w fun e w' => e = .returned (.int .i64 (sgnZ a x / 2 ^ (shB a y).toNat)) ∧ w' = w := by
 have bx := value_bd hx
 have by_ := value_bd hy
 have bw := width_bd hx
 have sx := sgn_bd hx
 by_cases hc : a ≤ y
 ·have es : shB a y = a - 1 := if_pos hc
  rw [es]; clear es
  go_enter Tryz.func156, Tryz.ntmps156
  go_wp2_with (first | (go_at_call 135; refine (sgnI _ _ _ (by assumption)).mono ?_; rintro e w' ⟨rfl, rfl⟩) | (go_at_call 162; refine (bitI _ _).mono ?_; rintro e w' ⟨rfl, rfl⟩))
  go_ret
  exact ⟨ret_int (by first | rfl | rw [show a.toNat - 1 = (a - 1).toNat by omega]), rfl⟩
 ·have es : shB a y = y := if_neg hc
  rw [es]; clear es
  go_enter Tryz.func156, Tryz.ntmps156
  go_wp2_with (first | (go_at_call 135; refine (sgnI _ _ _ (by assumption)).mono ?_; rintro e w' ⟨rfl, rfl⟩) | (go_at_call 162; refine (bitI _ _).mono ?_; rintro e w' ⟨rfl, rfl⟩))
  go_ret
  exact ⟨ret_int (by first | rfl | rw [show a.toNat - 1 = (a - 1).toNat by omega]), rfl⟩
theorem eqI (a x y : Int) (w : World) (hx : valueB a x = true) (hy : valueB a y = true) : Calls Tryz.prog 157 #[.int .i64 a, .int .i64 x, .int .i64 y] w fun e w' => e = .returned (.int .i64 (bitZ (x == y))) ∧ w' = w := by
 have bx := value_bd hx
 have by_ := value_bd hy
 have bw := width_bd hx
 go_enter Tryz.func157, Tryz.ntmps157
 go_wp2_with (first | (go_at_call 135; refine (sgnI _ _ _ (by assumption)).mono ?_; rintro e w' ⟨rfl, rfl⟩) | (go_at_call 162; refine (bitI _ _).mono ?_; rintro e w' ⟨rfl, rfl⟩))
 go_ret
 exact ⟨ret_int (by rfl), rfl⟩
theorem neI (a x y : Int) (w : World) (hx : valueB a x = true) (hy : valueB a y = true) : Calls Tryz.prog 158 #[.int .i64 a, .int .i64 x, .int .i64 y] w fun e w' => e = .returned (.int .i64 (bitZ (x != y))) ∧ w' = w := by
 have bx := value_bd hx
 have by_ := value_bd hy
 have bw := width_bd hx
 go_enter Tryz.func158, Tryz.ntmps158
 go_wp2_with (first | (go_at_call 135; refine (sgnI _ _ _ (by assumption)).mono ?_; rintro e w' ⟨rfl, rfl⟩) | (go_at_call 162; refine (bitI _ _).mono ?_; rintro e w' ⟨rfl, rfl⟩))
 go_ret
 exact ⟨ret_int (by rfl), rfl⟩
theorem ultI (a x y : Int) (w : World) (hx : valueB a x = true) (hy : valueB a y = true) : Calls Tryz.prog 159 #[.int .i64 a, .int .i64 x, .int .i64 y] w fun e w' => e = .returned (.int .i64 (bitZ (decide (x < y)))) ∧ w' = w := by
 have bx := value_bd hx
 have by_ := value_bd hy
 have bw := width_bd hx
 go_enter Tryz.func159, Tryz.ntmps159
 go_wp2_with (first | (go_at_call 135; refine (sgnI _ _ _ (by assumption)).mono ?_; rintro e w' ⟨rfl, rfl⟩) | (go_at_call 162; refine (bitI _ _).mono ?_; rintro e w' ⟨rfl, rfl⟩))
 go_ret
 exact ⟨ret_int (by rfl), rfl⟩
theorem sltI (a x y : Int) (w : World) (hx : valueB a x = true) (hy : valueB a y = true) : Calls Tryz.prog 160 #[.int .i64 a, .int .i64 x, .int .i64 y] w fun e w' => e = .returned (.int .i64 (bitZ (decide (sgnZ a x < sgnZ a y)))) ∧ w' = w := by
 have bx := value_bd hx
 have by_ := value_bd hy
 have bw := width_bd hx
 have sx := sgn_bd hx
 have sy := sgn_bd hy
 go_enter Tryz.func160, Tryz.ntmps160
 go_wp2_with (first | (go_at_call 135; refine (sgnI _ _ _ (by assumption)).mono ?_; rintro e w' ⟨rfl, rfl⟩) | (go_at_call 162; refine (bitI _ _).mono ?_; rintro e w' ⟨rfl, rfl⟩))
 go_ret
 exact ⟨ret_int (by rfl), rfl⟩
end Go.Proofs.YtoknhppjdmoblaaGreatDoor
namespace Go.Proofs.YtoknhppjdmoblaaGreatDoor
set_option linter.unusedVariables false
set_option linter.unusedSimpArgs false
open Go.RowKit
theorem l1shl (a x y : Int) (w : World) (hx : valueB a x = true) (hy : valueB a y = true) : Calls Tryz.prog 140 #[.int .i64 11, .int .i64 a, .int .i64 x, .int .i64 y] w fun e w' => e = .returned (.int .i64 (shlZ a x y)) ∧ w' = w := by
 have bx := value_bd hx
 have by_ := value_bd hy
 have bw := width_bd hx
 by_cases hc : a ≤ y
 ·have es : shlZ a x y = 0 := if_pos hc
  rw [es]; clear es
  go_enter Tryz.func140, Tryz.ntmps140
  go_wp2_with fail
  go_ret
  exact ⟨ret_int (by rfl), rfl⟩
 ·have es : shlZ a x y = wrap64 (x * 2 ^ y.toNat) := if_neg hc
  rw [es]; clear es
  go_enter Tryz.func140, Tryz.ntmps140
  go_wp2_with fail
  go_ret
  exact ⟨ret_int (by rfl), rfl⟩
theorem l1lshr (a x y : Int) (w : World) (hx : valueB a x = true) (hy : valueB a y = true) : Calls Tryz.prog 140 #[.int .i64 12, .int .i64 a, .int .i64 x, .int .i64 y] w fun e w' => e = .returned (.int .i64 (lshrZ a x y)) ∧ w' = w := by
 have bx := value_bd hx
 have by_ := value_bd hy
 have bw := width_bd hx
 by_cases hc : a ≤ y
 ·have es : lshrZ a x y = 0 := if_pos hc
  rw [es]; clear es
  go_enter Tryz.func140, Tryz.ntmps140
  go_wp2_with fail
  go_ret
  exact ⟨ret_int (by rfl), rfl⟩
 ·have es : lshrZ a x y = x / 2 ^ y.toNat := if_neg hc
  rw [es]; clear es
  go_enter Tryz.func140, Tryz.ntmps140
  go_wp2_with fail
  go_ret
  exact ⟨ret_int (by rfl), rfl⟩
theorem l1ashr (a x y : Int) (w : World) (hx : valueB a x = true) (hy : valueB a y = true) : Calls Tryz.prog 140 #[.int .i64 13, .int .i64 a, .int .i64 x, .int .i64 y] w fun e w' => e = .returned (.int .i64 (sgnZ a x / 2 ^ (shB a y).toNat)) ∧ w' = w := by
 have bx := value_bd hx
 have by_ := value_bd hy
 have bw := width_bd hx
 have sx := sgn_bd hx
 by_cases hc : a ≤ y
 ·have es : shB a y = a - 1 := if_pos hc
  rw [es]; clear es
  go_enter Tryz.func140, Tryz.ntmps140
  go_wp2_with (go_at_call 115; refine (sgnS _ _ _ (by assumption)).mono ?_; rintro e w' ⟨rfl, rfl⟩)
  go_ret
  exact ⟨ret_int (by first | rfl | rw [show a.toNat - 1 = (a - 1).toNat by omega]), rfl⟩
 ·have es : shB a y = y := if_neg hc
  rw [es]; clear es
  go_enter Tryz.func140, Tryz.ntmps140
  go_wp2_with (go_at_call 115; refine (sgnS _ _ _ (by assumption)).mono ?_; rintro e w' ⟨rfl, rfl⟩)
  go_ret
  exact ⟨ret_int (by rfl), rfl⟩
theorem addS (a x y : Int) (w : World) (hx : valueB a x = true) (hy : valueB a y = true) : Calls Tryz.prog 113 #[.int .i64 1, .int .i64 a, .int .i64 x, .int .i64 y] w fun e w' => e = .returned (.int .i64 (x + y)) ∧ w' = w := by
 have bx := value_bd hx
 have by_ := value_bd hy
 go_enter Tryz.func113, Tryz.ntmps113
 go_wp2_with (first | (go_at_call 115; refine (sgnS _ _ _ (by assumption)).mono ?_; rintro e w' ⟨rfl, rfl⟩) | (go_at_call 139; refine (bitS _ _).mono ?_; rintro e w' ⟨rfl, rfl⟩))
 go_ret
 exact ⟨ret_int (by rfl), rfl⟩
theorem subS (a x y : Int) (w : World) (hx : valueB a x = true) (hy : valueB a y = true) : Calls Tryz.prog 113 #[.int .i64 2, .int .i64 a, .int .i64 x, .int .i64 y] w fun e w' => e = .returned (.int .i64 (x - y)) ∧ w' = w := by
 have bx := value_bd hx
 have by_ := value_bd hy
 go_enter Tryz.func113, Tryz.ntmps113
 go_wp2_with (first | (go_at_call 115; refine (sgnS _ _ _ (by assumption)).mono ?_; rintro e w' ⟨rfl, rfl⟩) | (go_at_call 139; refine (bitS _ _).mono ?_; rintro e w' ⟨rfl, rfl⟩))
 go_ret
 exact ⟨ret_int (by rfl), rfl⟩
theorem mulS (a x y : Int) (w : World) (hx : valueB a x = true) (hy : valueB a y = true) : Calls Tryz.prog 113 #[.int .i64 3, .int .i64 a, .int .i64 x, .int .i64 y] w fun e w' => e = .returned (.int .i64 (wrap64 (sgnZ a x * sgnZ a y))) ∧ w' = w := by
 have bx := value_bd hx
 have by_ := value_bd hy
 have sx := sgn_bd hx
 have sy := sgn_bd hy
 go_enter Tryz.func113, Tryz.ntmps113
 go_wp2_with (first | (go_at_call 115; refine (sgnS _ _ _ (by assumption)).mono ?_; rintro e w' ⟨rfl, rfl⟩) | (go_at_call 139; refine (bitS _ _).mono ?_; rintro e w' ⟨rfl, rfl⟩))
 go_ret
 exact ⟨ret_int (by rfl), rfl⟩
theorem udivS (a x y : Int) (w : World) (hx : valueB a x = true) (hy : valueB a y = true) (hz : ¬ y = 0) : Calls Tryz.prog 113 #[.int .i64 4, .int .i64 a, .int .i64 x, .int .i64 y] w fun e w' => e = .returned (.int .i64 (x / y)) ∧ w' = w := by
 have bx := value_bd hx
 have by_ := value_bd hy
 have hp : 1 ≤ y := by omega
 go_enter Tryz.func113, Tryz.ntmps113
 go_wp2_with (first | (go_at_call 115; refine (sgnS _ _ _ (by assumption)).mono ?_; rintro e w' ⟨rfl, rfl⟩) | (go_at_call 139; refine (bitS _ _).mono ?_; rintro e w' ⟨rfl, rfl⟩))
 go_ret
 exact ⟨ret_int (by rfl), rfl⟩
theorem sdivS (a x y : Int) (w : World) (hx : valueB a x = true) (hy : valueB a y = true) (hz : ¬ y = 0) : Calls Tryz.prog 113 #[.int .i64 5, .int .i64 a, .int .i64 x, .int .i64 y] w fun e w' => e = .returned (.int .i64 (wrap64 ((sgnZ a x).tdiv (sgnZ a y)))) ∧ w' = w := by
 have bx := value_bd hx
 have by_ := value_bd hy
 have sx := sgn_bd hx
 have sy := sgn_bd hy
 have sz := sgn_zero hy hz
 go_enter Tryz.func113, Tryz.ntmps113
 go_wp2_with (first | (go_at_call 115; refine (sgnS _ _ _ (by assumption)).mono ?_; rintro e w' ⟨rfl, rfl⟩) | (go_at_call 139; refine (bitS _ _).mono ?_; rintro e w' ⟨rfl, rfl⟩))
 go_ret
 exact ⟨ret_int (by rfl), rfl⟩
theorem uremS (a x y : Int) (w : World) (hx : valueB a x = true) (hy : valueB a y = true) (hz : ¬ y = 0) : Calls Tryz.prog 113 #[.int .i64 6, .int .i64 a, .int .i64 x, .int .i64 y] w fun e w' => e = .returned (.int .i64 (x % y)) ∧ w' = w := by
 have bx := value_bd hx
 have by_ := value_bd hy
 have hp : 1 ≤ y := by omega
 go_enter Tryz.func113, Tryz.ntmps113
 go_wp2_with (first | (go_at_call 115; refine (sgnS _ _ _ (by assumption)).mono ?_; rintro e w' ⟨rfl, rfl⟩) | (go_at_call 139; refine (bitS _ _).mono ?_; rintro e w' ⟨rfl, rfl⟩))
 go_ret
 exact ⟨ret_int (by rfl), rfl⟩
theorem sremS (a x y : Int) (w : World) (hx : valueB a x = true) (hy : valueB a y = true) (hz : ¬ y = 0) : Calls Tryz.prog 113 #[.int .i64 7, .int .i64 a, .int .i64 x, .int .i64 y] w fun e w' => e = .returned (.int .i64 ((sgnZ a x).tmod (sgnZ a y))) ∧ w' = w := by
 have bx := value_bd hx
 have by_ := value_bd hy
 have sx := sgn_bd hx
 have sy := sgn_bd hy
 have sz := sgn_zero hy hz
 go_enter Tryz.func113, Tryz.ntmps113
 go_wp2_with (first | (go_at_call 115; refine (sgnS _ _ _ (by assumption)).mono ?_; rintro e w' ⟨rfl, rfl⟩) | (go_at_call 139; refine (bitS _ _).mono ?_; rintro e w' ⟨rfl, rfl⟩))
 go_ret
 exact ⟨ret_int (by rfl), rfl⟩
theorem andS (a x y : Int) (w : World) (hx : valueB a x = true) (hy : valueB a y = true) : Calls Tryz.prog 113 #[.int .i64 8, .int .i64 a, .int .i64 x, .int .i64 y] w fun e w' => e = .returned (.int .i64 (bits .and .i64 x y)) ∧ w' = w := by
 have bx := value_bd hx
 have by_ := value_bd hy
 go_enter Tryz.func113, Tryz.ntmps113
 go_wp2_with (first | (go_at_call 115; refine (sgnS _ _ _ (by assumption)).mono ?_; rintro e w' ⟨rfl, rfl⟩) | (go_at_call 139; refine (bitS _ _).mono ?_; rintro e w' ⟨rfl, rfl⟩))
 go_ret
 exact ⟨ret_int (by rfl), rfl⟩
theorem orS (a x y : Int) (w : World) (hx : valueB a x = true) (hy : valueB a y = true) : Calls Tryz.prog 113 #[.int .i64 9, .int .i64 a, .int .i64 x, .int .i64 y] w fun e w' => e = .returned (.int .i64 (bits .or .i64 x y)) ∧ w' = w := by
 have bx := value_bd hx
 have by_ := value_bd hy
 go_enter Tryz.func113, Tryz.ntmps113
 go_wp2_with (first | (go_at_call 115; refine (sgnS _ _ _ (by assumption)).mono ?_; rintro e w' ⟨rfl, rfl⟩) | (go_at_call 139; refine (bitS _ _).mono ?_; rintro e w' ⟨rfl, rfl⟩))
 go_ret
 exact ⟨ret_int (by rfl), rfl⟩
theorem xorS (a x y : Int) (w : World) (hx : valueB a x = true) (hy : valueB a y = true) : Calls Tryz.prog 113 #[.int .i64 10, .int .i64 a, .int .i64 x, .int .i64 y] w fun e w' => e = .returned (.int .i64 (bits .xor .i64 x y)) ∧ w' = w := by
 have bx := value_bd hx
 have by_ := value_bd hy
 go_enter Tryz.func113, Tryz.ntmps113
 go_wp2_with (first | (go_at_call 115; refine (sgnS _ _ _ (by assumption)).mono ?_; rintro e w' ⟨rfl, rfl⟩) | (go_at_call 139; refine (bitS _ _).mono ?_; rintro e w' ⟨rfl, rfl⟩))
 go_ret
 exact ⟨ret_int (by rfl), rfl⟩
theorem shlS (a x y : Int) (w : World) (hx : valueB a x = true) (hy : valueB a y = true) : Calls Tryz.prog 113 #[.int .i64 11, .int .i64 a, .int .i64 x, .int .i64 y] w fun e w' => e = .returned (.int .i64 (shlZ a x y)) ∧ w' = w := by
 have bx := value_bd hx
 have by_ := value_bd hy
 go_enter Tryz.func113, Tryz.ntmps113
 go_wp2_with (go_at_call 140; refine (l1shl _ _ _ _ (by assumption) (by assumption)).mono ?_; rintro e w' ⟨rfl, rfl⟩)
 go_ret
 exact ⟨ret_int (by rfl), rfl⟩
theorem lshrS (a x y : Int) (w : World) (hx : valueB a x = true) (hy : valueB a y = true) : Calls Tryz.prog 113 #[.int .i64 12, .int .i64 a, .int .i64 x, .int .i64 y] w fun e w' => e = .returned (.int .i64 (lshrZ a x y)) ∧ w' = w := by
 have bx := value_bd hx
 have by_ := value_bd hy
 go_enter Tryz.func113, Tryz.ntmps113
 go_wp2_with (go_at_call 140; refine (l1lshr _ _ _ _ (by assumption) (by assumption)).mono ?_; rintro e w' ⟨rfl, rfl⟩)
 go_ret
 exact ⟨ret_int (by rfl), rfl⟩
theorem ashrS (a x y : Int) (w : World) (hx : valueB a x = true) (hy : valueB a y = true) : Calls Tryz.prog 113 #[.int .i64 13, .int .i64 a, .int .i64 x, .int .i64 y] w fun e w' => e = .returned (.int .i64 (sgnZ a x / 2 ^ (shB a y).toNat)) ∧ w' = w := by
 have bx := value_bd hx
 have by_ := value_bd hy
 go_enter Tryz.func113, Tryz.ntmps113
 go_wp2_with (go_at_call 140; refine (l1ashr _ _ _ _ (by assumption) (by assumption)).mono ?_; rintro e w' ⟨rfl, rfl⟩)
 go_ret
 exact ⟨ret_int (by rfl), rfl⟩
theorem eqS (a x y : Int) (w : World) (hx : valueB a x = true) (hy : valueB a y = true) : Calls Tryz.prog 113 #[.int .i64 14, .int .i64 a, .int .i64 x, .int .i64 y] w fun e w' => e = .returned (.int .i64 (bitZ (x == y))) ∧ w' = w := by
 have bx := value_bd hx
 have by_ := value_bd hy
 go_enter Tryz.func113, Tryz.ntmps113
 go_wp2_with (first | (go_at_call 115; refine (sgnS _ _ _ (by assumption)).mono ?_; rintro e w' ⟨rfl, rfl⟩) | (go_at_call 139; refine (bitS _ _).mono ?_; rintro e w' ⟨rfl, rfl⟩))
 go_ret
 exact ⟨ret_int (by rfl), rfl⟩
theorem neS (a x y : Int) (w : World) (hx : valueB a x = true) (hy : valueB a y = true) : Calls Tryz.prog 113 #[.int .i64 15, .int .i64 a, .int .i64 x, .int .i64 y] w fun e w' => e = .returned (.int .i64 (bitZ (x != y))) ∧ w' = w := by
 have bx := value_bd hx
 have by_ := value_bd hy
 go_enter Tryz.func113, Tryz.ntmps113
 go_wp2_with (first | (go_at_call 115; refine (sgnS _ _ _ (by assumption)).mono ?_; rintro e w' ⟨rfl, rfl⟩) | (go_at_call 139; refine (bitS _ _).mono ?_; rintro e w' ⟨rfl, rfl⟩))
 go_ret
 exact ⟨ret_int (by rfl), rfl⟩
theorem ultS (a x y : Int) (w : World) (hx : valueB a x = true) (hy : valueB a y = true) : Calls Tryz.prog 113 #[.int .i64 16, .int .i64 a, .int .i64 x, .int .i64 y] w fun e w' => e = .returned (.int .i64 (bitZ (decide (x < y)))) ∧ w' = w := by
 have bx := value_bd hx
 have by_ := value_bd hy
 go_enter Tryz.func113, Tryz.ntmps113
 go_wp2_with (first | (go_at_call 115; refine (sgnS _ _ _ (by assumption)).mono ?_; rintro e w' ⟨rfl, rfl⟩) | (go_at_call 139; refine (bitS _ _).mono ?_; rintro e w' ⟨rfl, rfl⟩))
 go_ret
 exact ⟨ret_int (by rfl), rfl⟩
theorem sltS (a x y : Int) (w : World) (hx : valueB a x = true) (hy : valueB a y = true) : Calls Tryz.prog 113 #[.int .i64 17, .int .i64 a, .int .i64 x, .int .i64 y] w fun e w' => e = .returned (.int .i64 (bitZ (decide (sgnZ a x < sgnZ a y)))) ∧ w' = w := by
 have bx := value_bd hx
 have by_ := value_bd hy
 have sx := sgn_bd hx
 have sy := sgn_bd hy
 go_enter Tryz.func113, Tryz.ntmps113
 go_wp2_with (first | (go_at_call 115; refine (sgnS _ _ _ (by assumption)).mono ?_; rintro e w' ⟨rfl, rfl⟩) | (go_at_call 139; refine (bitS _ _).mono ?_; rintro e w' ⟨rfl, rfl⟩))
 go_ret
 exact ⟨ret_int (by rfl), rfl⟩
end Go.Proofs.YtoknhppjdmoblaaGreatDoor
namespace Go.Proofs.YtoknhppjdmoblaaGreatDoor
set_option linter.unusedVariables false
set_option linter.unusedSimpArgs false
open Go.RowKit
def twoZ (op a x y : Int) : Int :=
 if op = 1 then x + y else if op = 2 then x - y else if op = 3 then x * y else if op = 4 then x / y else
 if op = 5 then (sgnZ a x).tdiv (sgnZ a y) else if op = 6 then x % y else if op = 7 then (sgnZ a x).tmod (sgnZ a y) else
 if op = 8 then bits .and .i64 x y else if op = 9 then bits .or .i64 x y else if op = 10 then bits .xor .i64 x y else
 if op = 11 then shlZ a x y else if op = 12 then lshrZ a x y else if op = 13 then sgnZ a x / 2 ^ (shB a y).toNat else
 if op = 14 then bitZ (x == y) else if op = 15 then bitZ (x != y) else if op = 16 then bitZ (decide (x < y)) else bitZ (decide (sgnZ a x < sgnZ a y))
def divB (op : Int) : Bool := decide (4 ≤ op) && decide (op ≤ 7)
def binOk (op a x y : Int) : Bool := opB op && (valueB a x && valueB a y)
def binC (op a x y : Int) : Int := if binOk op a x y = true then (if divB op = true ∧ y = 0 then 1 else 0) else 2
def binZ (op a x y : Int) : Int := if binOk op a x y = true ∧ ¬ (divB op = true ∧ y = 0) then maskZ a (twoZ op a x y) else 0
theorem top_dvd {a : Int} (h : widthB a = true) : topZ a ∣ 4294967296 := by
 rcases width_yes h with rfl | rfl | rfl | rfl
 ·exact ⟨2147483648, by simp [top1]⟩
 ·exact ⟨16777216, by simp [top8]⟩
 ·exact ⟨65536, by simp [top16]⟩
 ·exact ⟨1, by simp [top32]⟩
theorem and_u64 (n : Int) (h0 : 0 ≤ n) (h1 : n < 18446744073709551616) : bits .and .u64 n 4294967295 = n % 4294967296 := by
 rw [u64_and n 4294967295 h0 h1 (by decide) (by decide)]
 have e : n.toNat &&& (4294967295 : Int).toNat = n.toNat % 4294967296 := Nat.and_two_pow_sub_one_eq_mod n.toNat 32
 rw [e]; omega
theorem mulI_eq {x y : Int} : wrap64 (bits BinOp.and IntKind.u64 (IntKind.u64.wrap (x * y)) 4294967295) = x * y % 4294967296 := by
 rw [IntKind.wrap_u64, and_u64 _ (by omega) (by omega)]
 generalize x * y = m
 unfold wrap64; omega
theorem sgn_emod {a x : Int} : sgnZ a x % topZ a = x % topZ a := by
 unfold sgnZ; split
 ·exact Int.sub_emod_right x (topZ a)
 ·rfl
theorem mask_mod {a m n : Int} (h : m % topZ a = n % topZ a) : maskZ a m = maskZ a n := by
 unfold maskZ; rw [h]
theorem mask_mulI {a x y : Int} (h : widthB a = true) : maskZ a (x * y % 4294967296) = maskZ a (x * y) :=
 mask_mod (Int.emod_emod_of_dvd _ (top_dvd h))
theorem mul_bd {p q : Int} (hp : -2147483648 ≤ p ∧ p ≤ 2147483647) (hq : -2147483648 ≤ q ∧ q ≤ 2147483647) : -4611686018427387904 ≤ p * q ∧ p * q ≤ 4611686018427387904 := by
 have h1 : (p * q).natAbs ≤ 2147483648 * 2147483648 := by
  rw [Int.natAbs_mul]; exact Nat.mul_le_mul (by omega) (by omega)
 omega
theorem mulS_eq {a x y : Int} (hx : valueB a x = true) (hy : valueB a y = true) : maskZ a (wrap64 (sgnZ a x * sgnZ a y)) = maskZ a (x * y) := by
 have hb := mul_bd (sgn_bd hx) (sgn_bd hy)
 have e : wrap64 (sgnZ a x * sgnZ a y) = sgnZ a x * sgnZ a y := by
  generalize sgnZ a x * sgnZ a y = m at hb
  unfold wrap64; omega
 rw [e]
 refine mask_mod ?_
 rw [Int.mul_emod, sgn_emod, sgn_emod, ← Int.mul_emod]
theorem tdiv_bd {p q : Int} (hp : -2147483648 ≤ p ∧ p ≤ 2147483647) : wrap64 (p.tdiv q) = p.tdiv q := by
 have h1 : (p.tdiv q).natAbs ≤ 2147483648 := by
  rw [Int.natAbs_tdiv]; exact Nat.le_trans (Nat.div_le_self _ _) (by omega)
 generalize p.tdiv q = m at h1
 unfold wrap64; omega
theorem op_cases {op : Int} (h : opB op = true) : op = 1 ∨ op = 2 ∨ op = 3 ∨ op = 4 ∨ op = 5 ∨ op = 6 ∨ op = 7 ∨ op = 8 ∨ op = 9 ∨ op = 10 ∨ op = 11 ∨ op = 12 ∨ op = 13 ∨ op = 14 ∨ op = 15 ∨ op = 16 ∨ op = 17 := by
 have := op_yes h; omega
theorem bin_form {op a x y : Int} (h : binOk op a x y = false) : 0 = binZ op a x y ∧ 2 = binC op a x y := by simp [binZ, binC, h]
theorem bin_zero {op a x y : Int} (h : binOk op a x y = true) (hd : divB op = true) (hy : y = 0) : 0 = binZ op a x y ∧ 1 = binC op a x y := by subst hy; simp [binZ, binC, h, hd]
theorem bin_ok {op a x y : Int} (h : binOk op a x y = true) (hd : ¬ (divB op = true ∧ y = 0)) : maskZ a (twoZ op a x y) = binZ op a x y ∧ 0 = binC op a x y := by
 constructor
 ·rw [binZ, if_pos ⟨h, hd⟩]
 ·rw [binC, if_pos h, if_neg hd]
theorem divS (op : Int) (w : World) : Calls Tryz.prog 111 #[.int .i64 op] w fun e w' => e = .returned (.bool (divB op)) ∧ w' = w := by
 go_enter Tryz.func111, Tryz.ntmps111
 go_wp2_with (go_at_call 69; refine (inS _ _ _ _).mono ?_; rintro e w' ⟨rfl, rfl⟩)
 go_ret
 exact ⟨ret_bool (by rfl), rfl⟩
end Go.Proofs.YtoknhppjdmoblaaGreatDoor
namespace Go.Proofs.YtoknhppjdmoblaaGreatDoor
set_option linter.unusedVariables false
set_option linter.unusedSimpArgs false
open Go.RowKit
def OwnAt (w : World) (lo : Nat) (a : Option Addr) (l : List Int) : Prop :=
 l.length ≤ 9223372036854775807 ∧ (l = [] ∨ ∃ g cur, a = some ⟨g, 0, none⟩ ∧ lo ≤ g ∧ w.heap[g]? = some (.cells cur 2 (0, 0)) ∧ ∀ i, i < l.length → cur[i]? = some (.int .i64 (l.getD i 0)))
theorem OwnAt.ints {w : World} {lo : Nat} {a : Option Addr} {l : List Int} (h : OwnAt w lo a l) : IntsAt w lo a l := by
 obtain ⟨hm, h⟩ := h
 refine ⟨hm, ?_⟩
 rcases h with h | ⟨g, cur, ha, hl, hb, hc⟩
 ·exact .inl h
 ·exact .inr ⟨g, 0, ha, hl, (Array.getElem?_eq_some_iff.1 hb).1, fun i hi => by rw [Nat.zero_add, cell_of_heap hb]; exact hc i hi⟩
theorem OwnAt.keep {w w' : World} {lo : Nat} {a : Option Addr} {l : List Int} (h : OwnAt w lo a l) (k : Agree lo w w') : OwnAt w' lo a l := by
 obtain ⟨hm, h⟩ := h
 refine ⟨hm, ?_⟩
 rcases h with h | ⟨g, cur, ha, hl, hb, hc⟩
 ·exact .inl h
 ·exact .inr ⟨g, cur, ha, hl, (k.2 g hl (Array.getElem?_eq_some_iff.1 hb).1).trans hb, hc⟩
theorem OwnAt.low {w : World} {lo lo' : Nat} {a : Option Addr} {l : List Int} (h : OwnAt w lo a l) (k : lo' ≤ lo) : OwnAt w lo' a l := by
 obtain ⟨hm, h⟩ := h
 refine ⟨hm, ?_⟩
 rcases h with h | ⟨g, cur, ha, hl, hb, hc⟩
 ·exact .inl h
 ·exact .inr ⟨g, cur, ha, Nat.le_trans k hl, hb, hc⟩
theorem own_lit (w : World) (l : List Int) (hm : l.length ≤ 1000) (cs : Array Value) (hc : ∀ i, i < l.length → cs[i]? = some (.int .i64 (l.getD i 0))) : OwnAt (w.alloc (.cells cs 2)) w.heap.size (some ⟨w.heap.size, 0, none⟩) l :=
 ⟨by omega, .inr ⟨w.heap.size, cs, rfl, Nat.le_refl _, heap_alloc_last _ _, hc⟩⟩
theorem own_of_row {w : World} {base : Nat} {v : Value} {l : List Int} (hm : l.length ≤ 1048576) (h : w.ownsRow base 2 1 v l.length (l.map (Value.int .i64))) : ∃ u c, v = .slice u l.length c ∧ OwnAt w base u l := by
 rcases h.2 with ⟨hv, hn⟩ | ⟨g, cap, cur, hv, hb, hg, hnc, _, hcs, htk⟩
 ·exact ⟨none, 0, by rw [hv, hn], by omega, .inl (List.length_eq_zero_iff.1 hn)⟩
 ·refine ⟨_, cap, hv, by omega, .inr ⟨g, cur, rfl, hb, hg, fun i hi => ?_⟩⟩
  have e : (cur.toList.take (l.length * 1))[i]? = (l.map (Value.int .i64))[i]? := by rw [htk]
  rw [List.getElem?_take, if_pos (by omega)] at e
  simp [hi] at e
  simpa [List.getD, hi] using e
theorem append_none {t ty : TypeId} (v : Value) (hv : v = .slice none 0 0 ∨ ∃ g, v = .slice (some ⟨g, 0, none⟩) 0 0) (c : Nat) (w : World) (i : TypeInfo) (ht : Tryz.prog.underlying t = some (.slice 2)) (hi : Tryz.prog.info? 2 = some i) :
  (Builtin.append_ #[t, t] ty #[v, .slice none 0 c]).run Tryz.prog w = .ok v w := by
 rcases hv with rfl | ⟨g, rfl⟩
 ·simp [Builtin.append_, run_underlying ht, sizeOf, typeInfo, hi, Builtin.lenOf, Builtin.firstCells]
 ·simp [Builtin.append_, run_underlying ht, sizeOf, typeInfo, hi, Builtin.lenOf, Builtin.firstCells, storeCells]
set_option maxHeartbeats 1000000 in
theorem copyS_any (lo : Nat) (a : Option Addr) (cap : Nat) (l : List Int) (w : World) (hl : l.length ≤ 1048576) (hv : IntsAt w lo a l) :
  Calls Tryz.prog 109 #[.slice a l.length cap] w fun e w' => ∃ u c, e = .returned (.slice u l.length c) ∧ OwnAt w' w.heap.size u l ∧ Below w.heap.size w w' := by
 obtain ⟨i0, hi, hz0, hz1, hz2⟩ := info_parts infoI
 rcases a with _ | ad
 ·have hnil : l = [] := by
   rcases hv.2 with h | ⟨b, off, h, _⟩
   ·exact h
   ·simp at h
  subst hnil
  go_enter Tryz.func109, Tryz.ntmps109
  have hap := fun g => append_none (t := 24) (ty := 24) (.slice (some ⟨g, 0, none⟩) 0 0) (.inr ⟨g, rfl⟩) cap (w.alloc (.cells #[] 2)) i0 Tryz.underlying24 hi
  clear hi hz0 hz1 hz2
  go_wp2_with fail
  go_ret
  exact ⟨_, _, rfl, ⟨by simp, .inl rfl⟩, (Below.refl _ _).alloc (Nat.le_refl _) _⟩
 ·have hcell : ∀ j u, (l.map (Value.int .i64))[j]? = some u → (w.alloc (.cells #[] 2)).cell? (ad.add j) = some u := by
   intro j u hj
   rcases hv.2 with h | ⟨b, off, h, _, hb, hc⟩
   ·simp [h] at hj
   ·simp at h
    subst h
    have hjl : j < l.length := by
     have := (List.getElem?_eq_some_iff.1 hj).1
     simpa using this
    have hat : (⟨b, off, none⟩ : Addr).add j = ⟨b, off + j, none⟩ := by unfold Addr.add; split <;> simp_all
    rw [hat, cell_block (Below.heap_alloc w _ b hb), hc j hjl]
    simp [hjl] at hj
    rw [← hj]; simp [List.getD, hjl]
  go_enter Tryz.func109, Tryz.ntmps109
  go_wp2_with (at_builtin; refine wpList_append_own _ rfl _ _ 24 rfl w.heap.size 2 i0 (.int .i64 0) 1 8 Tryz.underlying24 hi hz0 hz1 hz2 rfl (by decide) _ 0 [] rfl (World.ownsRow_lit w #[] 0 (Nat.le_refl _) (by decide) (by simp)) ad l.length cap (l.map (Value.int .i64)) rfl (by simp) hcell (by simp [Value.oneCell']) (by unfold maxLen; omega) (by omega) (by simp) ?_; intro v' w1 hown hgrow _)
  simp only [Nat.zero_add, List.nil_append] at hown
  obtain ⟨u, c, rfl, ho⟩ := own_of_row hl hown
  go_ret
  exact ⟨u, c, rfl, ho, ((Below.refl _ _).alloc (Nat.le_refl _) _).grown hgrow (by simp) (fun k hk => by have hk' : some w.heap.size = some k := hk; simp at hk'; omega)⟩
end Go.Proofs.YtoknhppjdmoblaaGreatDoor
namespace Go.Proofs.YtoknhppjdmoblaaGreatDoor
set_option linter.unusedVariables false
set_option linter.unusedSimpArgs false
open Go.RowKit
def opsD (d : InstD) : List Int :=
 if opB d.op = true ∨ d.op = 24 then [d.a, d.b] else if d.op = 18 ∨ d.op = 19 ∨ d.op = 20 ∨ d.op = 23 ∨ d.op = 25 ∨ d.op = 27 then [d.a] else if d.op = 22 then [d.a, d.b, d.c] else if d.op = 26 then d.args else []
theorem own_mk {w : World} {l : List Int} {cs : Array Value} {v : List Int} (e : v = l) (hm : l.length ≤ 1000) (hc : ∀ i, i < l.length → cs[i]? = some (.int .i64 (l.getD i 0))) : OwnAt (w.alloc (.cells cs 2)) w.heap.size (some ⟨w.heap.size, 0, none⟩) v := by
 subst e; exact own_lit w _ hm cs hc
theorem own_mk2 {w : World} {o : Obj} {l : List Int} {cs : Array Value} {v : List Int} (e : v = l) (hm : l.length ≤ 1000) (hc : ∀ i, i < l.length → cs[i]? = some (.int .i64 (l.getD i 0))) : OwnAt ((w.alloc o).alloc (.cells cs 2)) w.heap.size (some ⟨w.heap.size + 1, 0, none⟩) v := by
 have h := own_mk (w := w.alloc o) e hm hc
 have hz : (w.alloc o).heap.size = w.heap.size + 1 := by simp
 rw [hz] at h
 exact h.low (by omega)
theorem two_cells (a b : Int) : ∀ i, i < [a, b].length → (#[Value.int .i64 a, Value.int .i64 b] : Array Value)[i]? = some (.int .i64 ([a, b].getD i 0)) := by
 intro i hi
 match i, hi with
 | 0, _ => rfl
 | 1, _ => rfl
theorem one_cells (a : Int) : ∀ i, i < [a].length → (#[Value.int .i64 a] : Array Value)[i]? = some (.int .i64 ([a].getD i 0)) := by
 intro i hi
 match i, hi with
 | 0, _ => rfl
theorem three_cells (a b c : Int) : ∀ i, i < [a, b, c].length → (#[Value.int .i64 a, Value.int .i64 b, Value.int .i64 c] : Array Value)[i]? = some (.int .i64 ([a, b, c].getD i 0)) := by
 intro i hi
 match i, hi with
 | 0, _ => rfl
 | 1, _ => rfl
 | 2, _ => rfl
set_option maxHeartbeats 1000000 in
theorem operS_bin (d : InstD) (u : Option Addr) (q : Nat) (w : World) (h : opB d.op = true) :
  Calls Tryz.prog 71 #[.agg #[.int .i64 d.op, .int .i64 d.w, .int .i64 d.a, .int .i64 d.b, .int .i64 d.c, .int .i64 d.imm, .slice u d.args.length q]] w fun e w' => ∃ u c, e = .returned (.slice u (opsD d).length c) ∧ OwnAt w' w.heap.size u (opsD d) ∧ Below w.heap.size w w' := by
 have E : opsD d = [d.a, d.b] := by simp [opsD, h]
 rw [E]; clear E
 have dd : (decide (1 ≤ d.op) && decide (d.op ≤ 17)) = true := h
 clear h
 go_enter Tryz.func71, Tryz.ntmps71
 go_wp2_with (go_at_call 69; refine (inS _ _ _ _).mono ?_; rintro e w' ⟨rfl, rfl⟩)
 go_ret
 refine ⟨_, _, rfl, own_mk2 rfl (by simp) (two_cells d.a d.b), ((Below.refl _ _).alloc (Nat.le_refl _) _).alloc (by simp) _⟩
set_option maxHeartbeats 1000000 in
theorem bk_oper (a b : Int) (w : World) : Calls Tryz.prog 179 #[.agg #[.int .i64 a, .int .i64 b]] w fun e w' => ∃ u c, e = .returned (.slice u 2 c) ∧ OwnAt w' w.heap.size u [a, b] ∧ Below w.heap.size w w' := by
 go_enter Tryz.func179, Tryz.ntmps179
 go_wp2_with fail
 go_ret
 refine ⟨_, _, rfl, own_mk2 rfl (by simp) (two_cells a b), ((Below.refl _ _).alloc (Nat.le_refl _) _).alloc (by simp) _⟩
end Go.Proofs.YtoknhppjdmoblaaGreatDoor
