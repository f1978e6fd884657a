/- Contracts of the functions of widths, the program's and the model's: what each call gives, in whatever world, which stays. -/
import Derived.Test.YtclagbdomfgodaaGreatDoorRows
import Derived.Test.YtclagbdomfgodaaGreatDoorMath
import Derived.WalkKit
import Derived.WalkSpells
namespace Go.Proofs.YtclagbdomfgodaaGreatDoor
open Go.RowKit

theorem widthS (a : Int) (w : World) : Calls Tryz.prog 29 #[.int .i64 a] w fun e w' => e = .returned (.bool (widthB a)) ∧ w' = w := by
  by_cases h : widthB a = true
  · rw [h]
    rcases width_yes h with rfl | rfl | rfl | rfl
    all_goals
      clear h
      go_enter Tryz.func29, Tryz.ntmps29
      go_wp2
      go_ret
      exact ⟨rfl, rfl⟩
  · have h : widthB a = false := by simpa using h
    rw [h]
    obtain ⟨d1, d2, d3, d4⟩ := width_no h
    clear h
    go_enter Tryz.func29, Tryz.ntmps29
    go_wp2
    go_ret
    exact ⟨rfl, rfl⟩
theorem widthI (a : Int) (w : World) : Calls Tryz.prog 46 #[.int .i64 a] w fun e w' => e = .returned (.bool (widthB a)) ∧ w' = w := by
  by_cases h : widthB a = true
  · rw [h]
    rcases width_yes h with rfl | rfl | rfl | rfl
    all_goals
      clear h
      go_enter Tryz.func46, Tryz.ntmps46
      go_wp2
      go_ret
      exact ⟨rfl, rfl⟩
  · have h : widthB a = false := by simpa using h
    rw [h]
    obtain ⟨d1, d2, d3, d4⟩ := width_no h
    clear h
    go_enter Tryz.func46, Tryz.ntmps46
    go_wp2
    go_ret
    exact ⟨rfl, rfl⟩

theorem topS (a : Int) (w : World) (h : widthB a = true) : Calls Tryz.prog 84 #[.int .i64 a] w fun e w' => e = .returned (.int .i64 (topZ a)) ∧ w' = w := by
  rcases width_yes h with rfl | rfl | rfl | rfl
  all_goals
    clear h
    go_enter Tryz.func84, Tryz.ntmps84
    go_wp2
    go_ret
    exact ⟨rfl, rfl⟩
theorem topI (a : Int) (w : World) (h : widthB a = true) : Calls Tryz.prog 95 #[.int .i64 a] w fun e w' => e = .returned (.int .i64 (topZ a)) ∧ w' = w := by
  rcases width_yes h with rfl | rfl | rfl | rfl
  all_goals
    clear h
    go_enter Tryz.func95, Tryz.ntmps95
    go_wp2
    go_ret
    exact ⟨rfl, rfl⟩

theorem mask_eq {a n : Int} (h : widthB a = true) : bits .and .i64 n (topZ a - 1) = maskZ a n := by
  rw [maskZ, if_pos h]
  rcases width_yes h with rfl | rfl | rfl | rfl
  · exact and1 n
  · exact and255 n
  · exact and65535 n
  · exact and32 n
theorem ret_bool {a b : Bool} (h : a = b) : Ending.returned (.bool a) = .returned (.bool b) := by rw [h]
theorem ret_int {k : IntKind} {a b : Int} (h : a = b) : Ending.returned (.int k a) = .returned (.int k b) := by rw [h]

theorem inS (n lo hi : Int) (w : World) : Calls Tryz.prog 30 #[.int .i64 n, .int .i64 lo, .int .i64 hi] w fun e w' => e = .returned (.bool (decide (lo ≤ n) && decide (n ≤ hi))) ∧ w' = w := by
  by_cases h1 : lo ≤ n
  · by_cases h2 : n ≤ hi
    · have d1 : decide (lo ≤ n) = true := by simpa using h1
      have d2 : decide (n ≤ hi) = true := by simpa using h2
      go_enter Tryz.func30, Tryz.ntmps30
      go_wp2
      go_ret
      exact ⟨ret_bool (by simp [h1, h2]), rfl⟩
    · have d1 : decide (lo ≤ n) = true := by simpa using h1
      have d2 : decide (n ≤ hi) = false := by simpa using h2
      go_enter Tryz.func30, Tryz.ntmps30
      go_wp2
      go_ret
      exact ⟨ret_bool (by simp), rfl⟩
  · have d1 : decide (lo ≤ n) = false := by simpa using h1
    go_enter Tryz.func30, Tryz.ntmps30
    go_wp2
    go_ret
    exact ⟨ret_bool (by simp), rfl⟩

theorem valueS_eq {a v : Int} (h : widthB a = true) : (decide (0 ≤ v) && decide (v ≤ topZ a - 1)) = valueB a v := by
  rw [valueB, h, Bool.true_and, Bool.eq_iff_iff]; simp; omega

theorem valueS (a v : Int) (w : World) : Calls Tryz.prog 58 #[.int .i64 a, .int .i64 v] w fun e w' => e = .returned (.bool (valueB a v)) ∧ w' = w := by
  by_cases h : widthB a = true
  · have tp := top_pos a
    have HE : Hid ((decide (0 ≤ v) && decide (v ≤ topZ a - 1)) = valueB a v) := valueS_eq h
    go_enter Tryz.func58, Tryz.ntmps58
    go_wp2_with (first | (go_at_call 29; refine (widthS _ _).mono ?_; rintro e w' ⟨rfl, rfl⟩) | (go_at_call 84; refine (topS _ _ h).mono ?_; rintro e w' ⟨rfl, rfl⟩) | (go_at_call 30; refine (inS _ _ _ _).mono ?_; rintro e w' ⟨rfl, rfl⟩))
    go_ret
    exact ⟨ret_bool HE.out, rfl⟩
  · have h : widthB a = false := by simpa using h
    have HE : Hid (false = valueB a v) := by simp [valueB, h, Hid]
    go_enter Tryz.func58, Tryz.ntmps58
    go_wp2_with (first | (go_at_call 29; refine (widthS _ _).mono ?_; rintro e w' ⟨rfl, rfl⟩))
    go_ret
    exact ⟨ret_bool HE.out, rfl⟩

theorem valueI (a v : Int) (w : World) : Calls Tryz.prog 81 #[.int .i64 a, .int .i64 v] w fun e w' => e = .returned (.bool (valueB a v)) ∧ w' = w := by
  by_cases h : widthB a = true
  · have tp := top_pos a
    by_cases h1 : 0 ≤ v
    · have HE : Hid (decide (v < topZ a) = valueB a v) := by show _ = _; rw [valueB, h]; simp [h1]
      go_enter Tryz.func81, Tryz.ntmps81
      go_wp2_with (first | (go_at_call 46; refine (widthI _ _).mono ?_; rintro e w' ⟨rfl, rfl⟩) | (go_at_call 95; refine (topI _ _ h).mono ?_; rintro e w' ⟨rfl, rfl⟩))
      go_ret
      exact ⟨ret_bool HE.out, rfl⟩
    · have HE : Hid (false = valueB a v) := by show _ = _; rw [valueB, h]; simp [h1]
      have d1 : decide (0 ≤ v) = false := by simpa using h1
      go_enter Tryz.func81, Tryz.ntmps81
      go_wp2_with (first | (go_at_call 46; refine (widthI _ _).mono ?_; rintro e w' ⟨rfl, rfl⟩))
      go_ret
      exact ⟨ret_bool HE.out, rfl⟩
  · have h : widthB a = false := by simpa using h
    have HE : Hid (false = valueB a v) := by simp [valueB, h, Hid]
    go_enter Tryz.func81, Tryz.ntmps81
    go_wp2_with (first | (go_at_call 46; refine (widthI _ _).mono ?_; rintro e w' ⟨rfl, rfl⟩))
    go_ret
    exact ⟨ret_bool HE.out, rfl⟩

end Go.Proofs.YtclagbdomfgodaaGreatDoor
