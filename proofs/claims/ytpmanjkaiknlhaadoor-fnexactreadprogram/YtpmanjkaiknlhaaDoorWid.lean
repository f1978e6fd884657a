/- Contracts of the functions of widths, the program's and the model's: what each call gives, in whatever world, which stays. -/
import Derived.Test.YtpmanjkaiknlhaaDoorRows
import Derived.Test.YtpmanjkaiknlhaaDoorMath
import Derived.WalkKit
import Derived.WalkSpells
namespace Go.Proofs.YtpmanjkaiknlhaaDoor
open Go.RowKit

theorem widthS (a : Int) (w : World) : Calls Tryd.prog 36 #[.int .i64 a] w fun e w' => e = .returned (.bool (widthB a)) ∧ w' = w := by
  by_cases h : widthB a = true
  · rw [h]
    rcases width_yes h with rfl | rfl | rfl | rfl
    all_goals
      clear h
      go_enter Tryd.func36, Tryd.ntmps36
      go_wp2
      go_ret
      exact ⟨rfl, rfl⟩
  · have h : widthB a = false := by simpa using h
    rw [h]
    obtain ⟨d1, d2, d3, d4⟩ := width_no h
    clear h
    go_enter Tryd.func36, Tryd.ntmps36
    go_wp2
    go_ret
    exact ⟨rfl, rfl⟩
theorem widthI (a : Int) (w : World) : Calls Tryd.prog 51 #[.int .i64 a] w fun e w' => e = .returned (.bool (widthB a)) ∧ w' = w := by
  by_cases h : widthB a = true
  · rw [h]
    rcases width_yes h with rfl | rfl | rfl | rfl
    all_goals
      clear h
      go_enter Tryd.func51, Tryd.ntmps51
      go_wp2
      go_ret
      exact ⟨rfl, rfl⟩
  · have h : widthB a = false := by simpa using h
    rw [h]
    obtain ⟨d1, d2, d3, d4⟩ := width_no h
    clear h
    go_enter Tryd.func51, Tryd.ntmps51
    go_wp2
    go_ret
    exact ⟨rfl, rfl⟩

theorem topS (a : Int) (w : World) (h : widthB a = true) : Calls Tryd.prog 56 #[.int .i64 a] w fun e w' => e = .returned (.int .i64 (topZ a)) ∧ w' = w := by
  rcases width_yes h with rfl | rfl | rfl | rfl
  all_goals
    clear h
    go_enter Tryd.func56, Tryd.ntmps56
    go_wp2
    go_ret
    exact ⟨rfl, rfl⟩
theorem topI (a : Int) (w : World) (h : widthB a = true) : Calls Tryd.prog 65 #[.int .i64 a] w fun e w' => e = .returned (.int .i64 (topZ a)) ∧ w' = w := by
  rcases width_yes h with rfl | rfl | rfl | rfl
  all_goals
    clear h
    go_enter Tryd.func65, Tryd.ntmps65
    go_wp2
    go_ret
    exact ⟨rfl, rfl⟩

theorem mask_eq {a n : Int} (h : widthB a = true) : bits .and .i64 n (topZ a - 1) = maskZ a n := by
  rw [maskZ, if_pos h]
  rcases width_yes h with rfl | rfl | rfl | rfl
  · exact and1 n
  · exact and255 n
  · exact and65535 n
  · exact and32 n
theorem ret_bool {a b : Bool} (h : a = b) : Ending.returned (.bool a) = .returned (.bool b) := by rw [h]
theorem ret_int {k : IntKind} {a b : Int} (h : a = b) : Ending.returned (.int k a) = .returned (.int k b) := by rw [h]

theorem maskI (a n : Int) (w : World) : Calls Tryd.prog 63 #[.int .i64 a, .int .i64 n] w fun e w' => e = .returned (.int .i64 (maskZ a n)) ∧ w' = w := by
  by_cases h : widthB a = true
  · have tp := top_pos a
    have HE : Hid (bits .and .i64 n (topZ a - 1) = maskZ a n) := mask_eq (n := n) h
    go_enter Tryd.func63, Tryd.ntmps63
    go_wp2_with (first | (go_at_call 51; refine (widthI _ _).mono ?_; rintro e w' ⟨rfl, rfl⟩) | (go_at_call 65; refine (topI _ _ h).mono ?_; rintro e w' ⟨rfl, rfl⟩))
    go_ret
    exact ⟨ret_int HE.out, rfl⟩
  · have h : widthB a = false := by simpa using h
    have HE : Hid (0 = maskZ a n) := by simp [maskZ, h, Hid]
    go_enter Tryd.func63, Tryd.ntmps63
    go_wp2_with (first | (go_at_call 51; refine (widthI _ _).mono ?_; rintro e w' ⟨rfl, rfl⟩))
    go_ret
    exact ⟨ret_int HE.out, rfl⟩

theorem inS (n lo hi : Int) (w : World) : Calls Tryd.prog 35 #[.int .i64 n, .int .i64 lo, .int .i64 hi] w fun e w' => e = .returned (.bool (decide (lo ≤ n) && decide (n ≤ hi))) ∧ w' = w := by
  by_cases h1 : lo ≤ n
  · by_cases h2 : n ≤ hi
    · have d1 : decide (lo ≤ n) = true := by simpa using h1
      have d2 : decide (n ≤ hi) = true := by simpa using h2
      go_enter Tryd.func35, Tryd.ntmps35
      go_wp2
      go_ret
      exact ⟨ret_bool (by simp [h1, h2]), rfl⟩
    · have d1 : decide (lo ≤ n) = true := by simpa using h1
      have d2 : decide (n ≤ hi) = false := by simpa using h2
      go_enter Tryd.func35, Tryd.ntmps35
      go_wp2
      go_ret
      exact ⟨ret_bool (by simp), rfl⟩
  · have d1 : decide (lo ≤ n) = false := by simpa using h1
    go_enter Tryd.func35, Tryd.ntmps35
    go_wp2
    go_ret
    exact ⟨ret_bool (by simp), rfl⟩

theorem valueS_eq {a v : Int} (h : widthB a = true) : (decide (0 ≤ v) && decide (v ≤ topZ a - 1)) = valueB a v := by
  rw [valueB, h, Bool.true_and, Bool.eq_iff_iff]; simp; omega

theorem valueS (a v : Int) (w : World) : Calls Tryd.prog 45 #[.int .i64 a, .int .i64 v] w fun e w' => e = .returned (.bool (valueB a v)) ∧ w' = w := by
  by_cases h : widthB a = true
  · have tp := top_pos a
    have HE : Hid ((decide (0 ≤ v) && decide (v ≤ topZ a - 1)) = valueB a v) := valueS_eq h
    go_enter Tryd.func45, Tryd.ntmps45
    go_wp2_with (first | (go_at_call 36; refine (widthS _ _).mono ?_; rintro e w' ⟨rfl, rfl⟩) | (go_at_call 56; refine (topS _ _ h).mono ?_; rintro e w' ⟨rfl, rfl⟩) | (go_at_call 35; refine (inS _ _ _ _).mono ?_; rintro e w' ⟨rfl, rfl⟩))
    go_ret
    exact ⟨ret_bool HE.out, rfl⟩
  · have h : widthB a = false := by simpa using h
    have HE : Hid (false = valueB a v) := by simp [valueB, h, Hid]
    go_enter Tryd.func45, Tryd.ntmps45
    go_wp2_with (first | (go_at_call 36; refine (widthS _ _).mono ?_; rintro e w' ⟨rfl, rfl⟩))
    go_ret
    exact ⟨ret_bool HE.out, rfl⟩

theorem valueI (a v : Int) (w : World) : Calls Tryd.prog 61 #[.int .i64 a, .int .i64 v] w fun e w' => e = .returned (.bool (valueB a v)) ∧ w' = w := by
  by_cases h : widthB a = true
  · have tp := top_pos a
    by_cases h1 : 0 ≤ v
    · have HE : Hid (decide (v < topZ a) = valueB a v) := by show _ = _; rw [valueB, h]; simp [h1]
      go_enter Tryd.func61, Tryd.ntmps61
      go_wp2_with (first | (go_at_call 51; refine (widthI _ _).mono ?_; rintro e w' ⟨rfl, rfl⟩) | (go_at_call 65; refine (topI _ _ h).mono ?_; rintro e w' ⟨rfl, rfl⟩))
      go_ret
      exact ⟨ret_bool HE.out, rfl⟩
    · have HE : Hid (false = valueB a v) := by show _ = _; rw [valueB, h]; simp [h1]
      have d1 : decide (0 ≤ v) = false := by simpa using h1
      go_enter Tryd.func61, Tryd.ntmps61
      go_wp2_with (first | (go_at_call 51; refine (widthI _ _).mono ?_; rintro e w' ⟨rfl, rfl⟩))
      go_ret
      exact ⟨ret_bool HE.out, rfl⟩
  · have h : widthB a = false := by simpa using h
    have HE : Hid (false = valueB a v) := by simp [valueB, h, Hid]
    go_enter Tryd.func61, Tryd.ntmps61
    go_wp2_with (first | (go_at_call 51; refine (widthI _ _).mono ?_; rintro e w' ⟨rfl, rfl⟩))
    go_ret
    exact ⟨ret_bool HE.out, rfl⟩

theorem signI (a v : Int) (w : World) : Calls Tryd.prog 64 #[.int .i64 a, .int .i64 v] w fun e w' => e = .returned (.int .i64 (signZ a v)) ∧ w' = w := by
  by_cases h : valueB a v = true
  · obtain ⟨hw, h0, h1⟩ := value_yes h
    have tp := top_pos a
    by_cases hc : topZ a / 2 ≤ v
    · have HE : Hid (v - topZ a = signZ a v) := by show _ = _; rw [signZ, if_pos h, sgnZ, if_pos hc]
      go_enter Tryd.func64, Tryd.ntmps64
      go_wp2_with (first | (go_at_call 61; refine (valueI _ _ _).mono ?_; rintro e w' ⟨rfl, rfl⟩) | (go_at_call 65; refine (topI _ _ hw).mono ?_; rintro e w' ⟨rfl, rfl⟩))
      go_ret
      exact ⟨ret_int HE.out, rfl⟩
    · have HE : Hid (v = signZ a v) := by show _ = _; rw [signZ, if_pos h, sgnZ, if_neg hc]
      go_enter Tryd.func64, Tryd.ntmps64
      go_wp2_with (first | (go_at_call 61; refine (valueI _ _ _).mono ?_; rintro e w' ⟨rfl, rfl⟩) | (go_at_call 65; refine (topI _ _ hw).mono ?_; rintro e w' ⟨rfl, rfl⟩))
      go_ret
      exact ⟨ret_int HE.out, rfl⟩
  · have h : valueB a v = false := by simpa using h
    have HE : Hid (0 = signZ a v) := by show _ = _; rw [signZ, h]; rfl
    go_enter Tryd.func64, Tryd.ntmps64
    go_wp2_with (first | (go_at_call 61; refine (valueI _ _ _).mono ?_; rintro e w' ⟨rfl, rfl⟩))
    go_ret
    exact ⟨ret_int HE.out, rfl⟩
end Go.Proofs.YtpmanjkaiknlhaaDoor
