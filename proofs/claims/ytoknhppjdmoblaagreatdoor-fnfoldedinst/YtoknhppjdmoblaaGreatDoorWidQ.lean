import Derived.Test.YtoknhppjdmoblaaGreatDoorRows
import Derived.Test.YtoknhppjdmoblaaGreatDoorMemQ
import Derived.WalkKit
import Derived.WalkSpells
namespace Go.Proofs.YtoknhppjdmoblaaGreatDoor
set_option linter.unusedVariables false
set_option linter.unusedSimpArgs false
open Go.RowKit
theorem widthS (a : Int) (w : World) : Calls Tryz.prog 68 #[.int .i64 a] w fun e w' => e = .returned (.bool (widthB a)) ∧ w' = w := by
 by_cases h : widthB a = true
 ·rw [h]
  rcases width_yes h with rfl | rfl | rfl | rfl
  all_goals
   clear h
   go_enter Tryz.func68, Tryz.ntmps68
   go_wp2
   go_ret
   exact ⟨rfl, rfl⟩
 ·have h : widthB a = false := by simpa using h
  rw [h]
  obtain ⟨d1, d2, d3, d4⟩ := width_no h
  clear h
  go_enter Tryz.func68, Tryz.ntmps68
  go_wp2
  go_ret
  exact ⟨rfl, rfl⟩
theorem widthI (a : Int) (w : World) : Calls Tryz.prog 93 #[.int .i64 a] w fun e w' => e = .returned (.bool (widthB a)) ∧ w' = w := by
 by_cases h : widthB a = true
 ·rw [h]
  rcases width_yes h with rfl | rfl | rfl | rfl
  all_goals
   clear h
   go_enter Tryz.func93, Tryz.ntmps93
   go_wp2
   go_ret
   exact ⟨rfl, rfl⟩
 ·have h : widthB a = false := by simpa using h
  rw [h]
  obtain ⟨d1, d2, d3, d4⟩ := width_no h
  clear h
  go_enter Tryz.func93, Tryz.ntmps93
  go_wp2
  go_ret
  exact ⟨rfl, rfl⟩
theorem topS (a : Int) (w : World) (h : widthB a = true) : Calls Tryz.prog 110 #[.int .i64 a] w fun e w' => e = .returned (.int .i64 (topZ a)) ∧ w' = w := by
 rcases width_yes h with rfl | rfl | rfl | rfl
 all_goals
  clear h
  go_enter Tryz.func110, Tryz.ntmps110
  go_wp2
  go_ret
  exact ⟨rfl, rfl⟩
theorem topI (a : Int) (w : World) (h : widthB a = true) : Calls Tryz.prog 131 #[.int .i64 a] w fun e w' => e = .returned (.int .i64 (topZ a)) ∧ w' = w := by
 rcases width_yes h with rfl | rfl | rfl | rfl
 all_goals
  clear h
  go_enter Tryz.func131, Tryz.ntmps131
  go_wp2
  go_ret
  exact ⟨rfl, rfl⟩
theorem mask_eq {a n : Int} (h : widthB a = true) : bits .and .i64 n (topZ a - 1) = maskZ a n := by
 rw [maskZ, if_pos h]
 rcases width_yes h with rfl | rfl | rfl | rfl
 ·exact and1 n
 ·exact and255 n
 ·exact and65535 n
 ·exact and32 n
theorem ret_bool {a b : Bool} (h : a = b) : Ending.returned (.bool a) = .returned (.bool b) := by rw [h]
theorem ret_int {k : IntKind} {a b : Int} (h : a = b) : Ending.returned (.int k a) = .returned (.int k b) := by rw [h]
theorem maskS (a n : Int) (w : World) : Calls Tryz.prog 112 #[.int .i64 a, .int .i64 n] w fun e w' => e = .returned (.int .i64 (maskZ a n)) ∧ w' = w := by
 by_cases h : widthB a = true
 ·have tp := top_pos a
  have HE : Hid (bits .and .i64 n (topZ a - 1) = maskZ a n) := mask_eq (n := n) h
  go_enter Tryz.func112, Tryz.ntmps112
  go_wp2_with (first | (go_at_call 68; refine (widthS _ _).mono ?_; rintro e w' ⟨rfl, rfl⟩) | (go_at_call 110; refine (topS _ _ h).mono ?_; rintro e w' ⟨rfl, rfl⟩))
  go_ret
  exact ⟨ret_int HE.out, rfl⟩
 ·have h : widthB a = false := by simpa using h
  have HE : Hid (0 = maskZ a n) := by simp [maskZ, h, Hid]
  go_enter Tryz.func112, Tryz.ntmps112
  go_wp2_with (first | (go_at_call 68; refine (widthS _ _).mono ?_; rintro e w' ⟨rfl, rfl⟩))
  go_ret
  exact ⟨ret_int HE.out, rfl⟩
theorem maskI (a n : Int) (w : World) : Calls Tryz.prog 133 #[.int .i64 a, .int .i64 n] w fun e w' => e = .returned (.int .i64 (maskZ a n)) ∧ w' = w := by
 by_cases h : widthB a = true
 ·have tp := top_pos a
  have HE : Hid (bits .and .i64 n (topZ a - 1) = maskZ a n) := mask_eq (n := n) h
  go_enter Tryz.func133, Tryz.ntmps133
  go_wp2_with (first | (go_at_call 93; refine (widthI _ _).mono ?_; rintro e w' ⟨rfl, rfl⟩) | (go_at_call 131; refine (topI _ _ h).mono ?_; rintro e w' ⟨rfl, rfl⟩))
  go_ret
  exact ⟨ret_int HE.out, rfl⟩
 ·have h : widthB a = false := by simpa using h
  have HE : Hid (0 = maskZ a n) := by simp [maskZ, h, Hid]
  go_enter Tryz.func133, Tryz.ntmps133
  go_wp2_with (first | (go_at_call 93; refine (widthI _ _).mono ?_; rintro e w' ⟨rfl, rfl⟩))
  go_ret
  exact ⟨ret_int HE.out, rfl⟩
theorem inS (n lo hi : Int) (w : World) : Calls Tryz.prog 69 #[.int .i64 n, .int .i64 lo, .int .i64 hi] w fun e w' => e = .returned (.bool (decide (lo ≤ n) && decide (n ≤ hi))) ∧ w' = w := by
 by_cases h1 : lo ≤ n
 ·by_cases h2 : n ≤ hi
  ·have d1 : decide (lo ≤ n) = true := by simpa using h1
   have d2 : decide (n ≤ hi) = true := by simpa using h2
   go_enter Tryz.func69, Tryz.ntmps69
   go_wp2
   go_ret
   exact ⟨ret_bool (by simp [h1, h2]), rfl⟩
  ·have d1 : decide (lo ≤ n) = true := by simpa using h1
   have d2 : decide (n ≤ hi) = false := by simpa using h2
   go_enter Tryz.func69, Tryz.ntmps69
   go_wp2
   go_ret
   exact ⟨ret_bool (by simp), rfl⟩
 ·have d1 : decide (lo ≤ n) = false := by simpa using h1
  go_enter Tryz.func69, Tryz.ntmps69
  go_wp2
  go_ret
  exact ⟨ret_bool (by simp), rfl⟩
theorem valueS_eq {a v : Int} (h : widthB a = true) : (decide (0 ≤ v) && decide (v ≤ topZ a - 1)) = valueB a v := by
 rw [valueB, h, Bool.true_and, Bool.eq_iff_iff]; simp; omega
theorem valueS (a v : Int) (w : World) : Calls Tryz.prog 72 #[.int .i64 a, .int .i64 v] w fun e w' => e = .returned (.bool (valueB a v)) ∧ w' = w := by
 by_cases h : widthB a = true
 ·have tp := top_pos a
  have HE : Hid ((decide (0 ≤ v) && decide (v ≤ topZ a - 1)) = valueB a v) := valueS_eq h
  go_enter Tryz.func72, Tryz.ntmps72
  go_wp2_with (first | (go_at_call 68; refine (widthS _ _).mono ?_; rintro e w' ⟨rfl, rfl⟩) | (go_at_call 110; refine (topS _ _ h).mono ?_; rintro e w' ⟨rfl, rfl⟩) | (go_at_call 69; refine (inS _ _ _ _).mono ?_; rintro e w' ⟨rfl, rfl⟩))
  go_ret
  exact ⟨ret_bool HE.out, rfl⟩
 ·have h : widthB a = false := by simpa using h
  have HE : Hid (false = valueB a v) := by simp [valueB, h, Hid]
  go_enter Tryz.func72, Tryz.ntmps72
  go_wp2_with (first | (go_at_call 68; refine (widthS _ _).mono ?_; rintro e w' ⟨rfl, rfl⟩))
  go_ret
  exact ⟨ret_bool HE.out, rfl⟩
theorem valueI (a v : Int) (w : World) : Calls Tryz.prog 96 #[.int .i64 a, .int .i64 v] w fun e w' => e = .returned (.bool (valueB a v)) ∧ w' = w := by
 by_cases h : widthB a = true
 ·have tp := top_pos a
  by_cases h1 : 0 ≤ v
  ·have HE : Hid (decide (v < topZ a) = valueB a v) := by show _ = _; rw [valueB, h]; simp [h1]
   go_enter Tryz.func96, Tryz.ntmps96
   go_wp2_with (first | (go_at_call 93; refine (widthI _ _).mono ?_; rintro e w' ⟨rfl, rfl⟩) | (go_at_call 131; refine (topI _ _ h).mono ?_; rintro e w' ⟨rfl, rfl⟩))
   go_ret
   exact ⟨ret_bool HE.out, rfl⟩
  ·have HE : Hid (false = valueB a v) := by show _ = _; rw [valueB, h]; simp [h1]
   have d1 : decide (0 ≤ v) = false := by simpa using h1
   go_enter Tryz.func96, Tryz.ntmps96
   go_wp2_with (first | (go_at_call 93; refine (widthI _ _).mono ?_; rintro e w' ⟨rfl, rfl⟩))
   go_ret
   exact ⟨ret_bool HE.out, rfl⟩
 ·have h : widthB a = false := by simpa using h
  have HE : Hid (false = valueB a v) := by simp [valueB, h, Hid]
  go_enter Tryz.func96, Tryz.ntmps96
  go_wp2_with (first | (go_at_call 93; refine (widthI _ _).mono ?_; rintro e w' ⟨rfl, rfl⟩))
  go_ret
  exact ⟨ret_bool HE.out, rfl⟩
theorem sgnS (a v : Int) (w : World) (hv : valueB a v = true) : Calls Tryz.prog 115 #[.int .i64 a, .int .i64 v] w fun e w' => e = .returned (.int .i64 (sgnZ a v)) ∧ w' = w := by
 obtain ⟨h, h0, h1⟩ := value_yes hv
 clear hv
 have tp := top_pos a
 by_cases hc : topZ a / 2 ≤ v
 ·have HE : Hid (v - topZ a = sgnZ a v) := by show _ = _; rw [sgnZ, if_pos hc]
  go_enter Tryz.func115, Tryz.ntmps115
  go_wp2_with (first | (go_at_call 110; refine (topS _ _ h).mono ?_; rintro e w' ⟨rfl, rfl⟩))
  go_ret
  exact ⟨ret_int HE.out, rfl⟩
 ·have HE : Hid (v = sgnZ a v) := by show _ = _; rw [sgnZ, if_neg hc]
  go_enter Tryz.func115, Tryz.ntmps115
  go_wp2_with (first | (go_at_call 110; refine (topS _ _ h).mono ?_; rintro e w' ⟨rfl, rfl⟩))
  go_ret
  exact ⟨ret_int HE.out, rfl⟩
theorem signI (a v : Int) (w : World) : Calls Tryz.prog 135 #[.int .i64 a, .int .i64 v] w fun e w' => e = .returned (.int .i64 (signZ a v)) ∧ w' = w := by
 by_cases h : valueB a v = true
 ·obtain ⟨hw, h0, h1⟩ := value_yes h
  have tp := top_pos a
  by_cases hc : topZ a / 2 ≤ v
  ·have HE : Hid (v - topZ a = signZ a v) := by show _ = _; rw [signZ, if_pos h, sgnZ, if_pos hc]
   go_enter Tryz.func135, Tryz.ntmps135
   go_wp2_with (first | (go_at_call 96; refine (valueI _ _ _).mono ?_; rintro e w' ⟨rfl, rfl⟩) | (go_at_call 131; refine (topI _ _ hw).mono ?_; rintro e w' ⟨rfl, rfl⟩))
   go_ret
   exact ⟨ret_int HE.out, rfl⟩
  ·have HE : Hid (v = signZ a v) := by show _ = _; rw [signZ, if_pos h, sgnZ, if_neg hc]
   go_enter Tryz.func135, Tryz.ntmps135
   go_wp2_with (first | (go_at_call 96; refine (valueI _ _ _).mono ?_; rintro e w' ⟨rfl, rfl⟩) | (go_at_call 131; refine (topI _ _ hw).mono ?_; rintro e w' ⟨rfl, rfl⟩))
   go_ret
   exact ⟨ret_int HE.out, rfl⟩
 ·have h : valueB a v = false := by simpa using h
  have HE : Hid (0 = signZ a v) := by show _ = _; rw [signZ, h]; rfl
  go_enter Tryz.func135, Tryz.ntmps135
  go_wp2_with (first | (go_at_call 96; refine (valueI _ _ _).mono ?_; rintro e w' ⟨rfl, rfl⟩))
  go_ret
  exact ⟨ret_int HE.out, rfl⟩
end Go.Proofs.YtoknhppjdmoblaaGreatDoor
namespace Go.Proofs.YtoknhppjdmoblaaGreatDoor
set_option linter.unusedVariables false
set_option linter.unusedSimpArgs false
open Go.RowKit
def castOk (_op f t v : Int) : Bool := valueB f v && widthB t
def castZ (op f t v : Int) : Int := if castOk op f t v = true then (if op = 18 ∧ f < t then v else if op = 19 ∧ f < t then maskZ t (sgnZ f v) else if op = 20 ∧ t < f then maskZ t v else 0) else 0
def castB (op f t v : Int) : Bool := castOk op f t v && (decide (op = 18 ∧ f < t) || decide (op = 19 ∧ f < t) || decide (op = 20 ∧ t < f))
theorem ret_ib {a b : Int} {c d : Bool} (h : a = b) (k : c = d) : Ending.returned (.tuple #[.int .i64 a, .bool c]) = .returned (.tuple #[.int .i64 b, .bool d]) := by rw [h, k]
theorem ret_ii {a b c d : Int} (h : a = b) (k : c = d) : Ending.returned (.tuple #[.int .i64 a, .int .i64 c]) = .returned (.tuple #[.int .i64 b, .int .i64 d]) := by rw [h, k]
theorem castS (op f t v : Int) (w : World) : Calls Tryz.prog 78 #[.int .i64 op, .int .i64 f, .int .i64 t, .int .i64 v] w fun e w' => e = .returned (.tuple #[.int .i64 (castZ op f t v), .bool (castB op f t v)]) ∧ w' = w := by
 by_cases hv : valueB f v = true
 ·by_cases ht : widthB t = true
  ·have hk : castOk op f t v = true := by simp [castOk, hv, ht]
   by_cases h1 : op = 18
   ·subst h1
    by_cases hl : f < t
    ·have E1 : Hid (v = castZ 18 f t v) := by show _ = _; simp [castZ, hk, hl]
     have E2 : Hid (true = castB 18 f t v) := by show _ = _; simp [castB, hk, hl]
     clear hk
     go_enter Tryz.func78, Tryz.ntmps78
     go_wp2_with (first | (go_at_call 72; refine (valueS _ _ _).mono ?_; rintro e w' ⟨rfl, rfl⟩) | (go_at_call 68; refine (widthS _ _).mono ?_; rintro e w' ⟨rfl, rfl⟩))
     go_ret2
     exact ⟨ret_ib E1.out E2.out, rfl⟩
    ·have E1 : Hid (0 = castZ 18 f t v) := by show _ = _; simp [castZ, hl]
     have E2 : Hid (false = castB 18 f t v) := by show _ = _; simp [castB, hl]
     clear hk
     go_enter Tryz.func78, Tryz.ntmps78
     go_wp2_with (first | (go_at_call 72; refine (valueS _ _ _).mono ?_; rintro e w' ⟨rfl, rfl⟩) | (go_at_call 68; refine (widthS _ _).mono ?_; rintro e w' ⟨rfl, rfl⟩))
     go_ret2
     exact ⟨ret_ib E1.out E2.out, rfl⟩
   by_cases h2 : op = 19
   ·subst h2
    by_cases hl : f < t
    ·have E1 : Hid (maskZ t (sgnZ f v) = castZ 19 f t v) := by show _ = _; simp [castZ, hk, hl]
     have E2 : Hid (true = castB 19 f t v) := by show _ = _; simp [castB, hk, hl]
     clear hk
     go_enter Tryz.func78, Tryz.ntmps78
     go_wp2_with (first | (go_at_call 72; refine (valueS _ _ _).mono ?_; rintro e w' ⟨rfl, rfl⟩) | (go_at_call 68; refine (widthS _ _).mono ?_; rintro e w' ⟨rfl, rfl⟩) | (go_at_call 115; refine (sgnS _ _ _ hv).mono ?_; rintro e w' ⟨rfl, rfl⟩) | (go_at_call 112; refine (maskS _ _ _).mono ?_; rintro e w' ⟨rfl, rfl⟩))
     go_ret2
     exact ⟨ret_ib E1.out E2.out, rfl⟩
    ·have E1 : Hid (0 = castZ 19 f t v) := by show _ = _; simp [castZ, hl]
     have E2 : Hid (false = castB 19 f t v) := by show _ = _; simp [castB, hl]
     clear hk
     go_enter Tryz.func78, Tryz.ntmps78
     go_wp2_with (first | (go_at_call 72; refine (valueS _ _ _).mono ?_; rintro e w' ⟨rfl, rfl⟩) | (go_at_call 68; refine (widthS _ _).mono ?_; rintro e w' ⟨rfl, rfl⟩))
     go_ret2
     exact ⟨ret_ib E1.out E2.out, rfl⟩
   by_cases h3 : op = 20
   ·subst h3
    by_cases hl : t < f
    ·have E1 : Hid (maskZ t v = castZ 20 f t v) := by show _ = _; simp [castZ, hk, hl]
     have E2 : Hid (true = castB 20 f t v) := by show _ = _; simp [castB, hk, hl]
     clear hk
     go_enter Tryz.func78, Tryz.ntmps78
     go_wp2_with (first | (go_at_call 72; refine (valueS _ _ _).mono ?_; rintro e w' ⟨rfl, rfl⟩) | (go_at_call 68; refine (widthS _ _).mono ?_; rintro e w' ⟨rfl, rfl⟩) | (go_at_call 112; refine (maskS _ _ _).mono ?_; rintro e w' ⟨rfl, rfl⟩))
     go_ret2
     exact ⟨ret_ib E1.out E2.out, rfl⟩
    ·have E1 : Hid (0 = castZ 20 f t v) := by show _ = _; simp [castZ, hl]
     have E2 : Hid (false = castB 20 f t v) := by show _ = _; simp [castB, hl]
     clear hk
     go_enter Tryz.func78, Tryz.ntmps78
     go_wp2_with (first | (go_at_call 72; refine (valueS _ _ _).mono ?_; rintro e w' ⟨rfl, rfl⟩) | (go_at_call 68; refine (widthS _ _).mono ?_; rintro e w' ⟨rfl, rfl⟩))
     go_ret2
     exact ⟨ret_ib E1.out E2.out, rfl⟩
   ·have E1 : Hid (0 = castZ op f t v) := by show _ = _; simp [castZ, h1, h2, h3]
    have E2 : Hid (false = castB op f t v) := by show _ = _; simp [castB, h1, h2, h3]
    have d1 : (op == 18) = false := by simpa using h1
    have d2 : (op == 19) = false := by simpa using h2
    have d3 : (op == 20) = false := by simpa using h3
    clear hk h1 h2 h3
    go_enter Tryz.func78, Tryz.ntmps78
    go_wp2_with (first | (go_at_call 72; refine (valueS _ _ _).mono ?_; rintro e w' ⟨rfl, rfl⟩) | (go_at_call 68; refine (widthS _ _).mono ?_; rintro e w' ⟨rfl, rfl⟩))
    go_ret2
    exact ⟨ret_ib E1.out E2.out, rfl⟩
  ·have ht : widthB t = false := by simpa using ht
   have E1 : Hid (0 = castZ op f t v) := by show _ = _; simp [castZ, castOk, ht]
   have E2 : Hid (false = castB op f t v) := by show _ = _; simp [castB, castOk, ht]
   go_enter Tryz.func78, Tryz.ntmps78
   go_wp2_with (first | (go_at_call 72; refine (valueS _ _ _).mono ?_; rintro e w' ⟨rfl, rfl⟩) | (go_at_call 68; refine (widthS _ _).mono ?_; rintro e w' ⟨rfl, rfl⟩))
   go_ret2
   exact ⟨ret_ib E1.out E2.out, rfl⟩
 ·have hv : valueB f v = false := by simpa using hv
  have E1 : Hid (0 = castZ op f t v) := by show _ = _; simp [castZ, castOk, hv]
  have E2 : Hid (false = castB op f t v) := by show _ = _; simp [castB, castOk, hv]
  go_enter Tryz.func78, Tryz.ntmps78
  go_wp2_with (first | (go_at_call 72; refine (valueS _ _ _).mono ?_; rintro e w' ⟨rfl, rfl⟩) | (go_at_call 68; refine (widthS _ _).mono ?_; rintro e w' ⟨rfl, rfl⟩))
  go_ret2
  exact ⟨ret_ib E1.out E2.out, rfl⟩
theorem castI (op f t v : Int) (w : World) : Calls Tryz.prog 104 #[.int .i64 op, .int .i64 f, .int .i64 t, .int .i64 v] w fun e w' => e = .returned (.tuple #[.int .i64 (castZ op f t v), .bool (castB op f t v)]) ∧ w' = w := by
 by_cases hv : valueB f v = true
 ·by_cases ht : widthB t = true
  ·have hk : castOk op f t v = true := by simp [castOk, hv, ht]
   by_cases h1 : op = 18
   ·subst h1
    by_cases hl : f < t
    ·have E1 : Hid (v = castZ 18 f t v) := by show _ = _; simp [castZ, hk, hl]
     have E2 : Hid (true = castB 18 f t v) := by show _ = _; simp [castB, hk, hl]
     clear hk
     go_enter Tryz.func104, Tryz.ntmps104
     go_wp2_with (first | (go_at_call 96; refine (valueI _ _ _).mono ?_; rintro e w' ⟨rfl, rfl⟩) | (go_at_call 93; refine (widthI _ _).mono ?_; rintro e w' ⟨rfl, rfl⟩))
     go_ret2
     exact ⟨ret_ib E1.out E2.out, rfl⟩
    ·have E1 : Hid (0 = castZ 18 f t v) := by show _ = _; simp [castZ, hl]
     have E2 : Hid (false = castB 18 f t v) := by show _ = _; simp [castB, hl]
     clear hk
     go_enter Tryz.func104, Tryz.ntmps104
     go_wp2_with (first | (go_at_call 96; refine (valueI _ _ _).mono ?_; rintro e w' ⟨rfl, rfl⟩) | (go_at_call 93; refine (widthI _ _).mono ?_; rintro e w' ⟨rfl, rfl⟩))
     go_ret2
     exact ⟨ret_ib E1.out E2.out, rfl⟩
   by_cases h2 : op = 19
   ·subst h2
    by_cases hl : f < t
    ·have E1 : Hid (maskZ t (signZ f v) = castZ 19 f t v) := by show _ = _; simp [castZ, hk, hl, signZ, hv]
     have E2 : Hid (true = castB 19 f t v) := by show _ = _; simp [castB, hk, hl]
     clear hk
     go_enter Tryz.func104, Tryz.ntmps104
     go_wp2_with (first | (go_at_call 96; refine (valueI _ _ _).mono ?_; rintro e w' ⟨rfl, rfl⟩) | (go_at_call 93; refine (widthI _ _).mono ?_; rintro e w' ⟨rfl, rfl⟩) | (go_at_call 135; refine (signI _ _ _).mono ?_; rintro e w' ⟨rfl, rfl⟩) | (go_at_call 133; refine (maskI _ _ _).mono ?_; rintro e w' ⟨rfl, rfl⟩))
     go_ret2
     exact ⟨ret_ib E1.out E2.out, rfl⟩
    ·have E1 : Hid (0 = castZ 19 f t v) := by show _ = _; simp [castZ, hl]
     have E2 : Hid (false = castB 19 f t v) := by show _ = _; simp [castB, hl]
     clear hk
     go_enter Tryz.func104, Tryz.ntmps104
     go_wp2_with (first | (go_at_call 96; refine (valueI _ _ _).mono ?_; rintro e w' ⟨rfl, rfl⟩) | (go_at_call 93; refine (widthI _ _).mono ?_; rintro e w' ⟨rfl, rfl⟩))
     go_ret2
     exact ⟨ret_ib E1.out E2.out, rfl⟩
   by_cases h3 : op = 20
   ·subst h3
    by_cases hl : t < f
    ·have E1 : Hid (maskZ t v = castZ 20 f t v) := by show _ = _; simp [castZ, hk, hl]
     have E2 : Hid (true = castB 20 f t v) := by show _ = _; simp [castB, hk, hl]
     clear hk
     go_enter Tryz.func104, Tryz.ntmps104
     go_wp2_with (first | (go_at_call 96; refine (valueI _ _ _).mono ?_; rintro e w' ⟨rfl, rfl⟩) | (go_at_call 93; refine (widthI _ _).mono ?_; rintro e w' ⟨rfl, rfl⟩) | (go_at_call 133; refine (maskI _ _ _).mono ?_; rintro e w' ⟨rfl, rfl⟩))
     go_ret2
     exact ⟨ret_ib E1.out E2.out, rfl⟩
    ·have E1 : Hid (0 = castZ 20 f t v) := by show _ = _; simp [castZ, hl]
     have E2 : Hid (false = castB 20 f t v) := by show _ = _; simp [castB, hl]
     clear hk
     go_enter Tryz.func104, Tryz.ntmps104
     go_wp2_with (first | (go_at_call 96; refine (valueI _ _ _).mono ?_; rintro e w' ⟨rfl, rfl⟩) | (go_at_call 93; refine (widthI _ _).mono ?_; rintro e w' ⟨rfl, rfl⟩))
     go_ret2
     exact ⟨ret_ib E1.out E2.out, rfl⟩
   ·have E1 : Hid (0 = castZ op f t v) := by show _ = _; simp [castZ, h1, h2, h3]
    have E2 : Hid (false = castB op f t v) := by show _ = _; simp [castB, h1, h2, h3]
    have d1 : (op == 18) = false := by simpa using h1
    have d2 : (op == 19) = false := by simpa using h2
    have d3 : (op == 20) = false := by simpa using h3
    clear hk h1 h2 h3
    go_enter Tryz.func104, Tryz.ntmps104
    go_wp2_with (first | (go_at_call 96; refine (valueI _ _ _).mono ?_; rintro e w' ⟨rfl, rfl⟩) | (go_at_call 93; refine (widthI _ _).mono ?_; rintro e w' ⟨rfl, rfl⟩))
    go_ret2
    exact ⟨ret_ib E1.out E2.out, rfl⟩
  ·have ht : widthB t = false := by simpa using ht
   have E1 : Hid (0 = castZ op f t v) := by show _ = _; simp [castZ, castOk, ht]
   have E2 : Hid (false = castB op f t v) := by show _ = _; simp [castB, castOk, ht]
   go_enter Tryz.func104, Tryz.ntmps104
   go_wp2_with (first | (go_at_call 96; refine (valueI _ _ _).mono ?_; rintro e w' ⟨rfl, rfl⟩) | (go_at_call 93; refine (widthI _ _).mono ?_; rintro e w' ⟨rfl, rfl⟩))
   go_ret2
   exact ⟨ret_ib E1.out E2.out, rfl⟩
 ·have hv : valueB f v = false := by simpa using hv
  have E1 : Hid (0 = castZ op f t v) := by show _ = _; simp [castZ, castOk, hv]
  have E2 : Hid (false = castB op f t v) := by show _ = _; simp [castB, castOk, hv]
  go_enter Tryz.func104, Tryz.ntmps104
  go_wp2_with (first | (go_at_call 96; refine (valueI _ _ _).mono ?_; rintro e w' ⟨rfl, rfl⟩) | (go_at_call 93; refine (widthI _ _).mono ?_; rintro e w' ⟨rfl, rfl⟩))
  go_ret2
  exact ⟨ret_ib E1.out E2.out, rfl⟩
def opB (op : Int) : Bool := decide (1 ≤ op) && decide (op ≤ 17)
def resZ (op a : Int) : Int := if opB op = true ∧ widthB a = true then (if 14 ≤ op then 1 else a) else 0
theorem op_yes {op : Int} (h : opB op = true) : 1 ≤ op ∧ op ≤ 17 := by simpa [opB] using h
theorem opI (op : Int) (w : World) : Calls Tryz.prog 95 #[.int .i64 op] w fun e w' => e = .returned (.bool (opB op)) ∧ w' = w := by
 by_cases h1 : 1 ≤ op
 ·have E : Hid (decide (op ≤ 17) = opB op) := by show _ = _; simp [opB, h1]
  go_enter Tryz.func95, Tryz.ntmps95
  go_wp2
  go_ret
  exact ⟨ret_bool E.out, rfl⟩
 ·have E : Hid (false = opB op) := by show _ = _; simp [opB, h1]
  have d1 : decide (1 ≤ op) = false := by simpa using h1
  go_enter Tryz.func95, Tryz.ntmps95
  go_wp2
  go_ret
  exact ⟨ret_bool E.out, rfl⟩
theorem resS (op a : Int) (w : World) : Calls Tryz.prog 114 #[.int .i64 op, .int .i64 a] w fun e w' => e = .returned (.int .i64 (resZ op a)) ∧ w' = w := by
 by_cases hw : widthB a = true
 ·by_cases ho : opB op = true
  ·have d : (decide (1 ≤ op) && decide (op ≤ 17)) = true := ho
   by_cases h : 14 ≤ op
   ·have E : Hid (1 = resZ op a) := by show _ = _; simp [resZ, hw, ho, h]
    clear ho
    go_enter Tryz.func114, Tryz.ntmps114
    go_wp2_with (first | (go_at_call 68; refine (widthS _ _).mono ?_; rintro e w' ⟨rfl, rfl⟩) | (go_at_call 69; refine (inS _ _ _ _).mono ?_; rintro e w' ⟨rfl, rfl⟩))
    go_ret
    exact ⟨ret_int E.out, rfl⟩
   ·have E : Hid (a = resZ op a) := by show _ = _; simp [resZ, hw, ho, h]
    clear ho
    go_enter Tryz.func114, Tryz.ntmps114
    go_wp2_with (first | (go_at_call 68; refine (widthS _ _).mono ?_; rintro e w' ⟨rfl, rfl⟩) | (go_at_call 69; refine (inS _ _ _ _).mono ?_; rintro e w' ⟨rfl, rfl⟩))
    go_ret
    exact ⟨ret_int E.out, rfl⟩
  ·have ho : opB op = false := by simpa using ho
   have d : (decide (1 ≤ op) && decide (op ≤ 17)) = false := ho
   have E : Hid (0 = resZ op a) := by show _ = _; simp [resZ, ho]
   clear ho
   go_enter Tryz.func114, Tryz.ntmps114
   go_wp2_with (first | (go_at_call 68; refine (widthS _ _).mono ?_; rintro e w' ⟨rfl, rfl⟩) | (go_at_call 69; refine (inS _ _ _ _).mono ?_; rintro e w' ⟨rfl, rfl⟩))
   go_ret
   exact ⟨ret_int E.out, rfl⟩
 ·have hw : widthB a = false := by simpa using hw
  have E : Hid (0 = resZ op a) := by show _ = _; simp [resZ, hw]
  go_enter Tryz.func114, Tryz.ntmps114
  go_wp2_with (first | (go_at_call 68; refine (widthS _ _).mono ?_; rintro e w' ⟨rfl, rfl⟩) | (go_at_call 69; refine (inS _ _ _ _).mono ?_; rintro e w' ⟨rfl, rfl⟩))
  go_ret
  exact ⟨ret_int E.out, rfl⟩
theorem resI (op a : Int) (w : World) : Calls Tryz.prog 161 #[.int .i64 op, .int .i64 a] w fun e w' => e = .returned (.int .i64 (resZ op a)) ∧ w' = w := by
 by_cases ho : opB op = true
 ·by_cases hw : widthB a = true
  ·by_cases h : 14 ≤ op
   ·have E : Hid (1 = resZ op a) := by show _ = _; simp [resZ, hw, ho, h]
    go_enter Tryz.func161, Tryz.ntmps161
    go_wp2_with (first | (go_at_call 93; refine (widthI _ _).mono ?_; rintro e w' ⟨rfl, rfl⟩) | (go_at_call 95; refine (opI _ _).mono ?_; rintro e w' ⟨rfl, rfl⟩))
    go_ret
    exact ⟨ret_int E.out, rfl⟩
   ·have E : Hid (a = resZ op a) := by show _ = _; simp [resZ, hw, ho, h]
    go_enter Tryz.func161, Tryz.ntmps161
    go_wp2_with (first | (go_at_call 93; refine (widthI _ _).mono ?_; rintro e w' ⟨rfl, rfl⟩) | (go_at_call 95; refine (opI _ _).mono ?_; rintro e w' ⟨rfl, rfl⟩))
    go_ret
    exact ⟨ret_int E.out, rfl⟩
  ·have hw : widthB a = false := by simpa using hw
   have E : Hid (0 = resZ op a) := by show _ = _; simp [resZ, hw]
   go_enter Tryz.func161, Tryz.ntmps161
   go_wp2_with (first | (go_at_call 93; refine (widthI _ _).mono ?_; rintro e w' ⟨rfl, rfl⟩) | (go_at_call 95; refine (opI _ _).mono ?_; rintro e w' ⟨rfl, rfl⟩))
   go_ret
   exact ⟨ret_int E.out, rfl⟩
 ·have ho : opB op = false := by simpa using ho
  have E : Hid (0 = resZ op a) := by show _ = _; simp [resZ, ho]
  go_enter Tryz.func161, Tryz.ntmps161
  go_wp2_with (first | (go_at_call 93; refine (widthI _ _).mono ?_; rintro e w' ⟨rfl, rfl⟩) | (go_at_call 95; refine (opI _ _).mono ?_; rintro e w' ⟨rfl, rfl⟩))
  go_ret
  exact ⟨ret_int E.out, rfl⟩
end Go.Proofs.YtoknhppjdmoblaaGreatDoor
