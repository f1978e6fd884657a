/- Contracts of the casts and of the width that an op gives, the program's and the model's. -/
import Derived.Test.YtclagbdomfgodaaGreatDoorWid
namespace Go.Proofs.YtclagbdomfgodaaGreatDoor
open Go.RowKit

def castOk (_op f t v : Int) : Bool := valueB f v && widthB t
def castZ (op f t v : Int) : Int := if castOk op f t v = true then (if op = 18 ∧ f < t then v else if op = 19 ∧ f < t then maskZ t (sgnZ f v) else if op = 20 ∧ t < f then maskZ t v else 0) else 0
def castB (op f t v : Int) : Bool := castOk op f t v && (decide (op = 18 ∧ f < t) || decide (op = 19 ∧ f < t) || decide (op = 20 ∧ t < f))
theorem ret_ib {a b : Int} {c d : Bool} (h : a = b) (k : c = d) : Ending.returned (.tuple #[.int .i64 a, .bool c]) = .returned (.tuple #[.int .i64 b, .bool d]) := by rw [h, k]
theorem ret_ii {a b c d : Int} (h : a = b) (k : c = d) : Ending.returned (.tuple #[.int .i64 a, .int .i64 c]) = .returned (.tuple #[.int .i64 b, .int .i64 d]) := by rw [h, k]

def opB (op : Int) : Bool := decide (1 ≤ op) && decide (op ≤ 17)
def resZ (op a : Int) : Int := if opB op = true ∧ widthB a = true then (if 14 ≤ op then 1 else a) else 0
theorem op_yes {op : Int} (h : opB op = true) : 1 ≤ op ∧ op ≤ 17 := by simpa [opB] using h

theorem opI (op : Int) (w : World) : Calls Tryz.prog 80 #[.int .i64 op] w fun e w' => e = .returned (.bool (opB op)) ∧ w' = w := by
  by_cases h1 : 1 ≤ op
  · have E : Hid (decide (op ≤ 17) = opB op) := by show _ = _; simp [opB, h1]
    go_enter Tryz.func80, Tryz.ntmps80
    go_wp2
    go_ret
    exact ⟨ret_bool E.out, rfl⟩
  · have E : Hid (false = opB op) := by show _ = _; simp [opB, h1]
    have d1 : decide (1 ≤ op) = false := by simpa using h1
    go_enter Tryz.func80, Tryz.ntmps80
    go_wp2
    go_ret
    exact ⟨ret_bool E.out, rfl⟩

theorem resS (op a : Int) (w : World) : Calls Tryz.prog 121 #[.int .i64 op, .int .i64 a] w fun e w' => e = .returned (.int .i64 (resZ op a)) ∧ w' = w := by
  by_cases hw : widthB a = true
  · by_cases ho : opB op = true
    · have d : (decide (1 ≤ op) && decide (op ≤ 17)) = true := ho
      by_cases h : 14 ≤ op
      · have E : Hid (1 = resZ op a) := by show _ = _; simp [resZ, hw, ho, h]
        clear ho
        go_enter Tryz.func121, Tryz.ntmps121
        go_wp2_with (first | (go_at_call 29; refine (widthS _ _).mono ?_; rintro e w' ⟨rfl, rfl⟩) | (go_at_call 30; refine (inS _ _ _ _).mono ?_; rintro e w' ⟨rfl, rfl⟩))
        go_ret
        exact ⟨ret_int E.out, rfl⟩
      · have E : Hid (a = resZ op a) := by show _ = _; simp [resZ, hw, ho, h]
        clear ho
        go_enter Tryz.func121, Tryz.ntmps121
        go_wp2_with (first | (go_at_call 29; refine (widthS _ _).mono ?_; rintro e w' ⟨rfl, rfl⟩) | (go_at_call 30; refine (inS _ _ _ _).mono ?_; rintro e w' ⟨rfl, rfl⟩))
        go_ret
        exact ⟨ret_int E.out, rfl⟩
    · have ho : opB op = false := by simpa using ho
      have d : (decide (1 ≤ op) && decide (op ≤ 17)) = false := ho
      have E : Hid (0 = resZ op a) := by show _ = _; simp [resZ, ho]
      clear ho
      go_enter Tryz.func121, Tryz.ntmps121
      go_wp2_with (first | (go_at_call 29; refine (widthS _ _).mono ?_; rintro e w' ⟨rfl, rfl⟩) | (go_at_call 30; refine (inS _ _ _ _).mono ?_; rintro e w' ⟨rfl, rfl⟩))
      go_ret
      exact ⟨ret_int E.out, rfl⟩
  · have hw : widthB a = false := by simpa using hw
    have E : Hid (0 = resZ op a) := by show _ = _; simp [resZ, hw]
    go_enter Tryz.func121, Tryz.ntmps121
    go_wp2_with (first | (go_at_call 29; refine (widthS _ _).mono ?_; rintro e w' ⟨rfl, rfl⟩) | (go_at_call 30; refine (inS _ _ _ _).mono ?_; rintro e w' ⟨rfl, rfl⟩))
    go_ret
    exact ⟨ret_int E.out, rfl⟩

end Go.Proofs.YtclagbdomfgodaaGreatDoor
