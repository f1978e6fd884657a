/- Contracts of the casts and of the width that an op gives, the program's and the model's. -/
import Derived.Test.YtpmanjkaiknlhaaDoorWid
namespace Go.Proofs.YtpmanjkaiknlhaaDoor
open Go.RowKit

def castOk (_op f t v : Int) : Bool := valueB f v && widthB t
def castZ (op f t v : Int) : Int := if castOk op f t v = true then (if op = 18 ∧ f < t then v else if op = 19 ∧ f < t then maskZ t (sgnZ f v) else if op = 20 ∧ t < f then maskZ t v else 0) else 0
def castB (op f t v : Int) : Bool := castOk op f t v && (decide (op = 18 ∧ f < t) || decide (op = 19 ∧ f < t) || decide (op = 20 ∧ t < f))
theorem ret_ib {a b : Int} {c d : Bool} (h : a = b) (k : c = d) : Ending.returned (.tuple #[.int .i64 a, .bool c]) = .returned (.tuple #[.int .i64 b, .bool d]) := by rw [h, k]
theorem ret_ii {a b c d : Int} (h : a = b) (k : c = d) : Ending.returned (.tuple #[.int .i64 a, .int .i64 c]) = .returned (.tuple #[.int .i64 b, .int .i64 d]) := by rw [h, k]

theorem castI (op f t v : Int) (w : World) : Calls Tryd.prog 60 #[.int .i64 op, .int .i64 f, .int .i64 t, .int .i64 v] w fun e w' => e = .returned (.tuple #[.int .i64 (castZ op f t v), .bool (castB op f t v)]) ∧ w' = w := by
  by_cases hv : valueB f v = true
  · by_cases ht : widthB t = true
    · have hk : castOk op f t v = true := by simp [castOk, hv, ht]
      by_cases h1 : op = 18
      · subst h1
        by_cases hl : f < t
        · have E1 : Hid (v = castZ 18 f t v) := by show _ = _; simp [castZ, hk, hl]
          have E2 : Hid (true = castB 18 f t v) := by show _ = _; simp [castB, hk, hl]
          clear hk
          go_enter Tryd.func60, Tryd.ntmps60
          go_wp2_with (first | (go_at_call 61; refine (valueI _ _ _).mono ?_; rintro e w' ⟨rfl, rfl⟩) | (go_at_call 51; refine (widthI _ _).mono ?_; rintro e w' ⟨rfl, rfl⟩))
          go_ret2
          exact ⟨ret_ib E1.out E2.out, rfl⟩
        · have E1 : Hid (0 = castZ 18 f t v) := by show _ = _; simp [castZ, hl]
          have E2 : Hid (false = castB 18 f t v) := by show _ = _; simp [castB, hl]
          clear hk
          go_enter Tryd.func60, Tryd.ntmps60
          go_wp2_with (first | (go_at_call 61; refine (valueI _ _ _).mono ?_; rintro e w' ⟨rfl, rfl⟩) | (go_at_call 51; refine (widthI _ _).mono ?_; rintro e w' ⟨rfl, rfl⟩))
          go_ret2
          exact ⟨ret_ib E1.out E2.out, rfl⟩
      by_cases h2 : op = 19
      · subst h2
        by_cases hl : f < t
        · have E1 : Hid (maskZ t (signZ f v) = castZ 19 f t v) := by show _ = _; simp [castZ, hk, hl, signZ, hv]
          have E2 : Hid (true = castB 19 f t v) := by show _ = _; simp [castB, hk, hl]
          clear hk
          go_enter Tryd.func60, Tryd.ntmps60
          go_wp2_with (first | (go_at_call 61; refine (valueI _ _ _).mono ?_; rintro e w' ⟨rfl, rfl⟩) | (go_at_call 51; refine (widthI _ _).mono ?_; rintro e w' ⟨rfl, rfl⟩) | (go_at_call 64; refine (signI _ _ _).mono ?_; rintro e w' ⟨rfl, rfl⟩) | (go_at_call 63; refine (maskI _ _ _).mono ?_; rintro e w' ⟨rfl, rfl⟩))
          go_ret2
          exact ⟨ret_ib E1.out E2.out, rfl⟩
        · have E1 : Hid (0 = castZ 19 f t v) := by show _ = _; simp [castZ, hl]
          have E2 : Hid (false = castB 19 f t v) := by show _ = _; simp [castB, hl]
          clear hk
          go_enter Tryd.func60, Tryd.ntmps60
          go_wp2_with (first | (go_at_call 61; refine (valueI _ _ _).mono ?_; rintro e w' ⟨rfl, rfl⟩) | (go_at_call 51; refine (widthI _ _).mono ?_; rintro e w' ⟨rfl, rfl⟩))
          go_ret2
          exact ⟨ret_ib E1.out E2.out, rfl⟩
      by_cases h3 : op = 20
      · subst h3
        by_cases hl : t < f
        · have E1 : Hid (maskZ t v = castZ 20 f t v) := by show _ = _; simp [castZ, hk, hl]
          have E2 : Hid (true = castB 20 f t v) := by show _ = _; simp [castB, hk, hl]
          clear hk
          go_enter Tryd.func60, Tryd.ntmps60
          go_wp2_with (first | (go_at_call 61; refine (valueI _ _ _).mono ?_; rintro e w' ⟨rfl, rfl⟩) | (go_at_call 51; refine (widthI _ _).mono ?_; rintro e w' ⟨rfl, rfl⟩) | (go_at_call 63; refine (maskI _ _ _).mono ?_; rintro e w' ⟨rfl, rfl⟩))
          go_ret2
          exact ⟨ret_ib E1.out E2.out, rfl⟩
        · have E1 : Hid (0 = castZ 20 f t v) := by show _ = _; simp [castZ, hl]
          have E2 : Hid (false = castB 20 f t v) := by show _ = _; simp [castB, hl]
          clear hk
          go_enter Tryd.func60, Tryd.ntmps60
          go_wp2_with (first | (go_at_call 61; refine (valueI _ _ _).mono ?_; rintro e w' ⟨rfl, rfl⟩) | (go_at_call 51; refine (widthI _ _).mono ?_; rintro e w' ⟨rfl, rfl⟩))
          go_ret2
          exact ⟨ret_ib E1.out E2.out, rfl⟩
      · have E1 : Hid (0 = castZ op f t v) := by show _ = _; simp [castZ, h1, h2, h3]
        have E2 : Hid (false = castB op f t v) := by show _ = _; simp [castB, h1, h2, h3]
        have d1 : (op == 18) = false := by simpa using h1
        have d2 : (op == 19) = false := by simpa using h2
        have d3 : (op == 20) = false := by simpa using h3
        clear hk h1 h2 h3
        go_enter Tryd.func60, Tryd.ntmps60
        go_wp2_with (first | (go_at_call 61; refine (valueI _ _ _).mono ?_; rintro e w' ⟨rfl, rfl⟩) | (go_at_call 51; refine (widthI _ _).mono ?_; rintro e w' ⟨rfl, rfl⟩))
        go_ret2
        exact ⟨ret_ib E1.out E2.out, rfl⟩
    · have ht : widthB t = false := by simpa using ht
      have E1 : Hid (0 = castZ op f t v) := by show _ = _; simp [castZ, castOk, ht]
      have E2 : Hid (false = castB op f t v) := by show _ = _; simp [castB, castOk, ht]
      go_enter Tryd.func60, Tryd.ntmps60
      go_wp2_with (first | (go_at_call 61; refine (valueI _ _ _).mono ?_; rintro e w' ⟨rfl, rfl⟩) | (go_at_call 51; refine (widthI _ _).mono ?_; rintro e w' ⟨rfl, rfl⟩))
      go_ret2
      exact ⟨ret_ib E1.out E2.out, rfl⟩
  · have hv : valueB f v = false := by simpa using hv
    have E1 : Hid (0 = castZ op f t v) := by show _ = _; simp [castZ, castOk, hv]
    have E2 : Hid (false = castB op f t v) := by show _ = _; simp [castB, castOk, hv]
    go_enter Tryd.func60, Tryd.ntmps60
    go_wp2_with (first | (go_at_call 61; refine (valueI _ _ _).mono ?_; rintro e w' ⟨rfl, rfl⟩) | (go_at_call 51; refine (widthI _ _).mono ?_; rintro e w' ⟨rfl, rfl⟩))
    go_ret2
    exact ⟨ret_ib E1.out E2.out, rfl⟩

def opB (op : Int) : Bool := decide (1 ≤ op) && decide (op ≤ 17)
def resZ (op a : Int) : Int := if opB op = true ∧ widthB a = true then (if 14 ≤ op then 1 else a) else 0
theorem op_yes {op : Int} (h : opB op = true) : 1 ≤ op ∧ op ≤ 17 := by simpa [opB] using h

theorem opI (op : Int) (w : World) : Calls Tryd.prog 62 #[.int .i64 op] w fun e w' => e = .returned (.bool (opB op)) ∧ w' = w := by
  by_cases h1 : 1 ≤ op
  · have E : Hid (decide (op ≤ 17) = opB op) := by show _ = _; simp [opB, h1]
    go_enter Tryd.func62, Tryd.ntmps62
    go_wp2
    go_ret
    exact ⟨ret_bool E.out, rfl⟩
  · have E : Hid (false = opB op) := by show _ = _; simp [opB, h1]
    have d1 : decide (1 ≤ op) = false := by simpa using h1
    go_enter Tryd.func62, Tryd.ntmps62
    go_wp2
    go_ret
    exact ⟨ret_bool E.out, rfl⟩

end Go.Proofs.YtpmanjkaiknlhaaDoor
