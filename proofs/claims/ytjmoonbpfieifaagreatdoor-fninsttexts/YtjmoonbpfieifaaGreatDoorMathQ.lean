/- Plain arithmetic of widths: what a width is, its values, their signs, what is cut to a width. No Go in sight. -/
import Derived.WalkKit
import Derived.Test.YtjmoonbpfieifaaGreatDoorRows
import Derived.WalkSpells
namespace Go.Proofs.YtjmoonbpfieifaaGreatDoor
open Go.RowKit

def widthB (w : Int) : Bool := w == 1 || w == 8 || w == 16 || w == 32
def topZ (w : Int) : Int := if w = 1 then 2 else if w = 8 then 256 else if w = 16 then 65536 else 4294967296
def valueB (w v : Int) : Bool := widthB w && (decide (0 ≤ v) && decide (v < topZ w))
def maskZ (w n : Int) : Int := if widthB w = true then n % topZ w else 0
def sgnZ (w v : Int) : Int := if topZ w / 2 ≤ v then v - topZ w else v
def signZ (w v : Int) : Int := if valueB w v = true then sgnZ w v else 0

theorem width_yes {w : Int} (h : widthB w = true) : w = 1 ∨ w = 8 ∨ w = 16 ∨ w = 32 := by
  simp [widthB] at h; omega
theorem width_no {w : Int} (h : widthB w = false) : (w == 1) = false ∧ (w == 8) = false ∧ (w == 16) = false ∧ (w == 32) = false := by
  simp [widthB] at h; simp; omega
theorem top1 : topZ 1 = 2 := by simp [topZ]
theorem top8 : topZ 8 = 256 := by simp [topZ]
theorem top16 : topZ 16 = 65536 := by simp [topZ]
theorem top32 : topZ 32 = 4294967296 := by simp [topZ]
theorem top_pos (w : Int) : 2 ≤ topZ w ∧ topZ w ≤ 4294967296 := by
  unfold topZ; repeat' split
  all_goals omega
theorem value_yes {w v : Int} (h : valueB w v = true) : widthB w = true ∧ 0 ≤ v ∧ v < topZ w := by
  simpa [valueB] using h
theorem value_mk {w v : Int} (h : widthB w = true) (h0 : 0 ≤ v) (h1 : v < topZ w) : valueB w v = true := by
  simp [valueB, h, h0, h1]
theorem value_no {w v : Int} (h : valueB w v = false) (hw : widthB w = true) : v < 0 ∨ topZ w ≤ v := by
  simp [valueB, hw] at h; omega

theorem and_mask (n : Int) (k : Nat) (hk : k ≤ 32) : bits .and .i64 n (2 ^ k - 1) = n % 2 ^ k := by
  have hp : (2 : Nat) ^ k ≤ 2 ^ 32 := Nat.pow_le_pow_right (by decide) hk
  have hq : 0 < (2 : Nat) ^ k := Nat.pow_pos (by decide)
  have e1 : ((2 : Int) ^ k - 1) = ((2 ^ k - 1 : Nat) : Int) := by
    have : ((2 ^ k : Nat) : Int) = (2 : Int) ^ k := by simp
    omega
  have e2 : (BitVec.ofInt 64 ((2 : Int) ^ k - 1)).toNat = 2 ^ k - 1 := by
    rw [e1, BitVec.toNat_ofInt]; omega
  have e3 : (BitVec.ofInt 64 n).toNat = (n % 18446744073709551616).toNat := by rw [BitVec.toNat_ofInt]; simp
  have e4 : (((n % 18446744073709551616).toNat % 2 ^ k : Nat) : Int) = n % 2 ^ k := by
    have h1 : ((n % 18446744073709551616).toNat : Int) = n % 18446744073709551616 := by omega
    have hd : ((2 : Int) ^ k) ∣ 18446744073709551616 := by
      refine ⟨2 ^ (64 - k), ?_⟩
      rw [← Int.pow_add]
      rw [show k + (64 - k) = 64 by omega]; rfl
    rw [Int.natCast_emod, h1]
    have : (((2 : Nat) ^ k : Nat) : Int) = (2 : Int) ^ k := by simp
    rw [this, Int.emod_emod_of_dvd _ hd]
  show IntKind.i64.wrap ((BitVec.ofInt 64 n &&& BitVec.ofInt 64 ((2 : Int) ^ k - 1)).toNat : Int) = _
  rw [BitVec.toNat_and, e2, e3, Nat.and_two_pow_sub_one_eq_mod, e4, IntKind.wrap_i64]
  have h5 : (0 : Int) ≤ n % 2 ^ k := Int.emod_nonneg _ (by
    have : (((2 : Nat) ^ k : Nat) : Int) = (2 : Int) ^ k := by simp
    omega)
  have h6 : n % 2 ^ k < 4294967297 := by
    have := Int.emod_lt_of_pos n (b := (2 : Int) ^ k) (by
      have : (((2 : Nat) ^ k : Nat) : Int) = (2 : Int) ^ k := by simp
      omega)
    have : (((2 : Nat) ^ k : Nat) : Int) = (2 : Int) ^ k := by simp
    omega
  generalize n % 2 ^ k = m at h5 h6
  omega
theorem and1 (n : Int) : bits .and .i64 n 1 = n % 2 := and_mask n 1 (by decide)
theorem and255 (n : Int) : bits .and .i64 n 255 = n % 256 := and_mask n 8 (by decide)
theorem and65535 (n : Int) : bits .and .i64 n 65535 = n % 65536 := and_mask n 16 (by decide)
theorem and32 (n : Int) : bits .and .i64 n 4294967295 = n % 4294967296 := and_mask n 32 (by decide)
end Go.Proofs.YtjmoonbpfieifaaGreatDoor
namespace Go.Proofs.YtjmoonbpfieifaaGreatDoor
open Go.RowKit

theorem widthS (a : Int) (w : World) : Calls Tryz.prog 74 #[.int .i64 a] w fun e w' => e = .returned (.bool (widthB a)) ∧ w' = w := by
  by_cases h : widthB a = true
  · rw [h]
    rcases width_yes h with rfl | rfl | rfl | rfl
    all_goals
      clear h
      go_enter Tryz.func74, Tryz.ntmps74
      go_wp2
      go_ret
      exact ⟨rfl, rfl⟩
  · have h : widthB a = false := by simpa using h
    rw [h]
    obtain ⟨d1, d2, d3, d4⟩ := width_no h
    clear h
    go_enter Tryz.func74, Tryz.ntmps74
    go_wp2
    go_ret
    exact ⟨rfl, rfl⟩
theorem widthI (a : Int) (w : World) : Calls Tryz.prog 62 #[.int .i64 a] w fun e w' => e = .returned (.bool (widthB a)) ∧ w' = w := by
  by_cases h : widthB a = true
  · rw [h]
    rcases width_yes h with rfl | rfl | rfl | rfl
    all_goals
      clear h
      go_enter Tryz.func62, Tryz.ntmps62
      go_wp2
      go_ret
      exact ⟨rfl, rfl⟩
  · have h : widthB a = false := by simpa using h
    rw [h]
    obtain ⟨d1, d2, d3, d4⟩ := width_no h
    clear h
    go_enter Tryz.func62, Tryz.ntmps62
    go_wp2
    go_ret
    exact ⟨rfl, rfl⟩

theorem topS (a : Int) (w : World) (h : widthB a = true) : Calls Tryz.prog 93 #[.int .i64 a] w fun e w' => e = .returned (.int .i64 (topZ a)) ∧ w' = w := by
  rcases width_yes h with rfl | rfl | rfl | rfl
  all_goals
    clear h
    go_enter Tryz.func93, Tryz.ntmps93
    go_wp2
    go_ret
    exact ⟨rfl, rfl⟩
theorem topI (a : Int) (w : World) (h : widthB a = true) : Calls Tryz.prog 84 #[.int .i64 a] w fun e w' => e = .returned (.int .i64 (topZ a)) ∧ w' = w := by
  rcases width_yes h with rfl | rfl | rfl | rfl
  all_goals
    clear h
    go_enter Tryz.func84, Tryz.ntmps84
    go_wp2
    go_ret
    exact ⟨rfl, rfl⟩

theorem mask_eq {a n : Int} (h : widthB a = true) : bits .and .i64 n (topZ a - 1) = maskZ a n := by
  rw [maskZ, if_pos h]
  rcases width_yes h with rfl | rfl | rfl | rfl
  · exact and1 n
  · exact and255 n
  · exact and65535 n
  · exact and32 n
theorem ret_bool {a b : Bool} (h : a = b) : Ending.returned (.bool a) = .returned (.bool b) := by rw [h]
theorem ret_int {k : IntKind} {a b : Int} (h : a = b) : Ending.returned (.int k a) = .returned (.int k b) := by rw [h]

theorem inS (n lo hi : Int) (w : World) : Calls Tryz.prog 73 #[.int .i64 n, .int .i64 lo, .int .i64 hi] w fun e w' => e = .returned (.bool (decide (lo ≤ n) && decide (n ≤ hi))) ∧ w' = w := by
  by_cases h1 : lo ≤ n
  · by_cases h2 : n ≤ hi
    · have d1 : decide (lo ≤ n) = true := by simpa using h1
      have d2 : decide (n ≤ hi) = true := by simpa using h2
      go_enter Tryz.func73, Tryz.ntmps73
      go_wp2
      go_ret
      exact ⟨ret_bool (by simp [h1, h2]), rfl⟩
    · have d1 : decide (lo ≤ n) = true := by simpa using h1
      have d2 : decide (n ≤ hi) = false := by simpa using h2
      go_enter Tryz.func73, Tryz.ntmps73
      go_wp2
      go_ret
      exact ⟨ret_bool (by simp), rfl⟩
  · have d1 : decide (lo ≤ n) = false := by simpa using h1
    go_enter Tryz.func73, Tryz.ntmps73
    go_wp2
    go_ret
    exact ⟨ret_bool (by simp), rfl⟩

theorem valueS_eq {a v : Int} (h : widthB a = true) : (decide (0 ≤ v) && decide (v ≤ topZ a - 1)) = valueB a v := by
  rw [valueB, h, Bool.true_and, Bool.eq_iff_iff]; simp; omega

theorem valueS (a v : Int) (w : World) : Calls Tryz.prog 75 #[.int .i64 a, .int .i64 v] w fun e w' => e = .returned (.bool (valueB a v)) ∧ w' = w := by
  by_cases h : widthB a = true
  · have tp := top_pos a
    have HE : Hid ((decide (0 ≤ v) && decide (v ≤ topZ a - 1)) = valueB a v) := valueS_eq h
    go_enter Tryz.func75, Tryz.ntmps75
    go_wp2_with (first | (go_at_call 74; refine (widthS _ _).mono ?_; rintro e w' ⟨rfl, rfl⟩) | (go_at_call 93; refine (topS _ _ h).mono ?_; rintro e w' ⟨rfl, rfl⟩) | (go_at_call 73; refine (inS _ _ _ _).mono ?_; rintro e w' ⟨rfl, rfl⟩))
    go_ret
    exact ⟨ret_bool HE.out, rfl⟩
  · have h : widthB a = false := by simpa using h
    have HE : Hid (false = valueB a v) := by simp [valueB, h, Hid]
    go_enter Tryz.func75, Tryz.ntmps75
    go_wp2_with (first | (go_at_call 74; refine (widthS _ _).mono ?_; rintro e w' ⟨rfl, rfl⟩))
    go_ret
    exact ⟨ret_bool HE.out, rfl⟩

theorem valueI (a v : Int) (w : World) : Calls Tryz.prog 63 #[.int .i64 a, .int .i64 v] w fun e w' => e = .returned (.bool (valueB a v)) ∧ w' = w := by
  by_cases h : widthB a = true
  · have tp := top_pos a
    by_cases h1 : 0 ≤ v
    · have HE : Hid (decide (v < topZ a) = valueB a v) := by show _ = _; rw [valueB, h]; simp [h1]
      go_enter Tryz.func63, Tryz.ntmps63
      go_wp2_with (first | (go_at_call 62; refine (widthI _ _).mono ?_; rintro e w' ⟨rfl, rfl⟩) | (go_at_call 84; refine (topI _ _ h).mono ?_; rintro e w' ⟨rfl, rfl⟩))
      go_ret
      exact ⟨ret_bool HE.out, rfl⟩
    · have HE : Hid (false = valueB a v) := by show _ = _; rw [valueB, h]; simp [h1]
      have d1 : decide (0 ≤ v) = false := by simpa using h1
      go_enter Tryz.func63, Tryz.ntmps63
      go_wp2_with (first | (go_at_call 62; refine (widthI _ _).mono ?_; rintro e w' ⟨rfl, rfl⟩))
      go_ret
      exact ⟨ret_bool HE.out, rfl⟩
  · have h : widthB a = false := by simpa using h
    have HE : Hid (false = valueB a v) := by simp [valueB, h, Hid]
    go_enter Tryz.func63, Tryz.ntmps63
    go_wp2_with (first | (go_at_call 62; refine (widthI _ _).mono ?_; rintro e w' ⟨rfl, rfl⟩))
    go_ret
    exact ⟨ret_bool HE.out, rfl⟩

end Go.Proofs.YtjmoonbpfieifaaGreatDoor
namespace Go.Proofs.YtjmoonbpfieifaaGreatDoor
open Go.RowKit

def castOk (_op f t v : Int) : Bool := valueB f v && widthB t
def castZ (op f t v : Int) : Int := if castOk op f t v = true then (if op = 18 ∧ f < t then v else if op = 19 ∧ f < t then maskZ t (sgnZ f v) else if op = 20 ∧ t < f then maskZ t v else 0) else 0
def castB (op f t v : Int) : Bool := castOk op f t v && (decide (op = 18 ∧ f < t) || decide (op = 19 ∧ f < t) || decide (op = 20 ∧ t < f))
theorem ret_ib {a b : Int} {c d : Bool} (h : a = b) (k : c = d) : Ending.returned (.tuple #[.int .i64 a, .bool c]) = .returned (.tuple #[.int .i64 b, .bool d]) := by rw [h, k]
theorem ret_ii {a b c d : Int} (h : a = b) (k : c = d) : Ending.returned (.tuple #[.int .i64 a, .int .i64 c]) = .returned (.tuple #[.int .i64 b, .int .i64 d]) := by rw [h, k]

def opB (op : Int) : Bool := decide (1 ≤ op) && decide (op ≤ 17)
def resZ (op a : Int) : Int := if opB op = true ∧ widthB a = true then (if 14 ≤ op then 1 else a) else 0
theorem op_yes {op : Int} (h : opB op = true) : 1 ≤ op ∧ op ≤ 17 := by simpa [opB] using h

theorem opI (op : Int) (w : World) : Calls Tryz.prog 61 #[.int .i64 op] w fun e w' => e = .returned (.bool (opB op)) ∧ w' = w := by
  by_cases h1 : 1 ≤ op
  · have E : Hid (decide (op ≤ 17) = opB op) := by show _ = _; simp [opB, h1]
    go_enter Tryz.func61, Tryz.ntmps61
    go_wp2
    go_ret
    exact ⟨ret_bool E.out, rfl⟩
  · have E : Hid (false = opB op) := by show _ = _; simp [opB, h1]
    have d1 : decide (1 ≤ op) = false := by simpa using h1
    go_enter Tryz.func61, Tryz.ntmps61
    go_wp2
    go_ret
    exact ⟨ret_bool E.out, rfl⟩

theorem resS (op a : Int) (w : World) : Calls Tryz.prog 123 #[.int .i64 op, .int .i64 a] w fun e w' => e = .returned (.int .i64 (resZ op a)) ∧ w' = w := by
  by_cases hw : widthB a = true
  · by_cases ho : opB op = true
    · have d : (decide (1 ≤ op) && decide (op ≤ 17)) = true := ho
      by_cases h : 14 ≤ op
      · have E : Hid (1 = resZ op a) := by show _ = _; simp [resZ, hw, ho, h]
        clear ho
        go_enter Tryz.func123, Tryz.ntmps123
        go_wp2_with (first | (go_at_call 74; refine (widthS _ _).mono ?_; rintro e w' ⟨rfl, rfl⟩) | (go_at_call 73; refine (inS _ _ _ _).mono ?_; rintro e w' ⟨rfl, rfl⟩))
        go_ret
        exact ⟨ret_int E.out, rfl⟩
      · have E : Hid (a = resZ op a) := by show _ = _; simp [resZ, hw, ho, h]
        clear ho
        go_enter Tryz.func123, Tryz.ntmps123
        go_wp2_with (first | (go_at_call 74; refine (widthS _ _).mono ?_; rintro e w' ⟨rfl, rfl⟩) | (go_at_call 73; refine (inS _ _ _ _).mono ?_; rintro e w' ⟨rfl, rfl⟩))
        go_ret
        exact ⟨ret_int E.out, rfl⟩
    · have ho : opB op = false := by simpa using ho
      have d : (decide (1 ≤ op) && decide (op ≤ 17)) = false := ho
      have E : Hid (0 = resZ op a) := by show _ = _; simp [resZ, ho]
      clear ho
      go_enter Tryz.func123, Tryz.ntmps123
      go_wp2_with (first | (go_at_call 74; refine (widthS _ _).mono ?_; rintro e w' ⟨rfl, rfl⟩) | (go_at_call 73; refine (inS _ _ _ _).mono ?_; rintro e w' ⟨rfl, rfl⟩))
      go_ret
      exact ⟨ret_int E.out, rfl⟩
  · have hw : widthB a = false := by simpa using hw
    have E : Hid (0 = resZ op a) := by show _ = _; simp [resZ, hw]
    go_enter Tryz.func123, Tryz.ntmps123
    go_wp2_with (first | (go_at_call 74; refine (widthS _ _).mono ?_; rintro e w' ⟨rfl, rfl⟩) | (go_at_call 73; refine (inS _ _ _ _).mono ?_; rintro e w' ⟨rfl, rfl⟩))
    go_ret
    exact ⟨ret_int E.out, rfl⟩

end Go.Proofs.YtjmoonbpfieifaaGreatDoor
