/- Plain arithmetic of widths: what a width is, its values, their signs, what is cut to a width. No Go in sight. -/
import Derived.WalkKit
namespace Go.Proofs.YtclagbdomfgodaaGreatDoor
open Go.RowKit

def widthB (w : Int) : Bool := w == 1 || w == 8 || w == 16 || w == 32
def topZ (w : Int) : Int := if w = 1 then 2 else if w = 8 then 256 else if w = 16 then 65536 else 4294967296
def valueB (w v : Int) : Bool := widthB w && (decide (0 ≤ v) && decide (v < topZ w))
def maskZ (w n : Int) : Int := if widthB w = true then n % topZ w else 0
def sgnZ (w v : Int) : Int := if topZ w / 2 ≤ v then v - topZ w else v
def signZ (w v : Int) : Int := if valueB w v = true then sgnZ w v else 0

theorem width_yes {w : Int} (h : widthB w = true) : w = 1 ∨ w = 8 ∨ w = 16 ∨ w = 32 := by
  simp [widthB] at h; omega
theorem width_no {w : Int} (h : widthB w = false) : (w == 1) = false ∧ (w == 8) = false ∧ (w == 16) = false ∧ (w == 32) = false := by
  simp [widthB] at h; simp; omega
theorem top1 : topZ 1 = 2 := by simp [topZ]
theorem top8 : topZ 8 = 256 := by simp [topZ]
theorem top16 : topZ 16 = 65536 := by simp [topZ]
theorem top32 : topZ 32 = 4294967296 := by simp [topZ]
theorem top_pos (w : Int) : 2 ≤ topZ w ∧ topZ w ≤ 4294967296 := by
  unfold topZ; repeat' split
  all_goals omega
theorem value_yes {w v : Int} (h : valueB w v = true) : widthB w = true ∧ 0 ≤ v ∧ v < topZ w := by
  simpa [valueB] using h
theorem value_mk {w v : Int} (h : widthB w = true) (h0 : 0 ≤ v) (h1 : v < topZ w) : valueB w v = true := by
  simp [valueB, h, h0, h1]
theorem value_no {w v : Int} (h : valueB w v = false) (hw : widthB w = true) : v < 0 ∨ topZ w ≤ v := by
  simp [valueB, hw] at h; omega

theorem and_mask (n : Int) (k : Nat) (hk : k ≤ 32) : bits .and .i64 n (2 ^ k - 1) = n % 2 ^ k := by
  have hp : (2 : Nat) ^ k ≤ 2 ^ 32 := Nat.pow_le_pow_right (by decide) hk
  have hq : 0 < (2 : Nat) ^ k := Nat.pow_pos (by decide)
  have e1 : ((2 : Int) ^ k - 1) = ((2 ^ k - 1 : Nat) : Int) := by
    have : ((2 ^ k : Nat) : Int) = (2 : Int) ^ k := by simp
    omega
  have e2 : (BitVec.ofInt 64 ((2 : Int) ^ k - 1)).toNat = 2 ^ k - 1 := by
    rw [e1, BitVec.toNat_ofInt]; omega
  have e3 : (BitVec.ofInt 64 n).toNat = (n % 18446744073709551616).toNat := by rw [BitVec.toNat_ofInt]; simp
  have e4 : (((n % 18446744073709551616).toNat % 2 ^ k : Nat) : Int) = n % 2 ^ k := by
    have h1 : ((n % 18446744073709551616).toNat : Int) = n % 18446744073709551616 := by omega
    have hd : ((2 : Int) ^ k) ∣ 18446744073709551616 := by
      refine ⟨2 ^ (64 - k), ?_⟩
      rw [← Int.pow_add]
      rw [show k + (64 - k) = 64 by omega]; rfl
    rw [Int.natCast_emod, h1]
    have : (((2 : Nat) ^ k : Nat) : Int) = (2 : Int) ^ k := by simp
    rw [this, Int.emod_emod_of_dvd _ hd]
  show IntKind.i64.wrap ((BitVec.ofInt 64 n &&& BitVec.ofInt 64 ((2 : Int) ^ k - 1)).toNat : Int) = _
  rw [BitVec.toNat_and, e2, e3, Nat.and_two_pow_sub_one_eq_mod, e4, IntKind.wrap_i64]
  have h5 : (0 : Int) ≤ n % 2 ^ k := Int.emod_nonneg _ (by
    have : (((2 : Nat) ^ k : Nat) : Int) = (2 : Int) ^ k := by simp
    omega)
  have h6 : n % 2 ^ k < 4294967297 := by
    have := Int.emod_lt_of_pos n (b := (2 : Int) ^ k) (by
      have : (((2 : Nat) ^ k : Nat) : Int) = (2 : Int) ^ k := by simp
      omega)
    have : (((2 : Nat) ^ k : Nat) : Int) = (2 : Int) ^ k := by simp
    omega
  generalize n % 2 ^ k = m at h5 h6
  omega
theorem and1 (n : Int) : bits .and .i64 n 1 = n % 2 := and_mask n 1 (by decide)
theorem and255 (n : Int) : bits .and .i64 n 255 = n % 256 := and_mask n 8 (by decide)
theorem and65535 (n : Int) : bits .and .i64 n 65535 = n % 65536 := and_mask n 16 (by decide)
theorem and32 (n : Int) : bits .and .i64 n 4294967295 = n % 4294967296 := and_mask n 32 (by decide)
end Go.Proofs.YtclagbdomfgodaaGreatDoor
