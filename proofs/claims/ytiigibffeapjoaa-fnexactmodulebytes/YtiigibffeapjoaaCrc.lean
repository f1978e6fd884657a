/- The sums: a bit, a byte, a text; the program's and the model's. -/
import Derived.Test.YtiigibffeapjoaaRows
import Derived.WalkKit
import Derived.WalkSpells
import Derived.WalkLawsBesides
import Derived.Deep.QuietTactic
namespace Go.Proofs.Ytiigibffeapjoaa
open Go.RowKit

/-- One bit of a sum. -/
def cbit (c : Nat) : Nat := if c % 2 = 1 then (c / 2) ^^^ 3988292384 else c / 2
def cbits : Nat → Nat → Nat
  | 0, c => c
  | k + 1, c => cbits k (cbit c)
def cbyte (c b : Nat) : Nat := cbits 8 (c ^^^ b)
def csum (c : Nat) (l : List UInt8) : Nat := l.foldl (fun c b => cbyte c b.toNat) c
def crcOf (l : List UInt8) : Nat := csum 4294967295 l ^^^ 4294967295

theorem xor_lt32 {a b : Nat} (ha : a < 4294967296) (hb : b < 4294967296) : a ^^^ b < 4294967296 :=
  Nat.xor_lt_two_pow (n := 32) (by omega) (by omega)
theorem cbit_lt {c : Nat} (h : c < 4294967296) : cbit c < 4294967296 := by
  unfold cbit
  split
  · exact xor_lt32 (by omega) (by omega)
  · omega
theorem cbits_lt (k : Nat) {c : Nat} (h : c < 4294967296) : cbits k c < 4294967296 := by
  induction k generalizing c with
  | zero => exact h
  | succ k ih => exact ih (cbit_lt h)
theorem cbyte_lt {c : Nat} (h : c < 4294967296) (b : UInt8) : cbyte c b.toNat < 4294967296 :=
  cbits_lt 8 (xor_lt32 h (by have := b.toNat_lt; omega))
theorem csum_lt {c : Nat} (h : c < 4294967296) (l : List UInt8) : csum c l < 4294967296 := by
  induction l generalizing c with
  | nil => exact h
  | cons b l ih => exact ih (cbyte_lt h b)
theorem len_data (s : ByteArray) : s.data.toList.length = s.size := by simp
theorem csum_take {s : ByteArray} {k : Nat} (hk : k < s.size) (c : Nat) : csum c (s.data.toList.take (k + 1)) = cbyte (csum c (s.data.toList.take k)) (s[k]'hk).toNat := by
  have hk' : k < s.data.toList.length := by simpa using hk
  unfold csum
  rw [List.take_succ_eq_append_getElem hk', List.foldl_append]
  rfl

def intOf : Value → Int | .int _ q => q | _ => 0

set_option maxHeartbeats 1000000 in
theorem crcS (s : ByteArray) (hs : s.size ≤ 1048576) (w : World) :
    Calls Try.prog 26 #[.string s] w fun e w' => e = .returned (.int .i64 (crcOf s.data.toList)) ∧ w' = w := by
  go_enter Try.func26, Try.ntmps26
  go_wp2_with fail
  go_loop [3, 4] (fun c i => ∃ k m : Nat, k ≤ s.size ∧ m < 4294967296 ∧ i = .int .i64 k ∧ c = .int .u32 m ∧ Hid (m = csum 4294967295 (s.data.toList.take k))) (fun _ i => s.size - (intOf i).toNat)
  case atStart => exact ⟨0, 4294967295, by omega, by omega, rfl, rfl, by show _ = _; simp [csum]⟩
  case round =>
    obtain ⟨k, m, hk, hm, rfl, rfl, HM⟩ := hrel
    by_cases hlt : k < s.size
    · have hx := u32_xor_nat m (s[k]'hlt).toNat hm (by have := (s[k]'hlt).toNat_lt; omega)
      have hxl := xor_lt32 hm (b := (s[k]'hlt).toNat) (by have := (s[k]'hlt).toNat_lt; omega)
      go_wp2_with fail
      go_loop [3, 5] (fun c i => ∃ j m : Nat, j ≤ 8 ∧ m < 4294967296 ∧ i = .int .i64 j ∧ c = .int .u32 m ∧ Hid (cbits (8 - j) m = cbyte (csum 4294967295 (s.data.toList.take k)) (s[k]'hlt).toNat)) (fun _ i => 8 - (intOf i).toNat)
      case atStart => exact ⟨0, _, by omega, hxl, rfl, by rw [Int.emod_eq_of_lt (by omega) (by have := (s[k]'hlt).toNat_lt; omega), hx], by show _ = _; rw [← HM]; rfl⟩
      case round =>
        obtain ⟨j, mj, hj, hmj, rfl, rfl, HJ⟩ := hrel
        by_cases hj8 : j < 8
        · by_cases ho : mj % 2 = 1
          · have ha : bits .and .u32 (mj : Int) 1 = 1 := by
              have := u32_and_nat mj 1 hmj (by omega)
              rw [Nat.and_one_is_mod, ho] at this
              exact this
            clear hx
            go_wp2_with fail
            have e : bits .xor .u32 ((mj : Int) / 2) 3988292384 = ((mj / 2 ^^^ 3988292384 : Nat) : Int) := u32_xor_nat (mj / 2) 3988292384 (by omega) (by omega)
            have hc : cbit mj = mj / 2 ^^^ 3988292384 := by unfold cbit; rw [if_pos ho]
            refine ⟨⟨j + 1, cbit mj, by omega, cbit_lt hmj, rfl, by rw [e, hc], ?_⟩, by simp only [intOf]; omega⟩
            rw [show 8 - j = (8 - (j + 1)) + 1 by omega] at HJ
            exact HJ
          · have ha : bits .and .u32 (mj : Int) 1 = 0 := by
              have := u32_and_nat mj 1 hmj (by omega)
              rw [Nat.and_one_is_mod, Nat.mod_two_ne_one.1 ho] at this
              exact this
            clear hx
            go_wp2_with fail
            have hc : cbit mj = mj / 2 := by unfold cbit; rw [if_neg ho]
            refine ⟨⟨j + 1, cbit mj, by omega, cbit_lt hmj, rfl, by rw [hc]; rfl, ?_⟩, by simp only [intOf]; omega⟩
            rw [show 8 - j = (8 - (j + 1)) + 1 by omega] at HJ
            exact HJ
        · clear hx
          go_wp2_with fail
          refine ⟨⟨k + 1, mj, by omega, hmj, rfl, rfl, ?_⟩, by simp only [intOf]; omega⟩
          rw [show 8 - j = 0 by omega] at HJ
          show mj = _
          rw [csum_take hlt]
          exact HJ
    · go_wp2_with fail
      go_ret
      refine ⟨?_, rfl⟩
      have e : bits .xor .u32 (m : Int) 4294967295 = ((m ^^^ 4294967295 : Nat) : Int) := u32_xor_nat m 4294967295 hm (by omega)
      have hb := xor_lt32 hm (b := 4294967295) (by omega)
      have ht : s.data.toList.take k = s.data.toList := List.take_of_length_le (by rw [len_data]; omega)
      rw [e, show crcOf s.data.toList = m ^^^ 4294967295 by unfold crcOf; rw [HM, ht]]
      generalize m ^^^ 4294967295 = q at hb
      exact congrArg (fun z => Ending.returned (.int .i64 z)) (by unfold wrap64; omega)

set_option maxHeartbeats 1000000 in
theorem crcI (s : ByteArray) (hs : s.size ≤ 1048576) (w : World) :
    Calls Try.prog 35 #[.string s] w fun e w' => e = .returned (.int .i64 (crcOf s.data.toList)) ∧ w' = w := by
  go_enter Try.func35, Try.ntmps35
  go_wp2_with fail
  go_loop [3, 7] (fun c i => ∃ k m : Nat, k ≤ s.size ∧ m < 4294967296 ∧ i = .int .i64 k ∧ c = .int .u32 m ∧ Hid (m = csum 4294967295 (s.data.toList.take k))) (fun _ i => s.size - (intOf i).toNat)
  case atStart => exact ⟨0, 4294967295, by omega, by omega, rfl, rfl, by show _ = _; simp [csum]⟩
  case round =>
    obtain ⟨k, m, hk, hm, rfl, rfl, HM⟩ := hrel
    by_cases hlt : k < s.size
    · have hx := u32_xor_nat m (s[k]'hlt).toNat hm (by have := (s[k]'hlt).toNat_lt; omega)
      have hxl := xor_lt32 hm (b := (s[k]'hlt).toNat) (by have := (s[k]'hlt).toNat_lt; omega)
      go_wp2_with fail
      go_loop [3, 16] (fun c i => ∃ j m : Nat, j ≤ 8 ∧ m < 4294967296 ∧ i = .int .i64 j ∧ c = .int .u32 m ∧ Hid (cbits (8 - j) m = cbyte (csum 4294967295 (s.data.toList.take k)) (s[k]'hlt).toNat)) (fun _ i => 8 - (intOf i).toNat)
      case atStart => exact ⟨0, _, by omega, hxl, rfl, by rw [Int.emod_eq_of_lt (by omega) (by have := (s[k]'hlt).toNat_lt; omega), hx], by show _ = _; rw [← HM]; rfl⟩
      case round =>
        obtain ⟨j, mj, hj, hmj, rfl, rfl, HJ⟩ := hrel
        by_cases hj8 : j < 8
        · by_cases ho : mj % 2 = 1
          · have ha : bits .and .u32 (mj : Int) 1 = 1 := by
              have := u32_and_nat mj 1 hmj (by omega)
              rw [Nat.and_one_is_mod, ho] at this
              exact this
            clear hx
            go_wp2_with fail
            have e : bits .xor .u32 ((mj : Int) / 2) 3988292384 = ((mj / 2 ^^^ 3988292384 : Nat) : Int) := u32_xor_nat (mj / 2) 3988292384 (by omega) (by omega)
            have hc : cbit mj = mj / 2 ^^^ 3988292384 := by unfold cbit; rw [if_pos ho]
            refine ⟨⟨j + 1, cbit mj, by omega, cbit_lt hmj, rfl, by rw [e, hc], ?_⟩, by simp only [intOf]; omega⟩
            rw [show 8 - j = (8 - (j + 1)) + 1 by omega] at HJ
            exact HJ
          · have ha : bits .and .u32 (mj : Int) 1 = 0 := by
              have := u32_and_nat mj 1 hmj (by omega)
              rw [Nat.and_one_is_mod, Nat.mod_two_ne_one.1 ho] at this
              exact this
            clear hx
            go_wp2_with fail
            have hc : cbit mj = mj / 2 := by unfold cbit; rw [if_neg ho]
            refine ⟨⟨j + 1, cbit mj, by omega, cbit_lt hmj, rfl, by rw [hc, show bits .xor .u32 ((mj : Int) / 2) 0 = ((mj / 2 ^^^ 0 : Nat) : Int) from u32_xor_nat (mj / 2) 0 (by omega) (by omega), Nat.xor_zero], ?_⟩, by simp only [intOf]; omega⟩
            rw [show 8 - j = (8 - (j + 1)) + 1 by omega] at HJ
            exact HJ
        · clear hx
          go_wp2_with fail
          refine ⟨⟨k + 1, mj, by omega, hmj, rfl, rfl, ?_⟩, by simp only [intOf]; omega⟩
          rw [show 8 - j = 0 by omega] at HJ
          show mj = _
          rw [csum_take hlt]
          exact HJ
    · go_wp2_with fail
      go_ret
      refine ⟨?_, rfl⟩
      have e : bits .xor .u32 IntKind.u32.max (m : Int) = ((m ^^^ 4294967295 : Nat) : Int) := by rw [Nat.xor_comm]; exact u32_xor_nat 4294967295 m (by omega) hm
      have hb := xor_lt32 hm (b := 4294967295) (by omega)
      have ht : s.data.toList.take k = s.data.toList := List.take_of_length_le (by rw [len_data]; omega)
      rw [e, show crcOf s.data.toList = m ^^^ 4294967295 by unfold crcOf; rw [HM, ht]]
      generalize m ^^^ 4294967295 = q at hb
      exact congrArg (fun z => Ending.returned (.int .i64 z)) (by unfold wrap64; omega)

/-! ### One bit turned, another sum -/
theorem high_odd {a : Nat} (ha : a < 2147483648) : (a ^^^ 3988292384).testBit 31 = true := by
  rw [Nat.testBit_xor, Nat.testBit_lt_two_pow (by omega)]
  decide
theorem cbit_top {c : Nat} (hc : c < 4294967296) : (cbit c).testBit 31 = decide (c % 2 = 1) := by
  unfold cbit
  by_cases h : c % 2 = 1
  · rw [if_pos h, high_odd (by omega)]; simp [h]
  · rw [if_neg h, Nat.testBit_lt_two_pow (by omega)]; simp [h]
theorem xor_cancel {a b p : Nat} (h : a ^^^ p = b ^^^ p) : a = b := by
  have := congrArg (fun z => z ^^^ p) h
  simpa [Nat.xor_assoc] using this
theorem cbit_inj {c d : Nat} (hc : c < 4294967296) (hd : d < 4294967296) (h : cbit c = cbit d) : c = d := by
  have hp := congrArg (fun z => Nat.testBit z 31) h
  simp only [cbit_top hc, cbit_top hd] at hp
  unfold cbit at h
  by_cases h1 : c % 2 = 1
  · have h2 : d % 2 = 1 := by simpa [h1] using hp
    rw [if_pos h1, if_pos h2] at h
    have := xor_cancel h
    omega
  · have h2 : ¬ d % 2 = 1 := by simpa [h1] using hp
    rw [if_neg h1, if_neg h2] at h
    omega
theorem cbits_inj (k : Nat) {c d : Nat} (hc : c < 4294967296) (hd : d < 4294967296) (h : cbits k c = cbits k d) : c = d := by
  induction k generalizing c d with
  | zero => exact h
  | succ k ih => exact cbit_inj hc hd (ih (cbit_lt hc) (cbit_lt hd) h)
theorem byte_lt32 (b : UInt8) : b.toNat < 4294967296 := by have := b.toNat_lt; omega
theorem csum_inj (l : List UInt8) {c d : Nat} (hc : c < 4294967296) (hd : d < 4294967296) (h : csum c l = csum d l) : c = d := by
  induction l generalizing c d with
  | nil => exact h
  | cons b l ih => exact xor_cancel (cbits_inj 8 (xor_lt32 hc (byte_lt32 b)) (xor_lt32 hd (byte_lt32 b)) (ih (cbyte_lt hc b) (cbyte_lt hd b) h))
/-- Another byte at one place, another sum. -/
theorem crc_turn (p r : List UInt8) {a b : UInt8} (h : a ≠ b) : crcOf (p ++ a :: r) ≠ crcOf (p ++ b :: r) := by
  intro e
  have e1 : csum 4294967295 (p ++ a :: r) = csum 4294967295 (p ++ b :: r) := xor_cancel e
  unfold csum at e1
  rw [List.foldl_append, List.foldl_append, List.foldl_cons, List.foldl_cons] at e1
  have hc : csum 4294967295 p < 4294967296 := csum_lt (by omega) p
  have e2 : cbyte (csum 4294967295 p) a.toNat = cbyte (csum 4294967295 p) b.toNat := csum_inj r (cbyte_lt hc a) (cbyte_lt hc b) e1
  have e3 := cbits_inj 8 (xor_lt32 hc (byte_lt32 a)) (xor_lt32 hc (byte_lt32 b)) e2
  rw [Nat.xor_comm _ a.toNat, Nat.xor_comm _ b.toNat] at e3
  exact h (UInt8.toNat_inj.1 (xor_cancel e3))
theorem crc_known : crcOf [49, 50, 51, 52, 53, 54, 55, 56, 57] = 3421780262 := by decide +kernel

end Go.Proofs.Ytiigibffeapjoaa
