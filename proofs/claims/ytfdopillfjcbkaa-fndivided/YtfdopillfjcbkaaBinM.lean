/- Plain arithmetic of the binary ops: what is added and taken away, turned twice, divided, and how two values stand to each other. -/
import Derived.Test.YtfdopillfjcbkaaBin
namespace Go.Proofs.Ytfdopillfjcbkaa
open Go.RowKit

theorem mask_bd' {x n : Int} (hx : widthB x = true) : 0 ≤ maskZ x n ∧ maskZ x n < topZ x := by
  have tp := top_pos x
  rw [maskZ, if_pos hx]
  exact ⟨Int.emod_nonneg _ (by omega), Int.emod_lt_of_pos _ (by omega)⟩
theorem mask_id {x n : Int} (h : valueB x n = true) : maskZ x n = n := by
  obtain ⟨hx, h0, h1⟩ := value_yes h
  rw [maskZ, if_pos hx, Int.emod_eq_of_lt h0 h1]
theorem mask_val {x n : Int} (hx : widthB x = true) : valueB x (maskZ x n) = true := value_mk hx (mask_bd' hx).1 (mask_bd' hx).2
theorem mask_mod_top {x n : Int} (hx : widthB x = true) : maskZ x n % topZ x = n % topZ x := by
  rw [maskZ, if_pos hx, Int.emod_emod_of_dvd _ (Int.dvd_refl _)]
theorem binC_yes {op x a b : Int} (h : binC op x a b = 0) : opB op = true ∧ valueB x a = true ∧ valueB x b = true ∧ ¬ (divB op = true ∧ b = 0) := by
  unfold binC at h
  by_cases hk : binOk op x a b = true
  · rw [if_pos hk] at h
    by_cases hd : divB op = true ∧ b = 0
    · rw [if_pos hd] at h; omega
    · simp [binOk] at hk
      exact ⟨hk.1, hk.2.1, hk.2.2, hd⟩
  · rw [if_neg hk] at h; omega
theorem bin_eq {op x a b : Int} (ho : opB op = true) (ha : valueB x a = true) (hb : valueB x b = true) (hd : ¬ (divB op = true ∧ b = 0)) : binZ op x a b = maskZ x (twoZ op x a b) := by
  rw [binZ, if_pos ⟨by simp [binOk, ho, ha, hb], hd⟩]
theorem bit_val {x : Int} (hx : widthB x = true) (c : Bool) : valueB x (bitZ c) = true := by
  have tp := top_pos x
  refine value_mk hx ?_ ?_ <;> cases c <;> simp [bitZ] <;> omega
theorem bin14 {x a b : Int} (ha : valueB x a = true) (hb : valueB x b = true) : binZ 14 x a b = bitZ (a == b) := by
  rw [bin_eq (by decide) ha hb (by simp [divB])]; simp only [twoZ]; exact mask_id (bit_val (value_yes ha).1 _)
theorem bin15 {x a b : Int} (ha : valueB x a = true) (hb : valueB x b = true) : binZ 15 x a b = bitZ (a != b) := by
  rw [bin_eq (by decide) ha hb (by simp [divB])]; simp only [twoZ]; exact mask_id (bit_val (value_yes ha).1 _)
theorem bin16 {x a b : Int} (ha : valueB x a = true) (hb : valueB x b = true) : binZ 16 x a b = bitZ (decide (a < b)) := by
  rw [bin_eq (by decide) ha hb (by simp [divB])]; simp only [twoZ]; exact mask_id (bit_val (value_yes ha).1 _)
theorem bin17 {x a b : Int} (ha : valueB x a = true) (hb : valueB x b = true) : binZ 17 x a b = bitZ (decide (sgnZ x a < sgnZ x b)) := by
  rw [bin_eq (by decide) ha hb (by simp [divB])]; simp only [twoZ]; exact mask_id (bit_val (value_yes ha).1 _)
theorem sign_val {x a : Int} (h : valueB x a = true) : signZ x a = sgnZ x a := by rw [signZ, if_pos h]
theorem sgn_inj {x a b : Int} (ha : valueB x a = true) (hb : valueB x b = true) (h : sgnZ x a = sgnZ x b) : a = b := by
  obtain ⟨hx, a0, a1⟩ := value_yes ha
  obtain ⟨_, b0, b1⟩ := value_yes hb
  have tp := top_pos x
  unfold sgnZ at h
  split at h <;> split at h <;> omega
/-- How two unlike values stand to each other: the one is less or the other, and likewise their signs. -/
theorem stand {x a b : Int} (ha : valueB x a = true) (hb : valueB x b = true) (h : ¬ a = b) : (a < b ∨ b < a) ∧ (signZ x a < signZ x b ∨ signZ x b < signZ x a) := by
  rw [sign_val ha, sign_val hb]
  have : ¬ sgnZ x a = sgnZ x b := fun e => h (sgn_inj ha hb e)
  omega
theorem add_sub {x a b : Int} (ha : valueB x a = true) (hb : valueB x b = true) : binZ 2 x (binZ 1 x a b) b = a := by
  have hx := (value_yes ha).1
  have e1 : binZ 1 x a b = maskZ x (a + b) := by rw [bin_eq (by decide) ha hb (by simp [divB])]; simp [twoZ]
  rw [e1]
  have e2 : binZ 2 x (maskZ x (a + b)) b = maskZ x (maskZ x (a + b) - b) := by rw [bin_eq (by decide) (mask_val hx) hb (by simp [divB])]; simp [twoZ]
  rw [e2]
  have e3 : maskZ x (maskZ x (a + b) - b) = maskZ x a := by
    refine mask_mod ?_
    rw [Int.sub_emod, mask_mod_top hx, ← Int.sub_emod]
    congr 1; omega
  rw [e3, mask_id ha]
theorem xor_i64 (a b : Nat) (ha : a < 4294967296) (hb : b < 4294967296) : bits .xor .i64 (a : Int) (b : Int) = ((a ^^^ b : Nat) : Int) := by
  have e1 : (BitVec.ofInt 64 (a : Int)).toNat = a := by rw [BitVec.toNat_ofInt]; omega
  have e2 : (BitVec.ofInt 64 (b : Int)).toNat = b := by rw [BitVec.toNat_ofInt]; omega
  have h3 : a ^^^ b < 2 ^ 32 := Nat.xor_lt_two_pow (by omega) (by omega)
  show IntKind.i64.wrap ((BitVec.ofInt 64 (a : Int) ^^^ BitVec.ofInt 64 (b : Int)).toNat : Int) = _
  rw [BitVec.toNat_xor, e1, e2, IntKind.wrap_i64]
  generalize a ^^^ b = m at h3
  omega
theorem top_pow {x : Int} (hx : widthB x = true) : topZ x = ((2 ^ x.toNat : Nat) : Int) := by
  rcases width_yes hx with rfl | rfl | rfl | rfl
  · rfl
  · rfl
  · rfl
  · rfl
theorem xor_val {x a b : Int} (ha : valueB x a = true) (hb : valueB x b = true) : bits .xor .i64 a b = ((a.toNat ^^^ b.toNat : Nat) : Int) ∧ valueB x ((a.toNat ^^^ b.toNat : Nat) : Int) = true := by
  obtain ⟨hx, a0, a1⟩ := value_yes ha
  obtain ⟨_, b0, b1⟩ := value_yes hb
  have tp := top_pos x
  constructor
  · have := xor_i64 a.toNat b.toNat (by omega) (by omega)
    rw [Int.toNat_of_nonneg a0, Int.toNat_of_nonneg b0] at this
    exact this
  · have hp := top_pow hx
    have := Nat.xor_lt_two_pow (x := a.toNat) (y := b.toNat) (n := x.toNat) (by omega) (by omega)
    exact value_mk hx (by omega) (by omega)
theorem xor_xor {x a b : Int} (ha : valueB x a = true) (hb : valueB x b = true) : binZ 10 x (binZ 10 x a b) b = a := by
  obtain ⟨e, hv⟩ := xor_val ha hb
  have e1 : binZ 10 x a b = ((a.toNat ^^^ b.toNat : Nat) : Int) := by
    rw [bin_eq (by decide) ha hb (by simp [divB])]; simp only [twoZ]; show maskZ x (bits .xor .i64 a b) = _; rw [e, mask_id hv]
  rw [e1]
  obtain ⟨e', hv'⟩ := xor_val hv hb
  rw [bin_eq (by decide) hv hb (by simp [divB])]; simp only [twoZ]; show maskZ x (bits .xor .i64 _ b) = _
  rw [e', mask_id hv']
  have : (((a.toNat ^^^ b.toNat : Nat) : Int).toNat ^^^ b.toNat) = a.toNat := by
    rw [Int.toNat_natCast, Nat.xor_assoc, Nat.xor_self, Nat.xor_zero]
  rw [this]; have := (value_yes ha).2.1; omega
theorem res_mask {op x a b : Int} (ho : opB op = true) (ha : valueB x a = true) (hb : valueB x b = true) (hd : ¬ (divB op = true ∧ b = 0)) : maskZ (resZ op x) (binZ op x a b) = binZ op x a b ∧ 0 ≤ binZ op x a b := by
  have hx := (value_yes ha).1
  have e := bin_eq ho ha hb hd
  have hn : 0 ≤ binZ op x a b := by rw [e]; exact (mask_bd' hx).1
  refine ⟨?_, hn⟩
  by_cases h14 : 14 ≤ op
  · have er : resZ op x = 1 := by simp [resZ, ho, hx, h14]
    have hv : ∃ c, binZ op x a b = bitZ c := by
      have := op_yes ho
      have hc : op = 14 ∨ op = 15 ∨ op = 16 ∨ op = 17 := by omega
      rcases hc with rfl | rfl | rfl | rfl
      · exact ⟨_, bin14 ha hb⟩
      · exact ⟨_, bin15 ha hb⟩
      · exact ⟨_, bin16 ha hb⟩
      · exact ⟨_, bin17 ha hb⟩
    obtain ⟨c, hc⟩ := hv
    rw [er, hc]; exact mask_id (bit_val (by decide) c)
  · have er : resZ op x = x := by simp [resZ, ho, hx, h14]
    rw [er, e]; exact mask_id (mask_val hx)
end Go.Proofs.Ytfdopillfjcbkaa
