/- Plain arithmetic of division: a number is its quotient times what divides it, and the rest, with a sign or without. -/
import Derived.Test.YtfdopillfjcbkaaBinM
namespace Go.Proofs.Ytfdopillfjcbkaa
open Go.RowKit

theorem binC_46 {x a b : Int} : binC 6 x a b = binC 4 x a b := by
  have e1 : opB 6 = opB 4 := by decide
  have e3 : binOk 6 x a b = binOk 4 x a b := by simp [binOk, e1]
  have e4 : divB 6 = true := by decide
  have e5 : divB 4 = true := by decide
  unfold binC
  rw [e3]
  by_cases k : binOk 4 x a b = true
  · rw [if_pos k, if_pos k]; simp [e4, e5]
  · rw [if_neg k, if_neg k]
theorem binC_one {op x a b : Int} (h : binC op x a b = 1) : b = 0 := by
  unfold binC at h
  split at h
  · split at h
    · rename_i k; exact k.2
    · omega
  · omega
theorem div_u {x a b : Int} (ha : valueB x a = true) (hb : valueB x b = true) (hz : ¬ b = 0) :
    ∃ q r : Int, binZ 4 x a b = q ∧ binZ 6 x a b = r ∧ 0 ≤ q * b ∧ q * b ≤ 4294967295 ∧ 0 ≤ r ∧ r < b ∧ q * b + r = a := by
  obtain ⟨hx, a0, a1⟩ := value_yes ha
  obtain ⟨_, b0, b1⟩ := value_yes hb
  have tp := top_pos x
  have h1 : 0 ≤ a / b := Int.ediv_nonneg a0 b0
  have h2 : a / b ≤ a := Int.ediv_le_self b a0
  have h3 : 0 ≤ a % b := Int.emod_nonneg _ hz
  have h4 : a % b < b := Int.emod_lt_of_pos _ (by omega)
  have h5 : a / b * b + a % b = a := by rw [Int.mul_comm]; exact Int.mul_ediv_add_emod a b
  have h6 : 0 ≤ a / b * b := Int.mul_nonneg h1 b0
  refine ⟨a / b, a % b, ?_, ?_, h6, by omega, h3, h4, h5⟩
  · rw [bin_eq (by decide) ha hb (by simp [hz])]; show maskZ x (a / b) = _; exact mask_id (value_mk hx h1 (by omega))
  · rw [bin_eq (by decide) ha hb (by simp [hz])]; show maskZ x (a % b) = _; exact mask_id (value_mk hx h3 (by omega))
theorem div_s {x a b : Int} (ha : valueB x a = true) (hb : valueB x b = true) (hz : ¬ b = 0) :
    binZ 1 x (binZ 3 x (binZ 5 x a b) b) (binZ 7 x a b) = a := by
  have hx := (value_yes ha).1
  have e5 : binZ 5 x a b = maskZ x ((sgnZ x a).tdiv (sgnZ x b)) := by rw [bin_eq (by decide) ha hb (by simp [hz])]; simp [twoZ]
  have e7 : binZ 7 x a b = maskZ x ((sgnZ x a).tmod (sgnZ x b)) := by rw [bin_eq (by decide) ha hb (by simp [hz])]; simp [twoZ]
  rw [e5, e7]
  have e3 : ∀ s, valueB x s = true → binZ 3 x s b = maskZ x (s * b) := fun s hs => by rw [bin_eq (by decide) hs hb (by simp [divB])]; simp [twoZ]
  rw [e3 _ (mask_val hx)]
  have e1 : ∀ s t, valueB x s = true → valueB x t = true → binZ 1 x s t = maskZ x (s + t) := fun s t hs ht => by rw [bin_eq (by decide) hs ht (by simp [divB])]; simp [twoZ]
  rw [e1 _ _ (mask_val hx) (mask_val hx)]
  have hm : maskZ x (maskZ x (maskZ x ((sgnZ x a).tdiv (sgnZ x b)) * b) + maskZ x ((sgnZ x a).tmod (sgnZ x b))) = maskZ x a := by
    refine mask_mod ?_
    rw [Int.add_emod, mask_mod_top hx, mask_mod_top hx, Int.mul_emod, mask_mod_top hx, ← sgn_emod (a := x) (x := b), ← Int.mul_emod, ← Int.add_emod]
    rw [Int.mul_comm, Int.mul_tdiv_add_tmod, sgn_emod]
  rw [hm, mask_id ha]
end Go.Proofs.Ytfdopillfjcbkaa
