/- What is written is read, and what is read was so written: on lists of bytes. -/
import Derived.Test.YthgjnaabiffhiaaVof
import Derived.Test.YthgjnaabiffhiaaVoi
namespace Go.Proofs.Ythgjnaabiffhiaa
open Go.RowKit

theorem u8_of {b : UInt8} {q : Nat} (h : q = b.toNat) : UInt8.ofNat q = b := by
  apply UInt8.toNat_inj.1
  rw [u8_nat (by have := b.toNat_lt; omega), h]
theorem rdl_yes (l : List UInt8) : ∀ (k n x m : Nat), rdl k n l = (x, m) → m ≠ 0 → ∃ y, x = n + 128 ^ k * y ∧ k ≤ m ∧ m - k ≤ l.length ∧ vl y = l.take (m - k) ∧ (0 < k → 0 < y) ∧ x ≤ 4294967295 := by
  induction l with
  | nil => intro k n x m h hm; simp [rdl] at h; omega
  | cons b r ih =>
    intro k n x m h hm
    have hb := b.toNat_lt
    by_cases h5 : 5 ≤ k
    · rw [rdl, if_pos h5] at h
      cases h; omega
    · rw [rdl_cons (by omega)] at h
      by_cases h1 : 128 ≤ b.toNat
      · rw [if_pos h1] at h
        obtain ⟨y, hx, hk, hlen, hv, hy, hmax⟩ := ih _ _ _ _ h hm
        refine ⟨b.toNat % 128 + 128 * y, ?_, by omega, by simp; omega, ?_, fun _ => by have := hy (by omega); omega, hmax⟩
        · rw [hx, Nat.pow_succ, Nat.mul_add, Nat.mul_assoc]; omega
        · have h0 := hy (by omega)
          rw [vl_more (by omega), show (b.toNat % 128 + 128 * y) / 128 = y by omega, hv, show m - k = (m - (k + 1)) + 1 by omega, List.take_succ_cons]
          congr 1
          exact u8_of (by omega)
      · rw [if_neg h1] at h
        by_cases h2 : 4294967295 < n + 128 ^ k * (b.toNat % 128) ∨ (b.toNat = 0 ∧ 0 < k)
        · rw [if_pos h2] at h
          cases h; omega
        · rw [if_neg h2] at h
          cases h
          refine ⟨b.toNat, by rw [Nat.mod_eq_of_lt (by omega)], by omega, by simp, ?_, fun h => by omega, by omega⟩
          rw [vl_last (by omega), show k + 1 - k = 1 by omega]
          simp
theorem rdl_back (r : List UInt8) : ∀ (y k n : Nat), n + 128 ^ k * y ≤ 4294967295 → (0 < k → 0 < y) → k + (vl y).length ≤ 5 → rdl k n (vl y ++ r) = (n + 128 ^ k * y, k + (vl y).length) := by
  intro y
  induction y using Nat.strongRecOn with
  | ind y ih =>
    intro k n hm hk h5
    by_cases h1 : y < 128
    · rw [vl_last h1] at h5 ⊢
      simp at h5
      have e : (UInt8.ofNat y).toNat = y := u8_nat (by omega)
      rw [List.singleton_append, rdl_cons (by omega), e, if_neg (by omega), Nat.mod_eq_of_lt h1, if_neg (by omega)]
      simp
    · rw [vl_more (by omega)] at h5 ⊢
      simp only [List.length_cons, List.cons_append] at h5 ⊢
      have e : (UInt8.ofNat (128 + y % 128)).toNat = 128 + y % 128 := u8_nat (by omega)
      have hp : 128 ^ (k + 1) * (y / 128) + 128 ^ k * (y % 128) = 128 ^ k * y := by
        rw [Nat.pow_succ, Nat.mul_assoc, ← Nat.mul_add, Nat.div_add_mod]
      have e2 : (128 + y % 128) % 128 = y % 128 := by omega
      rw [rdl_cons (by omega), e, if_pos (by omega), e2, ih (y / 128) (by omega) (k + 1) _ (by omega) (by omega) (by omega)]
      exact Prod.ext (by simp only; omega) (by simp only; omega)

/-- What stands at a place, written again. -/
theorem rdAt_yes {t : ByteArray} {a : Int} (h : 0 < (rdAt t a).2) : 0 ≤ a ∧ a + ((rdAt t a).2 : Int) ≤ t.size ∧ vof ((rdAt t a).1 : Int) = t.extract a.toNat (a.toNat + (rdAt t a).2) := by
  unfold rdAt at h ⊢
  split at h
  · rename_i hin
    rw [if_pos hin]
    generalize hq : rdl 0 0 (t.data.toList.drop a.toNat) = q at h
    obtain ⟨x, m⟩ := q
    obtain ⟨y, hx, _, hl, hv, _, hmax⟩ := rdl_yes _ _ _ _ _ hq (by simpa using Nat.pos_iff_ne_zero.1 h)
    simp at hx hl hv
    subst hx
    refine ⟨hin.1, by simp only; omega, ?_⟩
    unfold vof
    rw [if_pos (by simp only; omega)]
    apply ByteArray.ext
    rw [show ((x : Nat) : Int).toNat = x from rfl, hv]
    apply Array.ext'
    simp [ByteArray.data_extract, Array.toList_extract, List.extract]
  · omega
theorem rdAt_back {n : Int} (h : 0 ≤ n ∧ n ≤ 4294967295) (p r : UInt8) : rdAt (⟨#[p]⟩ ++ vof n ++ ⟨#[r]⟩) 1 = (n.toNat, (vof n).size) := by
  have h5 := vl_five (n := n.toNat) (by omega)
  have e : (ByteArray.mk #[p] ++ vof n ++ ByteArray.mk #[r]) = ByteArray.mk ([p] ++ vl n.toNat ++ [r]).toArray := by
    unfold vof
    rw [if_pos h, show (ByteArray.mk #[p]) = ByteArray.mk [p].toArray from rfl, show (ByteArray.mk #[r]) = ByteArray.mk [r].toArray from rfl, ByteArray.mk_append_mk, ByteArray.mk_append_mk]
  have hz : (vof n).size = (vl n.toNat).length := by
    unfold vof
    rw [if_pos h]
    show (vl n.toNat).toArray.size = _
    simp
  rw [e, hz]
  unfold rdAt
  rw [if_pos ⟨by omega, by show (1 : Int) < (([p] ++ vl n.toNat ++ [r]).toArray.size : Nat); simp; omega⟩]
  have := rdl_back [r] n.toNat 0 0 (by simp; omega) (by omega) (by omega)
  simpa using this
end Go.Proofs.Ythgjnaabiffhiaa
