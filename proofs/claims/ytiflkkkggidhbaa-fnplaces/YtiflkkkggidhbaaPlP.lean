/- The places of all ids, one behind the other. -/
import Derived.Test.YtiflkkkggidhbaaTyp
namespace Go.Proofs.Ytiflkkkggidhbaa
open Go.RowKit

theorem placeL_zero : ∀ (r : List BlockD) (b : Nat), 0 < cntL r → ∃ p : Nat, b ≤ p ∧ placeL r b 0 = ((p : Int), 0)
  | [], _, h => by simp [cntL] at h
  | d :: r, b, h => by
    unfold placeL
    by_cases e : (0 : Int) < cntB d
    · rw [if_pos e]; exact ⟨b, Nat.le_refl _, rfl⟩
    · rw [if_neg e]
      have e0 : cntB d = 0 := by omega
      have h2 : 0 < cntL r := by simp only [cntL] at h; omega
      obtain ⟨p, h3, h4⟩ := placeL_zero r (b + 1) h2
      exact ⟨p, by omega, by rw [e0]; simpa using h4⟩
theorem placeL_over : ∀ (r : List BlockD) (b : Nat) (x : Int), (cntL r : Int) ≤ x → placeL r b x = (-2, 0)
  | [], _, _, _ => rfl
  | d :: r, b, x, h => by
    simp only [cntL] at h
    unfold placeL
    rw [if_neg (by omega)]
    exact placeL_over r (b + 1) (x - cntB d) (by omega)
theorem placeL_next : ∀ (r : List BlockD) (b : Nat) (x : Int), 0 ≤ x → x + 1 < cntL r → ((placeL r b (x + 1)).1 = (placeL r b x).1 ∧ (placeL r b (x + 1)).2 = (placeL r b x).2 + 1) ∨ ((placeL r b x).1 < (placeL r b (x + 1)).1 ∧ (placeL r b (x + 1)).2 = 0)
  | [], _, x, _, h => by simp [cntL] at h; omega
  | d :: r, b, x, h0, h => by
    simp only [cntL] at h
    by_cases e : x < cntB d
    · by_cases e2 : x + 1 < cntB d
      · left
        simp only [placeL, if_pos e, if_pos e2]
        constructor <;> first | trivial | rfl
      · right
        have e3 : x + 1 - cntB d = 0 := by omega
        obtain ⟨p, h3, h4⟩ := placeL_zero r (b + 1) (by omega)
        simp only [placeL, if_pos e, if_neg e2, e3, h4]
        exact ⟨by omega, trivial⟩
    · have e2 : ¬ x + 1 < cntB d := by omega
      have e3 : x + 1 - cntB d = x - cntB d + 1 := by omega
      simp only [placeL, if_neg e, if_neg e2, e3]
      exact placeL_next r (b + 1) (x - cntB d) (by omega) (by omega)
/-- The place of the id ahead. -/
def lastF (d : FuncD) (k : Nat) : Int × Int := if k = 0 then (-1, -1) else placeF d ((k : Int) - 1)
theorem last_succ (d : FuncD) (k : Nat) : lastF d (k + 1) = placeF d k := by
  unfold lastF
  rw [if_neg (by omega)]
  congr 1
  omega
theorem place_step (d : FuncD) (k : Nat) (h : k < cntF d) : ((placeF d k).1 = (lastF d k).1 ∧ (placeF d k).2 = (lastF d k).2 + 1) ∨ ((lastF d k).1 < (placeF d k).1 ∧ (placeF d k).2 = 0) := by
  unfold cntF at h
  have a0 : ¬ ((k : Int) < 0) := by omega
  by_cases h1 : k < d.params.length
  · left
    have a1 : (k : Int) < d.params.length := by omega
    have e1 : placeF d k = (-1, (k : Int)) := by unfold placeF; rw [if_neg a0, if_pos a1]
    rw [e1]
    unfold lastF
    by_cases h0 : k = 0
    · rw [if_pos h0]; subst h0; exact ⟨rfl, rfl⟩
    · rw [if_neg h0]
      have e2 : placeF d ((k : Int) - 1) = (-1, (k : Int) - 1) := by unfold placeF; rw [if_neg (by omega), if_pos (by omega)]
      rw [e2]
      exact ⟨rfl, by dsimp only; omega⟩
  · have a1 : ¬ ((k : Int) < d.params.length) := by omega
    have e1 : placeF d k = placeL d.blocks 0 ((k : Int) - d.params.length) := by unfold placeF; rw [if_neg a0, if_neg a1]
    rw [e1]
    by_cases h2 : k = d.params.length
    · right
      have e3 : (k : Int) - d.params.length = 0 := by omega
      obtain ⟨p, h3, h4⟩ := placeL_zero d.blocks 0 (by omega)
      rw [e3, h4]
      have e4 : (lastF d k).1 = -1 := by
        unfold lastF
        by_cases h0 : k = 0
        · rw [if_pos h0]
        · rw [if_neg h0]
          unfold placeF
          rw [if_neg (by omega), if_pos (by omega)]
      rw [e4]
      exact ⟨by dsimp only; omega, rfl⟩
    · have e2 : lastF d k = placeL d.blocks 0 ((k : Int) - d.params.length - 1) := by
        unfold lastF
        rw [if_neg (by omega)]
        unfold placeF
        rw [if_neg (by omega), if_neg (by omega)]
        congr 1
        omega
      rw [e2]
      have e3 := placeL_next d.blocks 0 ((k : Int) - d.params.length - 1) (by omega) (by omega)
      have e4 : (k : Int) - d.params.length - 1 + 1 = (k : Int) - d.params.length := by omega
      rw [e4] at e3
      exact e3
theorem place_end (d : FuncD) : placeF d (cntF d) = (-2, 0) := by
  unfold placeF
  have h : (cntF d : Int) = d.params.length + cntL d.blocks := by unfold cntF; omega
  rw [h, if_neg (by omega), if_neg (by omega)]
  exact placeL_over _ _ _ (by omega)
theorem type_end (d : FuncD) : typeF d (cntF d) = -1 := by simp [typeF, place_end]
/-- Places are small. -/
theorem place_small {d : FuncD} (hs : SmFunc d) (x : Int) : -2 ≤ (placeF d x).1 ∧ (placeF d x).1 ≤ 1048576 ∧ 0 ≤ (placeF d x).2 ∧ (placeF d x).2 ≤ 4000000 := by
  have h1 := hs.1
  have h2 := hs.2.1
  rcases place_cases d x with h | ⟨j, hj, h⟩ | ⟨k, j, hk, hj, h⟩
  · rw [h]; dsimp only; omega
  · rw [h]; dsimp only; omega
  · have h3 := hs.2.2 _ (getD_mem block0 d.blocks k hk)
    have h4 := h3.1.1
    have h5 := h3.2.1
    unfold cntB at hj
    rw [h]; dsimp only; omega
theorem last_small {d : FuncD} (hs : SmFunc d) (k : Nat) : -2 ≤ (lastF d k).1 ∧ (lastF d k).1 ≤ 1048576 ∧ -1 ≤ (lastF d k).2 ∧ (lastF d k).2 ≤ 4000000 := by
  unfold lastF
  split
  · dsimp only; omega
  · have := place_small hs ((k : Int) - 1); omega
end Go.Proofs.Ytiflkkkggidhbaa
