/- What is alive behind an id: without a program. -/
import Derived.Test.YtolaghondjfhdabGreatDoorLxLQ
import Derived.Test.YtolaghondjfhdabGreatDoorCntQ
namespace Go.Proofs.YtolaghondjfhdabGreatDoor
open Go.RowKit
set_option linter.unusedVariables false

theorem placeL_at : ∀ (l : List BlockD) (b x : Nat), x < cntL l → ∃ j k : Nat, j < l.length ∧ k < cntB (l.getD j block0) ∧ x = cntL (l.take j) + k ∧ placeL l b (x : Int) = (((b + j : Nat) : Int), (k : Int))
  | [], _, _, h => by simp [cntL] at h
  | d :: r, b, x, h => by
    by_cases e : x < cntB d
    · refine ⟨0, x, by simp, by simpa using e, by simp [cntL], ?_⟩
      unfold placeL
      rw [if_pos (by omega)]
      rfl
    · have h2 : x - cntB d < cntL r := by simp only [cntL] at h; omega
      obtain ⟨j, k, h3, h4, h5, h6⟩ := placeL_at r (b + 1) (x - cntB d) h2
      refine ⟨j + 1, k, by simp only [List.length_cons]; omega, by simpa using h4, by simp only [List.take_succ_cons, cntL]; omega, ?_⟩
      unfold placeL
      rw [if_neg (by omega), show ((x : Int) - cntB d) = ((x - cntB d : Nat) : Int) by omega, h6]
      rw [show b + 1 + j = b + (j + 1) by omega]
/-- Where an id stands. -/
theorem place_at {d : FuncD} {n : Nat} (h : n < cntF d) : (n < d.params.length ∧ placeF d n = (-1, (n : Int))) ∨ ∃ b k : Nat, b < d.blocks.length ∧ k < (blkN d b).phis.length + (blkN d b).insts.length ∧ n = firstN d b + k ∧ placeF d n = ((b : Int), (k : Int)) := by
  by_cases h1 : n < d.params.length
  · left
    refine ⟨h1, ?_⟩
    unfold placeF
    rw [if_neg (by omega), if_pos (by omega)]
  · right
    have h2 : n - d.params.length < cntL d.blocks := by unfold cntF at h; omega
    obtain ⟨j, k, h3, h4, h5, h6⟩ := placeL_at d.blocks 0 (n - d.params.length) h2
    refine ⟨j, k, h3, h4, by unfold firstN; omega, ?_⟩
    unfold placeF
    rw [if_neg (by omega), if_neg (by omega), show ((n : Int) - d.params.length) = ((n - d.params.length : Nat) : Int) by omega, h6, Nat.zero_add]
/-- From which instruction on. -/
def fromN (d : FuncD) (b k : Nat) : Nat := if k < (blkN d b).phis.length then 0 else k - (blkN d b).phis.length + 1
/-- What is alive behind an id. -/
def aftL (d : FuncD) (I : Alive) (n : Nat) : List Int :=
  if n < d.params.length then I 0 else backL d (placeF d n).1.toNat (outL d (placeF d n).1.toNat I) ((blkN d (placeF d n).1.toNat).insts.length - fromN d (placeF d n).1.toNat (placeF d n).2.toNat)
theorem aft_par {d : FuncD} {I : Alive} {n : Nat} (h : n < d.params.length) : aftL d I n = I 0 := by unfold aftL; rw [if_pos h]
theorem aft_blk {d : FuncD} {I : Alive} {n b k : Nat} (h : ¬ n < d.params.length) (e : placeF d n = ((b : Int), (k : Int))) : aftL d I n = backL d b (outL d b I) ((blkN d b).insts.length - fromN d b k) := by
  unfold aftL
  rw [if_neg h, e]
  rfl
theorem par_le {d : FuncD} {b k : Nat} : ¬ firstN d b + k < d.params.length := by unfold firstN; omega
theorem aft_fine {d : FuncD} (hF : LvF d) {I : Alive} (hG : Grows d I) {n : Nat} (h : n < cntF d) : Fine (cntF d) (aftL d I n) := by
  rcases place_at h with ⟨h1, _⟩ | ⟨b, k, h1, h2, h3, h4⟩
  · rw [aft_par h1]; exact hG.fine 0
  · rw [aft_blk (by rw [h3]; exact par_le) h4]
    exact hF.back h1 (hF.out h1 hG.fine) (by omega)
/-- What the sets of the program have behind an id. -/
theorem par_aft {d : FuncD} {I F : Alive} (ht : ∀ b, b < d.blocks.length → ToldB d I F b) {n : Nat} (h : n < cntF d) : parF F (I 0) d.params.length (21 + n) = aftL d I n := by
  rcases place_at h with ⟨h1, _⟩ | ⟨b, k, h1, h2, h3, h4⟩
  · rw [aft_par h1, par_same h1]
  · have hp : ¬ n < d.params.length := by rw [h3]; exact par_le
    rw [aft_blk hp h4, par_other (by omega), h3]
    unfold fromN
    by_cases e : k < (blkN d b).phis.length
    · rw [if_pos e, (ht b h1).phis k e, Nat.sub_zero]
    · rw [if_neg e]
      obtain ⟨i, rfl⟩ : ∃ i, k = (blkN d b).phis.length + i := ⟨k - (blkN d b).phis.length, by omega⟩
      have := (ht b h1).after i (by omega)
      rw [show firstN d b + (blkN d b).phis.length + i = firstN d b + ((blkN d b).phis.length + i) by omega] at this
      rw [this]
      congr 1
      omega
/-- What is told behind an id. -/
def LiveAftR (d : FuncD) (n : Int) (l : List Int) : Prop := ((okB d && belowB n (cntF d)) = false ∧ l = []) ∨ ((okB d && belowB n (cntF d)) = true ∧ ∃ I, Fix d I ∧ l = aftL d I n.toNat)
theorem LiveAftR.one {d : FuncD} {b : Int} {l m : List Int} (h : LiveAftR d b l) (k : LiveAftR d b m) : l = m := by
  rcases h with ⟨h1, rfl⟩ | ⟨h1, I, h2, rfl⟩ <;> rcases k with ⟨k1, rfl⟩ | ⟨k1, J, k2, rfl⟩
  · rfl
  · rw [h1] at k1; cases k1
  · rw [h1] at k1; cases k1
  · rw [h2.one k2]
theorem LiveAftR.len {d : FuncD} {b : Int} {l : List Int} (h : LiveAftR d b l) : l.length ≤ 60 := by
  rcases h with ⟨_, rfl⟩ | ⟨h1, I, h2, rfl⟩
  · simp
  · rw [Bool.and_eq_true] at h1
    have hF := ok_lvf h1.1
    have hb : b.toNat < cntF d := by
      have := below_yes h1.2
      omega
    exact Nat.le_trans (aft_fine hF (h2.grows hF) hb).len hF.cnt
end Go.Proofs.YtolaghondjfhdabGreatDoor
