/- The width of an id: the contracts of TypeOf, the program's and the model's. -/
import Derived.Test.YtclagbdomfgodaaGreatDoorPlc
import Derived.Test.YtclagbdomfgodaaGreatDoorIty
namespace Go.Proofs.YtclagbdomfgodaaGreatDoor
open Go.RowKit

def typeF (d : FuncD) (id : Int) : Int :=
  if (placeF d id).1 = -2 then -1 else if (placeF d id).1 = -1 then d.params.getD (placeF d id).2.toNat 0 else
  if (placeF d id).2 < (d.blocks.getD (placeF d id).1.toNat block0).phis.length then ((d.blocks.getD (placeF d id).1.toNat block0).phis.getD (placeF d id).2.toNat phi0).w
  else instW ((d.blocks.getD (placeF d id).1.toNat block0).insts.getD ((placeF d id).2 - (d.blocks.getD (placeF d id).1.toNat block0).phis.length).toNat inst0)
theorem placeL_cases : ∀ (r : List BlockD) (b : Nat) (x : Int), 0 ≤ x → placeL r b x = (-2, 0) ∨ ∃ i j : Nat, i < r.length ∧ j < cntB (r.getD i block0) ∧ placeL r b x = (((b + i : Nat) : Int), (j : Int))
  | [], _, _, _ => .inl rfl
  | d :: r, b, x, hx => by
    unfold placeL
    by_cases h : x < cntB d
    · rw [if_pos h]
      exact .inr ⟨0, x.toNat, by simp, by simp; omega, by simp; omega⟩
    · rw [if_neg h]
      rcases placeL_cases r (b + 1) (x - cntB d) (by omega) with k | ⟨i, j, k1, k2, k3⟩
      · exact .inl k
      · refine .inr ⟨i + 1, j, by simp; omega, by simpa using k2, ?_⟩
        rw [k3, show b + 1 + i = b + (i + 1) by omega]
theorem place_cases (d : FuncD) (id : Int) : placeF d id = (-2, 0) ∨ (∃ j : Nat, j < d.params.length ∧ placeF d id = (-1, (j : Int))) ∨ ∃ k j : Nat, k < d.blocks.length ∧ j < cntB (d.blocks.getD k block0) ∧ placeF d id = ((k : Int), (j : Int)) := by
  unfold placeF
  by_cases h1 : id < 0
  · rw [if_pos h1]; exact .inl rfl
  · rw [if_neg h1]
    by_cases h2 : id < d.params.length
    · rw [if_pos h2]; exact .inr (.inl ⟨id.toNat, by omega, by simp; omega⟩)
    · rw [if_neg h2]
      rcases placeL_cases d.blocks 0 (id - d.params.length) (by omega) with k | ⟨i, j, k1, k2, k3⟩
      · exact .inl k
      · exact .inr (.inr ⟨i, j, k1, k2, by rw [k3]; simp⟩)
end Go.Proofs.YtclagbdomfgodaaGreatDoor
