/- What is alive: what is told is short. -/
import Derived.Test.YtolaghondjfhdabGreatDoorLxHQ
namespace Go.Proofs.YtolaghondjfhdabGreatDoor
open Go.RowKit

theorem ok_lvf {d : FuncD} (h : okB d = true) : LvF d := by
  simp only [okB, Bool.and_eq_true] at h
  exact lvf_of h.1 h.2
theorem Fix.grows {d : FuncD} {I : Alive} (h : Fix d I) (hF : LvF d) : Grows d I := by
  obtain ⟨⟨k, rfl⟩, _⟩ := h
  exact Grows.iter hF k
theorem LiveInR.len {d : FuncD} {b : Int} {l : List Int} (h : LiveInR d b l) : l.length ≤ 60 := by
  rcases h with ⟨_, rfl⟩ | ⟨h1, I, h2, rfl⟩
  · simp
  · rw [Bool.and_eq_true] at h1
    have hF := ok_lvf h1.1
    exact Nat.le_trans ((h2.grows hF).fine _).len hF.cnt
theorem LiveOutR.len {d : FuncD} {b : Int} {l : List Int} (h : LiveOutR d b l) : l.length ≤ 60 := by
  rcases h with ⟨_, rfl⟩ | ⟨h1, I, h2, rfl⟩
  · simp
  · rw [Bool.and_eq_true] at h1
    have hF := ok_lvf h1.1
    have hb : b.toNat < d.blocks.length := by
      have := below_yes h1.2
      omega
    exact Nat.le_trans (hF.out hb (h2.grows hF).fine).len hF.cnt
theorem SlAt.ints {w : World} {lo : Nat} {v : Value} {l : List Int} (h : SlAt w lo v l) : ∃ u c, v = .slice u l.length c ∧ IntsAt w lo u l := by
  obtain ⟨g, o, c, h1, _, _, h4⟩ := h
  exact ⟨_, c, h1, h4⟩
end Go.Proofs.YtolaghondjfhdabGreatDoor
