/- Who dominates whom: the contracts of slices.Index and Contains over nodes, of dominanceOf. -/
import Derived.Test.YtilhmpilkhadfabGrt
namespace Go.Proofs.Ytilhmpilkhadfab
open Go.RowKit

def Nodes (w : World) (N n : Nat) : Prop := ∀ i, i < n → ∃ cs, w.heap[N + 1 + i]? = some (.cells cs 69 (0, 0))
theorem Graph.nodes {w : World} {N n : Nat} {S : Nat → List Nat} (h : Graph w N n S) : Nodes w N n := fun i hi => by obtain ⟨_, _, _, _, h, _⟩ := h.node i hi; exact ⟨_, h⟩
def FirstAt (l : List Nat) (b : Nat) (z : Int) : Prop := (z = -1 ∧ b ∉ l) ∨ ∃ k : Nat, z = k ∧ k < l.length ∧ l.getD k 0 = b ∧ ∀ j, j < k → l.getD j 0 ≠ b
theorem not_mem_of {l : List Nat} {b : Nat} (h : ∀ j, j < l.length → l.getD j 0 ≠ b) : b ∉ l := by
  intro hb
  obtain ⟨j, hj, e⟩ := List.getElem_of_mem hb
  exact h j hj (by simp [List.getD, hj, e])
end Go.Proofs.Ytilhmpilkhadfab
