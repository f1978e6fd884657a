/- Those that a block leads to, and those that lead to it: the contracts of SuccsOf and PredsOf. -/
import Derived.Test.YtilhmpilkhadfabGrp
import Derived.Test.YtilhmpilkhadfabMd3
import Derived.Test.YtilhmpilkhadfabCntW
import Derived.Test.YtilhmpilkhadfabOwn
namespace Go.Proofs.Ytilhmpilkhadfab
open Go.RowKit

def InB (l : List BlockD) (b : Int) : Prop := RightL l ∧ 0 ≤ b ∧ b < l.length
def SuccR (l : List BlockD) (b : Int) (r : List Int) : Prop := (InB l b → r = tgtD (termAt l b.toNat)) ∧ (¬ InB l b → r = [])
def PredR (l : List BlockD) (b : Int) (r : List Int) : Prop := (InB l b → r = ints (predN (succN l) l.length b.toNat)) ∧ (¬ InB l b → r = [])
theorem ints_succ {l : List BlockD} {x : Nat} (hR : RightL l) (hx : x < l.length) : ints (succN l x) = tgtD (termAt l x) := by
  unfold ints succN
  rw [List.map_map]
  have h := hR.2.2 x hx
  unfold InT at h
  generalize tgtD (termAt l x) = t at h
  induction t with
  | nil => rfl
  | cons y r ih =>
    rw [List.map_cons, ih fun z hz => h z (List.mem_cons_of_mem _ hz)]
    have := h y (List.mem_cons_self ..)
    congr 1
    show ((y.toNat : Nat) : Int) = y
    omega
theorem pred_lt {S : Nat → List Nat} {n x : Nat} : ∀ y ∈ predN S n x, y < n := fun y hy => by
  unfold predN at hy
  exact List.mem_range.1 (List.mem_filter.1 hy).1
theorem pred_len {S : Nat → List Nat} {n x : Nat} : (predN S n x).length ≤ n := by
  unfold predN
  have h := List.length_filter_le (fun i => (S i).contains x) (List.range n)
  simpa using h
theorem own_low {w : World} {lo lo' : Nat} {t : TypeId} {z : Nat} {v : Value} {n : Nat} {xs : List Value} (h : w.ownsRow lo t z v n xs) (k : lo' ≤ lo) : w.ownsRow lo' t z v n xs := by
  refine ⟨h.1, ?_⟩
  rcases h.2 with h2 | ⟨g, cap, cur, hv, hb, r⟩
  · exact .inl h2
  · exact .inr ⟨g, cap, cur, hv, Nat.le_trans k hb, r⟩
end Go.Proofs.Ytilhmpilkhadfab
