/- What stands in the rows while a graph is made, by itself. No function of the program is named here. -/
import Derived.Test.YtiflkkkggidhbaaGra
namespace Go.Proofs.Ytiflkkkggidhbaa
open Go.RowKit

def leadL (b x : Nat) (L : Nat → List Nat) : Nat → List Nat :=
  if (L (2 * x + 1)).getLast? = some b then updG L (2 * b) (L (2 * b) ++ [x]) else updG (updG L (2 * b) (L (2 * b) ++ [x])) (2 * x + 1) (L (2 * x + 1) ++ [b])
def Lst (S : Nat → List Nat) (b j : Nat) : Nat → List Nat := fun r =>
  if r % 2 = 0 then (if r / 2 < b then S (r / 2) else if r / 2 = b then (S b).take j else [])
  else (List.range b).filter (fun i => (S i).contains (r / 2)) ++ (if ((S b).take j).contains (r / 2) then [b] else [])
theorem lst_zero (S : Nat → List Nat) : Lst S 0 0 = fun _ => [] := by
  funext r
  unfold Lst
  by_cases h : r % 2 = 0
  · rw [if_pos h, if_neg (by omega)]; split <;> simp
  · rw [if_neg h]; simp
theorem lst_next (S : Nat → List Nat) (b : Nat) : Lst S b (S b).length = Lst S (b + 1) 0 := by
  funext r
  unfold Lst
  by_cases h : r % 2 = 0
  · rw [if_pos h, if_pos h]
    by_cases h1 : r / 2 < b
    · rw [if_pos h1, if_pos (by omega)]
    · rw [if_neg h1]
      by_cases h2 : r / 2 = b
      · rw [if_pos h2, if_pos (by omega), h2, List.take_length]
      · rw [if_neg h2, if_neg (by omega)]; split <;> simp
  · rw [if_neg h, if_neg h, List.take_length, List.range_succ, List.filter_append, List.take_zero]
    simp [List.filter_cons]
theorem last_lt {b : Nat} (p : Nat → Bool) : ((List.range b).filter p).getLast? ≠ some b := by
  intro h
  have := List.mem_of_getLast? h
  simp at this
theorem lead_step (S : Nat → List Nat) (b j : Nat) (hj : j < (S b).length) : leadL b ((S b).getD j 0) (Lst S b j) = Lst S b (j + 1) := by
  generalize hx : (S b).getD j 0 = x
  have ht : (S b).take (j + 1) = (S b).take j ++ [x] := by
    rw [List.take_succ_eq_append_getElem hj]; simp [← hx, List.getD, hj]
  have hodd : ∀ y, Lst S b j (2 * y + 1) = (List.range b).filter (fun i => (S i).contains y) ++ (if ((S b).take j).contains y then [b] else []) := by
    intro y; unfold Lst; rw [if_neg (by omega), show (2 * y + 1) / 2 = y by omega]
  have hodd' : ∀ y, Lst S b (j + 1) (2 * y + 1) = (List.range b).filter (fun i => (S i).contains y) ++ (if ((S b).take (j + 1)).contains y then [b] else []) := by
    intro y; unfold Lst; rw [if_neg (by omega), show (2 * y + 1) / 2 = y by omega]
  have hev : ∀ y, y ≠ b → Lst S b j (2 * y) = Lst S b (j + 1) (2 * y) := by
    intro y hy; have h2 : 2 * y % 2 = 0 := by omega
    unfold Lst; rw [if_pos h2, if_pos h2, show 2 * y / 2 = y by omega, if_neg hy, if_neg hy]
  have hevb : Lst S b j (2 * b) = (S b).take j := by unfold Lst; rw [if_pos (by omega), show 2 * b / 2 = b by omega, if_neg (by omega), if_pos rfl]
  have hevb' : Lst S b (j + 1) (2 * b) = (S b).take j ++ [x] := by unfold Lst; rw [if_pos (by omega), show 2 * b / 2 = b by omega, if_neg (by omega), if_pos rfl, ht]
  have hoth : ∀ y, y ≠ x → Lst S b j (2 * y + 1) = Lst S b (j + 1) (2 * y + 1) := by
    intro y hy; rw [hodd, hodd', ht]; simp [hy]
  have hme : Lst S b (j + 1) (2 * x + 1) = (List.range b).filter (fun i => (S i).contains x) ++ [b] := by rw [hodd', ht]; simp
  have hbase : ∀ r, r ≠ 2 * x + 1 → updG (Lst S b j) (2 * b) (Lst S b j (2 * b) ++ [x]) r = Lst S b (j + 1) r := by
    intro r hr
    by_cases h1 : r = 2 * b
    · subst h1; rw [updG_same, hevb, hevb']
    · rw [upd_other _ _ h1]
      rcases Nat.mod_two_eq_zero_or_one r with h | h
      · have e : r = 2 * (r / 2) := by omega
        rw [e]; exact hev _ (by omega)
      · have e : r = 2 * (r / 2) + 1 := by omega
        rw [e]; exact hoth _ (by omega)
  unfold leadL
  by_cases hc : ((S b).take j).contains x = true
  · have hl : Lst S b j (2 * x + 1) = (List.range b).filter (fun i => (S i).contains x) ++ [b] := by rw [hodd, if_pos hc]
    rw [if_pos (by rw [hl]; simp)]
    funext r
    by_cases hr : r = 2 * x + 1
    · subst hr; rw [upd_other _ _ (by omega), hl, hme]
    · exact hbase r hr
  · have hl : Lst S b j (2 * x + 1) = (List.range b).filter (fun i => (S i).contains x) := by rw [hodd, if_neg hc]; simp
    rw [if_neg (by rw [hl]; exact last_lt _)]
    funext r
    by_cases hr : r = 2 * x + 1
    · subst hr; rw [updG_same, hl, hme]
    · rw [upd_other _ _ hr]; exact hbase r hr
theorem lst_len (S : Nat → List Nat) (hS : ∀ a, (S a).length ≤ 2) (b j r : Nat) : (Lst S b j r).length ≤ b + 2 := by
  unfold Lst
  split
  · split
    · have := hS (r / 2); omega
    · split
      · have := hS b; simp; omega
      · simp
  · have h1 := List.length_filter_le (fun i => (S i).contains (r / 2)) (List.range b)
    simp only [List.length_range] at h1
    rw [List.length_append]
    split
    · simp only [List.length_cons, List.length_nil]; omega
    · simp only [List.length_nil]; omega
/-- Who leads to a block, rising. -/
def predN (S : Nat → List Nat) (n x : Nat) : List Nat := (List.range n).filter (fun i => (S i).contains x)
theorem lst_end (S : Nat → List Nat) (n i : Nat) (hi : i < n) : Lst S n 0 (2 * i) = S i ∧ Lst S n 0 (2 * i + 1) = predN S n i := by
  constructor
  · unfold Lst; rw [if_pos (by omega), show 2 * i / 2 = i by omega, if_pos hi]
  · unfold Lst; rw [if_neg (by omega), show (2 * i + 1) / 2 = i by omega]; simp [predN]

/-- A row of pointers to nodes, in a block from lo on. -/
def PtrsAt (w : World) (lo N : Nat) (a : Option Addr) (l : List Nat) : Prop :=
  l = [] ∨ ∃ g, a = some ⟨g, 0, none⟩ ∧ lo ≤ g ∧ g < w.heap.size ∧ ∀ i, i < l.length → w.cell? ⟨g, i, none⟩ = some (ptrV N (l.getD i 0))
theorem PtrsAt.keep {w w' : World} {lo N : Nat} {a : Option Addr} {l : List Nat} (h : PtrsAt w lo N a l) (k : Agree lo w w') : PtrsAt w' lo N a l := by
  rcases h with h | ⟨g, ha, hl, hb, hc⟩
  · exact .inl h
  · exact .inr ⟨g, ha, hl, Nat.lt_of_lt_of_le hb k.1, fun i hi => (cell_agree k hl hb).trans (hc i hi)⟩
theorem PtrsAt.low {w : World} {lo lo' N : Nat} {a : Option Addr} {l : List Nat} (h : PtrsAt w lo N a l) (k : lo' ≤ lo) : PtrsAt w lo' N a l := by
  rcases h with h | ⟨g, ha, hl, hb, hc⟩
  · exact .inl h
  · exact .inr ⟨g, ha, Nat.le_trans k hl, hb, hc⟩
/-- A graph of n blocks in memory, from block N on. -/
structure Graph (w : World) (N n : Nat) (S : Nat → List Nat) : Prop where
  head : ∀ i, i < n → w.cell? ⟨N, i, none⟩ = some (ptrV N i)
  node : ∀ i, i < n → ∃ a c a' c', w.heap[N + 1 + i]? = some (.cells #[.int .i64 i, .slice a (S i).length c, .slice a' (predN S n i).length c'] 63 (0, 0)) ∧ PtrsAt w N N a (S i) ∧ PtrsAt w N N a' (predN S n i)
  size : N + 1 + n ≤ w.heap.size
theorem Graph.keep {w w' : World} {N n : Nat} {S : Nat → List Nat} (h : Graph w N n S) (k : Agree N w w') : Graph w' N n S := by
  have hs := h.size
  refine ⟨fun i hi => (cell_agree k (Nat.le_refl _) (by omega)).trans (h.head i hi), fun i hi => ?_, Nat.le_trans hs k.1⟩
  obtain ⟨a, c, a', c', h1, h2, h3⟩ := h.node i hi
  exact ⟨a, c, a', c', (k.2 _ (by omega) (by omega)).trans h1, h2.keep k, h3.keep k⟩
theorem Build.graph {w : World} {N n : Nat} {X : Option Nat} {R : Nat → Value} {S : Nat → List Nat} (h : Build w N n X R (Lst S n 0)) : Graph w N n S := by
  have hs := h.size
  refine ⟨fun i hi => ?_, fun i hi => ?_, hs⟩
  · rw [cell_of_heap h.head]; simp [hi]
  · obtain ⟨e1, e2⟩ := lst_end S n i hi
    have r1 := h.row (2 * i) (by omega)
    have r2 := h.row (2 * i + 1) (by omega)
    rw [e1] at r1; rw [e2] at r2
    obtain ⟨a, c, hv, p1⟩ := own_read r1
    obtain ⟨a', c', hv', p2⟩ := own_read r2
    refine ⟨a, c, a', c', by rw [h.node i hi, hv, hv'], ?_, ?_⟩
    · rcases p1 with p | ⟨g, q1, q2, q3⟩
      · exact .inl p
      · exact .inr ⟨g, q1, by omega, q3⟩
    · rcases p2 with p | ⟨g, q1, q2, q3⟩
      · exact .inl p
      · exact .inr ⟨g, q1, by omega, q3⟩
end Go.Proofs.Ytiflkkkggidhbaa
