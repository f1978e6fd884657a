/- Who dominates whom: the contracts of slices.Index and Contains over nodes, of dominanceOf. -/
import Derived.Test.YtilhmpilkhadfaaGrt
namespace Go.Proofs.Ytilhmpilkhadfaa
open Go.RowKit

def Nodes (w : World) (N n : Nat) : Prop := ∀ i, i < n → ∃ cs, w.heap[N + 1 + i]? = some (.cells cs 60 (0, 0))
theorem Graph.nodes {w : World} {N n : Nat} {S : Nat → List Nat} (h : Graph w N n S) : Nodes w N n := fun i hi => by obtain ⟨_, _, _, _, h, _⟩ := h.node i hi; exact ⟨_, h⟩
def FirstAt (l : List Nat) (b : Nat) (z : Int) : Prop := (z = -1 ∧ b ∉ l) ∨ ∃ k : Nat, z = k ∧ k < l.length ∧ l.getD k 0 = b ∧ ∀ j, j < k → l.getD j 0 ≠ b
theorem not_mem_of {l : List Nat} {b : Nat} (h : ∀ j, j < l.length → l.getD j 0 ≠ b) : b ∉ l := by
  intro hb
  obtain ⟨j, hj, e⟩ := List.getElem_of_mem hb
  exact h j hj (by simp [List.getD, hj, e])
set_option maxHeartbeats 1000000 in
theorem indexI (lo N n : Nat) (u : Option Addr) (c : Nat) (l : List Nat) (b : Nat) (w : World) (hp : PtrsAt w lo N u l) (hN : Nodes w N n) (hl : ∀ x ∈ l, x < n) (hb : b < n) (hll : l.length ≤ 1000) :
    Calls Try.prog 91 #[.slice u l.length c, ptrV N b] w fun e w' => (∃ z, e = .returned (.int .i64 z) ∧ FirstAt l b z) ∧ w' = w := by
  unfold ptrV
  go_enter Try.func91, Try.ntmps91
  go_wp2_with fail
  go_loopw [8] (fun i wr => ∃ k : Nat, k ≤ l.length ∧ i = .int .i64 k ∧ (∀ j, j < k → l.getD j 0 ≠ b) ∧ wr = w) (fun i _ => l.length - (intOf i).toNat)
  case atStart => exact ⟨0, by omega, rfl, fun j hj => by omega, rfl⟩
  case round =>
    obtain ⟨k, hk, rfl, hd, rfl⟩ := hrel
    have HD : Hid (∀ j, j < k → l.getD j 0 ≠ b) := hd
    clear hd
    by_cases hlt : k < l.length
    · rcases hp with hn | ⟨g, rfl, _, _, hc⟩
      · simp [hn] at hlt
      have e1 : wr.cell? ⟨g, k, none⟩ = some (.pointer (some ⟨N + 1 + l.getD k 0, 0, none⟩)) := hc k hlt
      have hx : l.getD k 0 < n := hl _ (getD_mem 0 l k hlt)
      have e2 := ptr_eql wr N n b (l.getD k 0) hN hb hx
      generalize hxx : l.getD k 0 = x at e1 e2
      have HX : Hid (l.getD k 0 = x) := hxx
      clear hc hx hxx
      by_cases hbx : b = x
      · rw [decide_eq_true hbx] at e2
        have HB : Hid (b = x) := hbx
        clear hbx hl
        go_wp2_with fail
        go_ret
        exact ⟨⟨_, rfl, .inr ⟨k, rfl, hlt, by rw [HX.out, HB.out], HD.out⟩⟩, rfl⟩
      · rw [decide_eq_false hbx] at e2
        have HB : Hid (¬ b = x) := hbx
        clear hbx hl
        go_wp2_with fail
        go_roundw
        case rel =>
          refine ⟨k + 1, by omega, by go_num, fun j hj => ?_, by trivial⟩
          by_cases hjk : j = k
          · subst hjk; rw [HX.out]; exact fun e => HB.out e.symm
          · exact HD.out j (by omega)
        case measure => simp [intOf]; omega
    · have hke : k = l.length := by omega
      clear hl
      go_wp2_with fail
      go_ret
      exact ⟨⟨_, rfl, .inl ⟨rfl, not_mem_of (by rw [← hke]; exact HD.out)⟩⟩, rfl⟩
set_option maxHeartbeats 1000000 in
theorem containsI (lo N n : Nat) (u : Option Addr) (c : Nat) (l : List Nat) (b : Nat) (w : World) (hp : PtrsAt w lo N u l) (hN : Nodes w N n) (hl : ∀ x ∈ l, x < n) (hb : b < n) (hll : l.length ≤ 1000) :
    Calls Try.prog 72 #[.slice u l.length c, ptrV N b] w fun e w' => e = .returned (.bool (decide (b ∈ l))) ∧ w' = w := by
  have HP : Hid (PtrsAt w lo N u l) := hp
  have HN : Hid (Nodes w N n) := hN
  have HL : Hid (∀ x ∈ l, x < n) := hl
  clear hp hN hl
  unfold ptrV
  go_enter Try.func72, Try.ntmps72
  go_wp2_with (go_at_call 91; refine (indexI lo N n u c l b _ HP.out HN.out HL.out hb hll).mono ?_; rintro e w1 ⟨⟨z, rfl, hz⟩, rfl⟩; have HZ : Hid (FirstAt l b z) := hz; clear hz)
  go_ret
  refine ⟨congrArg (fun b => Ending.returned (Value.bool b)) ?_, rfl⟩
  rcases HZ.out with ⟨rfl, h⟩ | ⟨k, rfl, hk, he, _⟩
  · rw [decide_eq_false h]; rfl
  · have : b ∈ l := by rw [← he]; exact getD_mem 0 l k hk
    rw [decide_eq_true this]; simp
end Go.Proofs.Ytilhmpilkhadfaa
