/- Who dominates whom: the contracts of slices.Index and Contains over nodes, of dominanceOf. -/
import Derived.Test.YtiflkkkggidhbaaGrg
import Derived.Test.YtiflkkkggidhbaaPutQ
namespace Go.Proofs.Ytiflkkkggidhbaa
open Go.RowKit

def Nodes (w : World) (N n : Nat) : Prop := ∀ i, i < n → ∃ cs, w.heap[N + 1 + i]? = some (.cells cs 63 (0, 0))
theorem Graph.nodes {w : World} {N n : Nat} {S : Nat → List Nat} (h : Graph w N n S) : Nodes w N n := fun i hi => by obtain ⟨_, _, _, _, h, _⟩ := h.node i hi; exact ⟨_, h⟩
def FirstAt (l : List Nat) (b : Nat) (z : Int) : Prop := (z = -1 ∧ b ∉ l) ∨ ∃ k : Nat, z = k ∧ k < l.length ∧ l.getD k 0 = b ∧ ∀ j, j < k → l.getD j 0 ≠ b
theorem not_mem_of {l : List Nat} {b : Nat} (h : ∀ j, j < l.length → l.getD j 0 ≠ b) : b ∉ l := by
  intro hb
  obtain ⟨j, hj, e⟩ := List.getElem_of_mem hb
  exact h j hj (by simp [List.getD, hj, e])
end Go.Proofs.Ytiflkkkggidhbaa
namespace Go.Proofs.Ytiflkkkggidhbaa
open Go.RowKit

set_option maxRecDepth 100000 in
set_option maxHeartbeats 4000000 in
theorem placesI (lo N n : Nat) (S : Nat → List Nat) (u : Option Addr) (c : Nat) (l : List Nat) (w : World) (hp : PtrsAt w lo N u l) (hG : Graph w N n S) (hl : ∀ x ∈ l, x < n) (hll : l.length ≤ 1000) :
    Calls Try.prog 37 #[.slice u l.length c] w fun e w' => ∃ v, e = .returned v ∧ w'.ownsRow w.heap.size 2 1 v l.length ((ints l).map (Value.int .i64)) ∧ Below w.heap.size w w' := by
  obtain ⟨i0, hi, hz0, hz1, hz2⟩ := info_parts infoI
  have HI : Hid (Try.prog.info? 2 = some i0) := hi
  have HZ0 : Hid (i0.zero = some (Value.int .i64 0)) := hz0
  have HZ1 : Hid (i0.size = 1) := hz1
  have HZ2 : Hid (i0.bytes = 8) := hz2
  have HG : Hid (Graph w N n S) := hG
  have HL : Hid (∀ x ∈ l, x < n) := hl
  have hsz := hG.size
  clear hi hz0 hz1 hz2 hG hl
  go_enter Try.func37, Try.ntmps37
  go_wp2_with fail
  go_loopw [3, 8] (fun v i wr => ∃ k : Nat, k ≤ l.length ∧ i = .int .i64 k ∧ wr.ownsRow w.heap.size 2 1 v k ((ints (l.take k)).map (Value.int .i64)) ∧ Below w.heap.size w wr) (fun _ i _ => l.length - (intOf i).toNat)
  case atStart => exact ⟨0, by omega, rfl, ⟨rfl, .inl ⟨rfl, rfl⟩⟩, Below.refl _ _⟩
  case round =>
    obtain ⟨k, hk, rfl, ho, hB⟩ := hrel
    obtain ⟨ta, tc, rfl⟩ := own_slice ho
    have HB : Hid (Below w.heap.size w wr) := hB
    by_cases hlt : k < l.length
    · rcases hp with hn | ⟨g, rfl, _, hg2, hgc⟩
      · simp [hn] at hlt
      have e1 : wr.cell? ⟨g, k, none⟩ = some (.pointer (some ⟨N + 1 + l.getD k 0, 0, none⟩)) := (cell_block (hB.block g hg2)).trans (hgc k hlt)
      have hx := HL.out _ (getD_mem 0 l k hlt)
      have HT : Hid ((ints (l.take (k + 1))).map (Value.int .i64) = (ints (l.take k)).map (Value.int .i64) ++ [.int .i64 ((l.getD k 0 : Nat) : Int)]) := (by
        show _ = _
        have e : l.getD k 0 = l[k] := by simp [List.getD, hlt]
        rw [List.take_succ_eq_append_getElem hlt, e]; unfold ints; rw [List.map_append, List.map_append]; rfl)
      generalize l.getD k 0 = x at e1 hx HT
      obtain ⟨a1, c1, a2, c2, hna, _⟩ := (HG.out.keep (agree_of_below hB N)).node x hx
      have e2 : wr.cell? ⟨N + 1 + x, 0, none⟩ = some (.int .i64 x) := (cell_of_heap hna).trans rfl
      have HO : Hid ((wr.alloc (.cells #[.int .i64 (x : Int)] 2)).ownsRow w.heap.size 2 1 (.slice ta k tc) k ((ints (l.take k)).map (Value.int .i64))) := ownsRow_block ho fun _ _ h => Below.heap_alloc _ _ _ h
      have hz : w.heap.size ≤ wr.heap.size := hB.size
      clear hna ho hB hgc
      go_wp2_with (at_builtin; refine wpList_append_own _ rfl _ _ 24 rfl w.heap.size 2 i0 (.int .i64 0) 1 8 Try.underlying24 HI.out HZ0.out HZ1.out HZ2.out rfl (by decide) (.slice ta k tc) k ((ints (l.take k)).map (Value.int .i64)) rfl (by exact HO.out) ⟨wr.heap.size, 0, none⟩ 1 1 [.int .i64 (x : Int)] rfl (by simp) (by exact lit_cell) (by simp [Value.oneCell']) (by unfold maxLen; omega) (by omega) (by simp; omega) ?_; intro v3 w3 ho3 hg3 _; have HO3 : Hid _ := ho3; have HB3 : Hid (Below w.heap.size w w3) := (HB.out.alloc hz _).grown hg3 (by simp; omega) (fun q hq => (own_ge HO.out hq).1); clear ho3 hg3)
      go_roundw
      case rel => exact ⟨k + 1, by omega, by go_num, by rw [HT.out]; exact HO3.out, HB3.out⟩
      case measure => simp [intOf]; omega
    · have HKE : Hid (k = l.length) := (by show _ = _; omega)
      have HO : Hid _ := ho
      clear ho hB
      go_wp2_with fail
      go_ret
      refine ⟨_, rfl, ?_, HB.out⟩
      have h := HO.out
      have hke := HKE.out
      subst hke
      rw [List.take_length] at h
      exact h
end Go.Proofs.Ytiflkkkggidhbaa
