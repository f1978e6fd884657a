/- Writing numbers through what was copied; what is held. -/
import Derived.Test.YtjmoonbpfieifaaGreatDoorShp
namespace Go.Proofs.YtjmoonbpfieifaaGreatDoor
open Go.RowKit

/-- Only one block was touched. -/
structure Only (g : Nat) (w w' : World) : Prop where
  os : w'.os = w.os
  tape : w'.tape = w.tape
  output : w'.output = w.output
  size : w'.heap.size = w.heap.size
  other : ∀ k : Nat, k ≠ g → w'.heap[k]? = w.heap[k]?
theorem Only.refl (g : Nat) (w : World) : Only g w w := ⟨rfl, rfl, rfl, rfl, fun _ _ => rfl⟩
theorem Only.set {g : Nat} {w w1 : World} (h : Only g w w1) (o : Nat) (v : Value) : Only g w (w1.setCell ⟨g, o, none⟩ v) :=
  ⟨h.os, h.tape, h.output, by simp [World.setCell]; exact h.size, fun k hk => (Below.heap_setCell _ _ _ _ hk).trans (h.other k hk)⟩
/-- The numbers from k on. -/
def marks (k : Int) (n : Nat) : List Int := (List.range n).map fun i : Nat => k + (i : Int)
theorem marks_len (k : Int) (n : Nat) : (marks k n).length = n := by simp [marks]
theorem marks_at (k : Int) {n i : Nat} (h : i < n) : (marks k n).getD i 0 = k + i := by simp [marks, List.getD, h]

set_option maxHeartbeats 1000000 in
theorem markVals (g c n : Nat) (k : Int) (cur : Array Value) (w : World) (hn : n ≤ 1048576) (hk0 : 0 ≤ k) (hk : k ≤ 4611686018427387904) (hb : w.heap[g]? = some (.cells cur 2 (0, 0))) (hc : ∀ i, i < n → ∃ z : Int, cur[i]? = some (.int .i64 z)) :
    Calls Tryz.prog 33 #[.slice (some ⟨g, 0, none⟩) n c, .int .i64 k] w fun e w' => e = .returned (.int .i64 (k + n)) ∧ Only g w w' ∧ ∃ cur', w'.heap[g]? = some (.cells cur' 2 (0, 0)) ∧ Cur cur cur' ∧ ∀ i, i < n → cur'[i]? = some (.int .i64 (k + i)) := by
  have HB : Hid (w.heap[g]? = some (.cells cur 2 (0, 0))) := hb
  have HC : Hid (∀ i, i < n → ∃ z : Int, cur[i]? = some (.int .i64 z)) := hc
  clear hb hc
  go_enter Tryz.func33, Tryz.ntmps33
  go_wp2_with fail
  go_loopw [1, 5] (fun q i wr => ∃ (j : Nat) (cj : Array Value), j ≤ n ∧ i = .int .i64 j ∧ q = .int .i64 (k + j) ∧ Hid (wr.heap[g]? = some (.cells cj 2 (0, 0))) ∧ Hid (Cur cur cj) ∧ Hid (∀ i, i < j → cj[i]? = some (.int .i64 (k + i))) ∧ Hid (Only g w wr)) (fun _ i _ => n - (intOf i).toNat)
  case atStart => exact ⟨0, cur, by omega, rfl, by simp, HB.out, Cur.refl _, fun i hi => by omega, Only.refl _ _⟩
  case round =>
    obtain ⟨j, cj, hj, rfl, rfl, HJ, HCu, HD, HO⟩ := hrel
    by_cases hlt : j < n
    · obtain ⟨z, hz⟩ := HC.out j hlt
      obtain ⟨y, hy⟩ := HCu.out.int hz
      have e1 : wr.cell? ⟨g, j, none⟩ = some (.int .i64 y) := (cell_of_heap HJ.out).trans hy
      have e2 : wr.frozen? ⟨g, j, none⟩ = false := froz_of_heap HJ.out
      have HH : Hid ((wr.setCell ⟨g, j, none⟩ (.int .i64 (k + j))).heap[g]? = some (.cells (cj.setIfInBounds j (.int .i64 (k + j))) 2 (0, 0))) := heap_set HJ.out
      have HC2 : Hid (Cur cur (cj.setIfInBounds j (.int .i64 (k + j)))) := HCu.out.trans (Cur.set hy _)
      have HD2 : Hid (∀ i, i < j + 1 → (cj.setIfInBounds j (.int .i64 (k + j)))[i]? = some (.int .i64 (k + i))) := fun i hi => by
        by_cases e : i = j
        · subst e
          have hl := (Array.getElem?_eq_some_iff.1 hy).1
          simp [hl]
        · rw [Array.getElem?_setIfInBounds_ne (by omega)]; exact HD.out i (by omega)
      clear hz hy
      go_wp2_with fail
      go_roundw
      case rel => exact ⟨j + 1, _, by omega, by go_num, by refine congrArg (Value.int .i64) ?_; first | omega | (unfold wrap64; omega), HH.out, HC2.out, HD2.out, HO.out.set _ _⟩
      case measure => simp [intOf]; omega
    · have hke : j = n := by omega
      subst hke
      go_wp2_with fail
      go_ret
      exact ⟨rfl, HO.out, cj, HJ.out, HCu.out, HD.out⟩
set_option maxHeartbeats 1000000 in
theorem markZero (a : Option Addr) (c : Nat) (k : Int) (w : World) :
    Calls Tryz.prog 33 #[.slice a 0 c, .int .i64 k] w fun e w' => e = .returned (.int .i64 k) ∧ w' = w := by
  go_enter Tryz.func33, Tryz.ntmps33
  go_wp2_with fail
  go_loop [1, 5] (fun q i => q = .int .i64 k ∧ i = .int .i64 0) (fun _ _ => 0)
  case atStart => exact ⟨rfl, rfl⟩
  case round =>
    obtain ⟨rfl, rfl⟩ := hrel
    go_wp2_with fail
    go_ret
    exact ⟨rfl, rfl⟩
theorem only_hdr {g lo hi : Nat} {w w' : World} {cur cur' : Array Value} {T : TypeId} (h : Only g w w') (hb : w.heap[g]? = some (.cells cur T (0, 0))) (hb' : w'.heap[g]? = some (.cells cur' T (0, 0))) (hc : Cur cur cur') (hl : lo ≤ g) (hh : g < hi) : Hdr lo hi w w' :=
  ⟨h.os, h.tape, h.output, by rw [h.size]; exact Nat.le_refl _, fun k hk _ => h.other k (by omega), fun k c1 T1 h1 => by
    by_cases e : k = g
    · subst e
      rw [hb] at h1
      cases h1
      exact ⟨cur', hb', hc⟩
    · exact ⟨c1, (h.other k e).trans h1, Cur.refl _⟩⟩
theorem markInts (lo hi : Nat) (a : Option Addr) (c n : Nat) (k : Int) (w : World) (hn : n ≤ 1048576) (hk0 : 0 ≤ k) (hk : k ≤ 4611686018427387904) (hv : SI w lo hi a n) :
    Calls Tryz.prog 33 #[.slice a n c, .int .i64 k] w fun e w' => e = .returned (.int .i64 (k + n)) ∧ Hdr lo hi w w' := by
  rcases hv with rfl | ⟨g, cur, rfl, hl, hh, hb, hc⟩
  · refine (markZero a c k w).mono ?_
    rintro e w1 ⟨rfl, rfl⟩
    exact ⟨by simp, Hdr.refl _ _ _⟩
  · refine (markVals g c n k cur w hn hk0 hk hb hc).mono ?_
    rintro e w1 ⟨rfl, ho, cur', hb', hcu, _⟩
    exact ⟨rfl, only_hdr ho hb hb' hcu hl hh⟩
set_option maxHeartbeats 1000000 in
theorem heldInts (lo : Nat) (a : Option Addr) (c n : Nat) (k : Int) (w : World) (hn : n ≤ 1048576) (hk0 : 0 ≤ k) (hk : k ≤ 4611686018427387904) (hv : IntsAt w lo a (marks k n)) :
    Calls Tryz.prog 34 #[.slice a n c, .int .i64 k] w fun e w' => e = .returned (.int .i64 (k + n)) ∧ w' = w := by
  have HV : Hid (n = 0 ∨ ∃ b off, a = some ⟨b, off, none⟩ ∧ ∀ i, i < n → w.cell? ⟨b, off + i, none⟩ = some (.int .i64 (k + i))) := by
    rcases hv.2 with h | ⟨b, off, ha, _, _, hc⟩
    · exact .inl (by have := congrArg List.length h; simpa [marks_len] using this)
    · exact .inr ⟨b, off, ha, fun i hi => by rw [hc i (by rw [marks_len]; exact hi), marks_at k hi]⟩
  clear hv
  go_enter Tryz.func34, Tryz.ntmps34
  go_wp2_with fail
  go_loop [1, 5] (fun q i => ∃ j : Nat, j ≤ n ∧ i = .int .i64 j ∧ q = .int .i64 (k + j)) (fun _ i => n - (intOf i).toNat)
  case atStart => exact ⟨0, by omega, rfl, by simp⟩
  case round =>
    obtain ⟨j, hj, rfl, rfl⟩ := hrel
    by_cases hlt : j < n
    · rcases HV.out with h | ⟨b, off, rfl, hc⟩
      · omega
      have e1 := hc j hlt
      clear hc
      go_wp2_with fail
      exact ⟨⟨j + 1, by omega, by go_num, by refine congrArg (Value.int .i64) ?_; first | omega | (unfold wrap64; omega)⟩, by simp only [intOf]; omega⟩
    · have hke : j = n := by omega
      subst hke
      go_wp2_with fail
      go_ret
      exact ⟨rfl, rfl⟩
end Go.Proofs.YtjmoonbpfieifaaGreatDoor
