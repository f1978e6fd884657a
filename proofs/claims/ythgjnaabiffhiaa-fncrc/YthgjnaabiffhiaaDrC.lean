/- What the laws of bytes draw: numbers and texts. -/
import Derived.Test.YthgjnaabiffhiaaLawA
import Derived.Test.YthgjnaabiffhiaaVof
import Derived.Test.YthgjnaabiffhiaaVoi
namespace Go.Proofs.Ythgjnaabiffhiaa
open Go.RowKit

theorem vof_size (a : Int) : (vof a).size ≤ 5 := by
  unfold vof
  split
  · have h := vl_five (n := a.toNat) (by omega)
    show (vl a.toNat).toArray.size ≤ 5
    simpa using h
  · show (0 : Nat) ≤ 5
    omega
theorem Rd.below {g : Nat} {a0 : Option Addr} {len cap : Nat} {w w' : World} (h : Rd g a0 len cap w) (k : Below w.heap.size w w') : Rd g a0 len cap w' := by
  obtain ⟨hg, hl, hc, p, hp, hb⟩ := h
  have hz := k.size
  refine ⟨by omega, hl, ?_, p, hp, by rw [k.block g hg]; exact hb⟩
  rcases hc with h | ⟨b, off, ha, hb, hc⟩
  · exact .inl h
  · refine .inr ⟨b, off, ha, hb, fun i hi => ?_⟩
    obtain ⟨n, h0, h1, h2⟩ := hc i hi
    exact ⟨n, h0, h1, by rw [cell_block (k.block b (by omega))]; exact h2⟩
theorem below_of_grown {b w w' : World} {g : Nat} (h : Below b.heap.size b w) (k : w.grownBy w' (some g)) (hg : b.heap.size ≤ g) : Below b.heap.size b w' :=
  h.grown k h.size (fun q hq => by cases hq; exact hg)
/-- Texts in a block of the call's own, read behind a call that turned the reader's place alone. -/
theorem texts {w w1 : World} {g : Nat} {xs : Array Value} {n : Int} {t : TypeId} {m : Nat} (hg : g < w.heap.size) (k : (w.alloc (.cells xs t)).grownBy w1 (some g)) (h0 : 0 ≤ n) (h1 : n < m) (hm : m = xs.size)
    (hx : ∀ v ∈ xs, ∃ s : ByteArray, v = .string s ∧ s.size ≤ 9) : ∃ s : ByteArray, w1.cell? ⟨w.heap.size, n.toNat, none⟩ = some (.string s) ∧ s.size ≤ 9 := by
  have hb : w1.heap[w.heap.size]? = some (.cells xs t (0, 0)) := by
    rw [k.block w.heap.size (by simp) (by simp; omega)]
    show (w.heap.push _)[w.heap.size]? = _
    simp
  have hn : n.toNat < xs.size := by omega
  obtain ⟨s, hs, hz⟩ := hx xs[n.toNat] (Array.getElem_mem hn)
  refine ⟨s, ?_, hz⟩
  unfold World.cell?
  rw [hb]
  simp [hn, hs]

set_option maxHeartbeats 1000000 in
theorem drawCrc (a0 : Option Addr) (len cap : Nat) (w : World) (hl : len ≤ 1048576) (hc : Code a0 len w.heap.size w) :
    Calls Try.prog 15 #[.slice a0 len cap] w fun e w' => ∃ s : ByteArray, e = .returned (.string s) ∧ s.size ≤ 14 ∧ Below w.heap.size w w' := by
  go_enter Try.func15, Try.ntmps15
  go_wp2_with (first | (go_at_call 18; refine (open_any _ _ _ _).mono ?_; rintro e w0 ⟨rfl, rfl⟩; have hr0 := rd_open (cap := cap) hl hc; generalize hw0 : w.alloc (.cells #[.slice a0 len cap, .int .i64 0] 46) = w0 at hr0; have HB0 : Hid (Below w.heap.size w w0) := (by rw [← hw0]; exact (Below.refl _ _).alloc (Nat.le_refl _) _); clear hw0) | (go_at_call 14; refine (varS _ _).mono ?_; rintro e w2 ⟨rfl, hb2⟩; have hr2 := hr1.below hb2; have HB2 : Hid (Below w.heap.size w w2) := HB1.out.trans (hb2.mono HB1.out.size); have hvs := vof_size n1; clear hb2) | (go_at_call 21; refine (below_any _ a0 len cap _ _ (hr2.alloc _)).mono ?_; rintro e w3 ⟨n3, rfl, hn30, hn31, hr3, hg3⟩; obtain ⟨s, hs, hsz⟩ := texts (m := 3) hr2.lt hg3 hn30 (by omega) rfl (by simp; decide); have HB3 : Hid (Below w.heap.size w w3) := below_of_grown (HB2.out.alloc HB2.out.size _) hg3 (Nat.le_refl _); clear hg3) | (go_at_call 21; refine (below_any _ a0 len cap _ _ hr0).mono ?_; rintro e w1 ⟨n1, rfl, hn0, hn1, hr1, hg1⟩; have HB1 : Hid (Below w.heap.size w w1) := below_of_grown HB0.out hg1 (Nat.le_refl _); clear hg1))
  all_goals first | omega | skip
  go_ret
  exact ⟨_, rfl, by rw [ByteArray.size_append']; omega, HB3.out⟩

set_option maxHeartbeats 1000000 in
theorem drawVarOf (a0 : Option Addr) (len cap : Nat) (w : World) (hl : len ≤ 1048576) (hc : Code a0 len w.heap.size w) :
    Calls Try.prog 9 #[.slice a0 len cap] w fun e w' => ∃ n : Int, e = .returned (.int .i64 n) ∧ Below w.heap.size w w' := by
  go_enter Try.func9, Try.ntmps9
  go_wp2_with (first | (go_at_call 18; refine (open_any _ _ _ _).mono ?_; rintro e w0 ⟨rfl, rfl⟩; have hr0 := rd_open (cap := cap) hl hc; have hG := World.grownBy.refl (w.alloc (.cells #[.slice a0 len cap, .int .i64 0] 46)) (some w.heap.size)) | (go_at_call 21; refine (below_any _ a0 len cap _ _ (by assumption)).mono ?_; rintro e w1 ⟨n1, rfl, hn0, hn1, hr1, hg1⟩; replace hG := grown_trans hG hg1; clear hg1) | (go_at_call 19; refine (once_any _ a0 len cap _ _ (by assumption) (by omega)).mono ?_; rintro e w1 ⟨b1, rfl, hr1, hg1⟩; replace hG := grown_trans hG hg1; clear hg1) | (go_at_call 20; refine (off_any _ a0 len cap _ _ _ (by assumption) (by omega) (by omega) (by omega)).mono ?_; rintro e w1 ⟨o1, rfl, ho0, ho1, hr1, hg1⟩; replace hG := grown_trans hG hg1; clear hg1))
  all_goals
    go_ret
    exact ⟨_, rfl, rd_below hG⟩

set_option maxHeartbeats 1000000 in
theorem drawReadVar (a0 : Option Addr) (len cap : Nat) (w : World) (hl : len ≤ 1048576) (hc : Code a0 len w.heap.size w) :
    Calls Try.prog 11 #[.slice a0 len cap] w fun e w' => ∃ (s : ByteArray) (n : Int), e = .returned (.tuple #[.string s, .int .i64 n]) ∧ s.size ≤ 14 ∧ -10 ≤ n ∧ n ≤ 10 ∧ Below w.heap.size w w' := by
  go_enter Try.func11, Try.ntmps11
  go_wp2_with (first | (go_at_call 18; refine (open_any _ _ _ _).mono ?_; rintro e w0 ⟨rfl, rfl⟩; have hr0 := rd_open (cap := cap) hl hc; generalize hw0 : w.alloc (.cells #[.slice a0 len cap, .int .i64 0] 46) = w0 at hr0; have hc0 : Code a0 len w0.heap.size w0 := (by rw [← hw0]; exact hc.below ((Below.refl _ _).alloc (Nat.le_refl _) _)); have HB0 : Hid (Below w.heap.size w w0) := (by rw [← hw0]; exact (Below.refl _ _).alloc (Nat.le_refl _) _); clear hw0) | (go_at_call 9; refine (drawVarOf _ _ _ _ hl hc0).mono ?_; rintro e w1 ⟨n1, rfl, hb1⟩; have hr1 := hr0.below hb1; have HB1 : Hid (Below w.heap.size w w1) := HB0.out.trans (hb1.mono HB0.out.size); clear hb1) | (go_at_call 14; refine (varS _ _).mono ?_; rintro e w2 ⟨rfl, hb2⟩; have hr2 := hr1.below hb2; have HB2 : Hid (Below w.heap.size w w2) := HB1.out.trans (hb2.mono HB1.out.size); have hvs := vof_size n1; clear hb2) | (go_at_call 19; refine (once_any _ a0 len cap _ _ hr2 (by omega)).mono ?_; rintro e w3 ⟨b3, rfl, hr3, hg3⟩; have HB3 : Hid (Below w.heap.size w w3) := below_of_grown HB2.out hg3 (Nat.le_refl _); clear hg3) | (go_at_call 21; refine (below_any _ a0 len cap _ _ ?_).mono ?_; (first | assumption | exact Rd.alloc (by assumption) _); rintro e w4 ⟨n4, rfl, hn40, hn41, hr4, hg4⟩; first | (have HB3 : Hid (Below w.heap.size w w4) := below_of_grown HB3.out hg4 (Nat.le_refl _); clear hg4) | (obtain ⟨s, hs, hsz⟩ := texts (m := 5) hr3.lt hg4 hn40 (by omega) rfl (by simp; decide); have HB3 : Hid (Below w.heap.size w w4) := below_of_grown (HB3.out.alloc HB3.out.size _) hg4 (Nat.le_refl _); clear hg4)))
  all_goals go_ret2
  · exact ⟨_, _, rfl, by omega, by omega, by omega, HB3.out⟩
  · exact ⟨_, _, rfl, by rw [ByteArray.size_append', show (ByteArray.mk #[5]).size = 1 from rfl]; omega, by omega, by omega, HB3.out⟩
end Go.Proofs.Ythgjnaabiffhiaa
