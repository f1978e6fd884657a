/- Results held against each other, marked, and held to their marks. -/
import Derived.Test.YtgdehnmhiiodoaaSen
import Derived.Deep.RegionHeld2
namespace Go.Proofs.Ytgdehnmhiiodoaa
open Go.RowKit
set_option maxHeartbeats 2000000 in
theorem eqRes (lo lo' : Nat) (d : ResD) (u : Option Addr) (c : Nat) (u' : Option Addr) (c' : Nat) (w : World) (k : IntsAt w lo u d.out) (k' : IntsAt w lo' u' d.out) :
    Calls Try.prog 8 #[resV d u c, resV d u' c'] w fun e w' => e = .returned (.bool true) ∧ Below w.heap.size w w' := by
  unfold resV
  go_enter Try.func8, Try.ntmps8
  go_wp2_with (first | (go_at_call 15; refine (eqInts_any lo lo' _ _ _ _ _ _ (k.keep (agree_of_below (((Below.refl w.heap.size w).alloc (Nat.le_refl _) _).alloc (by first | (simp; done) | (simp; omega)) _) _)) (k'.keep (agree_of_below (((Below.refl w.heap.size w).alloc (Nat.le_refl _) _).alloc (by first | (simp; done) | (simp; omega)) _) _))).mono ?_; rintro e w1 ⟨rfl, hb1⟩; have hcc1 := bcell hb1; have z1a : w.heap.size < w1.heap.size := (by have := hb1.size; (try simp at this); omega); have z1b : w.heap.size + 1 < w1.heap.size := (by have := hb1.size; (try simp at this); omega); have hB1 : Below w.heap.size w w1 := (((Below.refl w.heap.size w).alloc (Nat.le_refl _) _).alloc (by first | (simp; done) | (simp; omega)) _).trans (hb1.mono (by first | (simp; done) | (simp; omega)))))
  go_ret
  exact ⟨rfl, hB1⟩
theorem markRes (lo hi : Nat) (d : ResD) (u : Option Addr) (c : Nat) (w : World) (hs : d.out.length ≤ 1048576) (k : OI w lo u d.out) (hh : SI w lo hi u d.out.length) :
    Calls Try.prog 9 #[resV d u c, .int .i64 1] w fun e w' => e = .returned (.int .i64 (1 + d.out.length)) ∧ OI w' lo u (marks 1 d.out.length) ∧ Hdr lo hi w w' := by
  have key : ∀ w0 : World, OI w0 lo u d.out → SI w0 lo hi u d.out.length → Calls Try.prog 16 #[.slice u d.out.length c, .int .i64 1] w0 fun e w' => e = .returned (.int .i64 (1 + d.out.length)) ∧ OI w' lo u (marks 1 d.out.length) ∧ Hdr lo hi w0 w' := fun w0 k hh => by
    rcases hh with h | ⟨g, cur, rfl, hl, hhi, hb, hc⟩
    · rw [h]
      refine (markZero u c 1 w0).mono ?_
      rintro e w1 ⟨rfl, rfl⟩
      exact ⟨by simp, ⟨by simp [marks], .inl (by simp [marks])⟩, Hdr.refl _ _ _⟩
    · refine (markVals g c d.out.length 1 cur w0 hs (by omega) (by omega) hb hc).mono ?_
      rintro e w1 ⟨rfl, ho, cur', hb', hcu, hd⟩
      exact ⟨rfl, ⟨by rw [marks_len]; omega, .inr ⟨g, cur', rfl, hl, hb', fun i hi => by rw [marks_len] at hi; rw [hd i hi, marks_at 1 hi]⟩⟩, only_hdr ho hb hb' hcu hl hhi⟩
  have K := key _ (k.keep (agree_alloc w (.cells #[.int .i64 d.code, .int .i64 d.value, .slice u d.out.length c, .string d.mem, .int .i64 d.steps] 26) _)) (hh.keep (Hdr.alloc _ _ _ _))
  clear key
  unfold resV
  go_enter Try.func9, Try.ntmps9
  go_wp2_with fail
  refine K.mono ?_
  rintro e w1 ⟨rfl, g11, hd⟩
  go_wp2_with fail
  go_ret
  exact ⟨rfl, g11, (Hdr.alloc _ _ _ _).trans hd⟩
theorem heldRes (lo : Nat) (d : ResD) (u : Option Addr) (c : Nat) (w : World) (hs : d.out.length ≤ 1048576) (k : IntsAt w lo u (marks 1 d.out.length)) :
    Calls Try.prog 10 #[resV d u c, .int .i64 1] w fun e w' => e = .returned (.int .i64 (1 + d.out.length)) ∧ Below w.heap.size w w' := by
  unfold resV
  have hn : ¬ (1 : Int) + d.out.length < 0 := by omega
  go_enter Try.func10, Try.ntmps10
  go_wp2_with fail
  refine (heldInts _ _ _ _ 1 _ hs (by omega) (by omega) (k.keep (agree_alloc _ _ _))).mono ?_
  rintro e w1 ⟨rfl, rfl⟩
  go_wp2_with fail
  go_ret
  exact ⟨rfl, (Below.refl _ _).alloc (Nat.le_refl _) _⟩
end Go.Proofs.Ytgdehnmhiiodoaa
