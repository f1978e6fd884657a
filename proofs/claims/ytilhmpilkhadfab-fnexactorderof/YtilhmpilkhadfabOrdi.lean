/- The order: the program's contract. -/
import Derived.Test.YtilhmpilkhadfabRev
import Derived.Test.YtilhmpilkhadfabPos
namespace Go.Proofs.Ytilhmpilkhadfab
open Go.RowKit

set_option maxHeartbeats 4000000 in
theorem orderI (lo : Nat) (d : FuncD) (u0 : Option Addr) (c0 : Nat) (u2 : Option Addr) (c2 : Nat) (r : List Int) (w : World) (hs : SmFunc d) (k2 : BlocksAt w lo u2 d.blocks) (hr : OrdR d.blocks r) :
    Calls Try.prog 15 #[.agg #[.slice u0 d.params.length c0, .int .i64 d.ret, .slice u2 d.blocks.length c2]] w fun e w' => ∃ u c, e = .returned (.slice u r.length c) ∧ OI w' w.heap.size u r ∧ Below w.heap.size w w' := by
  have HSM : Hid (SmFunc d) := hs
  have HK : Hid (BlocksAt w lo u2 d.blocks) := k2
  have hbl : d.blocks.length ≤ 1048576 := hs.2.1
  clear hs k2
  by_cases hR : RightL d.blocks
  · have HR : Hid (RightL d.blocks) := hR
    have hr1 := hR.1
    have hr2 := hR.2.1
    have HS : Hid (∀ a, ∀ s ∈ succN d.blocks a, s < d.blocks.length) := right_lt hR
    have HT : Hid (Told (succN d.blocks) none d.blocks.length (post (succN d.blocks) none d.blocks.length)) := post_told _ _ _ (by omega) (right_lt hR)
    have hpl : (post (succN d.blocks) none d.blocks.length).length ≤ 10 := Nat.le_trans (nodup_len _ _ HT.out.once HT.out.low) hr2
    have HRR : Hid (r = (ints (post (succN d.blocks) none d.blocks.length)).reverse) := hr.1 hR
    clear hR hr
    go_enter Try.func15, Try.ntmps15
    go_wp2_with (first | (go_at_call 24; refine (graphI lo d _ _ _ _ _ HSM.out (HK.out.keep (agree_alloc _ _ _))).mono ?_; rintro e w1 ⟨hb1, h1⟩; obtain ⟨N, hN, rfl, hG⟩ := (h1.resolve_left (fun h => h.1 HR.out)).2; have HG : Hid (Graph w1 N d.blocks.length (succN d.blocks)) := hG; have HX1 : Hid (Below w.heap.size w w1) := ((Below.refl _ _).alloc (Nat.le_refl _) _).trans (hb1.mono (by simp)); clear hb1 h1 hG hN) | (go_at_call 23; refine (toldI N d.blocks.length (succN d.blocks) none _ HG.out (by omega) hr2 HS.out (fun q => by have := succ_len d.blocks q; omega) (fun a h => by cases h)).mono ?_; rintro e w2 ⟨ut, ct, rfl, hp2, hb2⟩; have HP2 : Hid _ := hp2; have HG2 : Hid (Graph w2 N d.blocks.length (succN d.blocks)) := HG.out.keep (agree_of_below hb2 _); have HX2 : Hid (Below w.heap.size w w2) := HX1.out.trans (hb2.mono HX1.out.size); clear hp2 hb2) | (go_at_call 22; refine (placesI _ N d.blocks.length (succN d.blocks) _ _ _ _ HP2.out HG2.out HT.out.low (by omega)).mono ?_; rintro e w3 ⟨v3, rfl, ho3, hb3⟩; rw [← ints_len] at ho3; obtain ⟨u3, c3, rfl, g3⟩ := row_own (by rw [ints_len]; omega) ho3; have HO3 : Hid _ := g3; have HX3 : Hid (Below w.heap.size w w3) := HX2.out.trans (hb3.mono HX2.out.size); have hz : w.heap.size ≤ w2.heap.size := HX2.out.size; clear ho3 hb3 g3) | (go_at_call 29; refine (revI _ _ _ _ _ (by rw [ints_len]; omega) HO3.out).mono ?_; rintro e w4 ⟨rfl, g4, g, hg, ho4⟩; have HO4 : Hid _ := g4; have HX4 : Hid (Below w.heap.size w w4) := below_only HX3.out ho4 (by omega); clear g4 ho4))
    go_ret
    rw [HRR.out, List.length_reverse]
    exact ⟨_, _, rfl, OI.low HO4.out hz, HX4.out⟩
  · have HR : Hid (¬ RightL d.blocks) := hR
    have HE : Hid (r = []) := hr.2 hR
    clear hR hr
    go_enter Try.func15, Try.ntmps15
    go_wp2_with (first | (go_at_call 24; refine (graphI lo d _ _ _ _ _ HSM.out (HK.out.keep (agree_alloc _ _ _))).mono ?_; rintro e w1 ⟨hb1, h1⟩; obtain ⟨_, rfl⟩ := h1.resolve_right (fun h => HR.out h.1); have HX1 : Hid (Below w.heap.size w w1) := ((Below.refl _ _).alloc (Nat.le_refl _) _).trans (hb1.mono (by simp)); have hz1 : 1 ≤ w1.heap.size := (by have := hb1.size; simp at this; omega); clear hb1 h1) | (go_at_call 23; refine (told_nilI none _).mono ?_; rintro e w2 ⟨rfl, hb2⟩; have HX2 : Hid (Below w.heap.size w w2) := HX1.out.trans (hb2.mono HX1.out.size); have hz2 : 1 ≤ w2.heap.size := Nat.le_trans hz1 hb2.size; clear hb2) | (go_at_call 22; refine (placesI 0 0 0 (fun _ => []) none 0 [] _ (.inl rfl) (graph_none _ hz2) (fun x hx => by cases hx) (by simp)).mono ?_; rintro e w3 ⟨v3, rfl, ho3, hb3⟩; obtain ⟨u3, c3, rfl, g3⟩ := row_own (l := []) (by simp) ho3; have HO3 : Hid (OI w3 w2.heap.size u3 []) := g3; have HX3 : Hid (Below w.heap.size w w3) := HX2.out.trans (hb3.mono HX2.out.size); have hz : w.heap.size ≤ w2.heap.size := HX2.out.size; clear ho3 hb3 g3) | (go_at_call 29; refine (revI _ _ _ [] _ (by simp) HO3.out).mono ?_; rintro e w4 ⟨rfl, g4, g, hg, ho4⟩; have HO4 : Hid (OI w4 w2.heap.size u3 []) := g4; have HX4 : Hid (Below w.heap.size w w4) := below_only HX3.out ho4 (by omega); clear g4 ho4))
    go_ret
    rw [HE.out]
    exact ⟨_, _, rfl, OI.low HO4.out hz, HX4.out⟩
end Go.Proofs.Ytilhmpilkhadfab
