/- Who dominates whom, by the model: the contracts of l3Dom and Dominates. -/
import Derived.Test.YtilhmpilkhadfaaMd3r
namespace Go.Proofs.Ytilhmpilkhadfaa
open Go.RowKit

set_option maxRecDepth 100000 in
set_option maxHeartbeats 4000000 in
theorem domS (lo : Nat) (d : FuncD) (u0 : Option Addr) (c0 : Nat) (u2 : Option Addr) (c2 : Nat) (a b : Nat) (w : World) (hR : RightL d.blocks) (k2 : BlocksAt w lo u2 d.blocks) :
    Calls Try.prog 48 #[.agg #[.slice u0 d.params.length c0, .int .i64 d.ret, .slice u2 d.blocks.length c2], .int .i64 (a : Int), .int .i64 (b : Int)] w fun e w' => (∃ v, e = .returned (.bool v) ∧ (v = true ↔ Dom (succN d.blocks) a b)) ∧ Below w.heap.size w w' := by
  have HR : Hid (RightL d.blocks) := hR
  have HK : Hid (BlocksAt w lo u2 d.blocks) := k2
  clear hR k2
  by_cases hB : Rch (succN d.blocks) none b
  · have HBR : Hid (Rch (succN d.blocks) none b) := hB
    clear hB
    by_cases hA : Rch (succN d.blocks) (some a) b
    · have HAR : Hid (Rch (succN d.blocks) (some a) b) := hA
      clear hA
      go_enter Try.func48, Try.ntmps48
      go_wp2_with (first | (go_at_call 44; refine (reachS lo d _ _ _ _ (some a) _ HR.out (HK.out.keep (agree_of_below (below_box HX2.out) _))).mono ?_; rintro e w3 ⟨⟨O3, b3, f3, c3, rfl, hi3, hm3, _, hl3⟩, hb3⟩; have HI3 : Hid (IntsAt w3 w2.heap.size (some ⟨b3, f3, none⟩) (ints O3)) := hi3; have HM3 : Hid (∀ x, x ∈ O3 ↔ Rch (succN d.blocks) (some a) x) := hm3; have HX3 : Hid (Below (w.heap.size + 1) (w.alloc (.cells #[.slice u0 d.params.length c0, .int .i64 d.ret, .slice u2 d.blocks.length c2] 27)) w3) := box_next HX2.out hb3; clear hi3 hm3 hb3) | (go_at_call 44; refine (reachS lo d _ _ _ _ none _ HR.out (HK.out.keep (agree_alloc _ _ _))).mono ?_; rintro e w1 ⟨⟨O1, b1, f1, c1, rfl, hi1, hm1, _, hl1⟩, hb1⟩; have HI1 : Hid (IntsAt w1 (w.alloc (.cells #[.slice u0 d.params.length c0, .int .i64 d.ret, .slice u2 d.blocks.length c2] 27)).heap.size (some ⟨b1, f1, none⟩) (ints O1)) := hi1; have HM1 : Hid (∀ x, x ∈ O1 ↔ Rch (succN d.blocks) none x) := hm1; have HX1 : Hid (Below (w.heap.size + 1) (w.alloc (.cells #[.slice u0 d.params.length c0, .int .i64 d.ret, .slice u2 d.blocks.length c2] 27)) w1) := box_first hb1; clear hi1 hm1 hb1) | (go_at_call 69; refine (hasN _ _ _ O3 b _ (by omega) HI3.out).mono ?_; rintro e w4 ⟨rfl, hb4⟩; rw [decide_eq_true ((HM3.out b).2 HAR.out)]; have HX4 : Hid (Below (w.heap.size + 1) (w.alloc (.cells #[.slice u0 d.params.length c0, .int .i64 d.ret, .slice u2 d.blocks.length c2] 27)) w4) := box_next HX3.out hb4; clear hb4) | (go_at_call 69; refine (hasN _ _ _ O1 b _ (by omega) HI1.out).mono ?_; rintro e w2 ⟨rfl, hb2⟩; rw [decide_eq_true ((HM1.out b).2 HBR.out)]; have HX2 : Hid (Below (w.heap.size + 1) (w.alloc (.cells #[.slice u0 d.params.length c0, .int .i64 d.ret, .slice u2 d.blocks.length c2] 27)) w2) := box_next HX1.out hb2; obtain ⟨r1, r2, r3⟩ := box3 HX2.out; clear hb2))
      go_ret
      exact ⟨⟨_, rfl, ⟨fun h => (by cases h), fun h => absurd HAR.out h.2⟩⟩, below_box HX4.out⟩
    · have HAR : Hid (¬ Rch (succN d.blocks) (some a) b) := hA
      clear hA
      go_enter Try.func48, Try.ntmps48
      go_wp2_with (first | (go_at_call 44; refine (reachS lo d _ _ _ _ (some a) _ HR.out (HK.out.keep (agree_of_below (below_box HX2.out) _))).mono ?_; rintro e w3 ⟨⟨O3, b3, f3, c3, rfl, hi3, hm3, _, hl3⟩, hb3⟩; have HI3 : Hid (IntsAt w3 w2.heap.size (some ⟨b3, f3, none⟩) (ints O3)) := hi3; have HM3 : Hid (∀ x, x ∈ O3 ↔ Rch (succN d.blocks) (some a) x) := hm3; have HX3 : Hid (Below (w.heap.size + 1) (w.alloc (.cells #[.slice u0 d.params.length c0, .int .i64 d.ret, .slice u2 d.blocks.length c2] 27)) w3) := box_next HX2.out hb3; clear hi3 hm3 hb3) | (go_at_call 44; refine (reachS lo d _ _ _ _ none _ HR.out (HK.out.keep (agree_alloc _ _ _))).mono ?_; rintro e w1 ⟨⟨O1, b1, f1, c1, rfl, hi1, hm1, _, hl1⟩, hb1⟩; have HI1 : Hid (IntsAt w1 (w.alloc (.cells #[.slice u0 d.params.length c0, .int .i64 d.ret, .slice u2 d.blocks.length c2] 27)).heap.size (some ⟨b1, f1, none⟩) (ints O1)) := hi1; have HM1 : Hid (∀ x, x ∈ O1 ↔ Rch (succN d.blocks) none x) := hm1; have HX1 : Hid (Below (w.heap.size + 1) (w.alloc (.cells #[.slice u0 d.params.length c0, .int .i64 d.ret, .slice u2 d.blocks.length c2] 27)) w1) := box_first hb1; clear hi1 hm1 hb1) | (go_at_call 69; refine (hasN _ _ _ O3 b _ (by omega) HI3.out).mono ?_; rintro e w4 ⟨rfl, hb4⟩; rw [decide_eq_false (fun h => HAR.out ((HM3.out b).1 h))]; have HX4 : Hid (Below (w.heap.size + 1) (w.alloc (.cells #[.slice u0 d.params.length c0, .int .i64 d.ret, .slice u2 d.blocks.length c2] 27)) w4) := box_next HX3.out hb4; clear hb4) | (go_at_call 69; refine (hasN _ _ _ O1 b _ (by omega) HI1.out).mono ?_; rintro e w2 ⟨rfl, hb2⟩; rw [decide_eq_true ((HM1.out b).2 HBR.out)]; have HX2 : Hid (Below (w.heap.size + 1) (w.alloc (.cells #[.slice u0 d.params.length c0, .int .i64 d.ret, .slice u2 d.blocks.length c2] 27)) w2) := box_next HX1.out hb2; obtain ⟨r1, r2, r3⟩ := box3 HX2.out; clear hb2))
      go_ret
      exact ⟨⟨_, rfl, ⟨fun _ => ⟨HBR.out, HAR.out⟩, fun _ => rfl⟩⟩, below_box HX4.out⟩
  · have HBR : Hid (¬ Rch (succN d.blocks) none b) := hB
    clear hB
    go_enter Try.func48, Try.ntmps48
    go_wp2_with (first | (go_at_call 44; refine (reachS lo d _ _ _ _ none _ HR.out (HK.out.keep (agree_alloc _ _ _))).mono ?_; rintro e w1 ⟨⟨O1, b1, f1, c1, rfl, hi1, hm1, _, hl1⟩, hb1⟩; have HI1 : Hid (IntsAt w1 (w.alloc (.cells #[.slice u0 d.params.length c0, .int .i64 d.ret, .slice u2 d.blocks.length c2] 27)).heap.size (some ⟨b1, f1, none⟩) (ints O1)) := hi1; have HM1 : Hid (∀ x, x ∈ O1 ↔ Rch (succN d.blocks) none x) := hm1; have HX1 : Hid (Below (w.heap.size + 1) (w.alloc (.cells #[.slice u0 d.params.length c0, .int .i64 d.ret, .slice u2 d.blocks.length c2] 27)) w1) := box_first hb1; clear hi1 hm1 hb1) | (go_at_call 69; refine (hasN _ _ _ O1 b _ (by omega) HI1.out).mono ?_; rintro e w2 ⟨rfl, hb2⟩; rw [decide_eq_false (fun h => HBR.out ((HM1.out b).1 h))]; have HX2 : Hid (Below (w.heap.size + 1) (w.alloc (.cells #[.slice u0 d.params.length c0, .int .i64 d.ret, .slice u2 d.blocks.length c2] 27)) w2) := box_next HX1.out hb2; obtain ⟨r1, r2, r3⟩ := box3 HX2.out; clear hb2))
    go_ret
    exact ⟨⟨_, rfl, ⟨fun h => (by cases h), fun h => absurd h.1 HBR.out⟩⟩, below_box HX2.out⟩
def DomF (l : List BlockD) (a b : Int) : Prop := RightL l ∧ (0 ≤ a ∧ a < l.length) ∧ (0 ≤ b ∧ b < l.length) ∧ Dom (succN l) a.toNat b.toNat
set_option maxRecDepth 100000 in
set_option maxHeartbeats 4000000 in
theorem dominatesS (lo : Nat) (d : FuncD) (u0 : Option Addr) (c0 : Nat) (u2 : Option Addr) (c2 : Nat) (a b : Int) (w : World) (hs : SmFunc d) (k2 : BlocksAt w lo u2 d.blocks) :
    Calls Try.prog 21 #[.agg #[.slice u0 d.params.length c0, .int .i64 d.ret, .slice u2 d.blocks.length c2], .int .i64 a, .int .i64 b] w fun e w' => (∃ v, e = .returned (.bool v) ∧ (v = true ↔ DomF d.blocks a b)) ∧ Below w.heap.size w w' := by
  have HSM : Hid (SmFunc d) := hs
  have HK : Hid (BlocksAt w lo u2 d.blocks) := k2
  clear hs k2
  by_cases hA : RightL d.blocks ∧ 0 ≤ a ∧ a < d.blocks.length
  · have HA : Hid (RightL d.blocks ∧ 0 ≤ a ∧ a < d.blocks.length) := hA
    clear hA
    by_cases hB : RightL d.blocks ∧ 0 ≤ b ∧ b < d.blocks.length
    · have HB : Hid (RightL d.blocks ∧ 0 ≤ b ∧ b < d.blocks.length) := hB
      obtain ⟨x, rfl⟩ : ∃ x : Nat, a = x := ⟨a.toNat, by have := HA.out.2; omega⟩
      obtain ⟨y, rfl⟩ : ∃ y : Nat, b = y := ⟨b.toNat, by have := HB.out.2; omega⟩
      clear hB
      go_enter Try.func21, Try.ntmps21
      go_wp2_with (first | (go_at_call 43; refine (thereS lo d _ _ _ _ _ _ HSM.out (HK.out.keep (agree_of_below (below_box HX1.out) _))).mono ?_; rintro e w2 ⟨⟨v2, rfl, hq2⟩, hb2⟩; have hv2 : v2 = true := hq2.2 HB.out; subst hv2; have HX2 : Hid (Below (w.heap.size + 1) (w.alloc (.cells #[.slice u0 d.params.length c0, .int .i64 d.ret, .slice u2 d.blocks.length c2] 27)) w2) := box_next HX1.out hb2; obtain ⟨r1, r2, r3⟩ := box3 HX2.out; clear hb2 hq2) | (go_at_call 43; refine (thereS lo d _ _ _ _ _ _ HSM.out (HK.out.keep (agree_alloc _ _ _))).mono ?_; rintro e w1 ⟨⟨v1, rfl, hq1⟩, hb1⟩; have hv1 : v1 = true := hq1.2 HA.out; subst hv1; have HX1 : Hid (Below (w.heap.size + 1) (w.alloc (.cells #[.slice u0 d.params.length c0, .int .i64 d.ret, .slice u2 d.blocks.length c2] 27)) w1) := box_first hb1; obtain ⟨r1, r2, r3⟩ := box3 HX1.out; clear hb1 hq1) | (go_at_call 48; refine (domS lo d _ _ _ _ x y _ HA.out.1 (HK.out.keep (agree_of_below (below_box HX2.out) _))).mono ?_; rintro e w3 ⟨⟨v3, rfl, hq3⟩, hb3⟩; have HV : Hid (v3 = true ↔ Dom (succN d.blocks) x y) := hq3; have HX3 : Hid (Below (w.heap.size + 1) (w.alloc (.cells #[.slice u0 d.params.length c0, .int .i64 d.ret, .slice u2 d.blocks.length c2] 27)) w3) := box_next HX2.out hb3; clear hb3 hq3))
      go_ret
      refine ⟨⟨_, rfl, ?_⟩, below_box HX3.out⟩
      rw [HV.out]
      exact ⟨fun h => ⟨HA.out.1, HA.out.2, HB.out.2, h⟩, fun h => h.2.2.2⟩
    · have HB : Hid (¬ (RightL d.blocks ∧ 0 ≤ b ∧ b < d.blocks.length)) := hB
      clear hB
      go_enter Try.func21, Try.ntmps21
      go_wp2_with (first | (go_at_call 43; refine (thereS lo d _ _ _ _ _ _ HSM.out (HK.out.keep (agree_of_below (below_box HX1.out) _))).mono ?_; rintro e w2 ⟨⟨v2, rfl, hq2⟩, hb2⟩; have hv2 : v2 = false := (by cases v2 with | true => exact absurd (hq2.1 rfl) HB.out | false => rfl); subst hv2; have HX2 : Hid (Below (w.heap.size + 1) (w.alloc (.cells #[.slice u0 d.params.length c0, .int .i64 d.ret, .slice u2 d.blocks.length c2] 27)) w2) := box_next HX1.out hb2; obtain ⟨r1, r2, r3⟩ := box3 HX2.out; clear hb2 hq2) | (go_at_call 43; refine (thereS lo d _ _ _ _ _ _ HSM.out (HK.out.keep (agree_alloc _ _ _))).mono ?_; rintro e w1 ⟨⟨v1, rfl, hq1⟩, hb1⟩; have hv1 : v1 = true := hq1.2 HA.out; subst hv1; have HX1 : Hid (Below (w.heap.size + 1) (w.alloc (.cells #[.slice u0 d.params.length c0, .int .i64 d.ret, .slice u2 d.blocks.length c2] 27)) w1) := box_first hb1; obtain ⟨r1, r2, r3⟩ := box3 HX1.out; clear hb1 hq1))
      go_ret
      exact ⟨⟨_, rfl, ⟨fun h => (by cases h), fun h => absurd ⟨h.1, h.2.2.1⟩ HB.out⟩⟩, below_box HX2.out⟩
  · have HA : Hid (¬ (RightL d.blocks ∧ 0 ≤ a ∧ a < d.blocks.length)) := hA
    clear hA
    go_enter Try.func21, Try.ntmps21
    go_wp2_with (first | (go_at_call 43; refine (thereS lo d _ _ _ _ _ _ HSM.out (HK.out.keep (agree_alloc _ _ _))).mono ?_; rintro e w1 ⟨⟨v1, rfl, hq1⟩, hb1⟩; have hv1 : v1 = false := (by cases v1 with | true => exact absurd (hq1.1 rfl) HA.out | false => rfl); subst hv1; have HX1 : Hid (Below (w.heap.size + 1) (w.alloc (.cells #[.slice u0 d.params.length c0, .int .i64 d.ret, .slice u2 d.blocks.length c2] 27)) w1) := box_first hb1; obtain ⟨r1, r2, r3⟩ := box3 HX1.out; clear hb1 hq1))
    go_ret
    exact ⟨⟨_, rfl, ⟨fun h => (by cases h), fun h => absurd ⟨h.1, h.2.1⟩ HA.out⟩⟩, below_box HX1.out⟩
end Go.Proofs.Ytilhmpilkhadfaa
