/- The core of the law FnIdom. -/
import Derived.Test.YtilhmpilkhadfaaDrG
import Derived.Test.YtilhmpilkhadfaaGri
import Derived.Test.YtilhmpilkhadfaaMd3i
import Derived.Test.YtilhmpilkhadfaaCntW
namespace Go.Proofs.Ytilhmpilkhadfaa
open Go.RowKit

/-- A drawn function. -/
def bareF (ts : List TermD) : FuncD := ⟨[], 8, bare ts⟩
theorem sm_bareF {ts : List TermD} (h : ts.length ≤ 7) : SmFunc (bareF ts) := bare_sm ts (by omega) [] 8 (by simp)
/-- A flag that tells whether. -/
def Tells (v : Bool) (p : Prop) : Prop := v = true ↔ p
theorem tells_yes {p : Prop} (h : p) : Tells true p := ⟨fun _ => h, fun _ => rfl⟩
theorem tells_no {p : Prop} (h : ¬ p) : Tells false p := ⟨(fun e => by cases e), fun k => absurd k h⟩
theorem domT (lo : Nat) (ts : List TermD) (u : Option Addr) (c : Nat) (a b : Int) (v : Bool) (w : World) (hl : ts.length ≤ 7) (hb : BlocksAt w lo u (bare ts)) (hv : Tells v (DomF (bare ts) a b)) :
    Calls Try.prog 20 #[.agg #[.slice none 0 0, .int .i64 8, .slice u ts.length c], .int .i64 a, .int .i64 b] w fun e w' => e = .returned (.bool v) ∧ Below w.heap.size w w' := by
  have h := dominatesI lo (bareF ts) none 0 u c a b w (sm_bareF hl) hb
  rw [show (bareF ts).blocks.length = ts.length from bare_len ts] at h
  refine h.mono ?_
  rintro e w1 ⟨⟨v', rfl, hv'⟩, hb1⟩
  have e2 : v' = v := by rw [Bool.eq_iff_iff]; exact hv'.trans hv.symm
  exact ⟨by rw [e2], hb1⟩
theorem idomT (lo : Nat) (ts : List TermD) (u : Option Addr) (c : Nat) (b : Int) (w : World) (hl : ts.length ≤ 7) (hb : BlocksAt w lo u (bare ts)) :
    Calls Try.prog 23 #[.agg #[.slice none 0 0, .int .i64 8, .slice u ts.length c], .int .i64 b] w fun e w' => (∃ z, e = .returned (.int .i64 z) ∧ IdomF (bare ts) b z) ∧ Below w.heap.size w w' := by
  have h := idomI lo (bareF ts) none 0 u c b w (sm_bareF hl) hb
  rw [show (bareF ts).blocks.length = ts.length from bare_len ts] at h
  exact h
theorem idomM (lo : Nat) (ts : List TermD) (u : Option Addr) (c : Nat) (b z : Int) (w : World) (hl : ts.length ≤ 7) (hb : BlocksAt w lo u (bare ts)) (hz : IdomF (bare ts) b z) :
    Calls Try.prog 24 #[.agg #[.slice none 0 0, .int .i64 8, .slice u ts.length c], .int .i64 b] w fun e w' => e = .returned (.int .i64 z) ∧ Below w.heap.size w w' := by
  have h := idomS lo (bareF ts) none 0 u c b w (sm_bareF hl) hb
  rw [show (bareF ts).blocks.length = ts.length from bare_len ts] at h
  refine h.mono ?_
  rintro e w1 ⟨⟨z', rfl, hz'⟩, hb1⟩
  exact ⟨by rw [IdomF.one hz' hz], hb1⟩
/-- Who dominates it dominates the nearest one. -/
theorem idom_law {l : List BlockD} {a b z : Int} (hz : IdomF l b z) (hab : a ≠ b) (h : DomF l a b) : 0 ≤ z ∧ DomF l a z := by
  obtain ⟨hR, ha, hb, hd⟩ := h
  rcases hz with ⟨_, hn⟩ | ⟨h1, _⟩
  · rcases hn with ⟨_, hn⟩ | ⟨x, rfl, hx, _, _, hn⟩
    · exact absurd hd (hn a.toNat (by omega) (by omega))
    · exact ⟨by omega, hR, ha, by omega, hn a.toNat (by omega) (by omega) hd⟩
  · exact absurd ⟨hR, hb⟩ h1
theorem idom_end {l : List BlockD} {b z : Int} (hz : IdomF l b z) (h0 : 0 ≤ z) : z ≠ b ∧ DomF l z b := by
  rcases hz with ⟨⟨hR, hb⟩, hn⟩ | ⟨_, rfl⟩
  · rcases hn with ⟨rfl, _⟩ | ⟨x, rfl, hx, hxb, hd, _⟩
    · omega
    · exact ⟨by omega, hR, by omega, hb, hd⟩
  · omega

set_option maxRecDepth 100000 in
set_option maxHeartbeats 8000000 in
theorem fnIdom_core (a0 : Option Addr) (len cap : Nat) (w : World) (hc : Code a0 len w.heap.size w) :
    Calls Try.prog 5 #[.slice a0 len cap] w fun e w' => e = .returned (.bool true) ∧ Below w.heap.size w w' := by
  by_cases hb : 1048576 < len
  · have d : decide (1048576 < len) = true := by simpa using hb
    go_enter Try.func5, Try.ntmps5
    go_wp2_with (go_at_call 9; refine (big_any _ _ _ _).mono ?_; rintro e w' ⟨rfl, rfl⟩)
    go_ret
    exact ⟨rfl, Below.refl _ _⟩
  · have d : decide (1048576 < len) = false := by simpa using hb
    have hl : len ≤ 1048576 := by omega
    go_enter Try.func5, Try.ntmps5
    go_wp2_with (first | (go_at_call 9; refine (big_any _ _ _ _).mono ?_; rintro e w' ⟨rfl, rfl⟩) | (go_at_call 22; refine (drawIdom _ _ _ _ hl hc).mono ?_; rintro e w2 ⟨ts, u, c, b, rfl, hg⟩; have HG : Hid (Grph w' w2 ts u) := hg; clear hg) | (go_at_call 23; refine (idomT _ ts u c b _ HG.out.1 (HG.out.2.1.keep (agree_alloc _ _ _))).mono ?_; rintro e w3 ⟨⟨z, rfl, hz⟩, hb3⟩; have HZ : Hid (IdomF (bare ts) b z) := hz; have hx3 := box_first hb3; have HX3 : Hid (Below (w2.heap.size + 1) (w2.alloc (.cells #[.slice none 0 0, .int .i64 8, .slice u ts.length c] 27)) w3) := hx3; obtain ⟨p1, p2, p3⟩ := box3 hx3; clear hz hb3 hx3) | (go_at_call 24; refine (idomM _ ts u c b z _ HG.out.1 (HG.out.2.1.keep (agree_of_below (below_box HX3.out) _)) HZ.out).mono ?_; rintro e w4 ⟨rfl, hb4⟩; have HX4 : Hid (Below (w2.heap.size + 1) (w2.alloc (.cells #[.slice none 0 0, .int .i64 8, .slice u ts.length c] 27)) w4) := box_next HX3.out hb4; clear hb4 p1 p2 p3))
    go_loopw [6] (fun i wr => ∃ k : Nat, k ≤ ts.length ∧ i = .int .i64 k ∧ Hid (Below (w2.heap.size + 1) (w2.alloc (.cells #[.slice none 0 0, .int .i64 8, .slice u ts.length c] 27)) wr)) (fun i _ => ts.length - (intOf i).toNat)
    case atStart => exact ⟨0, by omega, rfl, HX4.out⟩
    case round =>
      obtain ⟨k, hk, rfl, HX⟩ := hrel
      obtain ⟨p1, p2, p3⟩ := box3 HX.out
      have HBA : Hid (BlocksAt wr w'.heap.size u (bare ts)) := HG.out.2.1.keep (agree_of_below (below_box HX.out) _)
      have hts : ts.length ≤ 7 := HG.out.1
      clear HX4 HX3
      by_cases hlt : k < ts.length
      · by_cases hkb : (k : Int) = b
        · have hd1 : ((k : Int) == b) = true := by simpa using hkb
          go_wp2_with fail
          exact ⟨⟨k + 1, by omega, by go_num, HX.out⟩, by simp only [intOf]; omega⟩
        · have hd1 : ((k : Int) == b) = false := by simpa using hkb
          by_cases hdom : DomF (bare ts) k b
          · obtain ⟨z0, hz2⟩ := idom_law HZ.out hkb hdom
            have hd2 : decide (z < 0) = false := by simp; omega
            have HV1 : Hid (Tells true (DomF (bare ts) k b)) := tells_yes hdom
            have HV2 : Hid (Tells true (DomF (bare ts) k z)) := tells_yes hz2
            clear hdom hz2
            go_wp2_with (first | (go_at_call 20; refine (domT _ ts u c _ z true _ hts HBA5.out HV2.out).mono ?_; rintro e w6 ⟨rfl, hb6⟩; have HX6 : Hid (Below (w2.heap.size + 1) (w2.alloc (.cells #[.slice none 0 0, .int .i64 8, .slice u ts.length c] 27)) w6) := box_next HX5.out hb6; clear hb6) | (go_at_call 20; refine (domT _ ts u c _ b true _ hts HBA.out HV1.out).mono ?_; rintro e w5 ⟨rfl, hb5⟩; have HX5 : Hid (Below (w2.heap.size + 1) (w2.alloc (.cells #[.slice none 0 0, .int .i64 8, .slice u ts.length c] 27)) w5) := box_next HX.out hb5; obtain ⟨q1, q2, q3⟩ := box3 HX5.out; have HBA5 : Hid (BlocksAt w5 w'.heap.size u (bare ts)) := HBA.out.keep (agree_of_below hb5 _); clear hb5))
            exact ⟨⟨k + 1, by omega, by go_num, HX6.out⟩, by simp only [intOf]; omega⟩
          · have HV1 : Hid (Tells false (DomF (bare ts) k b)) := tells_no hdom
            clear hdom
            go_wp2_with (go_at_call 20; refine (domT _ ts u c _ b false _ hts HBA.out HV1.out).mono ?_; rintro e w5 ⟨rfl, hb5⟩; have HX5 : Hid (Below (w2.heap.size + 1) (w2.alloc (.cells #[.slice none 0 0, .int .i64 8, .slice u ts.length c] 27)) w5) := box_next HX.out hb5; obtain ⟨q1, q2, q3⟩ := box3 HX5.out; have HBA5 : Hid (BlocksAt w5 w'.heap.size u (bare ts)) := HBA.out.keep (agree_of_below hb5 _); clear hb5)
            exact ⟨⟨k + 1, by omega, by go_num, HX5.out⟩, by simp only [intOf]; omega⟩
      · by_cases hz0 : z < 0
        · have hd2 : decide (z < 0) = true := by simpa using hz0
          go_wp2_with fail
          go_ret
          exact ⟨rfl, HG.out.2.2.trans ((below_box HX.out).mono HG.out.2.2.size)⟩
        · have hd2 : decide (z < 0) = false := by simpa using hz0
          obtain ⟨hzb, hdom⟩ := idom_end HZ.out (by omega)
          have hd1 : (z == b) = false := by simpa using hzb
          have HV1 : Hid (Tells true (DomF (bare ts) z b)) := tells_yes hdom
          clear hdom
          go_wp2_with (go_at_call 20; refine (domT _ ts u c _ b true _ hts HBA.out HV1.out).mono ?_; rintro e w5 ⟨rfl, hb5⟩; have HX5 : Hid (Below (w2.heap.size + 1) (w2.alloc (.cells #[.slice none 0 0, .int .i64 8, .slice u ts.length c] 27)) w5) := box_next HX.out hb5; obtain ⟨q1, q2, q3⟩ := box3 HX5.out; have HBA5 : Hid (BlocksAt w5 w'.heap.size u (bare ts)) := HBA.out.keep (agree_of_below hb5 _); clear hb5)
          go_ret
          refine ⟨?_, HG.out.2.2.trans ((below_box HX5.out).mono HG.out.2.2.size)⟩
          have e : (z != b) = true := by simpa using hzb
          show Ending.returned (.bool (z != b)) = _
          rw [e]
end Go.Proofs.Ytilhmpilkhadfaa
