/- The nearest one that dominates, by itself and by the model: the contract of the model's IdomOf. -/
import Derived.Test.YtilhmpilkhadfaaMd3d
namespace Go.Proofs.Ytilhmpilkhadfaa
open Go.RowKit

/-- Of the first k blocks x is the one that all others of them which dominate b dominate; -1: none dominates b. -/
def Near (S : Nat → List Nat) (b k : Nat) (z : Int) : Prop :=
  (z = -1 ∧ ∀ a, a < k → a ≠ b → ¬ Dom S a b) ∨ ∃ x : Nat, z = x ∧ x < k ∧ x ≠ b ∧ Dom S x b ∧ ∀ a, a < k → a ≠ b → Dom S a b → Dom S a x
theorem Near.one {S : Nat → List Nat} {b k : Nat} {z z' : Int} (h : Near S b k z) (h' : Near S b k z') : z = z' := by
  rcases h with ⟨rfl, h⟩ | ⟨x, rfl, h1, h2, h3, h4⟩
  · rcases h' with ⟨rfl, _⟩ | ⟨y, rfl, k1, k2, k3, _⟩
    · rfl
    · exact absurd k3 (h y k1 k2)
  · rcases h' with ⟨rfl, h'⟩ | ⟨y, rfl, k1, k2, k3, k4⟩
    · exact absurd h3 (h' x h1 h2)
    · rw [(h4 y k1 k2 k3).both (k4 x h1 h2 h3)]
theorem Near.skip {S : Nat → List Nat} {b k : Nat} {z : Int} (h : Near S b k z) (hk : ¬ (k ≠ b ∧ Dom S k b)) : Near S b (k + 1) z := by
  have hlt : ∀ a, a < k + 1 → a ≠ b → Dom S a b → a < k := fun a h1 h2 h3 => by
    rcases Nat.lt_succ_iff_lt_or_eq.1 h1 with h | rfl
    · exact h
    · exact absurd ⟨h2, h3⟩ hk
  rcases h with ⟨rfl, h⟩ | ⟨x, rfl, h1, h2, h3, h4⟩
  · exact .inl ⟨rfl, fun a h1 h2 h3 => h a (hlt a h1 h2 h3) h2 h3⟩
  · exact .inr ⟨x, rfl, by omega, h2, h3, fun a k1 k2 k3 => h4 a (hlt a k1 k2 k3) k2 k3⟩
theorem Near.first {S : Nat → List Nat} {b k : Nat} (h : Near S b k (-1)) (hk : k ≠ b) (hd : Dom S k b) : Near S b (k + 1) k := by
  refine .inr ⟨k, rfl, by omega, hk, hd, fun a h1 h2 h3 => ?_⟩
  rcases Nat.lt_succ_iff_lt_or_eq.1 h1 with h' | rfl
  · rcases h with ⟨_, h⟩ | ⟨x, e, _⟩
    · exact absurd h3 (h a h' h2)
    · omega
  · exact Dom.self hd.reached
theorem Near.next {S : Nat → List Nat} {b k x : Nat} (h : Near S b k (x : Int)) (hk : k ≠ b) (hd : Dom S k b) (hx : Dom S x k) : Near S b (k + 1) k := by
  refine .inr ⟨k, rfl, by omega, hk, hd, fun a h1 h2 h3 => ?_⟩
  rcases Nat.lt_succ_iff_lt_or_eq.1 h1 with h' | rfl
  · rcases h with ⟨e, _⟩ | ⟨y, e, _, _, _, h4⟩
    · omega
    · have : x = y := by omega
      subst this
      exact (h4 a h' h2 h3).trans hx
  · exact Dom.self hd.reached
theorem Near.stay {S : Nat → List Nat} {b k x : Nat} (h : Near S b k (x : Int)) (hd : Dom S k b) (hx : ¬ Dom S x k) : Near S b (k + 1) (x : Int) := by
  rcases h with ⟨e, _⟩ | ⟨y, e, h1, h2, h3, h4⟩
  · omega
  · have : x = y := by omega
    subst this
    refine .inr ⟨x, rfl, by omega, h2, h3, fun a k1 k2 k3 => ?_⟩
    rcases Nat.lt_succ_iff_lt_or_eq.1 k1 with h' | rfl
    · exact h4 a h' k2 k3
    · exact (h3.chain k3).resolve_left hx
theorem near_is (S : Nat → List Nat) (b k : Nat) : ∃ z, Near S b k z := by
  induction k with
  | zero => exact ⟨-1, .inl ⟨rfl, fun a h => by omega⟩⟩
  | succ k ih =>
    obtain ⟨z, h⟩ := ih
    by_cases hk : k ≠ b ∧ Dom S k b
    · have h0 := h
      rcases h with ⟨rfl, _⟩ | ⟨x, rfl, _⟩
      · exact ⟨_, h0.first hk.1 hk.2⟩
      · by_cases hx : Dom S x k
        · exact ⟨_, h0.next hk.1 hk.2 hx⟩
        · exact ⟨_, h0.stay hk.2 hx⟩
    · exact ⟨z, h.skip hk⟩
def IdomF (l : List BlockD) (b z : Int) : Prop := ((RightL l ∧ 0 ≤ b ∧ b < l.length) ∧ Near (succN l) b.toNat l.length z) ∨ (¬ (RightL l ∧ 0 ≤ b ∧ b < l.length) ∧ z = -1)
theorem IdomF.one {l : List BlockD} {b z z' : Int} (h : IdomF l b z) (h' : IdomF l b z') : z = z' := by
  rcases h with ⟨h1, h2⟩ | ⟨h1, rfl⟩
  · rcases h' with ⟨_, k2⟩ | ⟨k1, _⟩
    · exact h2.one k2
    · exact absurd h1 k1
  · rcases h' with ⟨k1, _⟩ | ⟨_, rfl⟩
    · exact absurd k1 h1
    · rfl
set_option maxRecDepth 100000 in
set_option maxHeartbeats 4000000 in
theorem idomS (lo : Nat) (d : FuncD) (u0 : Option Addr) (c0 : Nat) (u2 : Option Addr) (c2 : Nat) (b : Int) (w : World) (hs : SmFunc d) (k2 : BlocksAt w lo u2 d.blocks) :
    Calls Try.prog 24 #[.agg #[.slice u0 d.params.length c0, .int .i64 d.ret, .slice u2 d.blocks.length c2], .int .i64 b] w fun e w' => (∃ z, e = .returned (.int .i64 z) ∧ IdomF d.blocks b z) ∧ Below w.heap.size w w' := by
  have HSM : Hid (SmFunc d) := hs
  have HK : Hid (BlocksAt w lo u2 d.blocks) := k2
  have hbl : d.blocks.length ≤ 1048576 := hs.2.1
  clear hs k2
  by_cases hA : RightL d.blocks ∧ 0 ≤ b ∧ b < d.blocks.length
  · have HA : Hid (RightL d.blocks ∧ 0 ≤ b ∧ b < d.blocks.length) := hA
    have HR : Hid (RightL d.blocks) := hA.1
    obtain ⟨y, rfl⟩ : ∃ y : Nat, b = y := ⟨b.toNat, by have := hA.2; omega⟩
    clear hA
    go_enter Try.func24, Try.ntmps24
    go_wp2_with (first | (go_at_call 43; refine (thereS lo d _ _ _ _ _ _ HSM.out (HK.out.keep (agree_alloc _ _ _))).mono ?_; rintro e w1 ⟨⟨v1, rfl, hq1⟩, hb1⟩; have hv1 : v1 = true := hq1.2 HA.out; subst hv1; have HX1 : Hid (Below (w.heap.size + 1) (w.alloc (.cells #[.slice u0 d.params.length c0, .int .i64 d.ret, .slice u2 d.blocks.length c2] 27)) w1) := box_first hb1; obtain ⟨r1, r2, r3⟩ := box3 HX1.out; clear hb1 hq1))
    clear r1 r2 r3
    go_loopw [5, 6] (fun best i wr => ∃ (k : Nat) (z : Int), k ≤ d.blocks.length ∧ i = .int .i64 k ∧ best = .int .i64 z ∧ Near (succN d.blocks) y k z ∧ -1 ≤ z ∧ z ≤ 1048576 ∧ Below (w.heap.size + 1) (w.alloc (.cells #[.slice u0 d.params.length c0, .int .i64 d.ret, .slice u2 d.blocks.length c2] 27)) wr) (fun _ i _ => d.blocks.length - (intOf i).toNat)
    case atStart => exact ⟨0, -1, by omega, rfl, rfl, .inl ⟨rfl, fun a h => by omega⟩, by omega, by omega, HX1.out⟩
    case round =>
      obtain ⟨k, z, hk, rfl, rfl, hN, hz0, hz1, hB⟩ := hrel
      have HX2 : Hid (Below (w.heap.size + 1) (w.alloc (.cells #[.slice u0 d.params.length c0, .int .i64 d.ret, .slice u2 d.blocks.length c2] 27)) wr) := hB
      have HN : Hid (Near (succN d.blocks) y k z) := hN
      obtain ⟨r1, r2, r3⟩ := box3 hB
      clear hB hN HX1
      by_cases hlt : k < d.blocks.length
      · by_cases hky : k = y
        · have HKY : Hid (k = y) := hky
          subst hky
          go_wp2_with fail
          go_roundw
          case rel => exact ⟨k + 1, z, by omega, by go_num, rfl, HN.out.skip (fun h => h.1 rfl), by omega, by omega, HX2.out⟩
          case measure => simp [intOf]; omega
        have hkyi : ¬ (k : Int) = (y : Int) := by omega
        have HKY : Hid (k ≠ y) := hky
        clear hky
        by_cases hd : Dom (succN d.blocks) k y
        · have HD : Hid (Dom (succN d.blocks) k y) := hd
          clear hd
          by_cases hneg : z = -1
          · subst hneg
            go_wp2_with (first | (go_at_call 48; refine (domS lo d _ _ _ _ k y _ HR.out (HK.out.keep (agree_of_below (below_box HX2.out) _))).mono ?_; rintro e w3 ⟨⟨v3, rfl, hq3⟩, hb3⟩; have hv3 : v3 = true := hq3.2 HD.out; subst hv3; have HX3 : Hid (Below (w.heap.size + 1) (w.alloc (.cells #[.slice u0 d.params.length c0, .int .i64 d.ret, .slice u2 d.blocks.length c2] 27)) w3) := box_next HX2.out hb3; obtain ⟨r13, r23, r33⟩ := box3 HX3.out; clear hb3 hq3))
            go_roundw
            case rel => exact ⟨k + 1, k, by omega, by go_num, rfl, HN.out.first HKY.out HD.out, by omega, by omega, HX3.out⟩
            case measure => simp [intOf]; omega
          · obtain ⟨x, rfl⟩ : ∃ x : Nat, z = x := ⟨z.toNat, by omega⟩
            by_cases hx : Dom (succN d.blocks) x k
            · have HXD : Hid (Dom (succN d.blocks) x k) := hx
              clear hx
              go_wp2_with (first | (go_at_call 48; refine (domS lo d _ _ _ _ x k _ HR.out (HK.out.keep (agree_of_below (below_box HX3.out) _))).mono ?_; rintro e w4 ⟨⟨v4, rfl, hq4⟩, hb4⟩; have hv4 : v4 = true := hq4.2 HXD.out; subst hv4; have HX4 : Hid (Below (w.heap.size + 1) (w.alloc (.cells #[.slice u0 d.params.length c0, .int .i64 d.ret, .slice u2 d.blocks.length c2] 27)) w4) := box_next HX3.out hb4; obtain ⟨r14, r24, r34⟩ := box3 HX4.out; clear hb4 hq4) | (go_at_call 48; refine (domS lo d _ _ _ _ k y _ HR.out (HK.out.keep (agree_of_below (below_box HX2.out) _))).mono ?_; rintro e w3 ⟨⟨v3, rfl, hq3⟩, hb3⟩; have hv3 : v3 = true := hq3.2 HD.out; subst hv3; have HX3 : Hid (Below (w.heap.size + 1) (w.alloc (.cells #[.slice u0 d.params.length c0, .int .i64 d.ret, .slice u2 d.blocks.length c2] 27)) w3) := box_next HX2.out hb3; obtain ⟨r13, r23, r33⟩ := box3 HX3.out; clear hb3 hq3))
              go_roundw
              case rel => exact ⟨k + 1, k, by omega, by go_num, rfl, HN.out.next HKY.out HD.out HXD.out, by omega, by omega, HX4.out⟩
              case measure => simp [intOf]; omega
            · have HXD : Hid (¬ Dom (succN d.blocks) x k) := hx
              clear hx
              go_wp2_with (first | (go_at_call 48; refine (domS lo d _ _ _ _ x k _ HR.out (HK.out.keep (agree_of_below (below_box HX3.out) _))).mono ?_; rintro e w4 ⟨⟨v4, rfl, hq4⟩, hb4⟩; have hv4 : v4 = false := (by cases v4 with | true => exact absurd (hq4.1 rfl) HXD.out | false => rfl); subst hv4; have HX4 : Hid (Below (w.heap.size + 1) (w.alloc (.cells #[.slice u0 d.params.length c0, .int .i64 d.ret, .slice u2 d.blocks.length c2] 27)) w4) := box_next HX3.out hb4; obtain ⟨r14, r24, r34⟩ := box3 HX4.out; clear hb4 hq4) | (go_at_call 48; refine (domS lo d _ _ _ _ k y _ HR.out (HK.out.keep (agree_of_below (below_box HX2.out) _))).mono ?_; rintro e w3 ⟨⟨v3, rfl, hq3⟩, hb3⟩; have hv3 : v3 = true := hq3.2 HD.out; subst hv3; have HX3 : Hid (Below (w.heap.size + 1) (w.alloc (.cells #[.slice u0 d.params.length c0, .int .i64 d.ret, .slice u2 d.blocks.length c2] 27)) w3) := box_next HX2.out hb3; obtain ⟨r13, r23, r33⟩ := box3 HX3.out; clear hb3 hq3))
              go_roundw
              case rel => exact ⟨k + 1, x, by omega, by go_num, rfl, HN.out.stay HD.out HXD.out, by omega, by omega, HX4.out⟩
              case measure => simp [intOf]; omega
        · have HD : Hid (¬ Dom (succN d.blocks) k y) := hd
          clear hd
          go_wp2_with (first | (go_at_call 48; refine (domS lo d _ _ _ _ k y _ HR.out (HK.out.keep (agree_of_below (below_box HX2.out) _))).mono ?_; rintro e w3 ⟨⟨v3, rfl, hq3⟩, hb3⟩; have hv3 : v3 = false := (by cases v3 with | true => exact absurd (hq3.1 rfl) HD.out | false => rfl); subst hv3; have HX3 : Hid (Below (w.heap.size + 1) (w.alloc (.cells #[.slice u0 d.params.length c0, .int .i64 d.ret, .slice u2 d.blocks.length c2] 27)) w3) := box_next HX2.out hb3; obtain ⟨r13, r23, r33⟩ := box3 HX3.out; clear hb3 hq3))
          go_roundw
          case rel => exact ⟨k + 1, z, by omega, by go_num, rfl, HN.out.skip (fun h => HD.out h.2), by omega, by omega, HX3.out⟩
          case measure => simp [intOf]; omega
      · have HKE : Hid (k = d.blocks.length) := (by show _ = _; omega)
        go_wp2_with fail
        go_ret
        refine ⟨⟨z, rfl, .inl ⟨HA.out, ?_⟩⟩, below_box HX2.out⟩
        have h := HN.out
        rw [HKE.out] at h
        exact h
  · have HA : Hid (¬ (RightL d.blocks ∧ 0 ≤ b ∧ b < d.blocks.length)) := hA
    clear hA
    go_enter Try.func24, Try.ntmps24
    go_wp2_with (first | (go_at_call 43; refine (thereS lo d _ _ _ _ _ _ HSM.out (HK.out.keep (agree_alloc _ _ _))).mono ?_; rintro e w1 ⟨⟨v1, rfl, hq1⟩, hb1⟩; have hv1 : v1 = false := (by cases v1 with | true => exact absurd (hq1.1 rfl) HA.out | false => rfl); subst hv1; have HX1 : Hid (Below (w.heap.size + 1) (w.alloc (.cells #[.slice u0 d.params.length c0, .int .i64 d.ret, .slice u2 d.blocks.length c2] 27)) w1) := box_first hb1; obtain ⟨r1, r2, r3⟩ := box3 HX1.out; clear hb1 hq1))
    go_ret
    exact ⟨⟨_, rfl, .inr ⟨HA.out, rfl⟩⟩, below_box HX1.out⟩
end Go.Proofs.Ytilhmpilkhadfaa
