/- Who dominates whom, by the program: the contract of Dominates. -/
import Derived.Test.YtilhmpilkhadfaaGre
import Derived.Test.YtilhmpilkhadfaaMd3d
namespace Go.Proofs.Ytilhmpilkhadfaa
open Go.RowKit

theorem infoA : (Try.prog.info? 63).map (fun i => (i.zero.isSome, i.size, i.bytes)) = some (true, 10, 10) := by kernel_rfl
theorem infoB : (Try.prog.info? 4).map (fun i => (i.zero, i.size, i.bytes)) = some (some (.bool false), 1, 1) := by kernel_rfl
theorem idx1 (arr : Array Value) (x : Nat) (hx : x < 10) (W : World) : (Instr.index 65 (.agg arr) (.int .i64 (x : Int))).run Try.prog W = .ok (.agg (arr.extract (x * 10) (x * 10 + 10))) W := by
  obtain ⟨i, hi, hs⟩ : ∃ i, Try.prog.info? 63 = some i ∧ i.size = 10 := by
    have h := infoA
    cases hq : Try.prog.info? 63 with
    | none => rw [hq] at h; cases h
    | some i => rw [hq] at h; simp at h; exact ⟨i, rfl, h.2.1⟩
  simp [Instr.index, asIntOf, run_underlying Try.underlying65, part, isAgg, run_underlying Try.underlying63, sizeOf, typeInfo, hi, hs]
  intro h; omega
theorem idx2 (arr : Array Value) (x y : Nat) (v : Bool) (hy : y < 10) (hv : arr[x * 10 + y]? = some (.bool v)) (W : World) : (Instr.index 63 (.agg (arr.extract (x * 10) (x * 10 + 10))) (.int .i64 (y : Int))).run Try.prog W = .ok (.bool v) W := by
  obtain ⟨i, hi, _, hs, _⟩ := info_parts infoB
  have he : (arr.extract (x * 10) (x * 10 + 10))[y]? = some (.bool v) := by
    rw [Array.getElem?_extract]
    have hlt := (Array.getElem?_eq_some_iff.1 hv).1
    rw [if_pos (by omega), hv]
  simp [Instr.index, asIntOf, run_underlying Try.underlying63, part, isAgg, run_underlying Try.underlying4, sizeOf, typeInfo, hi, hs, he]
  intro h; omega
theorem dm_dom {S : Nat → List Nat} {n : Nat} (h1 : 0 < n) (hS : ∀ a, ∀ s ∈ S a, s < n) (a b : Nat) : dm S n (post S none n) (post S none n).length 0 a b = true ↔ Dom S a b := by
  have ht := post_told S none n h1 hS
  have ha := post_told S (some a) n h1 hS
  unfold dm
  rw [decide_eq_true_iff, List.take_length, ht.mem, ht.mem, ha.mem]
  constructor
  · rintro (⟨_, h2, h3⟩ | ⟨h, _⟩)
    · exact ⟨h2, h3⟩
    · omega
  · intro h; exact .inl ⟨h.reached, h.1, h.2⟩
set_option maxRecDepth 100000 in
set_option maxHeartbeats 4000000 in
theorem dominatesI (lo : Nat) (d : FuncD) (u0 : Option Addr) (c0 : Nat) (u2 : Option Addr) (c2 : Nat) (a b : Int) (w : World) (hs : SmFunc d) (k2 : BlocksAt w lo u2 d.blocks) :
    Calls Try.prog 20 #[.agg #[.slice u0 d.params.length c0, .int .i64 d.ret, .slice u2 d.blocks.length c2], .int .i64 a, .int .i64 b] w fun e w' => (∃ v, e = .returned (.bool v) ∧ (v = true ↔ DomF d.blocks a b)) ∧ Below w.heap.size w w' := by
  have HSM : Hid (SmFunc d) := hs
  have HK : Hid (BlocksAt w lo u2 d.blocks) := k2
  have hbl : d.blocks.length ≤ 1048576 := hs.2.1
  clear hs k2
  by_cases hR : RightL d.blocks
  · have HR : Hid (RightL d.blocks) := hR
    have hr1 := hR.1
    have hr2 := hR.2.1
    have HS : Hid (∀ a, ∀ s ∈ succN d.blocks a, s < d.blocks.length) := right_lt hR
    clear hR
    by_cases hA : 0 ≤ a ∧ a < d.blocks.length
    · by_cases hB : 0 ≤ b ∧ b < d.blocks.length
      · obtain ⟨x, rfl⟩ : ∃ x : Nat, a = x := ⟨a.toNat, by omega⟩
        obtain ⟨y, rfl⟩ : ∃ y : Nat, b = y := ⟨b.toNat, by omega⟩
        have hx10 : x < 10 := by omega
        have hy10 : y < 10 := by omega
        go_enter Try.func20, Try.ntmps20
        go_wp2_with (first | (go_at_call 41; refine (graphI lo d _ _ _ _ _ HSM.out (HK.out.keep (agree_alloc _ _ _))).mono ?_; rintro e w1 ⟨hb1, h1⟩; obtain ⟨N, hN, rfl, hG⟩ := (h1.resolve_left (fun h => h.1 HR.out)).2; have HG : Hid (Graph w1 N d.blocks.length (succN d.blocks)) := hG; have HX1 : Hid (Below w.heap.size w w1) := ((Below.refl _ _).alloc (Nat.le_refl _) _).trans (hb1.mono (by simp)); clear hb1 h1 hG hN) | (go_at_call 45; refine (belowI_t _ _ _ (by omega) (by omega)).mono ?_; rintro e w2 ⟨rfl, rfl⟩) | (go_at_call 47; refine (domsI N d.blocks.length (succN d.blocks) _ HG.out (by omega) hr2 HS.out (fun q => by have := succ_len d.blocks q; omega)).mono ?_; rintro e w3 ⟨⟨arr, rfl, ha1, ha2⟩, hb3⟩; have q1 := idx1 arr x hx10; have q2 := idx2 arr x y _ hy10 (ha2 x y hx10 hy10); have HX3 : Hid (Below w.heap.size w w3) := HX1.out.trans (hb3.mono HX1.out.size); clear ha1 ha2 hb3))
        go_ret
        refine ⟨⟨_, rfl, ?_⟩, HX3.out⟩
        rw [dm_dom (by omega) HS.out]
        exact ⟨fun h => ⟨HR.out, hA, hB, h⟩, fun h => h.2.2.2⟩
      · have HB : Hid (¬ (0 ≤ b ∧ b < d.blocks.length)) := hB
        go_enter Try.func20, Try.ntmps20
        go_wp2_with (first | (go_at_call 41; refine (graphI lo d _ _ _ _ _ HSM.out (HK.out.keep (agree_alloc _ _ _))).mono ?_; rintro e w1 ⟨hb1, h1⟩; obtain ⟨N, hN, rfl, hG⟩ := (h1.resolve_left (fun h => h.1 HR.out)).2; have HG : Hid (Graph w1 N d.blocks.length (succN d.blocks)) := hG; have HX1 : Hid (Below w.heap.size w w1) := ((Below.refl _ _).alloc (Nat.le_refl _) _).trans (hb1.mono (by simp)); clear hb1 h1 hG hN) | (go_at_call 45; refine (belowI_t _ _ _ (by omega) (by omega)).mono ?_; rintro e w2 ⟨rfl, rfl⟩) | (go_at_call 45; refine (belowI_f _ _ _ (by omega)).mono ?_; rintro e w2 ⟨rfl, rfl⟩))
        go_ret
        exact ⟨⟨_, rfl, ⟨fun h => (by cases h), fun h => absurd h.2.2.1 HB.out⟩⟩, HX1.out⟩
    · have HA : Hid (¬ (0 ≤ a ∧ a < d.blocks.length)) := hA
      go_enter Try.func20, Try.ntmps20
      go_wp2_with (first | (go_at_call 41; refine (graphI lo d _ _ _ _ _ HSM.out (HK.out.keep (agree_alloc _ _ _))).mono ?_; rintro e w1 ⟨hb1, h1⟩; obtain ⟨N, hN, rfl, hG⟩ := (h1.resolve_left (fun h => h.1 HR.out)).2; have HG : Hid (Graph w1 N d.blocks.length (succN d.blocks)) := hG; have HX1 : Hid (Below w.heap.size w w1) := ((Below.refl _ _).alloc (Nat.le_refl _) _).trans (hb1.mono (by simp)); clear hb1 h1 hG hN) | (go_at_call 45; refine (belowI_f _ _ _ (by omega)).mono ?_; rintro e w2 ⟨rfl, rfl⟩))
      go_ret
      exact ⟨⟨_, rfl, ⟨fun h => (by cases h), fun h => absurd h.2.1 HA.out⟩⟩, HX1.out⟩
  · have HR : Hid (¬ RightL d.blocks) := hR
    clear hR
    go_enter Try.func20, Try.ntmps20
    go_wp2_with (first | (go_at_call 41; refine (graphI lo d _ _ _ _ _ HSM.out (HK.out.keep (agree_alloc _ _ _))).mono ?_; rintro e w1 ⟨hb1, h1⟩; obtain rfl := (h1.resolve_right (fun h => HR.out h.1)).2; have HX1 : Hid (Below w.heap.size w w1) := ((Below.refl _ _).alloc (Nat.le_refl _) _).trans (hb1.mono (by simp)); clear hb1 h1) | (go_at_call 45; refine (belowI_f _ _ _ (by omega)).mono ?_; rintro e w2 ⟨rfl, rfl⟩))
    go_ret
    exact ⟨⟨_, rfl, ⟨fun h => (by cases h), fun h => absurd h.1 HR.out⟩⟩, HX1.out⟩
end Go.Proofs.Ytilhmpilkhadfaa
