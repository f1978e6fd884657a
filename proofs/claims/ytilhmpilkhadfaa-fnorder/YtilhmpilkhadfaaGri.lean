/- The nearest one that dominates, by the program: the contract of isNearest. -/
import Derived.Test.YtilhmpilkhadfaaGrh
import Derived.Test.YtilhmpilkhadfaaMd3i
namespace Go.Proofs.Ytilhmpilkhadfaa
open Go.RowKit

set_option maxRecDepth 100000 in
set_option maxHeartbeats 4000000 in
theorem nearestI (arr : Array Value) (F : Nat → Nat → Bool) (a b : Nat) (w : World) (hF : ∀ x y, x < 10 → y < 10 → arr[x * 10 + y]? = some (.bool (F x y))) (ha : a < 10) (hb : b < 10) :
    Calls Try.prog 49 #[.agg arr, .int .i64 (a : Int), .int .i64 (b : Int)] w fun e w' => (∃ v, e = .returned (.bool v) ∧ (v = true ↔ ∀ c, c < 10 → c ≠ b → F c b = true → F c a = true)) ∧ Below w.heap.size w w' := by
  have HF : Hid (∀ x y, x < 10 → y < 10 → arr[x * 10 + y]? = some (.bool (F x y))) := hF
  clear hF
  go_enter Try.func49, Try.ntmps49
  go_wp2_with fail
  go_loopw [8] (fun i wr => ∃ k : Nat, k ≤ 10 ∧ i = .int .i64 k ∧ (∀ c, c < k → c ≠ b → F c b = true → F c a = true) ∧ wr.heap[w.heap.size]? = some (.cells arr 65 (0, 0)) ∧ Below w.heap.size w wr) (fun i _ => 10 - (intOf i).toNat)
  case atStart => exact ⟨0, by omega, rfl, fun c hc => by omega, heap_alloc_last _ _, (Below.refl _ _).alloc (Nat.le_refl _) _⟩
  case round =>
    obtain ⟨k, hk, rfl, hd, hh, hB⟩ := hrel
    have HD : Hid (∀ c, c < k → c ≠ b → F c b = true → F c a = true) := hd
    have HH : Hid (wr.heap[w.heap.size]? = some (.cells arr 65 (0, 0))) := hh
    have HB : Hid (Below w.heap.size w wr) := hB
    by_cases hlt : k < 10
    · have e1 : wr.cell? ⟨w.heap.size, k * 10 + b, none⟩ = some (.bool (F k b)) := (cell_of_heap hh).trans (HF.out k b hlt hb)
      have e2 : wr.cell? ⟨w.heap.size, k * 10 + a, none⟩ = some (.bool (F k a)) := (cell_of_heap hh).trans (HF.out k a hlt ha)
      generalize hf1 : F k b = f1 at e1
      generalize hf2 : F k a = f2 at e2
      have HF1 : Hid (F k b = f1) := hf1
      have HF2 : Hid (F k a = f2) := hf2
      clear hd hh hB hf1 hf2
      by_cases hkb : k = b
      · have HKB : Hid (k = b) := hkb
        have hki : (k : Int) = (b : Int) := by omega
        clear hkb
        go_wp2_with fail
        go_roundw
        case rel =>
          refine ⟨k + 1, by omega, by go_num, fun c hc h1 h2 => ?_, HH.out, HB.out⟩
          rcases Nat.lt_succ_iff_lt_or_eq.1 hc with h | rfl
          · exact HD.out c h h1 h2
          · exact absurd HKB.out h1
        case measure => simp [intOf]; omega
      · have HKB : Hid (k ≠ b) := hkb
        have hki : ¬ (k : Int) = (b : Int) := by omega
        clear hkb
        cases f1 with
        | false =>
          go_wp2_with fail
          go_roundw
          case rel =>
            refine ⟨k + 1, by omega, by go_num, fun c hc h1 h2 => ?_, HH.out, HB.out⟩
            rcases Nat.lt_succ_iff_lt_or_eq.1 hc with h | rfl
            · exact HD.out c h h1 h2
            · rw [HF1.out] at h2; cases h2
          case measure => simp [intOf]; omega
        | true =>
          cases f2 with
          | true =>
            go_wp2_with fail
            go_roundw
            case rel =>
              refine ⟨k + 1, by omega, by go_num, fun c hc h1 h2 => ?_, HH.out, HB.out⟩
              rcases Nat.lt_succ_iff_lt_or_eq.1 hc with h | rfl
              · exact HD.out c h h1 h2
              · exact HF2.out
            case measure => simp [intOf]; omega
          | false =>
            go_wp2_with fail
            go_ret
            refine ⟨⟨false, rfl, ⟨fun h => (by cases h), fun h => ?_⟩⟩, HB.out⟩
            have := h k hlt HKB.out HF1.out
            rw [HF2.out] at this; cases this
    · have hke : k = 10 := by omega
      subst hke
      clear hd hh hB
      go_wp2_with fail
      go_ret
      exact ⟨⟨true, rfl, ⟨fun _ => HD.out, fun _ => rfl⟩⟩, HB.out⟩
theorem wpList_load_row_on {P : Program} {ops : Array Oper} {rest : List Oper} {o : Oper} {a : Act} {w : World} {Q : Exit → Act → World → Prop} (hgd : Region.wanted o (yielded ops a.tmps) = true) (ty : TypeId) (x : Operand) (ho : o.op = .load ty x)
    (g : Nat) (hx : a.eval x = .pointer (some ⟨g, 0, none⟩)) (t : TypeId) (cs : Array Value) (fr : Nat × Nat) (d : TypeDesc) (hg : w.heap[g]? = some (.cells cs t fr))
    (hu : P.underlying ty = some d) (hd : (match d with | .struct _ | .array _ _ => true | _ => false) = true) (hi : (P.info? ty).map (·.size) = some cs.size)
    (h : wpList P ops Q rest (a.put o.dst (.agg cs)) w) : wpList P ops Q (o :: rest) a w :=
  wpList_step fun K hK => by rw [if_pos hgd]; exact wp_load_row ty x ho g hx t cs fr d hg hu hd hi (hK _ _ h)
theorem flags_one {arr : Array Value} {F : Nat → Nat → Bool} (ha2 : arr.size = 100) (ha3 : ∀ x y, x < 10 → y < 10 → arr[x * 10 + y]? = some (.bool (F x y))) : arr.all (·.oneCell') = true := by
  rw [Array.all_eq_true]
  intro i hi
  have h := ha3 (i / 10) (i % 10) (by omega) (by omega)
  have e : i / 10 * 10 + i % 10 = i := by omega
  rw [e, Array.getElem?_eq_getElem hi] at h
  simp at h; rw [h]; rfl
set_option maxRecDepth 100000 in
set_option maxHeartbeats 4000000 in
theorem idomI (lo : Nat) (d : FuncD) (u0 : Option Addr) (c0 : Nat) (u2 : Option Addr) (c2 : Nat) (b : Int) (w : World) (hs : SmFunc d) (k2 : BlocksAt w lo u2 d.blocks) :
    Calls Try.prog 23 #[.agg #[.slice u0 d.params.length c0, .int .i64 d.ret, .slice u2 d.blocks.length c2], .int .i64 b] w fun e w' => (∃ z, e = .returned (.int .i64 z) ∧ IdomF d.blocks b z) ∧ Below w.heap.size w w' := by
  have HSM : Hid (SmFunc d) := hs
  have HK : Hid (BlocksAt w lo u2 d.blocks) := k2
  have hbl : d.blocks.length ≤ 1048576 := hs.2.1
  clear hs k2
  by_cases hR : RightL d.blocks
  · have HR : Hid (RightL d.blocks) := hR
    have hr1 := hR.1
    have hr2 := hR.2.1
    have HS : Hid (∀ a, ∀ s ∈ succN d.blocks a, s < d.blocks.length) := right_lt hR
    clear hR
    by_cases hB : 0 ≤ b ∧ b < d.blocks.length
    · obtain ⟨y, rfl⟩ : ∃ y : Nat, b = y := ⟨b.toNat, by omega⟩
      have hy10 : y < 10 := by omega
      have HBB : Hid (0 ≤ (y : Int) ∧ (y : Int) < d.blocks.length) := hB
      go_enter Try.func23, Try.ntmps23
      go_wp2_with (first | (go_at_call 41; refine (graphI lo d _ _ _ _ _ HSM.out (HK.out.keep (agree_alloc _ _ _))).mono ?_; rintro e w1 ⟨hb1, h1⟩; obtain ⟨N, hN, rfl, hG⟩ := (h1.resolve_left (fun h => h.1 HR.out)).2; have HG : Hid (Graph w1 N d.blocks.length (succN d.blocks)) := hG; have HX1 : Hid (Below w.heap.size w w1) := ((Below.refl _ _).alloc (Nat.le_refl _) _).trans (hb1.mono (by simp)); clear hb1 h1 hG hN) | (go_at_call 45; refine (belowI_t _ _ _ (by omega) (by omega)).mono ?_; rintro e w2 ⟨rfl, rfl⟩) | (go_at_call 47; refine (domsI N d.blocks.length (succN d.blocks) _ HG.out (by omega) hr2 HS.out (fun q => by have := succ_len d.blocks q; omega)).mono ?_; rintro e w3 ⟨⟨arr, rfl, ha1, ha2⟩, hb3⟩; have HX3 : Hid (Below w.heap.size w w3) := HX1.out.trans (hb3.mono HX1.out.size); have HA1 : Hid (arr.size = 100) := ha1; have HA2 : Hid (∀ x y, x < 10 → y < 10 → arr[x * 10 + y]? = some (.bool (dm (succN d.blocks) d.blocks.length (post (succN d.blocks) none d.blocks.length) (post (succN d.blocks) none d.blocks.length).length 0 x y))) := ha2; clear ha1 ha2 hb3) | (refine wpList_store_row rfl 65 _ _ rfl w3.heap.size arr rfl rfl 65 _ (heap_alloc_last _ _) (by rw [infoD, HA1.out]) (by rw [HA1.out]; rfl) (flags_one HA1.out HA2.out) ?_))
      have HFD : Hid (∀ x z, dm (succN d.blocks) d.blocks.length (post (succN d.blocks) none d.blocks.length) (post (succN d.blocks) none d.blocks.length).length 0 x z = true ↔ Dom (succN d.blocks) x z) := fun x z => dm_dom (by omega) HS.out x z
      generalize dm (succN d.blocks) d.blocks.length (post (succN d.blocks) none d.blocks.length) (post (succN d.blocks) none d.blocks.length).length 0 = F at HA2 HFD
      have HLW : Hid (∀ x z, F x z = true → x < d.blocks.length) := fun x z h => (post_told (succN d.blocks) none d.blocks.length (by omega) HS.out).low x (((post_told (succN d.blocks) none d.blocks.length (by omega) HS.out).mem x).2 ((HFD.out x z).1 h).reached)
      go_loopw [19] (fun i wr => ∃ k : Nat, k ≤ d.blocks.length ∧ i = .int .i64 k ∧ (∀ c, c < k → c ≠ y → F c y = true → ¬ ∀ e, e < 10 → e ≠ y → F e y = true → F e c = true) ∧ wr.heap[w3.heap.size]? = some (.cells arr 65 (0, 0)) ∧ Below w.heap.size w wr) (fun i _ => d.blocks.length - (intOf i).toNat)
      case atStart =>
        refine ⟨0, by omega, rfl, fun c hc => by omega, setRow_heap _ _ _ _ _ _ (heap_alloc_last _ _), (HX3.out.alloc HX3.out.size _).trans ⟨rfl, rfl, rfl, by simp, fun b hb => setRow_other _ _ _ _ (by have := HX3.out.size; omega)⟩⟩
      case round =>
        obtain ⟨k, hk, rfl, hd, hh, hBw⟩ := hrel
        have HD : Hid (∀ c, c < k → c ≠ y → F c y = true → ¬ ∀ e, e < 10 → e ≠ y → F e y = true → F e c = true) := hd
        have HH : Hid (wr.heap[w3.heap.size]? = some (.cells arr 65 (0, 0))) := hh
        have HB : Hid (Below w.heap.size w wr) := hBw
        have hzr : w3.heap.size < wr.heap.size := (Array.getElem?_eq_some_iff.1 hh).1
        by_cases hlt : k < d.blocks.length
        · have hk10 : k < 10 := by omega
          have e1 : wr.cell? ⟨w3.heap.size, k * 10 + y, none⟩ = some (.bool (F k y)) := (cell_of_heap hh).trans (HA2.out k y hk10 hy10)
          generalize hf1 : F k y = f1 at e1
          have HF1 : Hid (F k y = f1) := hf1
          clear hd hh hBw hf1
          by_cases hky : k = y
          · have HKY : Hid (k = y) := hky
            have hki : (k : Int) = (y : Int) := by omega
            clear hky
            go_wp2_with fail
            go_roundw
            case rel =>
              refine ⟨k + 1, by omega, by go_num, fun c hc h1 h2 => ?_, HH.out, HB.out⟩
              rcases Nat.lt_succ_iff_lt_or_eq.1 hc with h | rfl
              · exact HD.out c h h1 h2
              · exact absurd HKY.out h1
            case measure => simp [intOf]; omega
          · have HKY : Hid (k ≠ y) := hky
            have hki : ¬ (k : Int) = (y : Int) := by omega
            clear hky
            cases f1 with
            | false =>
              go_wp2_with fail
              go_roundw
              case rel =>
                refine ⟨k + 1, by omega, by go_num, fun c hc h1 h2 => ?_, HH.out, HB.out⟩
                rcases Nat.lt_succ_iff_lt_or_eq.1 hc with h | rfl
                · exact HD.out c h h1 h2
                · rw [HF1.out] at h2; cases h2
              case measure => simp [intOf]; omega
            | true =>
              by_cases hnr : ∀ e, e < 10 → e ≠ y → F e y = true → F e k = true
              · have HNR : Hid (∀ e, e < 10 → e ≠ y → F e y = true → F e k = true) := hnr
                clear hnr
                go_wp2_with (first | (refine wpList_load_row_on (by simp [Region.wanted, yielded, hki]) 65 _ rfl w3.heap.size rfl 65 arr (0, 0) _ HH.out Try.underlying65 rfl (by rw [infoD, HA1.out]) ?_) | (go_at_call 49; refine (nearestI arr F k y _ HA2.out hk10 hy10).mono ?_; rintro e w4 ⟨⟨v, rfl, hq⟩, hb4⟩; have hv : v = true := hq.2 HNR.out; subst hv; have HH4 : Hid (w4.heap[w3.heap.size]? = some (.cells arr 65 (0, 0))) := (hb4.block _ (by exact hzr)).trans HH.out; have HB4 : Hid (Below w.heap.size w w4) := HB.out.trans (hb4.mono HB.out.size); clear hb4 hq))
                go_ret
                refine ⟨⟨_, rfl, .inl ⟨⟨HR.out, HBB.out⟩, .inr ⟨k, rfl, hlt, HKY.out, (HFD.out k y).1 HF1.out, fun a h1 h2 h3 => ?_⟩⟩⟩, HB4.out⟩
                exact (HFD.out a k).1 (HNR.out a (by omega) h2 ((HFD.out a y).2 h3))
              · have HNR : Hid (¬ ∀ e, e < 10 → e ≠ y → F e y = true → F e k = true) := hnr
                clear hnr
                go_wp2_with (first | (refine wpList_load_row_on (by simp [Region.wanted, yielded, hki]) 65 _ rfl w3.heap.size rfl 65 arr (0, 0) _ HH.out Try.underlying65 rfl (by rw [infoD, HA1.out]) ?_) | (go_at_call 49; refine (nearestI arr F k y _ HA2.out hk10 hy10).mono ?_; rintro e w4 ⟨⟨v, rfl, hq⟩, hb4⟩; have hv : v = false := (by cases v with | true => exact absurd (hq.1 rfl) HNR.out | false => rfl); subst hv; have HH4 : Hid (w4.heap[w3.heap.size]? = some (.cells arr 65 (0, 0))) := (hb4.block _ (by exact hzr)).trans HH.out; have HB4 : Hid (Below w.heap.size w w4) := HB.out.trans (hb4.mono HB.out.size); clear hb4 hq))
                go_roundw
                case rel =>
                  refine ⟨k + 1, by omega, by go_num, fun c hc h1 h2 => ?_, HH4.out, HB4.out⟩
                  rcases Nat.lt_succ_iff_lt_or_eq.1 hc with h | rfl
                  · exact HD.out c h h1 h2
                  · exact HNR.out
                case measure => simp [intOf]; omega
        · have HKE : Hid (k = d.blocks.length) := (by show _ = _; omega)
          clear hd hh hBw
          go_wp2_with fail
          go_ret
          refine ⟨⟨_, rfl, .inl ⟨⟨HR.out, HBB.out⟩, ?_⟩⟩, HB.out⟩
          obtain ⟨z, hz⟩ := near_is (succN d.blocks) y d.blocks.length
          have hz0 := hz
          rcases hz with ⟨rfl, _⟩ | ⟨x, rfl, h1, h2, h3, h4⟩
          · exact hz0
          · refine absurd (fun e he h5 h6 => ?_) (HD.out x (by rw [HKE.out]; exact h1) h2 ((HFD.out x y).2 h3))
            exact (HFD.out e x).2 (h4 e (HLW.out e y h6) h5 ((HFD.out e y).1 h6))
    · have HB : Hid (¬ (0 ≤ b ∧ b < d.blocks.length)) := hB
      go_enter Try.func23, Try.ntmps23
      go_wp2_with (first | (go_at_call 41; refine (graphI lo d _ _ _ _ _ HSM.out (HK.out.keep (agree_alloc _ _ _))).mono ?_; rintro e w1 ⟨hb1, h1⟩; obtain ⟨N, hN, rfl, hG⟩ := (h1.resolve_left (fun h => h.1 HR.out)).2; have HG : Hid (Graph w1 N d.blocks.length (succN d.blocks)) := hG; have HX1 : Hid (Below w.heap.size w w1) := ((Below.refl _ _).alloc (Nat.le_refl _) _).trans (hb1.mono (by simp)); clear hb1 h1 hG hN) | (go_at_call 45; refine (belowI_f _ _ _ (by omega)).mono ?_; rintro e w2 ⟨rfl, rfl⟩))
      go_ret
      exact ⟨⟨_, rfl, .inr ⟨fun h => HB.out h.2, rfl⟩⟩, HX1.out⟩
  · have HR : Hid (¬ RightL d.blocks) := hR
    clear hR
    go_enter Try.func23, Try.ntmps23
    go_wp2_with (first | (go_at_call 41; refine (graphI lo d _ _ _ _ _ HSM.out (HK.out.keep (agree_alloc _ _ _))).mono ?_; rintro e w1 ⟨hb1, h1⟩; obtain rfl := (h1.resolve_right (fun h => HR.out h.1)).2; have HX1 : Hid (Below w.heap.size w w1) := ((Below.refl _ _).alloc (Nat.le_refl _) _).trans (hb1.mono (by simp)); clear hb1 h1) | (go_at_call 45; refine (belowI_f _ _ _ (by omega)).mono ?_; rintro e w2 ⟨rfl, rfl⟩))
    go_ret
    exact ⟨⟨_, rfl, .inr ⟨fun h => HR.out h.1, rfl⟩⟩, HX1.out⟩
end Go.Proofs.Ytilhmpilkhadfaa
