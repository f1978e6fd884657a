/- The core of the law FnDominates. -/
import Derived.Test.YtilhmpilkhadfaaIdmD
import Derived.Test.YtilhmpilkhadfaaRea
import Derived.Test.YtilhmpilkhadfaaAbv
namespace Go.Proofs.Ytilhmpilkhadfaa
open Go.RowKit

theorem domAbv {w5 : World} (x : Abv (fun v => Below w5.heap.size w5 v)) (lo : Nat) (ts : List TermD) (u : Option Addr) (c : Nat) (a b : Int) (v : Bool) (hl : ts.length ≤ 7) (hb : BlocksAt w5 lo u (bare ts)) (hv : Tells v (DomF (bare ts) a b)) :
    Calls Try.prog 20 #[.agg #[.slice none 0 0, .int .i64 8, .slice u ts.length c], .int .i64 a, .int .i64 b] x.v fun e w'' => e = .returned (.bool v) ∧ ∃ y : Abv (fun v => Below w5.heap.size w5 v), w'' = y.v :=
  abv_call x (domT lo ts u c a b v x.v hl (hb.keep (agree_of_below x.ok _)) hv)
theorem domMbv {w5 : World} (x : Abv (fun v => Below w5.heap.size w5 v)) (lo : Nat) (ts : List TermD) (u : Option Addr) (c : Nat) (a b : Int) (v : Bool) (hl : ts.length ≤ 7) (hb : BlocksAt w5 lo u (bare ts)) (hv : Tells v (DomF (bare ts) a b)) :
    Calls Try.prog 21 #[.agg #[.slice none 0 0, .int .i64 8, .slice u ts.length c], .int .i64 a, .int .i64 b] x.v fun e w'' => e = .returned (.bool v) ∧ ∃ y : Abv (fun v => Below w5.heap.size w5 v), w'' = y.v := by
  refine abv_call x ?_
  have h := dominatesS lo (bareF ts) none 0 u c a b x.v (sm_bareF hl) (hb.keep (agree_of_below x.ok _))
  rw [show (bareF ts).blocks.length = ts.length from bare_len ts] at h
  refine h.mono ?_
  rintro e w1 ⟨⟨v', rfl, hv'⟩, hb1⟩
  have e2 : v' = v := by rw [Bool.eq_iff_iff]; exact hv'.trans hv.symm
  exact ⟨by rw [e2], hb1⟩
theorem reachT (lo : Nat) (ts : List TermD) (u : Option Addr) (c : Nat) (r : List Int) (w : World) (hl : ts.length ≤ 7) (hb : BlocksAt w lo u (bare ts)) (hr : ReachR (bare ts) r) :
    Calls Try.prog 11 #[.agg #[.slice none 0 0, .int .i64 8, .slice u ts.length c]] w fun e w' => ∃ u c, e = .returned (.slice u r.length c) ∧ OI w' w.heap.size u r ∧ Below w.heap.size w w' := by
  have h := reachI lo (bareF ts) none 0 u c r w (sm_bareF hl) hb hr
  rw [show (bareF ts).blocks.length = ts.length from bare_len ts] at h
  exact h
theorem tells_some (p : Prop) : ∃ v, Tells v p := by
  by_cases h : p
  · exact ⟨true, tells_yes h⟩
  · exact ⟨false, tells_no h⟩
/-- What is reached is dominated by itself and by the first. -/
theorem reach_at {l : List BlockD} {r : List Int} (hr : ReachR l r) {i : Nat} (hi : i < r.length) : RightL l ∧ ∃ x : Nat, r.getD i 0 = x ∧ x < l.length ∧ Rch (succN l) none x := by
  by_cases hR : RightL l
  · obtain ⟨O, rfl, hm, _, _⟩ := hr.1 hR
    have ht := post_told (succN l) none l.length (by have := hR.1; omega) (right_lt hR)
    rw [ints_len] at hi
    have hx : O.getD i 0 ∈ O := getD_mem 0 O i hi
    exact ⟨hR, O.getD i 0, ints_getD O i, ht.low _ ((ht.mem _).2 ((hm _).1 hx)), (hm _).1 hx⟩
  · rw [hr.2 hR] at hi
    simp at hi
theorem reach_self {l : List BlockD} {r : List Int} (hr : ReachR l r) {i : Nat} (hi : i < r.length) : DomF l (r.getD i 0) (r.getD i 0) ∧ DomF l 0 (r.getD i 0) := by
  obtain ⟨hR, x, e, hx, hd⟩ := reach_at hr hi
  rw [e]
  exact ⟨⟨hR, by omega, by omega, Dom.self hd⟩, ⟨hR, by have := hR.1; omega, by omega, Dom.first hd⟩⟩
theorem reach_other {l : List BlockD} {r : List Int} (hr : ReachR l r) {i k : Nat} (hi : i < r.length) (hk : k < r.length) (h1 : DomF l (r.getD i 0) (r.getD k 0)) (h2 : DomF l (r.getD k 0) (r.getD i 0)) : i = k := by
  obtain ⟨hR, x, e, hx, hd⟩ := reach_at hr hi
  obtain ⟨_, y, e', hy, hd'⟩ := reach_at hr hk
  rw [e, e'] at h1 h2
  have hxy : x = y := Dom.both (by simpa using h1.2.2.2) (by simpa using h2.2.2.2)
  obtain ⟨O, rfl, _, ho, _⟩ := hr.1 hR
  rw [ints_len] at hi hk
  rw [ints_getD] at e e'
  have e3 : O.getD i 0 = O.getD k 0 := by omega
  rw [List.pairwise_iff_getElem] at ho
  simp only [List.getD, List.getElem?_eq_getElem hi, List.getElem?_eq_getElem hk, Option.getD_some] at e3
  rcases Nat.lt_trichotomy i k with h | h | h
  · have := ho i k hi hk h; omega
  · exact h
  · have := ho k i hk hi h; omega
theorem dom_trans {l : List BlockD} {a b c : Int} (h1 : DomF l a b) (h2 : DomF l b c) : DomF l a c := ⟨h1.1, h1.2.1, h2.2.2.1, h1.2.2.2.trans h2.2.2.2⟩

set_option maxRecDepth 100000 in
set_option maxHeartbeats 16000000 in
theorem fnDominates_core (a0 : Option Addr) (len cap : Nat) (w : World) (hc : Code a0 len w.heap.size w) :
    Calls Try.prog 4 #[.slice a0 len cap] w fun e w' => e = .returned (.bool true) ∧ Below w.heap.size w w' := by
  by_cases hb : 1048576 < len
  · have d : decide (1048576 < len) = true := by simpa using hb
    go_enter Try.func4, Try.ntmps4
    go_wp2_with (go_at_call 9; refine (big_any _ _ _ _).mono ?_; rintro e w' ⟨rfl, rfl⟩)
    go_ret
    exact ⟨rfl, Below.refl _ _⟩
  · have d : decide (1048576 < len) = false := by simpa using hb
    have hl : len ≤ 1048576 := by omega
    go_enter Try.func4, Try.ntmps4
    go_wp2_with (first | (go_at_call 9; refine (big_any _ _ _ _).mono ?_; rintro e w' ⟨rfl, rfl⟩) | (go_at_call 19; refine (drawDom _ _ _ _ hl hc).mono ?_; rintro e w2 ⟨ts, u, c, a, b, rfl, hg⟩; have HG : Hid (Grph w' w2 ts u) := hg; clear hg))
    have hts : ts.length ≤ 7 := HG.out.1
    obtain ⟨w5, hw5⟩ : ∃ w5, w5 = w2.alloc (.cells #[.slice none 0 0, .int .i64 8, .slice u ts.length c] 27) := ⟨_, rfl⟩
    have HX5 : Hid (Below (w2.heap.size + 1) (w2.alloc (.cells #[.slice none 0 0, .int .i64 8, .slice u ts.length c] 27)) w5) := by rw [hw5]; exact Below.refl _ _
    have HB5 : Hid (BlocksAt w5 w'.heap.size u (bare ts)) := HG.out.2.1.keep (agree_of_below (below_box HX5.out) _)
    have X0 : ∀ x : Abv (fun v => Below w5.heap.size w5 v), x.v.cell? ⟨w2.heap.size, 0, none⟩ = some (.slice none 0 0) ∧ x.v.cell? ⟨w2.heap.size, 1, none⟩ = some (.int .i64 8) ∧ x.v.cell? ⟨w2.heap.size, 2, none⟩ = some (.slice u ts.length c) := fun x => box3 (box_next HX5.out x.ok)
    have x0 := fun x => (X0 x).1
    have x1 := fun x => (X0 x).2.1
    have x2 := fun x => (X0 x).2.2
    clear X0
    have hne : Nonempty (Abv (fun v => Below w5.heap.size w5 v)) := abv_ne (Below.refl _ _)
    obtain ⟨v0, hv0⟩ := tells_some (DomF (bare ts) a b)
    have HV0 : Hid (Tells v0 (DomF (bare ts) a b)) := hv0
    clear hv0
    have hnn : ∀ v : World, (binOp .neq 4 (.bool v0) (.bool v0)).run Try.prog v = .ok (.bool false) v := by intro v; cases v0 <;> rfl
    rw [← hw5]
    clear hw5
    refine wp_region_abv (fun v => Below w5.heap.size w5 v) (by kernel_rfl) (by kernel_rfl) (drew_below (Below.refl _ _)) ?_
    repeat (go_big_quiet_step (first | (go_at_call 20; exact domAbv _ _ ts u c _ _ v0 hts HB5.out HV0.out) | (go_at_call 21; exact domMbv _ _ ts u c _ _ v0 hts HB5.out HV0.out)))
    refine wpQuiet_nil ?_
    rintro w6 ⟨⟨w6, hw6⟩, rfl⟩
    have Hw6 : Hid (Below w5.heap.size w5 w6) := hw6
    clear hw6
    clear x0 x1 x2 hne hnn HV0
    obtain ⟨p1, p2, p3⟩ := box3 (box_next HX5.out Hw6.out)
    obtain ⟨r, hr, hrl⟩ := ReachR_some (bare ts)
    have HRR : Hid (ReachR (bare ts) r) := hr
    have HB6 : Hid (BlocksAt w6 w'.heap.size u (bare ts)) := HB5.out.keep (agree_of_below Hw6.out _)
    have HX6 : Hid (Below (w2.heap.size + 1) (w2.alloc (.cells #[.slice none 0 0, .int .i64 8, .slice u ts.length c] 27)) w6) := box_next HX5.out Hw6.out
    clear hr HB5 HX5 Hw6
    go_wp2_with (go_at_call 11; refine (reachT _ ts u c r _ hts HB6.out HRR.out).mono ?_; rintro e w7 ⟨ur, cr, rfl, hoi, hb7⟩; have HO7 : Hid (OI w7 w6.heap.size ur r) := hoi; have HX7 : Hid (Below (w2.heap.size + 1) (w2.alloc (.cells #[.slice none 0 0, .int .i64 8, .slice u ts.length c] 27)) w7) := box_next HX6.out hb7; have HB7 : Hid (BlocksAt w7 w'.heap.size u (bare ts)) := HB6.out.keep (agree_of_below hb7 _); clear hoi hb7 p1 p2 p3)
    clear HB6 HX6
    have X0 : ∀ x : Abv (fun v => Below w7.heap.size w7 v), x.v.cell? ⟨w2.heap.size, 0, none⟩ = some (.slice none 0 0) ∧ x.v.cell? ⟨w2.heap.size, 1, none⟩ = some (.int .i64 8) ∧ x.v.cell? ⟨w2.heap.size, 2, none⟩ = some (.slice u ts.length c) := fun x => box3 (box_next HX7.out x.ok)
    have x0 := fun x => (X0 x).1
    have x1 := fun x => (X0 x).2.1
    have x2 := fun x => (X0 x).2.2
    clear X0
    have hne : Nonempty (Abv (fun v => Below w7.heap.size w7 v)) := abv_ne (Below.refl _ _)
    have HE : Hid (Below w'.heap.size w' w7) := HG.out.2.2.trans ((below_box HX7.out).mono HG.out.2.2.size)
    have HC : Hid (∀ i, i < r.length → ∃ g, ur = some ⟨g, 0, none⟩ ∧ ∀ x : Abv (fun v => Below w7.heap.size w7 v), x.v.cell? ⟨g, i, none⟩ = some (.int .i64 (r.getD i 0))) := fun i hi => by
      rcases HO7.out.2 with h | ⟨g, cur, rfl, _, hb, hcu⟩
      · rw [h] at hi; simp at hi
      · exact ⟨g, rfl, fun x => (cell_block (x.ok.block g (Array.getElem?_eq_some_iff.1 hb).1)).trans ((cell_of_heap hb).trans (hcu i hi))⟩
    clear HO7 HX7
    go_loopw [7] (fun q wr => ∃ i : Nat, i ≤ r.length ∧ q = .int .i64 i ∧ Hid (Below w7.heap.size w7 wr)) (fun q _ => r.length - (intOf q).toNat)
    case atStart => exact ⟨0, by omega, rfl, Below.refl _ _⟩
    case round =>
      obtain ⟨i, hi, rfl, HW⟩ := hrel
      by_cases hlt : i < r.length
      · obtain ⟨g, rfl, cA⟩ := HC.out i hlt
        obtain ⟨hs1, hs2⟩ := reach_self HRR.out hlt
        obtain ⟨A, HA⟩ : ∃ A : Int, Hid (r.getD i 0 = A) := ⟨_, rfl⟩
        rw [HA.out] at hs1 hs2
        simp only [HA.out] at cA
        have HV1 : Hid (Tells true (DomF (bare ts) A A)) := tells_yes hs1
        have HV2 : Hid (Tells true (DomF (bare ts) 0 A)) := tells_yes hs2
        clear hs1 hs2
        go_wp2_with fail
        refine wp_region_abv (fun v => Below w7.heap.size w7 v) (by kernel_rfl) (by kernel_rfl) (drew_below HW.out) ?_
        repeat (go_big_quiet_step (first | (go_at_call 20; exact domAbv _ _ ts u c _ _ true hts HB7.out HV1.out) | (go_at_call 20; exact domAbv _ _ ts u c _ _ true hts HB7.out HV2.out)))
        refine wpQuiet_nil ?_
        rintro w8 ⟨⟨w8, hw8⟩, rfl⟩
        have Hw8 : Hid (Below w7.heap.size w7 w8) := hw8
        clear hw8
        go_wp2_with fail
        go_loopw [8] (fun q wr => ∃ k : Nat, k ≤ r.length ∧ q = .int .i64 k ∧ Hid (Below w7.heap.size w7 wr)) (fun q _ => r.length - (intOf q).toNat)
        case atStart => exact ⟨0, by omega, rfl, Hw8.out⟩
        case round =>
          obtain ⟨k, hk, rfl, HK⟩ := hrel
          clear Hw8 HW
          by_cases hltk : k < r.length
          · obtain ⟨g', hg', cB⟩ := HC.out k hltk
            cases hg'
            obtain ⟨B, HBB⟩ : ∃ B : Int, Hid (r.getD k 0 = B) := ⟨_, rfl⟩
            simp only [HBB.out] at cB
            by_cases hAB : DomF (bare ts) A B
            · have HV3 : Hid (Tells true (DomF (bare ts) A B)) := tells_yes hAB
              have HAB : Hid (DomF (bare ts) A B) := hAB
              clear hAB
              go_wp2_with fail
              refine wp_region_abv (fun v => Below w7.heap.size w7 v) (by kernel_rfl) (by kernel_rfl) (drew_below HK.out) ?_
              repeat (go_big_quiet_step (first | (go_at_call 20; exact domAbv _ _ ts u c _ _ true hts HB7.out HV3.out)))
              refine wpQuiet_nil ?_
              rintro w9 ⟨⟨w9, hw9⟩, rfl⟩
              have Hw9 : Hid (Below w7.heap.size w7 w9) := hw9
              clear hw9
              by_cases hik : i = k
              · have hd1 : ((i : Int) == (k : Int)) = true := by simp [hik]
                have hd2 : ((i : Int) != (k : Int)) = false := by simp [hik]
                go_wp2_with fail
                refine wp_region_abv (fun v => Below w7.heap.size w7 v) (by kernel_rfl) (by kernel_rfl) (drew_below Hw9.out) ?_
                repeat (go_big_quiet_step (fail))
                refine wpQuiet_nil ?_
                rintro w10 ⟨⟨w10, hw10⟩, rfl⟩
                have Hw10 : Hid (Below w7.heap.size w7 w10) := hw10
                clear hw10
                go_wp2_with fail
                go_loopw [10] (fun q wr => ∃ j : Nat, j ≤ r.length ∧ q = .int .i64 j ∧ Hid (Below w7.heap.size w7 wr)) (fun q _ => r.length - (intOf q).toNat)
                case atStart => exact ⟨0, by omega, rfl, Hw10.out⟩
                case round =>
                  obtain ⟨j, hj, rfl, HJ⟩ := hrel
                  by_cases hltj : j < r.length
                  · obtain ⟨g'', hg'', cC⟩ := HC.out j hltj
                    cases hg''
                    obtain ⟨D, HD⟩ : ∃ D : Int, Hid (r.getD j 0 = D) := ⟨_, rfl⟩
                    simp only [HD.out] at cC
                    have hjt : decide ((j : Int) < (r.length : Int)) = true := by simp; omega
                    by_cases hBD : DomF (bare ts) B D
                    · have HV5 : Hid (Tells true (DomF (bare ts) B D)) := tells_yes hBD
                      have HV6 : Hid (Tells true (DomF (bare ts) A D)) := tells_yes (dom_trans HAB.out hBD)
                      clear hBD
                      go_wp2_with fail
                      refine wp_region_abv (fun v => Below w7.heap.size w7 v) (by kernel_rfl) (by kernel_rfl) (drew_below HJ.out) ?_
                      repeat (go_big_quiet_step (first | (go_at_call 20; exact domAbv _ _ ts u c _ _ true hts HB7.out HV5.out) | (go_at_call 20; exact domAbv _ _ ts u c _ _ true hts HB7.out HV6.out)))
                      refine wpQuiet_nil ?_
                      rintro w12 ⟨⟨w12, hw12⟩, rfl⟩
                      have Hw12 : Hid (Below w7.heap.size w7 w12) := hw12
                      clear hw12
                      go_wp2_with fail
                      exact ⟨⟨j + 1, by omega, by go_num, Hw12.out⟩, by simp only [intOf]; omega⟩
                    · have HV5 : Hid (Tells false (DomF (bare ts) B D)) := tells_no hBD
                      clear hBD
                      go_wp2_with fail
                      refine wp_region_abv (fun v => Below w7.heap.size w7 v) (by kernel_rfl) (by kernel_rfl) (drew_below HJ.out) ?_
                      repeat (go_big_quiet_step (first | (go_at_call 20; exact domAbv _ _ ts u c _ _ false hts HB7.out HV5.out)))
                      refine wpQuiet_nil ?_
                      rintro w12 ⟨⟨w12, hw12⟩, rfl⟩
                      have Hw12 : Hid (Below w7.heap.size w7 w12) := hw12
                      clear hw12
                      go_wp2_with fail
                      exact ⟨⟨j + 1, by omega, by go_num, Hw12.out⟩, by simp only [intOf]; omega⟩
                  · have hjf : decide ((j : Int) < (r.length : Int)) = false := by simp; omega
                    go_wp2_with fail
                    exact ⟨⟨k + 1, by omega, by go_num, HJ.out⟩, by simp only [intOf]; omega⟩
              · have hd1 : ((i : Int) == (k : Int)) = false := by simp; omega
                have hd2 : ((i : Int) != (k : Int)) = true := by simp; omega
                have HV4 : Hid (Tells false (DomF (bare ts) B A)) := tells_no (fun h => hik (reach_other HRR.out hlt hltk (by rw [HA.out, HBB.out]; exact HAB.out) (by rw [HA.out, HBB.out]; exact h)))
                go_wp2_with fail
                refine wp_region_abv (fun v => Below w7.heap.size w7 v) (by kernel_rfl) (by kernel_rfl) (drew_below Hw9.out) ?_
                repeat (go_big_quiet_step (first | (go_at_call 20; exact domAbv _ _ ts u c _ _ false hts HB7.out HV4.out)))
                refine wpQuiet_nil ?_
                rintro w10 ⟨⟨w10, hw10⟩, rfl⟩
                have Hw10 : Hid (Below w7.heap.size w7 w10) := hw10
                clear hw10
                go_wp2_with fail
                go_loopw [10] (fun q wr => ∃ j : Nat, j ≤ r.length ∧ q = .int .i64 j ∧ Hid (Below w7.heap.size w7 wr)) (fun q _ => r.length - (intOf q).toNat)
                case atStart => exact ⟨0, by omega, rfl, Hw10.out⟩
                case round =>
                  obtain ⟨j, hj, rfl, HJ⟩ := hrel
                  by_cases hltj : j < r.length
                  · obtain ⟨g'', hg'', cC⟩ := HC.out j hltj
                    cases hg''
                    obtain ⟨D, HD⟩ : ∃ D : Int, Hid (r.getD j 0 = D) := ⟨_, rfl⟩
                    simp only [HD.out] at cC
                    have hjt : decide ((j : Int) < (r.length : Int)) = true := by simp; omega
                    by_cases hBD : DomF (bare ts) B D
                    · have HV5 : Hid (Tells true (DomF (bare ts) B D)) := tells_yes hBD
                      have HV6 : Hid (Tells true (DomF (bare ts) A D)) := tells_yes (dom_trans HAB.out hBD)
                      clear hBD
                      go_wp2_with fail
                      refine wp_region_abv (fun v => Below w7.heap.size w7 v) (by kernel_rfl) (by kernel_rfl) (drew_below HJ.out) ?_
                      repeat (go_big_quiet_step (first | (go_at_call 20; exact domAbv _ _ ts u c _ _ true hts HB7.out HV5.out) | (go_at_call 20; exact domAbv _ _ ts u c _ _ true hts HB7.out HV6.out)))
                      refine wpQuiet_nil ?_
                      rintro w12 ⟨⟨w12, hw12⟩, rfl⟩
                      have Hw12 : Hid (Below w7.heap.size w7 w12) := hw12
                      clear hw12
                      go_wp2_with fail
                      exact ⟨⟨j + 1, by omega, by go_num, Hw12.out⟩, by simp only [intOf]; omega⟩
                    · have HV5 : Hid (Tells false (DomF (bare ts) B D)) := tells_no hBD
                      clear hBD
                      go_wp2_with fail
                      refine wp_region_abv (fun v => Below w7.heap.size w7 v) (by kernel_rfl) (by kernel_rfl) (drew_below HJ.out) ?_
                      repeat (go_big_quiet_step (first | (go_at_call 20; exact domAbv _ _ ts u c _ _ false hts HB7.out HV5.out)))
                      refine wpQuiet_nil ?_
                      rintro w12 ⟨⟨w12, hw12⟩, rfl⟩
                      have Hw12 : Hid (Below w7.heap.size w7 w12) := hw12
                      clear hw12
                      go_wp2_with fail
                      exact ⟨⟨j + 1, by omega, by go_num, Hw12.out⟩, by simp only [intOf]; omega⟩
                  · have hjf : decide ((j : Int) < (r.length : Int)) = false := by simp; omega
                    go_wp2_with fail
                    exact ⟨⟨k + 1, by omega, by go_num, HJ.out⟩, by simp only [intOf]; omega⟩
            · have HV3 : Hid (Tells false (DomF (bare ts) A B)) := tells_no hAB
              clear hAB
              go_wp2_with fail
              refine wp_region_abv (fun v => Below w7.heap.size w7 v) (by kernel_rfl) (by kernel_rfl) (drew_below HK.out) ?_
              repeat (go_big_quiet_step (first | (go_at_call 20; exact domAbv _ _ ts u c _ _ false hts HB7.out HV3.out)))
              refine wpQuiet_nil ?_
              rintro w9 ⟨⟨w9, hw9⟩, rfl⟩
              have Hw9 : Hid (Below w7.heap.size w7 w9) := hw9
              clear hw9
              go_wp2_with fail
              refine wp_region_abv (fun v => Below w7.heap.size w7 v) (by kernel_rfl) (by kernel_rfl) (drew_below Hw9.out) ?_
              repeat (go_big_quiet_step (fail))
              refine wpQuiet_nil ?_
              rintro w10 ⟨⟨w10, hw10⟩, rfl⟩
              have Hw10 : Hid (Below w7.heap.size w7 w10) := hw10
              clear hw10
              go_wp2_with fail
              go_loopw [10] (fun q wr => q = .int .i64 0 ∧ Hid (Below w7.heap.size w7 wr)) (fun _ _ => 0)
              case atStart => exact ⟨rfl, Hw10.out⟩
              case round =>
                obtain ⟨rfl, HJ⟩ := hrel
                go_wp2_with fail
                exact ⟨⟨k + 1, by omega, by go_num, HJ.out⟩, by simp only [intOf]; omega⟩
          · go_wp2_with fail
            exact ⟨⟨i + 1, by omega, by go_num, HK.out⟩, by simp only [intOf]; omega⟩
      · go_wp2_with fail
        go_ret
        exact ⟨rfl, HE.out.trans (HW.out.mono HE.out.size)⟩
end Go.Proofs.Ytilhmpilkhadfaa
