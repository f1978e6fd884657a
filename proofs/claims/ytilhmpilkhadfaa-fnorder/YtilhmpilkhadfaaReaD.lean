/- The core of the law FnReached. -/
import Derived.Test.YtilhmpilkhadfaaDomD
import Derived.Test.YtilhmpilkhadfaaLwL
import Derived.Test.YtilhmpilkhadfaaSuc2
namespace Go.Proofs.Ytilhmpilkhadfaa
open Go.RowKit

theorem succsT (lo : Nat) (ts : List TermD) (u : Option Addr) (c : Nat) (b : Int) (r : List Int) (w : World) (hl : ts.length ≤ 7) (hb : BlocksAt w lo u (bare ts)) (hr : SuccR (bare ts) b r) (hrl : r.length ≤ 1048576) :
    Calls Try.prog 15 #[.agg #[.slice none 0 0, .int .i64 8, .slice u ts.length c], .int .i64 b] w fun e w' => ∃ u' c', e = .returned (.slice u' r.length c') ∧ OI w' w.heap.size u' r ∧ Below w.heap.size w w' := by
  have h := succsI lo (bareF ts) none 0 u c b r w (sm_bareF hl) hb hr
  rw [show (bareF ts).blocks.length = ts.length from bare_len ts] at h
  refine h.mono ?_
  rintro e w1 ⟨v, rfl, ho, hb1⟩
  obtain ⟨u', c', rfl, g⟩ := row_own hrl ho
  exact ⟨u', c', rfl, g, hb1⟩
theorem predsT (lo : Nat) (ts : List TermD) (u : Option Addr) (c : Nat) (b : Int) (r : List Int) (w : World) (hl : ts.length ≤ 7) (hb : BlocksAt w lo u (bare ts)) (hr : PredR (bare ts) b r) (hrl : r.length ≤ 1048576) :
    Calls Try.prog 16 #[.agg #[.slice none 0 0, .int .i64 8, .slice u ts.length c], .int .i64 b] w fun e w' => ∃ u' c', e = .returned (.slice u' r.length c') ∧ OI w' w.heap.size u' r ∧ Below w.heap.size w w' := by
  have h := predsI lo (bareF ts) none 0 u c b r w (sm_bareF hl) hb hr
  rw [show (bareF ts).blocks.length = ts.length from bare_len ts] at h
  refine h.mono ?_
  rintro e w1 ⟨v, rfl, ho, hb1⟩
  obtain ⟨u', c', rfl, g⟩ := row_own hrl ho
  exact ⟨u', c', rfl, g, hb1⟩
theorem reachM (lo : Nat) (ts : List TermD) (u : Option Addr) (c : Nat) (r : List Int) (w : World) (hl : ts.length ≤ 7) (hb : BlocksAt w lo u (bare ts)) (hr : ReachR (bare ts) r) :
    Calls Try.prog 13 #[.agg #[.slice none 0 0, .int .i64 8, .slice u ts.length c]] w fun e w' => ∃ u c, e = .returned (.slice u r.length c) ∧ IntsAt w' w.heap.size u r ∧ Below w.heap.size w w' := by
  have h := reachF lo (bareF ts) none 0 u c r w (sm_bareF hl) hb hr
  rw [show (bareF ts).blocks.length = ts.length from bare_len ts] at h
  exact h
theorem reach_mem {l : List BlockD} {r : List Int} (hr : ReachR l r) (hR : RightL l) {x : Nat} (h : Rch (succN l) none x) : (x : Int) ∈ r := by
  obtain ⟨O, rfl, hm, _, _⟩ := hr.1 hR
  exact ints_mem.2 ⟨x, (hm x).2 h, rfl⟩
/-- Those that one leads to that is reached are reached. -/
theorem reach_succ {l : List BlockD} {r rs : List Int} (hr : ReachR l r) {i : Nat} (hi : i < r.length) (hs : SuccR l (r.getD i 0) rs) : ∀ y ∈ rs, y ∈ r := by
  obtain ⟨hR, x, e, hx, hd⟩ := reach_at hr hi
  rw [e] at hs
  have h1 := hs.1 ⟨hR, by omega, by omega⟩
  intro y hy
  rw [h1] at hy
  have hy2 := hy
  simp only [Int.toNat_natCast] at hy hy2
  have hin := hR.2.2 x hx y hy
  obtain ⟨z, rfl⟩ : ∃ z : Nat, y = z := ⟨y.toNat, by omega⟩
  refine reach_mem hr hR fun C h0 hC => ?_
  have hz : z ∈ succN l x := by
    have := (mem_succ hR hx).1 hy
    simpa using this
  exact hC x (hd C h0 hC) z hz (by simp)
/-- The first, or one ahead of it is reached. -/
theorem reach_pred {l : List BlockD} {r ps : List Int} (hr : ReachR l r) {i : Nat} (hi : i < r.length) (hs : PredR l (r.getD i 0) ps) : r.getD i 0 = 0 ∨ ∃ y ∈ ps, y ∈ r := by
  obtain ⟨hR, x, e, hx, hd⟩ := reach_at hr hi
  rw [e] at hs ⊢
  have ht := post_told (succN l) none l.length (by have := hR.1; omega) (right_lt hR)
  rcases ht.ahead x ((ht.mem x).2 hd) with h0 | ⟨z, t1, t2, ee, hz, hxz⟩
  · exact .inl (by omega)
  · have hzm : z ∈ post (succN l) none l.length := by rw [ee]; exact List.mem_append_right _ (List.mem_cons_of_mem _ hz)
    refine .inr ⟨z, ?_, reach_mem hr hR ((ht.mem z).1 hzm)⟩
    rw [hs.1 ⟨hR, by omega, by omega⟩]
    refine ints_mem.2 ⟨z, ?_, rfl⟩
    unfold predN
    exact List.mem_filter.2 ⟨List.mem_range.2 (ht.low z hzm), by simpa using hxz⟩
theorem reach_rise {l : List BlockD} {r : List Int} (hr : ReachR l r) : r.Pairwise (· < ·) := by
  by_cases hR : RightL l
  · obtain ⟨O, rfl, _, ho, _⟩ := hr.1 hR
    exact ints_rise ho
  · rw [hr.2 hR]; exact List.Pairwise.nil
theorem reach_first {l : List BlockD} {r : List Int} (hr : ReachR l r) (h : 0 < r.length) : (0 : Int) ∈ r := by
  obtain ⟨hR, _⟩ := reach_at hr h
  exact reach_mem hr hR (fun C h0 _ => h0 (by simp))

set_option maxRecDepth 100000 in
set_option maxHeartbeats 16000000 in
theorem fnReached_core (a0 : Option Addr) (len cap : Nat) (w : World) (hc : Code a0 len w.heap.size w) :
    Calls Try.prog 3 #[.slice a0 len cap] w fun e w' => e = .returned (.bool true) ∧ Below w.heap.size w w' := by
  by_cases hb : 1048576 < len
  · have d : decide (1048576 < len) = true := by simpa using hb
    go_enter Try.func3, Try.ntmps3
    go_wp2_with (go_at_call 9; refine (big_any _ _ _ _).mono ?_; rintro e w' ⟨rfl, rfl⟩)
    go_ret
    exact ⟨rfl, Below.refl _ _⟩
  · have d : decide (1048576 < len) = false := by simpa using hb
    have hl : len ≤ 1048576 := by omega
    go_enter Try.func3, Try.ntmps3
    go_wp2_with (first | (go_at_call 9; refine (big_any _ _ _ _).mono ?_; rintro e w' ⟨rfl, rfl⟩) | (go_at_call 10; refine (drawReached _ _ _ _ hl hc).mono ?_; rintro e w2 ⟨ts, u, c, rfl, hg⟩; have HG : Hid (Grph w' w2 ts u) := hg; clear hg))
    have hts : ts.length ≤ 7 := HG.out.1
    obtain ⟨r, hr, hrl⟩ := ReachR_some (bare ts)
    have HRR : Hid (ReachR (bare ts) r) := hr
    clear hr
    refine (reachT _ ts u c r _ hts (HG.out.2.1.keep (agree_alloc _ _ _)) HRR.out).mono ?_
    rintro e w3 ⟨ur, cr, rfl, hoi, hb3⟩
    have HX3 : Hid (Below (w2.heap.size + 1) (w2.alloc (.cells #[.slice none 0 0, .int .i64 8, .slice u ts.length c] 27)) w3) := box_first hb3
    have HI3 : Hid (IntsAt w3 w2.heap.size ur r) := (hoi.at).low (by simp)
    have HB3 : Hid (BlocksAt w3 w'.heap.size u (bare ts)) := HG.out.2.1.keep (agree_of_below (below_box HX3.out) _)
    obtain ⟨p1, p2, p3⟩ := box3 HX3.out
    clear hoi hb3
    go_wp2_with fail
    refine (reachM _ ts u c r _ hts HB3.out HRR.out).mono ?_
    rintro e w4 ⟨um, cm, rfl, him, hb4⟩
    have HX4 : Hid (Below (w2.heap.size + 1) (w2.alloc (.cells #[.slice none 0 0, .int .i64 8, .slice u ts.length c] 27)) w4) := box_next HX3.out hb4
    have HI4 : Hid (IntsAt w4 w2.heap.size ur r) := HI3.out.keep (agree_of_below hb4 _)
    have HM4 : Hid (IntsAt w4 w3.heap.size um r) := him
    have HB4 : Hid (BlocksAt w4 w'.heap.size u (bare ts)) := HB3.out.keep (agree_of_below hb4 _)
    clear him hb4 HX3 HI3 HB3 p1 p2 p3
    obtain ⟨p1, p2, p3⟩ := box3 HX4.out
    by_cases h0 : r.length = 0
    · have hd : ((r.length : Int) == 0) = true := by simp [h0]
      clear h0
      go_wp2_with fail
      refine (sameL _ _ _ _ _ _ r _ hrl HI4.out HM4.out).mono ?_
      rintro e w5 ⟨rfl, n5, rfl⟩
      go_wp2_with fail
      refine (reachM _ ts u c r _ hts (by exact HB4.out) HRR.out).mono ?_
      rintro e w6 ⟨um6, cm6, rfl, him6, hb6⟩
      have hb6' : Below w4.heap.size w4 w6 := ⟨hb6.os, hb6.tape, hb6.output, hb6.size, hb6.block⟩
      have HI6 : Hid (IntsAt w6 w2.heap.size ur r) := HI4.out.keep (agree_of_below hb6' _)
      have HM6 : Hid (IntsAt w6 (w4.drewN n5).heap.size um6 r) := him6
      go_wp2_with fail
      refine (sameL _ _ _ _ _ _ r _ hrl HI6.out HM6.out).mono ?_
      rintro e w7 ⟨rfl, n7, rfl⟩
      go_wp2_with fail
      go_ret
      have hz := (HG.out.2.2.trans ((below_box HX4.out).mono HG.out.2.2.size)).trans (hb6'.mono (Nat.le_trans HG.out.2.2.size (below_box HX4.out).size))
      exact ⟨rfl, hz.os, hz.tape, hz.output, hz.size, hz.block⟩
    · have hd : ((r.length : Int) == 0) = false := by rw [beq_eq_false_iff_ne]; omega
      have HN : Hid (0 < r.length) := by show 0 < r.length; omega
      clear h0
      go_wp2_with fail
      refine (sameL _ _ _ _ _ _ r _ hrl HI4.out HM4.out).mono ?_
      rintro e w5 ⟨rfl, n5, rfl⟩
      go_wp2_with fail
      clear HM4 hd p1 p2 p3
      have HE : Hid (Below w'.heap.size w' w4) := HG.out.2.2.trans ((below_box HX4.out).mono HG.out.2.2.size)
      go_loopw [5] (fun q wr => ∃ i : Nat, i ≤ r.length ∧ q = .int .i64 i ∧ Hid (Below w4.heap.size w4 wr)) (fun q _ => r.length - (intOf q).toNat)
      case atStart => exact ⟨0, by omega, rfl, ⟨rfl, rfl, rfl, Nat.le_refl _, fun _ _ => rfl⟩⟩
      case round =>
        obtain ⟨i, hi, rfl, HW⟩ := hrel
        have HIr : Hid (IntsAt wr w2.heap.size ur r) := HI4.out.keep (agree_of_below HW.out _)
        have HBr : Hid (BlocksAt wr w'.heap.size u (bare ts)) := HB4.out.keep (agree_of_below HW.out _)
        obtain ⟨p1, p2, p3⟩ := box3 (box_next HX4.out HW.out)
        by_cases hlt : i < r.length
        · obtain ⟨br, orr, rfl, e1⟩ := ints_cell HIr.out hlt
          obtain ⟨A, HA⟩ : ∃ A : Int, Hid (r.getD i 0 = A) := ⟨_, rfl⟩
          rw [HA.out] at e1
          obtain ⟨rs, hrs, hrsl⟩ := SuccR_some (bare ts) A
          obtain ⟨ps, hps, hpsl⟩ := PredR_some (bare ts) A
          have HRs : Hid (SuccR (bare ts) A rs) := hrs
          have HPs : Hid (PredR (bare ts) A ps) := hps
          have HIN : Hid (∀ y ∈ rs, y ∈ r) := reach_succ HRR.out hlt (by rw [HA.out]; exact hrs)
          have HPR : Hid (A = 0 ∨ ∃ y ∈ ps, y ∈ r) := (by have h := reach_pred HRR.out hlt (by rw [HA.out]; exact hps); rw [HA.out] at h; exact h)
          clear hrs hps
          go_wp2_with fail
          go_region_with (first | (go_at_call 15; refine (succsT _ ts u c A rs _ hts (by exact HBr.out) HRs.out hrsl).mono ?_; rintro e w6 ⟨us, cs, rfl, hoi, hb6⟩; have hb6' : Below wr.heap.size wr w6 := ⟨hb6.os, hb6.tape, hb6.output, hb6.size, hb6.block⟩; have HS6 : Hid (IntsAt w6 wr.heap.size us rs) := hoi.at; have HI6 : Hid (IntsAt w6 w2.heap.size (some ⟨br, orr, none⟩) r) := HIr.out.keep (agree_of_below hb6' _); have HW6 : Hid (Below w4.heap.size w4 w6) := HW.out.trans (hb6'.mono HW.out.size); clear hoi hb6 hb6') | (go_at_call 14; refine (withinL _ _ _ _ _ _ rs r _ hrsl hrl HS6.out HI6.out HIN.out).mono ?_; rintro e w7 ⟨rfl, rfl⟩))
          all_goals
            have HX6 := box_next HX4.out HW6.out
            obtain ⟨y1, y2, y3⟩ := box3 HX6
            obtain ⟨b9, o9, hb9, e6⟩ := ints_cell HI6.out hlt
            cases hb9
            rw [HA.out] at e6
            have HB6 : Hid _ := HB4.out.keep (agree_of_below HW6.out w'.heap.size)
            clear p1 p2 p3 e1 HIr HBr HX6 HS6
            go_wp2_with fail
            go_region_with (first | (go_at_call 16; refine (predsT _ ts u c A ps _ hts (by exact HB6.out) HPs.out hpsl).mono ?_; rintro e w8 ⟨up, cp, rfl, hoi8, hb8⟩; have HP8 : Hid (IntsAt w8 0 up ps) := (hoi8.at).low (Nat.zero_le _); have HW8 : Hid (Below w4.heap.size w4 w8) := ⟨hb8.os.trans HW6.out.os, hb8.tape.trans HW6.out.tape, hb8.output.trans HW6.out.output, Nat.le_trans HW6.out.size hb8.size, fun q hq => (hb8.block q (Nat.lt_of_lt_of_le hq HW6.out.size)).trans (HW6.out.block q hq)⟩; have HI8 : Hid (IntsAt w8 w2.heap.size (some ⟨br, orr, none⟩) r) := HI4.out.keep (agree_of_below HW8.out _); obtain ⟨b7, o7, hb7, e8⟩ := ints_cell HI8.out hlt; cases hb7; rw [HA.out] at e8; clear hoi8 hb8))
            all_goals
              clear y1 y2 y3 e6
              go_wp2_with fail
              go_loop [7, 8] (fun f q => ∃ (k : Nat) (av : Bool), k ≤ ps.length ∧ q = .int .i64 k ∧ f = .bool av ∧ Hid (av = true ∨ (A ≠ 0 ∧ ∀ j, j < k → ps.getD j 0 ∉ r))) (fun _ q => ps.length - (intOf q).toNat)
              case atStart =>
                refine ⟨0, _, by omega, rfl, rfl, ?_⟩
                by_cases hA : A = 0
                · exact .inl (by simp [hA])
                · exact .inr ⟨hA, fun j hj => by omega⟩
              case round =>
                obtain ⟨k, av, hk, rfl, rfl, HAV⟩ := hrel
                by_cases hltk : k < ps.length
                · cases av with
                  | true =>
                    go_wp2_with fail
                    exact ⟨⟨k + 1, true, by omega, by go_num, rfl, .inl rfl⟩, by simp only [intOf]; omega⟩
                  | false =>
                    obtain ⟨b5, o5, rfl, e5⟩ := ints_cell HP8.out hltk
                    obtain ⟨P, HP⟩ : ∃ P : Int, Hid (ps.getD k 0 = P) := ⟨_, rfl⟩
                    rw [HP.out] at e5
                    by_cases hP : P ∈ r
                    · have HPT : Hid (P ∈ r) := hP
                      clear hP
                      go_wp2_with (go_at_call 17; refine (hasL _ _ _ r P true _ hrl HI8.out ⟨fun _ => HPT.out, fun _ => rfl⟩).mono ?_; rintro e w9 ⟨rfl, rfl⟩)
                      exact ⟨⟨k + 1, true, by omega, by go_num, rfl, .inl rfl⟩, by simp only [intOf]; omega⟩
                    · have HPT : Hid (P ∉ r) := hP
                      clear hP
                      go_wp2_with (go_at_call 17; refine (hasL _ _ _ r P false _ hrl HI8.out ⟨(fun e => by cases e), fun h => absurd h HPT.out⟩).mono ?_; rintro e w9 ⟨rfl, rfl⟩)
                      refine ⟨⟨k + 1, false, by omega, by go_num, rfl, .inr ?_⟩, by simp only [intOf]; omega⟩
                      obtain ⟨h1, h2⟩ := HAV.out.resolve_left (by simp)
                      refine ⟨h1, fun j hj => ?_⟩
                      by_cases ej : j = k
                      · subst ej; rw [HP.out]; exact HPT.out
                      · exact h2 j (by omega)
                · have hav : av = true := by
                    rcases HAV.out with h | ⟨h1, h2⟩
                    · exact h
                    · rcases HPR.out with h | ⟨y, hy, hyr⟩
                      · exact absurd h h1
                      · obtain ⟨j, hj, e⟩ := List.getElem_of_mem hy
                        exact absurd hyr (by have := h2 j (by omega); simpa [List.getD, hj, e] using this)
                  subst hav
                  go_wp2_with fail
                  exact ⟨⟨i + 1, by omega, by go_num, HW8.out⟩, by simp only [intOf]; omega⟩
        · have HF : Hid ((0 : Int) ∈ r) := reach_first HRR.out HN.out
          have HS : Hid (r.Pairwise (· < ·)) := reach_rise HRR.out
          go_wp2_with (first | (go_at_call 17; refine (hasL _ _ _ r 0 true _ hrl HIr.out ⟨fun _ => HF.out, fun _ => rfl⟩).mono ?_; rintro e w9 ⟨rfl, rfl⟩) | (go_at_call 18; refine (risingL _ _ _ r _ hrl HIr.out HS.out).mono ?_; rintro e w9 ⟨rfl, n9, rfl⟩))
          go_ret
          have hz := HE.out.trans (HW.out.mono HE.out.size)
          exact ⟨rfl, hz.os, hz.tape, hz.output, hz.size, hz.block⟩
end Go.Proofs.Ytilhmpilkhadfaa
