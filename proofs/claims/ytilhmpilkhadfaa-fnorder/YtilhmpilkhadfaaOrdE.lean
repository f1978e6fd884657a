/- The core of the law FnOrder. -/
import Derived.Test.YtilhmpilkhadfaaOrdc
namespace Go.Proofs.Ytilhmpilkhadfaa
open Go.RowKit

set_option maxRecDepth 100000 in
set_option maxHeartbeats 4000000 in
theorem drawOrder (a0 : Option Addr) (len cap : Nat) (w : World) (hl : len ≤ 1048576) (hc : Code a0 len w.heap.size w) :
    Calls Try.prog 25 #[.slice a0 len cap] w fun e w' => ∃ (ts : List TermD) (u : Option Addr) (c : Nat), e = .returned (.agg #[.slice none 0 0, .int .i64 8, .slice u ts.length c]) ∧ Grph w w' ts u := by
  have HC : Hid (Code a0 len (w.alloc (.cells #[.slice none 0 0, .int .i64 0, .slice none 0 0] 27)).heap.size (w.alloc (.cells #[.slice none 0 0, .int .i64 0, .slice none 0 0] 27))) := hc.below ((Below.refl w.heap.size w).alloc (Nat.le_refl _) _)
  clear hc
  go_enter Try.func25, Try.ntmps25
  go_wp2_with (go_at_call 10; refine (drawReached _ _ _ _ hl (by exact HC.out)).mono ?_; rintro e w2 ⟨ts, u, c, rfl, hg⟩; have HG : Hid (Grph (w.alloc (.cells #[.slice none 0 0, .int .i64 0, .slice none 0 0] 27)) w2 ts u) := hg; have hc2 : w2.heap[w.heap.size]? = some (.cells #[.slice none 0 0, .int .i64 0, .slice none 0 0] 27 (0, 0)) := (hg.2.2.block w.heap.size (by simp)).trans (heap_alloc_last _ _); have HC2 : Hid _ := hc2; have r0 := (cell_of_heap (o := 0) hc2).trans rfl; have r1 := (cell_of_heap (o := 1) hc2).trans rfl; have r2 := (cell_of_heap (o := 2) hc2).trans rfl; have ff := fun k => froz_of_heap (o := k) hc2; clear hg hc2)
  have hg := HG.out
  obtain ⟨d1, d2⟩ := cell_done (n := ts.length) (c := c) HC2.out (hg.2.1.low (by simp)) (((Below.refl w.heap.size w).alloc (Nat.le_refl _) _).trans (hg.2.2.mono (by simp))) hg.1
  refine bodyPost_ret (v := .agg #[.slice none 0 0, .int .i64 8, .slice u ts.length c]) ((results_cell_row Try.results25 _ _ w.heap.size 27 _ (0, 0) _ rfl d1 Try.underlying27 rfl (by kernel_rfl)).trans (by rfl)) rfl ⟨ts, u, c, rfl, d2⟩
theorem hasT (lo : Nat) (a : Option Addr) (c : Nat) (l : List Int) (i : Nat) (n : Int) (v : Bool) (w : World) (hi : i ≤ l.length) (hl : l.length ≤ 1048576) (h : IntsAt w lo a l) (hv : v = true ↔ n ∈ l.take i) :
    Calls Try.prog 17 #[.slice a i c, .int .i64 n] w fun e w' => e = .returned (.bool v) ∧ w' = w := by
  have h := hasL lo a c (l.take i) n v w (by rw [List.length_take]; omega) (ints_take h i) hv
  rw [show (l.take i).length = i by rw [List.length_take]; omega] at h
  exact h
theorem ints_at {w : World} {lo b off : Nat} {l : List Int} (h : IntsAt w lo (some ⟨b, off, none⟩) l) {k : Nat} (hk : k < l.length) : w.cell? ⟨b, off + k, none⟩ = some (.int .i64 (l.getD k 0)) := by
  obtain ⟨b', off', e, hc⟩ := ints_cell h hk
  cases e
  exact hc
theorem hasA (w : World) (x : Abv (fun v => Below w.heap.size w v)) (lo : Nat) (a : Option Addr) (c : Nat) (l : List Int) (i : Nat) (n : Int) (v : Bool) (hi : i ≤ l.length) (hl : l.length ≤ 1048576) (h : IntsAt w lo a l) (hv : v = true ↔ n ∈ l.take i) :
    Calls Try.prog 17 #[.slice a i c, .int .i64 n] x.v fun e w'' => e = .returned (.bool v) ∧ ∃ y : Abv (fun v => Below w.heap.size w v), w'' = y.v :=
  abv_call x ((hasT lo a c l i n v _ hi hl (h.keep (agree_of_below x.ok _)) hv).mono (by rintro e w' ⟨rfl, rfl⟩; exact ⟨rfl, Below.refl _ _⟩))
theorem withinE (w : World) (lo lo' : Nat) (a b : Option Addr) (c c' : Nat) (l m : List Int) (hl : l.length = m.length) (hm : m.length ≤ 1048576) (h : IntsAt w lo a l) (h' : IntsAt w lo' b m) (hin : ∀ x ∈ l, x ∈ m) :
    Calls Try.prog 14 #[.slice a m.length c, .slice b m.length c'] w fun e w'' => e = .returned (.bool true) ∧ w'' = w := by
  have h := withinL lo lo' a b c c' l m w (by omega) hm h h' hin
  rw [hl] at h
  exact h
set_option maxRecDepth 100000 in
set_option maxHeartbeats 16000000 in
theorem fnOrder_core (a0 : Option Addr) (len cap : Nat) (w : World) (hc : Code a0 len w.heap.size w) :
    Calls Try.prog 6 #[.slice a0 len cap] w fun e w' => e = .returned (.bool true) ∧ Below w.heap.size w w' := by
  by_cases hb : 1048576 < len
  · have d : decide (1048576 < len) = true := by simpa using hb
    go_enter Try.func6, Try.ntmps6
    go_wp2_with (go_at_call 9; refine (big_any _ _ _ _).mono ?_; rintro e w' ⟨rfl, rfl⟩)
    go_ret
    exact ⟨rfl, Below.refl _ _⟩
  · have d : decide (1048576 < len) = false := by simpa using hb
    have hl : len ≤ 1048576 := by omega
    go_enter Try.func6, Try.ntmps6
    go_wp2_with (first | (go_at_call 9; refine (big_any _ _ _ _).mono ?_; rintro e w' ⟨rfl, rfl⟩) | (go_at_call 25; refine (drawOrder _ _ _ _ hl hc).mono ?_; rintro e w2 ⟨ts, u, c, rfl, hg⟩; have HG : Hid (Grph w' w2 ts u) := hg; clear hg))
    have hts : ts.length ≤ 7 := HG.out.1
    obtain ⟨r, hr, hrl⟩ := OrdR_some (bare ts)
    have HRR : Hid (OrdR (bare ts) r) := hr
    clear hr
    refine (orderT _ ts u c r _ hts (HG.out.2.1.keep (agree_alloc _ _ _)) HRR.out).mono ?_
    rintro e w3 ⟨ur, cr, rfl, hcap, hoi, hb3⟩
    have HX3 : Hid (Below (w2.heap.size + 1) (w2.alloc (.cells #[.slice none 0 0, .int .i64 8, .slice u ts.length c] 27)) w3) := box_first hb3
    have HI3 : Hid (IntsAt w3 w2.heap.size ur r) := (hoi.at).low (by simp)
    have HB3 : Hid (BlocksAt w3 w'.heap.size u (bare ts)) := HG.out.2.1.keep (agree_of_below (below_box HX3.out) _)
    obtain ⟨p1, p2, p3⟩ := box3 HX3.out
    clear hoi hb3
    go_wp2_with fail
    refine (orderM _ ts u c r _ hts HB3.out HRR.out).mono ?_
    rintro e w4 ⟨um, cm, rfl, him, hb4⟩
    have HX4 : Hid (Below (w2.heap.size + 1) (w2.alloc (.cells #[.slice none 0 0, .int .i64 8, .slice u ts.length c] 27)) w4) := box_next HX3.out hb4
    have HI4 : Hid (IntsAt w4 w2.heap.size ur r) := HI3.out.keep (agree_of_below hb4 _)
    have HM4 : Hid (IntsAt w4 w3.heap.size um r) := him
    have HB4 : Hid (BlocksAt w4 w'.heap.size u (bare ts)) := HB3.out.keep (agree_of_below hb4 _)
    clear him hb4 HX3 HI3 HB3 p1 p2 p3
    obtain ⟨p1, p2, p3⟩ := box3 HX4.out
    by_cases h0 : r.length = 0
    · have hd : ((r.length : Int) == 0) = true := by simp [h0]
      clear h0
      go_wp2_with fail
      refine (sameL _ _ _ _ _ _ r _ hrl HI4.out HM4.out).mono ?_
      rintro e w5 ⟨rfl, n5, rfl⟩
      go_wp2_with fail
      refine (orderM _ ts u c r _ hts (by exact HB4.out) HRR.out).mono ?_
      rintro e w6 ⟨um6, cm6, rfl, him6, hb6⟩
      have hb6' : Below w4.heap.size w4 w6 := ⟨hb6.os, hb6.tape, hb6.output, hb6.size, hb6.block⟩
      have HI6 : Hid (IntsAt w6 w2.heap.size ur r) := HI4.out.keep (agree_of_below hb6' _)
      have HM6 : Hid (IntsAt w6 (w4.drewN n5).heap.size um6 r) := him6
      go_wp2_with fail
      refine (sameL _ _ _ _ _ _ r _ hrl HI6.out HM6.out).mono ?_
      rintro e w7 ⟨rfl, n7, rfl⟩
      go_wp2_with fail
      go_ret
      have hz := (HG.out.2.2.trans ((below_box HX4.out).mono HG.out.2.2.size)).trans (hb6'.mono (Nat.le_trans HG.out.2.2.size (below_box HX4.out).size))
      exact ⟨rfl, hz.os, hz.tape, hz.output, hz.size, hz.block⟩
    · have hd : ((r.length : Int) == 0) = false := by rw [beq_eq_false_iff_ne]; omega
      have HN : Hid (0 < r.length) := by show 0 < r.length; omega
      clear h0
      go_wp2_with fail
      refine (sameL _ _ _ _ _ _ r _ hrl HI4.out HM4.out).mono ?_
      rintro e w5 ⟨rfl, n5, rfl⟩
      go_wp2_with fail
      clear HM4 hd p1 p2 p3
      have HE : Hid (Below w'.heap.size w' w4) := HG.out.2.2.trans ((below_box HX4.out).mono HG.out.2.2.size)
      go_loopw [5] (fun q wr => ∃ i : Nat, i ≤ r.length ∧ q = .int .i64 i ∧ Hid (Below w4.heap.size w4 wr)) (fun q _ => r.length - (intOf q).toNat)
      case atStart => exact ⟨0, by omega, rfl, ⟨rfl, rfl, rfl, Nat.le_refl _, fun _ _ => rfl⟩⟩
      case round =>
        obtain ⟨i, hi, rfl, HW⟩ := hrel
        have HIr : Hid (IntsAt wr w2.heap.size ur r) := HI4.out.keep (agree_of_below HW.out _)
        have HBr : Hid (BlocksAt wr w'.heap.size u (bare ts)) := HB4.out.keep (agree_of_below HW.out _)
        obtain ⟨p1, p2, p3⟩ := box3 (box_next HX4.out HW.out)
        by_cases hlt : i < r.length
        · obtain ⟨br, orr, rfl, e1⟩ := ints_cell HIr.out hlt
          obtain ⟨A, HA⟩ : ∃ A : Int, Hid (r.getD i 0 = A) := ⟨_, rfl⟩
          rw [HA.out] at e1
          obtain ⟨ps, hps, hpsl⟩ := PredR_some (bare ts) A
          have HPs : Hid (PredR (bare ts) A ps) := hps
          have HON : Hid (A ∉ r.take i) := (by have h := ord_once HRR.out hlt; rw [HA.out] at h; exact h)
          have HPR : Hid (i = 0 ∨ ∃ y ∈ ps, y ∈ r.take i) := ord_pred HRR.out hlt (by rw [HA.out]; exact hps)
          have HID : Hid (∀ z, IdomF (bare ts) A z → 0 ≤ z → z ∈ r.take i) := fun z hz h0 => ord_idom HRR.out hlt (by rw [HA.out]; exact hz) h0
          have htl : (r.take i).length = i := by rw [List.length_take]; omega
          have HTr : Hid (IntsAt wr w2.heap.size (some ⟨br, orr, none⟩) (r.take i)) := ints_take HIr.out i
          have hci : i ≤ cr := by omega
          clear hps
          go_wp2_with fail
          go_region_with (go_at_call 17; refine (hasT w2.heap.size (some ⟨br, orr, none⟩) cr r i A false _ (by omega) hrl (by exact HIr.out) ⟨(fun e => by cases e), fun h => absurd h HON.out⟩).mono ?_; rintro e w6 ⟨rfl, rfl⟩)
          all_goals
            go_wp2_with fail
            go_region_with (go_at_call 16; refine (predsT _ ts u c A ps _ hts (by exact HBr.out) HPs.out hpsl).mono ?_; rintro e w8 ⟨up, cp, rfl, hoi8, hb8⟩; have HP8 : Hid (IntsAt w8 0 up ps) := (hoi8.at).low (Nat.zero_le _); have HW8 : Hid (Below w4.heap.size w4 w8) := ⟨hb8.os.trans HW.out.os, hb8.tape.trans HW.out.tape, hb8.output.trans HW.out.output, Nat.le_trans HW.out.size hb8.size, fun q hq => (hb8.block q (Nat.lt_of_lt_of_le hq HW.out.size)).trans (HW.out.block q hq)⟩; clear hoi8 hb8)
            all_goals
              clear p1 p2 p3 e1 HIr HBr HTr
              go_wp2_with fail
              go_loopw [7, 8] (fun f q wq => ∃ (k : Nat) (av : Bool), k ≤ ps.length ∧ q = .int .i64 k ∧ f = .bool av ∧ Hid (av = true ∨ (i ≠ 0 ∧ ∀ j, j < k → ps.getD j 0 ∉ r.take i)) ∧ Hid (Below w8.heap.size w8 wq)) (fun _ q _ => ps.length - (intOf q).toNat)
              case atStart =>
                refine ⟨0, _, by omega, rfl, rfl, ?_, ⟨rfl, rfl, rfl, Nat.le_refl _, fun _ _ => rfl⟩⟩
                by_cases hA : i = 0
                · exact .inl (by simp [hA])
                · exact .inr ⟨hA, fun j hj => by omega⟩
              case round =>
                obtain ⟨k, av, hk, rfl, rfl, HAV, HWQ⟩ := hrel
                have HWq : Hid (Below w4.heap.size w4 wr) := HW8.out.trans (HWQ.out.mono HW8.out.size)
                have HIq : Hid (IntsAt wr w2.heap.size (some ⟨br, orr, none⟩) r) := HI4.out.keep (agree_of_below HWq.out _)
                by_cases hltk : k < ps.length
                · cases av with
                  | true =>
                    go_wp2_with fail
                    refine wp_region_abv (fun v => Below w8.heap.size w8 v) (by kernel_rfl) (by kernel_rfl) (drew_below HWQ.out) ?_
                    have hne : Nonempty (Abv (fun v => Below w8.heap.size w8 v)) := abv_ne (Below.refl _ _)
                    repeat (go_big_quiet_step ((fail)))
                    refine wpQuiet_nil ?_
                    rintro w9 ⟨⟨w9, h9⟩, rfl⟩
                    clear hne
                    go_wp2_with fail
                    exact ⟨⟨k + 1, true, by omega, by go_num, rfl, .inl rfl, h9⟩, by simp only [intOf]; omega⟩
                  | false =>
                    obtain ⟨b5, o5, hb5, _⟩ := ints_cell HP8.out hltk
                    subst hb5
                    obtain ⟨P, HP⟩ : ∃ P : Int, Hid (ps.getD k 0 = P) := ⟨_, rfl⟩
                    have e5 : ∀ x : Abv (fun v => Below w8.heap.size w8 v), x.v.cell? ⟨b5, o5 + k, none⟩ = some (.int .i64 P) := fun x => by rw [← HP.out]; exact ints_at (HP8.out.keep (agree_of_below x.ok _)) hltk
                    have HI8 : Hid (IntsAt w8 w2.heap.size (some ⟨br, orr, none⟩) r) := HI4.out.keep (agree_of_below HW8.out _)
                    by_cases hP : P ∈ r.take i
                    · have HPT : Hid (P ∈ r.take i) := hP
                      clear hP
                      go_wp2_with fail
                      refine wp_region_abv (fun v => Below w8.heap.size w8 v) (by kernel_rfl) (by kernel_rfl) (drew_below HWQ.out) ?_
                      have hne : Nonempty (Abv (fun v => Below w8.heap.size w8 v)) := abv_ne (Below.refl _ _)
                      repeat (go_big_quiet_step ((go_at_call 17; exact hasA _ _ w2.heap.size _ _ r i P true (by omega) hrl HI8.out ⟨fun _ => HPT.out, fun _ => rfl⟩)))
                      refine wpQuiet_nil ?_
                      rintro w9 ⟨⟨w9, h9⟩, rfl⟩
                      clear hne
                      go_wp2_with fail
                      exact ⟨⟨k + 1, true, by omega, by go_num, rfl, .inl rfl, h9⟩, by simp only [intOf]; omega⟩
                    · have HPT : Hid (P ∉ r.take i) := hP
                      clear hP
                      go_wp2_with fail
                      refine wp_region_abv (fun v => Below w8.heap.size w8 v) (by kernel_rfl) (by kernel_rfl) (drew_below HWQ.out) ?_
                      have hne : Nonempty (Abv (fun v => Below w8.heap.size w8 v)) := abv_ne (Below.refl _ _)
                      repeat (go_big_quiet_step ((go_at_call 17; exact hasA _ _ w2.heap.size _ _ r i P false (by omega) hrl HI8.out ⟨(fun e => by cases e), fun h => absurd h HPT.out⟩)))
                      refine wpQuiet_nil ?_
                      rintro w9 ⟨⟨w9, h9⟩, rfl⟩
                      clear hne
                      go_wp2_with fail
                      refine ⟨⟨k + 1, false, by omega, by go_num, rfl, .inr ?_, h9⟩, by simp only [intOf]; omega⟩
                      obtain ⟨h1, h2⟩ := HAV.out.resolve_left (by simp)
                      refine ⟨h1, fun j hj => ?_⟩
                      by_cases ej : j = k
                      · subst ej; rw [HP.out]; exact HPT.out
                      · exact h2 j (by omega)
                · have hav : av = true := by
                    rcases HAV.out with h | ⟨h1, h2⟩
                    · exact h
                    · rcases HPR.out with h | ⟨y, hy, hyr⟩
                      · exact absurd h h1
                      · obtain ⟨j, hj, e⟩ := List.getElem_of_mem hy
                        exact absurd hyr (by have := h2 j (by omega); simpa [List.getD, hj, e] using this)
                  subst hav
                  have HBq : Hid (BlocksAt wr w'.heap.size u (bare ts)) := HB4.out.keep (agree_of_below HWq.out _)
                  obtain ⟨p1, p2, p3⟩ := box3 (box_next HX4.out HWq.out)
                  obtain ⟨b7, o7, hb7, e8⟩ := ints_cell HIq.out hlt
                  cases hb7
                  rw [HA.out] at e8
                  go_wp2_with fail
                  go_region_with (go_at_call 23; refine (idomT _ ts u c A _ hts (by exact HBq.out)).mono ?_; rintro e w10 ⟨⟨z, rfl, hz⟩, hb10⟩; have HZ : Hid (0 ≤ z → z ∈ r.take i) := HID.out z hz; have HW10 : Hid (Below w4.heap.size w4 w10) := ⟨hb10.os.trans HWq.out.os, hb10.tape.trans HWq.out.tape, hb10.output.trans HWq.out.output, Nat.le_trans HWq.out.size hb10.size, fun q hq => (hb10.block q (Nat.lt_of_lt_of_le hq HWq.out.size)).trans (HWq.out.block q hq)⟩; clear hz hb10)
                  all_goals
                    have HI10 : Hid (IntsAt w10 w2.heap.size (some ⟨br, orr, none⟩) r) := HI4.out.keep (agree_of_below HW10.out _)
                    clear p1 p2 p3 e8 HBq HIq
                    by_cases h0 : 0 ≤ z
                    · have HZT : Hid (z ∈ r.take i) := HZ.out h0
                      go_wp2_with (go_at_call 17; refine (hasT w2.heap.size _ _ r i z true _ (by omega) hrl HI10.out ⟨fun _ => HZT.out, fun _ => rfl⟩).mono ?_; rintro e w11 ⟨rfl, rfl⟩)
                      exact ⟨⟨i + 1, by omega, by go_num, HW10.out⟩, by simp only [intOf]; omega⟩
                    · go_wp2_with fail
                      exact ⟨⟨i + 1, by omega, by go_num, HW10.out⟩, by simp only [intOf]; omega⟩
        · obtain ⟨q, hq, hql⟩ := ReachR_some (bare ts)
          have HQQ : Hid (ReachR (bare ts) q) := hq
          have HQR : Hid ((∀ x ∈ q, x ∈ r) ∧ q.length = r.length) := ord_reach HRR.out HN.out hq
          clear hq
          have HF : Hid (r.getD 0 0 = 0) := ord_first HRR.out HN.out
          go_wp2_with fail
          refine (reachT _ ts u c q _ hts (by exact HBr.out) HQQ.out).mono ?_
          rintro e w6 ⟨uq, cq, rfl, hoi, hb6⟩
          have HI6 : Hid (IntsAt w6 w2.heap.size ur r) := HIr.out.keep (agree_of_below hb6 _)
          have HS6 : Hid (IntsAt w6 wr.heap.size uq q) := hoi.at
          have HW6 : Hid (Below w4.heap.size w4 w6) := HW.out.trans (hb6.mono HW.out.size)
          clear hoi hb6
          obtain ⟨br, orr, hbr, _⟩ := ints_cell HI6.out HN.out
          subst hbr
          have e0 : w6.cell? ⟨br, orr, none⟩ = some (.int .i64 0) := by have h := ints_at HI6.out HN.out; rw [HF.out, Nat.add_zero] at h; exact h
          rw [HQR.out.2]
          have hn0 : 0 < r.length := HN.out
          go_wp2_with (go_at_call 14; refine (withinE _ wr.heap.size w2.heap.size _ _ _ _ q r HQR.out.2 hrl HS6.out HI6.out HQR.out.1).mono ?_; rintro e w7 ⟨rfl, rfl⟩)
          go_ret
          exact ⟨rfl, HE.out.trans (HW6.out.mono HE.out.size)⟩
end Go.Proofs.Ytilhmpilkhadfaa
