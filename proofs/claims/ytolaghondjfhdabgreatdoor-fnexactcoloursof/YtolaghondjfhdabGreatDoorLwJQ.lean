/- What is alive: the program's goThrough. -/
import Derived.Test.YtolaghondjfhdabGreatDoorLwGQ
namespace Go.Proofs.YtolaghondjfhdabGreatDoor
open Go.RowKit
set_option linter.unusedVariables false

set_option maxHeartbeats 16000000 in
set_option maxRecDepth 100000 in
theorem thruI (M Rb lo lp : Nat) (d : FuncD) (u2 : Option Addr) (c2 : Nat) (b : Nat) (F : Alive) (w0 w : World) (hs : SmFunc d) (hF : LvF d) (hb : b < d.blocks.length) (hw0 : w0.heap.size ≤ M) (hR : RtAt w0 Rb lo lp d u2 c2) (hB0 : Below w0.heap.size w0 w) (hL : LvAt w M Rb (fun _ => False) F) (hf : ∀ j, Fine (cntF d) (F j)) :
    Calls Tryz.prog 69 #[.pointer (some ⟨M, 0, none⟩), .int .i64 b] w fun e w' => e = .returned (.tuple #[]) ∧ LvAt w' M Rb (fun _ => False) (thruF d F b) ∧ Below M w w' := by
  have hc60 := hF.cnt
  have hbl : d.blocks.length ≤ 10 := hF.right.2.1
  have HF : Hid (LvF d) := hF
  have HR0 : Hid (∀ V, Below M w V → RtAt V Rb lo lp d u2 c2) := fun V h => hR.below (hB0.trans (h.mono hw0))
  have HR : Hid (RtAt w Rb lo lp d u2 c2) := hR.below hB0
  have HL : Hid (LvAt w M Rb (fun _ => False) F) := hL
  have HFF : Hid (∀ j, Fine (cntF d) (F j)) := hf
  have HSM : Hid (SmFunc d) := hs
  have hM : M < w.heap.size := hL.lt
  have hfe := first_end hb
  have HBW : Hid (Below w0.heap.size w0 w) := hB0
  have HRW := hR
  clear hF hR hB0 hf hs hL
  obtain ⟨g2, o2, hu2, hl2, hg20, ⟨v0, r0, e00, q0⟩, ⟨v1, r1, e10, q1⟩, e20, e30, e40, e50⟩ := blk_cell HRW.blocks hb
  have e0 := (cell_block (HBW.out.block g2 hg20)).trans e00
  have e1 := (cell_block (HBW.out.block g2 hg20)).trans e10
  have e2 := (cell_block (HBW.out.block g2 hg20)).trans e20
  have e3 := (cell_block (HBW.out.block g2 hg20)).trans e30
  have e4 := (cell_block (HBW.out.block g2 hg20)).trans e40
  have e5 := (cell_block (HBW.out.block g2 hg20)).trans e50
  have hg2 : g2 < w.heap.size := Nat.lt_of_lt_of_le hg20 HBW.out.size
  clear e00 e10 e20 e30 e40 e50
  have hu2' : u2 = some ⟨g2, o2, none⟩ := hu2
  subst hu2'
  clear hu2 q0
  have m0 := HL.out.ptr
  have z2 := HR.out.f2
  have lR := HR.out.lt
  have z4 := HR.out.firsts b hb
  have hsb := HSM.out.2.2 _ (getD_mem block0 d.blocks b hb)
  have HSI : Hid (∀ i ∈ (blkN d b).insts, SmInst i) := hsb.2.2
  have hil : (blkN d b).insts.length ≤ 1048576 := hsb.2.1
  have hpl : (blkN d b).phis.length ≤ 1048576 := hsb.1.1
  have HQ1 : Hid (∀ V, Below M w V → InstsAt V lo v1 (blkN d b).insts) := fun V h => q1.keep (agree_of_below (HBW.out.trans (h.mono hw0)) lo)
  clear HRW
  have hb10 : b < 10 := by omega
  clear hsb q1
  have BW : Below w.heap.size w (w.alloc (.cells #[.slice v0 (blkN d b).phis.length r0, .slice v1 (blkN d b).insts.length r1, .int .i64 (blkN d b).term.kind, .int .i64 (blkN d b).term.a, .int .i64 (blkN d b).term.x, .int .i64 (blkN d b).term.y] 68)).drew := ((Below.refl _ _).alloc (Nat.le_refl _) _).drew
  have AW : At (w.alloc (.cells #[.slice v0 (blkN d b).phis.length r0, .slice v1 (blkN d b).insts.length r1, .int .i64 (blkN d b).term.kind, .int .i64 (blkN d b).term.a, .int .i64 (blkN d b).term.x, .int .i64 (blkN d b).term.y] 68)).drew w.heap.size #[.slice v0 (blkN d b).phis.length r0, .slice v1 (blkN d b).insts.length r1, .int .i64 (blkN d b).term.kind, .int .i64 (blkN d b).term.a, .int .i64 (blkN d b).term.x, .int .i64 (blkN d b).term.y] 68 := At.new w _ _
  have zW : (w.alloc (.cells #[.slice v0 (blkN d b).phis.length r0, .slice v1 (blkN d b).insts.length r1, .int .i64 (blkN d b).term.kind, .int .i64 (blkN d b).term.a, .int .i64 (blkN d b).term.x, .int .i64 (blkN d b).term.y] 68)).drew.heap.size = w.heap.size + 1 := by simp
  go_enter Tryz.func69, Tryz.ntmps69
  go_wp2_with fail
  go_region
  generalize (w.alloc (.cells #[.slice v0 (blkN d b).phis.length r0, .slice v1 (blkN d b).insts.length r1, .int .i64 (blkN d b).term.kind, .int .i64 (blkN d b).term.a, .int .i64 (blkN d b).term.x, .int .i64 (blkN d b).term.y] 68)).drew = W1 at BW AW zW ⊢
  clear e0 e1 e2 e3 e4 e5 m0 z2 lR z4
  have a0 : W1.cell? ⟨w.heap.size, 0, none⟩ = some (.slice v0 (blkN d b).phis.length r0) := (AW.cell 0).trans rfl
  have PE := atEndI M Rb lo lp d (some ⟨g2, o2, none⟩) c2 b (fun _ => False) F W1 HSM.out HF.out hb (HR.out.below BW) (HL.out.below BW) HFF.out
  go_wp2_with fail
  refine PE.mono ?_
  rintro e w2 ⟨va, rfl, ra, b2⟩
  have hof : Fine (cntF d) (outL d b (fun t => F (1 + t))) := HF.out.out hb (fun t => HFF.out (1 + t))
  have hol := hof.len
  obtain ⟨vu, vc, hva⟩ := ra.slice
  have HT0 : Hid (ThSt w (w2.alloc (.cells #[va] 76)) M Rb w2.heap.size #[.slice v0 (blkN d b).phis.length r0, .slice v1 (blkN d b).insts.length r1, .int .i64 (blkN d b).term.kind, .int .i64 (blkN d b).term.a, .int .i64 (blkN d b).term.x, .int .i64 (blkN d b).term.y] va (outL d b (fun t => F (1 + t))) F) := by
    have hz : w.heap.size + 1 ≤ w2.heap.size := by have := b2.size; omega
    have bw2 : Below w.heap.size w w2 := BW.trans (b2.mono BW.size)
    have ba : Below w2.heap.size w2 (w2.alloc (.cells #[va] 76)) := (Below.refl _ _).alloc (Nat.le_refl _) _
    refine ⟨⟨At.new w2 _ _, (ra.low (by omega)).keep ba⟩, ((HL.out.old.below bw2).below ba).imp (fun q hq => ?_), (bw2.mono (Nat.le_of_lt hM)).trans (ba.mono (by omega)), (AW.below b2).below ba, hz⟩
    rcases hq with h | h
    · show w.heap.size ≤ q
      omega
    · show w.heap.size ≤ q
      have := (ra.ge h).1
      omega
  have hzA : w.heap.size + 1 ≤ w2.heap.size := by have := b2.size; omega
  subst hva
  clear PE ra b2 a0
  go_wp2_with fail
  generalize w2.alloc (.cells #[.slice vu (outL d b (fun t => F (1 + t))).length vc] 76) = W3 at HT0 ⊢
  generalize w2.heap.size = A at HT0 hzA ⊢
  generalize hO : outL d b (fun t => F (1 + t)) = O at *
  have HO : Hid (outL d b (fun t => F (1 + t)) = O) := hO
  clear hO
  have rIa := HT0.out.set.row.ints (by omega)
  obtain ⟨u9a, c9a, hxva, xia⟩ := rIa
  cases hxva
  have PCa := copiedI w.heap.size vu vc (O) W3.drew (by omega) (show IntsAt W3.drew _ _ _ from xia.keep (agree_of_below ((Below.refl _ _).drew) _))
  refine wp_region_held_drew (S := fun w' => At w' A #[.slice vu (O).length vc] 76) (by kernel_rfl) (show At W3.drew A _ _ from HT0.out.set.box) (fun hHeld => ?_)
  refine wpAnyH_take (i := 0) (v := ?_) rfl (by kernel_rfl) (by kernel_rfl) (by kernel_rfl) (fun _ _ _ h => h) (Or.inl ⟨by rfl, ?_⟩) hHeld ?_
  rotate_left
  · intro w9 hS9
    go_simp
    try with_reducible rfl
  show wpAnyH _ _ _ _ _ _ _ (Act.put _ (some _) _) _
  simp only [Act.put, List.setIfInBounds_toArray, List.set_cons_zero, List.set_cons_succ]
  refine wpAnyH_take (i := 1) (v := ?_) rfl (by kernel_rfl) (by kernel_rfl) (by kernel_rfl) (fun _ _ _ h => h) (Or.inl ⟨by rfl, ?_⟩) hHeld ?_
  rotate_left
  · intro w9 hS9
    go_simp
    try with_reducible rfl
  show wpAnyH _ _ _ _ _ _ _ (Act.put _ (some _) _) _
  simp only [Act.put, List.setIfInBounds_toArray, List.set_cons_zero, List.set_cons_succ]
  refine wpAnyH_take (i := 2) (v := ?_) rfl (by kernel_rfl) (by kernel_rfl) (by kernel_rfl) (fun _ _ _ h => h) (Or.inl ⟨by rfl, ?_⟩) hHeld ?_
  rotate_left
  · intro w9 hS9
    have g0 := (hS9.cell 0).trans rfl
    go_simp
    try with_reducible rfl
  show wpAnyH _ _ _ _ _ _ _ (Act.put _ (some _) _) _
  simp only [Act.put, List.setIfInBounds_toArray, List.set_cons_zero, List.set_cons_succ]
  refine wpAnyH_take (i := 4) (v := ?_) rfl (by kernel_rfl) (by kernel_rfl) (by kernel_rfl) (fun _ _ _ h => h) (Or.inl ⟨by rfl, ?_⟩) hHeld ?_
  rotate_left
  · intro w9 hS9
    go_simp
    try with_reducible rfl
  show wpAnyH _ _ _ _ _ _ _ (Act.put _ (some _) _) _
  simp only [Act.put, List.setIfInBounds_toArray, List.set_cons_zero, List.set_cons_succ]
  refine wpAnyH_take (i := 5) (v := ?_) rfl (by kernel_rfl) (by kernel_rfl) (by kernel_rfl) (fun _ _ _ h => h) (Or.inl ⟨by rfl, ?_⟩) hHeld ?_
  rotate_left
  · intro w9 hS9
    go_simp
    try with_reducible rfl
  show wpAnyH _ _ _ _ _ _ _ (Act.put _ (some _) _) _
  simp only [Act.put, List.setIfInBounds_toArray, List.set_cons_zero, List.set_cons_succ]
  refine wpAnyH_ready (rs := [3]) (by kernel_rfl) (by simp) ?_
  refine AllReadyH.cons rfl (fun K hK => ?_) AllReadyH.nil
  go_simp
  go_wp2_with (go_at_call 39; refine (PCa).mono ?_; rintro e Va ⟨vya, rfl, rya, bya⟩)
  refine hK.out _ _ ?_ (fun hHeld2 => ?_)
  · exact hHeld.below bya
  clear hK K hHeld
  have hHeld := hHeld2
  clear hHeld2
  try simp only [Act.put, List.setIfInBounds_toArray, List.set_cons_zero, List.set_cons_succ]
  have HUa : Hid (ThSt w Va M Rb A #[.slice v0 (blkN d b).phis.length r0, .slice v1 (blkN d b).insts.length r1, .int .i64 (blkN d b).term.kind, .int .i64 (blkN d b).term.a, .int .i64 (blkN d b).term.x, .int .i64 (blkN d b).term.y] (.slice vu (O).length vc) (O) (F)) := (HT0.out.go ((Below.refl _ _).drew)).go bya
  have hzWa : w.heap.size ≤ W3.drew.heap.size := by have := HT0.out.set.box.lt; have := HT0.out.ge; show w.heap.size ≤ W3.heap.size; omega
  have hAWa : A < W3.drew.heap.size := HT0.out.set.box.lt
  have hvWa : ∀ g, (Value.slice vu (O).length vc).ownBlock = some g → g < W3.drew.heap.size := fun g hg => (HT0.out.set.row.ge hg).2
  obtain ⟨yua, yca, hyva, yia⟩ := rya.ints (by omega)
  have HYIa : Hid (IntsAt Va (M + 1) yua (O)) := yia.low (by omega)
  have HYBa : Hid (O ≠ [] → ∀ q off, yua = some ⟨q, off, none⟩ → ¬ Bar A (.slice vu (O).length vc) q) := fun hn q off e hb => by
    have hq : W3.drew.heap.size ≤ q := by
      rcases yia.2 with h | ⟨q', off', h, hl, _⟩
      · exact absurd h hn
      · rw [e] at h
        cases h
        exact hl
    rcases hb with h | h
    · omega
    · have := hvWa q h
      omega
  subst hyva
  obtain ⟨zaa, zca, zea, _, _⟩ := HUa.out.lv.cell (j := 11 + b) (by omega) (by omega)
  have zfa := HUa.out.lv.froz (11 + b)
  have hMAa := (lv_ne HUa.out.lv HUa.out.set).1
  clear PCa xia rya bya yia
  refine wpAnyH_take (i := 6) (v := ?_) rfl (by kernel_rfl) (by kernel_rfl) (by kernel_rfl) (fun _ _ _ h => h) (Or.inl ⟨by rfl, ?_⟩) hHeld ?_
  rotate_left
  · intro w9 hS9
    go_simp
    rw [if_pos (by omega)]
    try with_reducible rfl
  show wpAnyH _ _ _ _ _ _ _ (Act.put _ (some _) _) _
  simp only [Act.put, List.setIfInBounds_toArray, List.set_cons_zero, List.set_cons_succ]
  refine wpAnyH_ready (rs := [7]) (by kernel_rfl) (by simp) ?_
  refine AllReadyH.cons rfl (fun K hK => ?_) AllReadyH.nil
  go_simp
  go_wp2_with fail
  refine hK.out _ _ ?_ (fun hHeld2 => ?_)
  · exact hHeld.setOther (Ne.symm hMAa)
  clear hK K hHeld
  have hHeld := hHeld2
  clear hHeld2
  try simp only [Act.put, List.setIfInBounds_toArray, List.set_cons_zero, List.set_cons_succ]
  refine wpAnyH_done (by kernel_rfl) ?_ _
  have HNa : Hid (ThSt w (Va.setCell ⟨M, 11 + b, none⟩ (.slice yua (O).length yca)) M Rb A #[.slice v0 (blkN d b).phis.length r0, .slice v1 (blkN d b).insts.length r1, .int .i64 (blkN d b).term.kind, .int .i64 (blkN d b).term.a, .int .i64 (blkN d b).term.x, .int .i64 (blkN d b).term.y] (.slice vu (O).length vc) (O) (updL (F) (11 + b) (O))) := HUa.out.store hM (by omega) (by omega) HYIa.out HYBa.out
  generalize (Va.setCell ⟨M, 11 + b, none⟩ (.slice yua (O).length yca)) = Na at HNa ⊢
  clear hHeld zea zfa HYIa HYBa HUa hzWa hAWa hvWa
  have x2 : Na.cell? ⟨w.heap.size, 2, none⟩ = some (.int .i64 (blkN d b).term.kind) := (HNa.out.box.cell 2).trans rfl
  have x3 : Na.cell? ⟨w.heap.size, 3, none⟩ = some (.int .i64 (blkN d b).term.a) := (HNa.out.box.cell 3).trans rfl
  have x4 : Na.cell? ⟨w.heap.size, 4, none⟩ = some (.int .i64 (blkN d b).term.x) := (HNa.out.box.cell 4).trans rfl
  have x5 : Na.cell? ⟨w.heap.size, 5, none⟩ = some (.int .i64 (blkN d b).term.y) := (HNa.out.box.cell 5).trans rfl
  have PT := termI (blkN d b).term Na
  have hTO : namesT (blkN d b).term = termO (blkN d b).term := rfl
  rw [hTO] at PT
  have htr := HF.out.term b hb
  have htol : (termO (blkN d b).term).length ≤ 1 := by unfold termO; split <;> simp
  have HFN : Hid (∀ m, m ≤ (blkN d b).insts.length → Fine (cntF d) (bkL (blkN d b).insts (firstN d b + (blkN d b).phis.length) (sumL O (termO (blkN d b).term)) m)) := fun m hm => HF.out.back hb hof hm
  have HOP : Hid (∀ i ∈ (blkN d b).insts, (opsD i).length ≤ 4 ∧ Rng (cntF d) (opsD i)) := fun i hi => ⟨HF.out.four b hb i hi, HF.out.ops b hb i hi⟩
  have HTH : Hid (thruF d F b = updL (afterP (afterI (updL F (11 + b) O) (blkN d b).insts (firstN d b + (blkN d b).phis.length) (sumL O (termO (blkN d b).term)) (blkN d b).insts.length) (firstN d b) (bkL (blkN d b).insts (firstN d b + (blkN d b).phis.length) (sumL O (termO (blkN d b).term)) (blkN d b).insts.length) (blkN d b).phis.length) (1 + b) (phL (firstN d b) (bkL (blkN d b).insts (firstN d b + (blkN d b).phis.length) (sumL O (termO (blkN d b).term)) (blkN d b).insts.length) (blkN d b).phis.length)) := by
    show _ = _
    unfold thruF inL backL
    rw [HO.out]
  generalize blkN d b = x at *
  generalize firstN d b = F0 at *
  generalize updL F (11 + b) O = F1 at *
  clear hTO HR
  go_wp2_with fail
  refine PT.mono ?_
  rintro e w5 ⟨vt, rt, rfl, ot, b5⟩
  have HT5 := HNa.out.go b5
  have P5 := putI w5 w.heap.size A (.slice vu O.length vc) O Na.heap.size vt rt (termO x.term) (cntF d) HT5.set ot.ints (fun hn q off e => by
    have hq : Na.heap.size ≤ q := by
      rcases ot.2 with h | ⟨g, cur, ha, hg, _⟩
      · exact absurd h hn
      · rw [e] at ha
        cases ha
        exact hg
    exact ⟨by have := HNa.out.set.box.lt; omega, fun e2 => by have := (HNa.out.set.row.ge e2).2; omega⟩) hof htr hc60 (by omega) (by have := HT5.set.box.lt; omega)
  have HT5 : Hid (ThSt w w5 M Rb A #[.slice v0 x.phis.length r0, .slice v1 x.insts.length r1, .int .i64 x.term.kind, .int .i64 x.term.a, .int .i64 x.term.x, .int .i64 x.term.y] (.slice vu O.length vc) O F1) := HT5
  clear PT ot b5 x2 x3 x4 x5 HNa
  go_wp2_with fail
  refine P5.mono ?_
  rintro e w6 ⟨rfl, v6, S6, K6⟩
  have HT6 : Hid (ThSt w w6 M Rb A #[.slice v0 x.phis.length r0, .slice v1 x.insts.length r1, .int .i64 x.term.kind, .int .i64 x.term.a, .int .i64 x.term.x, .int .i64 x.term.y] v6 (sumL O (termO x.term)) F1) := HT5.out.put (Nat.le_of_lt hM) S6 K6
  clear P5 S6 K6 HT5 htol htr
  generalize sumL O (termO x.term) = ST at *
  have x1 : w6.cell? ⟨w.heap.size, 1, none⟩ = some (.slice v1 x.insts.length r1) := (HT6.out.box.cell 1).trans rfl
  go_wp2_with fail
  go_loopw [8] (fun i wr => ∃ (m : Nat) (v : Value), m ≤ x.insts.length ∧ i = .int .i64 ((x.insts.length : Int) - 1 - m) ∧ Hid (ThSt w wr M Rb A #[.slice v0 x.phis.length r0, .slice v1 x.insts.length r1, .int .i64 x.term.kind, .int .i64 x.term.a, .int .i64 x.term.x, .int .i64 x.term.y] v (bkL x.insts (F0 + x.phis.length) ST m) (afterI F1 x.insts (F0 + x.phis.length) ST m))) (fun i _ => (intOf i + 1).toNat)
  case atStart => exact ⟨0, v6, by omega, by simp, HT6⟩
  case round =>
    obtain ⟨m, v, hm, rfl, HT⟩ := hrel
    obtain ⟨wp, hwp⟩ : ∃ wp, wp = wr := ⟨_, rfl⟩
    subst hwp
    clear x1 HT6
    obtain ⟨xu, xc, hxv⟩ := HT.out.set.row.slice
    subst hxv
    have hfin := HFN.out m hm
    have hlen := hfin.len
    by_cases hlt : m < x.insts.length
    · have HJ : Hid ((x.insts.length : Int) - 1 - m = ((x.insts.length - 1 - m : Nat) : Int)) := by show _ = _; omega
      have hjl : x.insts.length - 1 - m < x.insts.length := by omega
      have hmem := getD_mem inst0 x.insts (x.insts.length - 1 - m) hjl
      have his := HSI.out _ hmem
      obtain ⟨hop4, hopr⟩ := HOP.out _ hmem
      have HST : Hid (bkL x.insts (F0 + x.phis.length) ST (m + 1) = sumL (lessL (bkL x.insts (F0 + x.phis.length) ST m) ((F0 + x.phis.length + (x.insts.length - 1 - m) : Nat) : Int)) (opsD (x.insts.getD (x.insts.length - 1 - m) inst0))) := bk_step _ _ _
      have HAF : Hid (afterI F1 x.insts (F0 + x.phis.length) ST (m + 1) = updL (afterI F1 x.insts (F0 + x.phis.length) ST m) (21 + (F0 + x.phis.length + (x.insts.length - 1 - m))) (bkL x.insts (F0 + x.phis.length) ST m)) := rfl
      rw [HJ.out]
      generalize x.insts.length - 1 - m = j at *
      generalize hy : x.insts.getD j inst0 = y at *
      have HY : Hid (x.insts.getD j inst0 = y) := hy
      clear hmem hy
      have HID : Hid ((F0 : Int) + (x.phis.length : Int) + (j : Int) = ((F0 + x.phis.length + j : Nat) : Int)) := by show _ = _; push_cast; rfl
      generalize hFm : afterI F1 x.insts (F0 + x.phis.length) ST m = Fm at *
      clear hFm
      generalize bkL x.insts (F0 + x.phis.length) ST m = sm at *
      have hidb : F0 + x.phis.length + j < 60 := by omega
      have hb1 : (F0 : Int) + (x.phis.length : Int) ≤ 1048700 := by omega
      go_wp2_with fail
      rw [HID.out]
      generalize hid : F0 + x.phis.length + j = id at *
      clear hid
      have rIb := HT.out.set.row.ints (by omega)
      obtain ⟨u9b, c9b, hxvb, xib⟩ := rIb
      cases hxvb
      have PCb := copiedI w.heap.size xu xc (sm) wp.drew (by omega) (show IntsAt wp.drew _ _ _ from xib.keep (agree_of_below ((Below.refl _ _).drew) _))
      refine wp_region_held_drew (S := fun w' => At w' A #[.slice xu (sm).length xc] 76) (by kernel_rfl) (show At wp.drew A _ _ from HT.out.set.box) (fun hHeld => ?_)
      refine wpAnyH_take (i := 0) (v := ?_) rfl (by kernel_rfl) (by kernel_rfl) (by kernel_rfl) (fun _ _ _ h => h) (Or.inl ⟨by rfl, ?_⟩) hHeld ?_
      rotate_left
      · intro w9 hS9
        go_simp
        try with_reducible rfl
      show wpAnyH _ _ _ _ _ _ _ (Act.put _ (some _) _) _
      simp only [Act.put, List.setIfInBounds_toArray, List.set_cons_zero, List.set_cons_succ]
      refine wpAnyH_take (i := 1) (v := ?_) rfl (by kernel_rfl) (by kernel_rfl) (by kernel_rfl) (fun _ _ _ h => h) (Or.inl ⟨by rfl, ?_⟩) hHeld ?_
      rotate_left
      · intro w9 hS9
        go_simp
        try with_reducible rfl
      show wpAnyH _ _ _ _ _ _ _ (Act.put _ (some _) _) _
      simp only [Act.put, List.setIfInBounds_toArray, List.set_cons_zero, List.set_cons_succ]
      refine wpAnyH_take (i := 2) (v := ?_) rfl (by kernel_rfl) (by kernel_rfl) (by kernel_rfl) (fun _ _ _ h => h) (Or.inl ⟨by rfl, ?_⟩) hHeld ?_
      rotate_left
      · intro w9 hS9
        have g0 := (hS9.cell 0).trans rfl
        go_simp
        try with_reducible rfl
      show wpAnyH _ _ _ _ _ _ _ (Act.put _ (some _) _) _
      simp only [Act.put, List.setIfInBounds_toArray, List.set_cons_zero, List.set_cons_succ]
      refine wpAnyH_take (i := 4) (v := ?_) rfl (by kernel_rfl) (by kernel_rfl) (by kernel_rfl) (fun _ _ _ h => h) (Or.inl ⟨by rfl, ?_⟩) hHeld ?_
      rotate_left
      · intro w9 hS9
        go_simp
        try with_reducible rfl
      show wpAnyH _ _ _ _ _ _ _ (Act.put _ (some _) _) _
      simp only [Act.put, List.setIfInBounds_toArray, List.set_cons_zero, List.set_cons_succ]
      refine wpAnyH_take (i := 5) (v := ?_) rfl (by kernel_rfl) (by kernel_rfl) (by kernel_rfl) (fun _ _ _ h => h) (Or.inl ⟨by rfl, ?_⟩) hHeld ?_
      rotate_left
      · intro w9 hS9
        go_simp
        try with_reducible rfl
      show wpAnyH _ _ _ _ _ _ _ (Act.put _ (some _) _) _
      simp only [Act.put, List.setIfInBounds_toArray, List.set_cons_zero, List.set_cons_succ]
      refine wpAnyH_ready (rs := [3]) (by kernel_rfl) (by simp) ?_
      refine AllReadyH.cons rfl (fun K hK => ?_) AllReadyH.nil
      go_simp
      go_wp2_with (go_at_call 39; refine (PCb).mono ?_; rintro e Vb ⟨vyb, rfl, ryb, byb⟩)
      refine hK.out _ _ ?_ (fun hHeld2 => ?_)
      · exact hHeld.below byb
      clear hK K hHeld
      have hHeld := hHeld2
      clear hHeld2
      try simp only [Act.put, List.setIfInBounds_toArray, List.set_cons_zero, List.set_cons_succ]
      have HUb : Hid (ThSt w Vb M Rb A #[.slice v0 x.phis.length r0, .slice v1 x.insts.length r1, .int .i64 x.term.kind, .int .i64 x.term.a, .int .i64 x.term.x, .int .i64 x.term.y] (.slice xu (sm).length xc) (sm) (Fm)) := (HT.out.go ((Below.refl _ _).drew)).go byb
      have hzWb : w.heap.size ≤ wp.drew.heap.size := by have := HT.out.set.box.lt; have := HT.out.ge; show w.heap.size ≤ wp.heap.size; omega
      have hAWb : A < wp.drew.heap.size := HT.out.set.box.lt
      have hvWb : ∀ g, (Value.slice xu (sm).length xc).ownBlock = some g → g < wp.drew.heap.size := fun g hg => (HT.out.set.row.ge hg).2
      obtain ⟨yub, ycb, hyvb, yib⟩ := ryb.ints (by omega)
      have HYIb : Hid (IntsAt Vb (M + 1) yub (sm)) := yib.low (by omega)
      have HYBb : Hid (sm ≠ [] → ∀ q off, yub = some ⟨q, off, none⟩ → ¬ Bar A (.slice xu (sm).length xc) q) := fun hn q off e hb => by
        have hq : wp.drew.heap.size ≤ q := by
          rcases yib.2 with h | ⟨q', off', h, hl, _⟩
          · exact absurd h hn
          · rw [e] at h
            cases h
            exact hl
        rcases hb with h | h
        · omega
        · have := hvWb q h
          omega
      subst hyvb
      obtain ⟨zab, zcb, zeb, _, _⟩ := HUb.out.lv.cell (j := 21 + id) (by omega) (by omega)
      have zfb := HUb.out.lv.froz (21 + id)
      have hMAb := (lv_ne HUb.out.lv HUb.out.set).1
      clear PCb xib ryb byb yib
      refine wpAnyH_take (i := 6) (v := ?_) rfl (by kernel_rfl) (by kernel_rfl) (by kernel_rfl) (fun _ _ _ h => h) (Or.inl ⟨by rfl, ?_⟩) hHeld ?_
      rotate_left
      · intro w9 hS9
        go_simp
        rw [if_pos (by omega)]
        try with_reducible rfl
      show wpAnyH _ _ _ _ _ _ _ (Act.put _ (some _) _) _
      simp only [Act.put, List.setIfInBounds_toArray, List.set_cons_zero, List.set_cons_succ]
      refine wpAnyH_ready (rs := [7]) (by kernel_rfl) (by simp) ?_
      refine AllReadyH.cons rfl (fun K hK => ?_) AllReadyH.nil
      go_simp
      go_wp2_with fail
      refine hK.out _ _ ?_ (fun hHeld2 => ?_)
      · exact hHeld.setOther (Ne.symm hMAb)
      clear hK K hHeld
      have hHeld := hHeld2
      clear hHeld2
      try simp only [Act.put, List.setIfInBounds_toArray, List.set_cons_zero, List.set_cons_succ]
      refine wpAnyH_done (by kernel_rfl) ?_ _
      have HNb : Hid (ThSt w (Vb.setCell ⟨M, 21 + id, none⟩ (.slice yub (sm).length ycb)) M Rb A #[.slice v0 x.phis.length r0, .slice v1 x.insts.length r1, .int .i64 x.term.kind, .int .i64 x.term.a, .int .i64 x.term.x, .int .i64 x.term.y] (.slice xu (sm).length xc) (sm) (updL (Fm) (21 + id) (sm))) := HUb.out.store hM (by omega) (by omega) HYIb.out HYBb.out
      generalize (Vb.setCell ⟨M, 21 + id, none⟩ (.slice yub (sm).length ycb)) = Nb at HNb ⊢
      clear hHeld zeb zfb HYIb HYBb HUb hzWb hAWb hvWb
      have PD := dropI Nb w.heap.size A (.slice xu sm.length xc) sm (id : Int) (cntF d) HNb.out.set hfin hc60
      go_wp2_with fail
      refine PD.mono ?_
      rintro e w7 ⟨rfl, v7, S7, K7⟩
      have HT7 : Hid (ThSt w w7 M Rb A #[.slice v0 x.phis.length r0, .slice v1 x.insts.length r1, .int .i64 x.term.kind, .int .i64 x.term.a, .int .i64 x.term.x, .int .i64 x.term.y] v7 (lessL sm (id : Int)) (updL Fm (21 + id) sm)) := HNb.out.put (Nat.le_of_lt hM) S7 K7
      have hfl : Fine (cntF d) (lessL sm (id : Int)) := hfin.less _
      clear PD S7 K7 HNb
      have x1 : w7.cell? ⟨w.heap.size, 1, none⟩ = some (.slice v1 x.insts.length r1) := (HT7.out.box.cell 1).trans rfl
      rcases (HQ1.out w7 HT7.out.below).2 with hz | ⟨bi, oi, rfl, hloi, hbi, hcell⟩
      · rw [hz] at hjl; simp at hjl
      obtain ⟨f0, f1, f2, f3, f4, f5, ⟨i0, j0, f6, m6⟩⟩ := hcell j hjl
      rw [HY.out] at f0 f1 f2 f3 f4 f5 f6 m6
      have P8 := operI lo y i0 j0 w7 his m6
      clear hcell
      go_wp2_with fail
      refine P8.mono ?_
      rintro e w8 ⟨v8, r8, rfl, o8, b8⟩
      have HT8 := HT7.out.go b8
      have P9 := putI w8 w.heap.size A v7 (lessL sm (id : Int)) w7.heap.size v8 r8 (opsD y) (cntF d) HT8.set o8.ints (fun hn q off e => by
        have hq : w7.heap.size ≤ q := by
          rcases o8.2 with h | ⟨g, cur, ha, hg, _⟩
          · exact absurd h hn
          · rw [e] at ha
            cases ha
            exact hg
        exact ⟨by have := HT7.out.set.box.lt; omega, fun e2 => by have := (HT7.out.set.row.ge e2).2; omega⟩) hfl hopr hc60 (by omega) (by have := HT8.set.box.lt; omega)
      have HT8 : Hid (ThSt w w8 M Rb A #[.slice v0 x.phis.length r0, .slice (some ⟨bi, oi, none⟩) x.insts.length r1, .int .i64 x.term.kind, .int .i64 x.term.a, .int .i64 x.term.x, .int .i64 x.term.y] v7 (lessL sm (id : Int)) (updL Fm (21 + id) sm)) := HT8
      clear P8 b8 o8 f0 f1 f2 f3 f4 f5 f6 m6 x1 HT7
      go_wp2_with fail
      refine P9.mono ?_
      rintro e w9 ⟨rfl, v9, S9, K9⟩
      have HT9 : Hid (ThSt w w9 M Rb A #[.slice v0 x.phis.length r0, .slice (some ⟨bi, oi, none⟩) x.insts.length r1, .int .i64 x.term.kind, .int .i64 x.term.a, .int .i64 x.term.x, .int .i64 x.term.y] v9 (bkL x.insts (F0 + x.phis.length) ST (m + 1)) (afterI F1 x.insts (F0 + x.phis.length) ST (m + 1))) := by
        show ThSt _ _ _ _ _ _ _ _ _
        rw [HST.out, HAF.out]
        exact HT8.out.put (Nat.le_of_lt hM) S9 K9
      clear P9 S9 K9 HT8
      go_wp2_with fail
      go_roundw
      case rel => exact ⟨m + 1, v9, by omega, congrArg (Value.int .i64) (by have := HJ.out; push_cast; omega), HT9⟩
      case measure => simp [intOf] <;> omega
    · have hme : m = x.insts.length := by omega
      subst hme
      have hno : ¬ (0 ≤ (x.insts.length : Int) - 1 - (x.insts.length : Int)) := by omega
      generalize afterI F1 x.insts (F0 + x.phis.length) ST x.insts.length = FI at *
      generalize bkL x.insts (F0 + x.phis.length) ST x.insts.length = SB at *
      have hb1 : (F0 : Int) + (x.phis.length : Int) ≤ 1048700 := by omega
      have hF60 : F0 + x.phis.length ≤ 60 := by omega
      clear hlt HFN HOP HSI HQ1
      go_wp2_with fail
      go_loopw [10] (fun i wr => ∃ n : Nat, n ≤ x.phis.length ∧ i = .int .i64 ((F0 + n : Nat) : Int) ∧ Hid (ThSt w wr M Rb A #[.slice v0 x.phis.length r0, .slice v1 x.insts.length r1, .int .i64 x.term.kind, .int .i64 x.term.a, .int .i64 x.term.x, .int .i64 x.term.y] (.slice xu SB.length xc) SB (afterP FI F0 SB n))) (fun i _ => F0 + x.phis.length - (intOf i).toNat)
      case atStart => exact ⟨0, by omega, by simp, HT⟩
      case round =>
        obtain ⟨n, hn, rfl, HTq⟩ := hrel
        obtain ⟨wq, hwq⟩ : ∃ wq, wq = wr := ⟨_, rfl⟩
        subst hwq
        clear HT
        by_cases hnl : n < x.phis.length
        · have HAP : Hid (afterP FI F0 SB (n + 1) = updL (afterP FI F0 SB n) (21 + (F0 + n)) SB) := rfl
          generalize afterP FI F0 SB n = Fq at *
          have hid1 : F0 + n < F0 + x.phis.length := by omega
          have HNX : Hid (((F0 + n : Nat) : Int) + 1 = ((F0 + (n + 1) : Nat) : Int)) := by show _ = _; push_cast; omega
          have hid2 : ((F0 + n : Nat) : Int) < (F0 : Int) + (x.phis.length : Int) := by omega
          have HME : Hid (F0 + x.phis.length - (F0 + (n + 1)) < F0 + x.phis.length - (F0 + n)) := by show _ < _; omega
          generalize F0 + n = id at *
          have hidb : id < 60 := by omega
          go_wp2_with fail
          have rIc := HTq.out.set.row.ints (by omega)
          obtain ⟨u9c, c9c, hxvc, xic⟩ := rIc
          cases hxvc
          have PCc := copiedI w.heap.size xu xc (SB) wq.drew (by omega) (show IntsAt wq.drew _ _ _ from xic.keep (agree_of_below ((Below.refl _ _).drew) _))
          refine wp_region_held_drew (S := fun w' => At w' A #[.slice xu (SB).length xc] 76) (by kernel_rfl) (show At wq.drew A _ _ from HTq.out.set.box) (fun hHeld => ?_)
          refine wpAnyH_take (i := 0) (v := ?_) rfl (by kernel_rfl) (by kernel_rfl) (by kernel_rfl) (fun _ _ _ h => h) (Or.inl ⟨by rfl, ?_⟩) hHeld ?_
          rotate_left
          · intro w9 hS9
            go_simp
            try with_reducible rfl
          show wpAnyH _ _ _ _ _ _ _ (Act.put _ (some _) _) _
          simp only [Act.put, List.setIfInBounds_toArray, List.set_cons_zero, List.set_cons_succ]
          refine wpAnyH_take (i := 1) (v := ?_) rfl (by kernel_rfl) (by kernel_rfl) (by kernel_rfl) (fun _ _ _ h => h) (Or.inl ⟨by rfl, ?_⟩) hHeld ?_
          rotate_left
          · intro w9 hS9
            go_simp
            try with_reducible rfl
          show wpAnyH _ _ _ _ _ _ _ (Act.put _ (some _) _) _
          simp only [Act.put, List.setIfInBounds_toArray, List.set_cons_zero, List.set_cons_succ]
          refine wpAnyH_take (i := 2) (v := ?_) rfl (by kernel_rfl) (by kernel_rfl) (by kernel_rfl) (fun _ _ _ h => h) (Or.inl ⟨by rfl, ?_⟩) hHeld ?_
          rotate_left
          · intro w9 hS9
            have g0 := (hS9.cell 0).trans rfl
            go_simp
            try with_reducible rfl
          show wpAnyH _ _ _ _ _ _ _ (Act.put _ (some _) _) _
          simp only [Act.put, List.setIfInBounds_toArray, List.set_cons_zero, List.set_cons_succ]
          refine wpAnyH_take (i := 4) (v := ?_) rfl (by kernel_rfl) (by kernel_rfl) (by kernel_rfl) (fun _ _ _ h => h) (Or.inl ⟨by rfl, ?_⟩) hHeld ?_
          rotate_left
          · intro w9 hS9
            go_simp
            try with_reducible rfl
          show wpAnyH _ _ _ _ _ _ _ (Act.put _ (some _) _) _
          simp only [Act.put, List.setIfInBounds_toArray, List.set_cons_zero, List.set_cons_succ]
          refine wpAnyH_take (i := 5) (v := ?_) rfl (by kernel_rfl) (by kernel_rfl) (by kernel_rfl) (fun _ _ _ h => h) (Or.inl ⟨by rfl, ?_⟩) hHeld ?_
          rotate_left
          · intro w9 hS9
            go_simp
            try with_reducible rfl
          show wpAnyH _ _ _ _ _ _ _ (Act.put _ (some _) _) _
          simp only [Act.put, List.setIfInBounds_toArray, List.set_cons_zero, List.set_cons_succ]
          refine wpAnyH_ready (rs := [3]) (by kernel_rfl) (by simp) ?_
          refine AllReadyH.cons rfl (fun K hK => ?_) AllReadyH.nil
          go_simp
          go_wp2_with (go_at_call 39; refine (PCc).mono ?_; rintro e Vc ⟨vyc, rfl, ryc, byc⟩)
          refine hK.out _ _ ?_ (fun hHeld2 => ?_)
          · exact hHeld.below byc
          clear hK K hHeld
          have hHeld := hHeld2
          clear hHeld2
          try simp only [Act.put, List.setIfInBounds_toArray, List.set_cons_zero, List.set_cons_succ]
          have HUc : Hid (ThSt w Vc M Rb A #[.slice v0 x.phis.length r0, .slice v1 x.insts.length r1, .int .i64 x.term.kind, .int .i64 x.term.a, .int .i64 x.term.x, .int .i64 x.term.y] (.slice xu (SB).length xc) (SB) (Fq)) := (HTq.out.go ((Below.refl _ _).drew)).go byc
          have hzWc : w.heap.size ≤ wq.drew.heap.size := by have := HTq.out.set.box.lt; have := HTq.out.ge; show w.heap.size ≤ wq.heap.size; omega
          have hAWc : A < wq.drew.heap.size := HTq.out.set.box.lt
          have hvWc : ∀ g, (Value.slice xu (SB).length xc).ownBlock = some g → g < wq.drew.heap.size := fun g hg => (HTq.out.set.row.ge hg).2
          obtain ⟨yuc, ycc, hyvc, yic⟩ := ryc.ints (by omega)
          have HYIc : Hid (IntsAt Vc (M + 1) yuc (SB)) := yic.low (by omega)
          have HYBc : Hid (SB ≠ [] → ∀ q off, yuc = some ⟨q, off, none⟩ → ¬ Bar A (.slice xu (SB).length xc) q) := fun hn q off e hb => by
            have hq : wq.drew.heap.size ≤ q := by
              rcases yic.2 with h | ⟨q', off', h, hl, _⟩
              · exact absurd h hn
              · rw [e] at h
                cases h
                exact hl
            rcases hb with h | h
            · omega
            · have := hvWc q h
              omega
          subst hyvc
          obtain ⟨zac, zcc, zec, _, _⟩ := HUc.out.lv.cell (j := 21 + id) (by omega) (by omega)
          have zfc := HUc.out.lv.froz (21 + id)
          have hMAc := (lv_ne HUc.out.lv HUc.out.set).1
          clear PCc xic ryc byc yic
          refine wpAnyH_take (i := 6) (v := ?_) rfl (by kernel_rfl) (by kernel_rfl) (by kernel_rfl) (fun _ _ _ h => h) (Or.inl ⟨by rfl, ?_⟩) hHeld ?_
          rotate_left
          · intro w9 hS9
            go_simp
            rw [if_pos (by omega)]
            try with_reducible rfl
          show wpAnyH _ _ _ _ _ _ _ (Act.put _ (some _) _) _
          simp only [Act.put, List.setIfInBounds_toArray, List.set_cons_zero, List.set_cons_succ]
          refine wpAnyH_ready (rs := [7]) (by kernel_rfl) (by simp) ?_
          refine AllReadyH.cons rfl (fun K hK => ?_) AllReadyH.nil
          go_simp
          go_wp2_with fail
          refine hK.out _ _ ?_ (fun hHeld2 => ?_)
          · exact hHeld.setOther (Ne.symm hMAc)
          clear hK K hHeld
          have hHeld := hHeld2
          clear hHeld2
          try simp only [Act.put, List.setIfInBounds_toArray, List.set_cons_zero, List.set_cons_succ]
          refine wpAnyH_done (by kernel_rfl) ?_ _
          have HNc : Hid (ThSt w (Vc.setCell ⟨M, 21 + id, none⟩ (.slice yuc (SB).length ycc)) M Rb A #[.slice v0 x.phis.length r0, .slice v1 x.insts.length r1, .int .i64 x.term.kind, .int .i64 x.term.a, .int .i64 x.term.x, .int .i64 x.term.y] (.slice xu (SB).length xc) (SB) (updL (Fq) (21 + id) (SB))) := HUc.out.store hM (by omega) (by omega) HYIc.out HYBc.out
          generalize (Vc.setCell ⟨M, 21 + id, none⟩ (.slice yuc (SB).length ycc)) = Nc at HNc ⊢
          clear hHeld zec zfc HYIc HYBc HUc hzWc hAWc hvWc
          have HT9 : Hid (ThSt w Nc M Rb A #[.slice v0 x.phis.length r0, .slice v1 x.insts.length r1, .int .i64 x.term.kind, .int .i64 x.term.a, .int .i64 x.term.x, .int .i64 x.term.y] (.slice xu SB.length xc) SB (afterP FI F0 SB (n + 1))) := by rw [HAP.out]; exact HNc
          go_wp2_with fail
          go_roundw
          case rel => exact ⟨n + 1, by omega, congrArg (Value.int .i64) HNX.out, HT9⟩
          case measure => have h1 := HNX.out; simp [intOf]; omega
        · have hne : n = x.phis.length := by omega
          subst hne
          generalize afterP FI F0 SB x.phis.length = FP at *
          have hno2 : ¬ (((F0 + x.phis.length : Nat) : Int) < (F0 : Int) + (x.phis.length : Int)) := by push_cast; omega
          clear hnl
          go_wp2_with fail
          go_loopw [11] (fun i wr => ∃ (n : Nat) (v : Value), n ≤ x.phis.length ∧ i = .int .i64 ((F0 + n : Nat) : Int) ∧ Hid (ThSt w wr M Rb A #[.slice v0 x.phis.length r0, .slice v1 x.insts.length r1, .int .i64 x.term.kind, .int .i64 x.term.a, .int .i64 x.term.x, .int .i64 x.term.y] v (phL F0 SB n) FP)) (fun i _ => F0 + x.phis.length - (intOf i).toNat)
          case atStart => exact ⟨0, _, by omega, by simp, HTq⟩
          case round =>
            obtain ⟨n, v, hn, rfl, HTd⟩ := hrel
            obtain ⟨wd, hwd⟩ : ∃ wd, wd = wr := ⟨_, rfl⟩
            subst hwd
            clear HTq
            have hfp := Fine.ph F0 hfin n
            by_cases hnl : n < x.phis.length
            · have HPN : Hid (phL F0 SB (n + 1) = lessL (phL F0 SB n) ((F0 + n : Nat) : Int)) := rfl
              generalize phL F0 SB n = sp at *
              have HNX : Hid (((F0 + n : Nat) : Int) + 1 = ((F0 + (n + 1) : Nat) : Int)) := by show _ = _; push_cast; omega
              have hid2 : ((F0 + n : Nat) : Int) < (F0 : Int) + (x.phis.length : Int) := by omega
              have hidl : F0 + n < F0 + x.phis.length := by omega
              have PD := dropI wd w.heap.size A v sp ((F0 + n : Nat) : Int) (cntF d) HTd.out.set hfp hc60
              generalize F0 + n = id at *
              go_wp2_with fail
              refine PD.mono ?_
              rintro e w7 ⟨rfl, v7, S7, K7⟩
              have HT9 : Hid (ThSt w w7 M Rb A #[.slice v0 x.phis.length r0, .slice v1 x.insts.length r1, .int .i64 x.term.kind, .int .i64 x.term.a, .int .i64 x.term.x, .int .i64 x.term.y] v7 (phL F0 SB (n + 1)) FP) := by rw [HPN.out]; exact HTd.out.put (Nat.le_of_lt hM) S7 K7
              clear PD S7 K7
              go_wp2_with fail
              go_roundw
              case rel => exact ⟨n + 1, v7, by omega, congrArg (Value.int .i64) HNX.out, HT9⟩
              case measure => have h1 := HNX.out; simp [intOf]; omega
            · have hne : n = x.phis.length := by omega
              subst hne
              generalize phL F0 SB x.phis.length = NI at *
              have hno3 : ¬ (((F0 + x.phis.length : Nat) : Int) < (F0 : Int) + (x.phis.length : Int)) := by push_cast; omega
              clear hnl
              have hnlen := hfp.len
              obtain ⟨nu, nc, hnv, ni⟩ := HTd.out.set.row.ints (by omega)
              subst hnv
              have HNI : Hid (IntsAt wd (M + 1) nu NI) := ni.low (by omega)
              obtain ⟨za, zc, ze, _, _⟩ := HTd.out.lv.cell (j := 1 + b) (by omega) (by omega)
              have d1 : wd.drew.cell? ⟨A, 0, none⟩ = some (.slice nu NI.length nc) := (HTd.out.set.box.cell 0).trans rfl
              have d2 : wd.drew.cell? ⟨M, 1 + b, none⟩ = some (.slice za (FP (1 + b)).length zc) := ze
              have d3 : wd.drew.frozen? ⟨M, 1 + b, none⟩ = false := HTd.out.lv.froz (1 + b)
              clear ze ni
              go_wp2_with fail
              go_region
              have HE : Hid (LvAt (wd.setCell ⟨M, 1 + b, none⟩ (.slice nu NI.length nc)) M Rb (fun _ => False) (thruF d F b)) := by
                show LvAt _ _ _ _ _
                rw [HTH.out]
                exact (HTd.out.lv.imp (fun q hq => hq.elim)).set (by omega) (by omega) HNI.out (fun _ q off _ hq => hq.elim)
              have HBE : Hid (Below M w (wd.setCell ⟨M, 1 + b, none⟩ (.slice nu NI.length nc))) := HTd.out.below.setCell (p := ⟨M, 1 + b, none⟩) (Nat.le_refl _) _
              all_goals
                go_wp2_with fail
                go_end0
                exact ⟨rfl, LvAt.drew HE.out, HBE.out.drew⟩
end Go.Proofs.YtolaghondjfhdabGreatDoor
