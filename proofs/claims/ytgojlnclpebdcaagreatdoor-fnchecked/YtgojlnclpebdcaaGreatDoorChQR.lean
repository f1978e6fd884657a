import Derived.Test.YtgojlnclpebdcaaGreatDoorMemR
import Derived.Test.YtgojlnclpebdcaaGreatDoorChLR
namespace Go.Proofs.YtgojlnclpebdcaaGreatDoor
open Go.RowKit
set_option linter.unusedVariables false
set_option linter.unusedSimpArgs false
theorem ints_get (l : List Nat) (k : Nat) : (ints l).getD k 0 = ((l.getD k 0 : Nat) : Int) := by
 simp only [ints, List.getD_eq_getElem?_getD, List.getElem?_map]
 cases l[k]? <;> rfl
set_option maxHeartbeats 8000000 in
set_option maxRecDepth 100000 in
theorem domsS (lo : Nat) (d : FuncD) (p0 : Option Addr) (c0 : Nat) (p2 : Option Addr) (c2 : Nat) (funcs : Int) (v : Bool) (w : World) (hs : SmFunc d) (k2 : BlocksAt w lo p2 d.blocks) (hF : Form funcs d) (hP : phsB d = true) (hv : v = true ↔ DomsP d) :
  Calls Tryz.prog 60 #[.agg #[.slice p0 d.params.length c0, .int .i64 d.ret, .slice p2 d.blocks.length c2]] w fun e w' => e = .returned (.bool v) ∧ Below w.heap.size w w' := by
 have hb1 := hF.b1
 have hb10 := hF.b10
 have hc60 := hF.c60
 have HS : Hid (SmFunc d) := hs
 have HF : Hid (Form funcs d) := hF
 have HR : Hid (RightL d.blocks) := hF.right
 have HPB : Hid (phsB d = true) := hP
 have HV : Hid (v = true ↔ DomsP d) := hv
 have HK2 : Hid (BlocksAt w lo p2 d.blocks) := k2
 have F0 := FBox.start (d := d) (u0 := p0) (u2 := p2) (c0 := c0) (c2 := c2) (w := w) (T := 36)
 have D : Calls Tryz.prog 97 #[.agg #[.slice p0 d.params.length c0, .int .i64 d.ret, .slice p2 d.blocks.length c2], .int .i64 (-1)] _ _ := reachS lo d p0 c0 p2 c2 none (w.alloc (.cells #[.slice p0 d.params.length c0, .int .i64 d.ret, .slice p2 d.blocks.length c2] 36)) hF.right (k2.keep (agree_of_below F0.below lo))
 clear hs hF hP hv k2
 go_enter Tryz.func60, Tryz.ntmps60
 go_wp2_with (go_at_call 97; refine D.mono ?_; rintro e w1 ⟨⟨O, lb, lof, lc, rfl, hOI, hOm, _, hOl⟩, hb1'⟩; have HO : Hid (∀ x, x ∈ O ↔ Rch (succN d.blocks) none x) := hOm; have HL1 : Hid (IntsAt w1 w.heap.size (some ⟨lb, lof, none⟩) (ints O)) := hOI.low (by simp); have HF1 : Hid (FBox d p0 c0 p2 c2 w w1) := F0.keep hb1'; clear hb1' hOI hOm F0 D)
 have hz1 := HF1.out.size
 have HDI : Hid ((∀ b ∈ O, PhiM d O b ∧ SeesIn d b) ↔ DomsP d) := doms_iff HO.out
 have HOL : Hid (∀ x ∈ O, x < d.blocks.length) := fun x hx => (post_told (succN d.blocks) none d.blocks.length (by omega) (right_lt HR.out)).low x (((post_told (succN d.blocks) none d.blocks.length (by omega) (right_lt HR.out)).mem x).2 ((HO.out x).1 hx))
 go_loopw [4] (fun i wr => ∃ k : Nat, k ≤ O.length ∧ i = .int .i64 k ∧ Hid (∀ j, j < k → PhiM d O (O.getD j 0) ∧ SeesIn d (O.getD j 0)) ∧ Hid (Below w1.heap.size w1 wr)) (fun i _ => O.length - (intOf i).toNat)
 case atStart => exact ⟨0, by omega, rfl, fun j hj => by omega, Below.refl _ _⟩
 case round =>
  obtain ⟨k, hk, rfl, HD, HW⟩ := hrel
  obtain ⟨wo, hwo⟩ : ∃ wo, wo = wr := ⟨_, rfl⟩
  subst hwo
  have HWo : Hid (Below w.heap.size w wo) := HF1.out.below.trans (HW.out.mono (by omega))
  have HFo : Hid (FBox d p0 c0 p2 c2 w wo) := HF1.out.keep HW.out
  by_cases hlt : k < O.length
  ·have HLo : Hid (IntsAt wo w.heap.size (some ⟨lb, lof, none⟩) (ints O)) := HL1.out.keep (agree_of_below HW.out _)
   have z0 := ints_cells HLo.out k (by rw [ints_len]; exact hlt)
   rw [ints_get] at z0
   have hnm := getD_mem 0 O k hlt
   have hnl := HOL.out _ hnm
   have NO : Hid (¬ (PhiM d O (O.getD k 0) ∧ SeesIn d (O.getD k 0)) → false = v) := fun h => bool_one (P := DomsP d) (by
    constructor
    ·intro e; cases e
    ·exact fun h2 => absurd ((HDI.out.2 h2) _ hnm) h) HV.out
   have YS : Hid ((PhiM d O (O.getD k 0) ∧ SeesIn d (O.getD k 0)) → ∀ j, j < k + 1 → PhiM d O (O.getD j 0) ∧ SeesIn d (O.getD j 0)) := fun h j hj => by
    by_cases e : j = k
    ·subst e; exact h
    ·exact HD.out j (by omega)
   generalize O.getD k 0 = n at z0 hnm hnl NO YS
   rcases HK2.out.2 with hn | ⟨bb, off, hpe, hlo, hbb, hcell⟩
   ·simp [hn] at hnl
   subst hpe
   have HCL : Hid (∀ i, i < d.blocks.length → _) := hcell
   obtain ⟨⟨v0, q0, h0, m0⟩, ⟨v1, q1, h1, m1⟩, h2, h3, h4, h5⟩ := hcell n hnl
   have hsm := HS.out.2.2 _ (getD_mem block0 d.blocks n hnl)
   have hfb := HF.out.at hnl
   have HPH : Hid (∀ p ∈ (d.blocks.getD n block0).phis, p.ins.length = (predN (succN d.blocks) d.blocks.length n).length) := phs_at HPB.out hnl
   have HPM : Hid (PhiM d O n ↔ ∀ p ∈ (d.blocks.getD n block0).phis, ∀ j, j < (predN (succN d.blocks) d.blocks.length n).length → (predN (succN d.blocks) d.blocks.length n).getD j 0 ∈ O → Sees d (p.ins.getD j 0) ((predN (succN d.blocks) d.blocks.length n).getD j 0) (endN (d.blocks.getD ((predN (succN d.blocks) d.blocks.length n).getD j 0) block0))) := Iff.rfl
   have SI : Hid (SeesIn d n ↔ (∀ k, k < (d.blocks.getD n block0).insts.length → ∀ id ∈ opsD ((d.blocks.getD n block0).insts.getD k inst0), Sees d id n ((d.blocks.getD n block0).phis.length + k)) ∧ (∀ id ∈ namesT (d.blocks.getD n block0).term, Sees d id n (endN (d.blocks.getD n block0)))) := Iff.rfl
   have hpl := pred_len (S := succN d.blocks) (n := d.blocks.length) (x := n)
   have HPL : Hid (∀ y ∈ predN (succN d.blocks) d.blocks.length n, y < d.blocks.length) := fun y hy => pred_lt y hy
   have DP := fun (W : World) (hW : Below w.heap.size w W) => l3predsS lo d p0 c0 (some ⟨bb, off, none⟩) c2 n W HR.out (HK2.out.keep (agree_of_below hW lo))
   generalize predN (succN d.blocks) d.blocks.length n = P at HPH HPM hpl HPL DP
   generalize d.blocks.getD n block0 = x at h0 h1 h2 h3 h4 h5 m0 m1 hsm hfb HPH HPM SI
   have HFB : Hid (FBlk (cntF d) d.blocks.length funcs x) := hfb
   have e0 := (bcell HWo.out _ _ hbb).trans h0
   have e1 := (bcell HWo.out _ _ hbb).trans h1
   have e2 := (bcell HWo.out _ _ hbb).trans h2
   have e3 := (bcell HWo.out _ _ hbb).trans h3
   have e4 := (bcell HWo.out _ _ hbb).trans h4
   have e5 := (bcell HWo.out _ _ hbb).trans h5
   have a0 := HFo.out.a0
   have a1 := HFo.out.a1
   have a2 := HFo.out.a2
   have s0 := hsm.1.1
   have s1 := hsm.2.1
   have SN : Hid (∀ p ∈ x.insts, SmInst p) := hsm.2.2
   have HM0 : Hid (PhisAt w lo v0 x.phis) := m0
   have HM1 : Hid (InstsAt w lo v1 x.insts) := m1
   have lw : w.heap.size < wo.heap.size := by have := HFo.out.size; omega
   have lbo : bb < wo.heap.size := by have := HWo.out.size; omega
   clear hcell h0 h1 h2 h3 h4 h5 m0 m1 hsm hfb HD
   go_wp2_with (go_at_call 56; refine (DP _ (HWo.out.alloc HWo.out.size _)).mono ?_; rintro e w2 ⟨pv, rfl, hpo, hb2⟩; obtain ⟨pu, pc, rfl, hpa⟩ := ints_own (by rw [ints_len]) (by rw [ints_len]; omega) hpo; rw [ints_len]; have HPA : Hid (IntsAt w2 wo.heap.size pu (ints P)) := hpa.ints.low (by simp); have HBX : Hid (Below (wo.heap.size + 1) (wo.alloc (.cells #[.slice v0 x.phis.length q0, .slice v1 x.insts.length q1, .int .i64 x.term.kind, .int .i64 x.term.a, .int .i64 x.term.x, .int .i64 x.term.y] 43)) w2) := hb2.mono (by simp); have e6 := cells6c HBX.out; have e60 := e6.1; have e61 := e6.2.1; clear hpo hpa hb2 e6)
   have hz2 : wo.heap.size + 1 ≤ w2.heap.size := by have := HBX.out.size; simp at this; omega
   have HBo2 : Hid (Below wo.heap.size wo w2) := below_box HBX.out
   have HW2 : Hid (Below w.heap.size w w2) := HWo.out.trans (HBo2.out.mono HWo.out.size)
   clear z0 e0 e1 e2 e3 e4 e5 a0 a1 a2 e60 e61
   go_loopw [9] (fun i wr => ∃ j : Nat, j ≤ x.phis.length ∧ i = .int .i64 j ∧ Hid (∀ q, q < j → ∀ jj, jj < P.length → P.getD jj 0 ∈ O → Sees d ((x.phis.getD q phi0).ins.getD jj 0) (P.getD jj 0) (endN (d.blocks.getD (P.getD jj 0) block0))) ∧ Hid (Below w2.heap.size w2 wr)) (fun i _ => x.phis.length - (intOf i).toNat)
   case atStart => exact ⟨0, by omega, rfl, fun q hq => by omega, Below.refl _ _⟩
   case round =>
    obtain ⟨j, hj, rfl, HJ, HB⟩ := hrel
    obtain ⟨wp, hwp⟩ : ∃ wp, wp = wr := ⟨_, rfl⟩
    subst hwp
    have HXp : Hid (Below (wo.heap.size + 1) (wo.alloc (.cells #[.slice v0 x.phis.length q0, .slice v1 x.insts.length q1, .int .i64 x.term.kind, .int .i64 x.term.a, .int .i64 x.term.x, .int .i64 x.term.y] 43)) wp) := HBX.out.trans (HB.out.mono hz2)
    obtain ⟨x0, x1, x2, x3, x4, x5⟩ := cells6c HXp.out
    clear x1 x2 x3 x4 x5
    by_cases hjl : j < x.phis.length
    ·rcases HM0.out.2 with hn | ⟨pb, po, hve, hplo, hpb, hpc⟩
     ·simp [hn] at hjl
     subst hve
     obtain ⟨_, ⟨iu, iq, hi1, im⟩⟩ := hpc j hjl
     have hlen := HPH.out _ (getD_mem phi0 x.phis j hjl)
     have HIDR : Hid (∀ id ∈ (x.phis.getD j phi0).ins, 0 ≤ id ∧ id < (cntF d : Int)) := HFB.out.phi _ (getD_mem phi0 x.phis j hjl)
     have PNO : Hid (∀ jj, jj < P.length → P.getD jj 0 ∈ O → ¬ Sees d ((x.phis.getD j phi0).ins.getD jj 0) (P.getD jj 0) (endN (d.blocks.getD (P.getD jj 0) block0)) → false = v) := fun jj h1 h2 h3 => NO.out (fun h => h3 (HPM.out.1 h.1 _ (getD_mem phi0 x.phis j hjl) jj h1 h2))
     have PYS : Hid ((∀ jj, jj < P.length → P.getD jj 0 ∈ O → Sees d ((x.phis.getD j phi0).ins.getD jj 0) (P.getD jj 0) (endN (d.blocks.getD (P.getD jj 0) block0))) → ∀ q, q < j + 1 → ∀ jj, jj < P.length → P.getD jj 0 ∈ O → Sees d ((x.phis.getD q phi0).ins.getD jj 0) (P.getD jj 0) (endN (d.blocks.getD (P.getD jj 0) block0))) := fun h q hq => by
      by_cases e : q = j
      ·subst e; exact h
      ·exact HJ.out q (by omega)
     generalize x.phis.getD j phi0 = p at hi1 im hlen HIDR PNO PYS
     have HI1 : Hid (w.cell? ⟨pb, po + j * 2 + 1, none⟩ = some (.slice iu p.ins.length iq)) := hi1
     have HIM : Hid (IntsAt w lo iu p.ins) := im
     clear hpc hi1 im HJ
     go_wp2_with fail
     clear x0
     go_loopw [10] (fun i wr => ∃ r : Nat, r ≤ P.length ∧ i = .int .i64 r ∧ Hid (∀ jj, jj < r → P.getD jj 0 ∈ O → Sees d (p.ins.getD jj 0) (P.getD jj 0) (endN (d.blocks.getD (P.getD jj 0) block0))) ∧ Hid (Below w2.heap.size w2 wr)) (fun i _ => P.length - (intOf i).toNat)
     case atStart => exact ⟨0, by omega, rfl, fun q hq => by omega, HB.out⟩
     case round =>
      obtain ⟨r, hr, rfl, HRR, HC⟩ := hrel
      obtain ⟨wq, hwq⟩ : ∃ wq, wq = wr := ⟨_, rfl⟩
      subst hwq
      have HWq : Hid (Below w.heap.size w wq) := HW2.out.trans (HC.out.mono HW2.out.size)
      have hz3 := HC.out.size
      by_cases hrl : r < P.length
      ·have HPQ : Hid (IntsAt wq wo.heap.size pu (ints P)) := HPA.out.keep (agree_of_below HC.out _)
       rcases HPQ.out.2 with hn | ⟨qb, qo, hqe, hqlo, hqb, hqc⟩
       ·have := ints_len P; rw [hn] at this; simp at this; omega
       subst hqe
       have z1 := hqc r (by rw [ints_len]; exact hrl)
       rw [ints_get] at z1
       have hym := getD_mem 0 P r hrl
       have hyl := HPL.out _ hym
       have RNO : Hid (P.getD r 0 ∈ O → ¬ Sees d (p.ins.getD r 0) (P.getD r 0) (endN (d.blocks.getD (P.getD r 0) block0)) → false = v) := PNO.out r hrl
       have RYS : Hid ((P.getD r 0 ∈ O → Sees d (p.ins.getD r 0) (P.getD r 0) (endN (d.blocks.getD (P.getD r 0) block0))) → ∀ jj, jj < r + 1 → P.getD jj 0 ∈ O → Sees d (p.ins.getD jj 0) (P.getD jj 0) (endN (d.blocks.getD (P.getD jj 0) block0))) := fun h jj hjj => by
        by_cases e : jj = r
        ·subst e; exact h
        ·exact HRR.out jj (by omega)
       have hri : r < p.ins.length := by omega
       have hid := HIDR.out _ (getD_mem 0 p.ins r hri)
       rcases HIM.out.2 with hn | ⟨ib, io, hie, hilo, hib, hic⟩
       ·simp [hn] at hri
       subst hie
       have i0 : wq.cell? ⟨ib, io + r, none⟩ = some (.int .i64 (p.ins.getD r 0)) := (bcell HWq.out _ _ hib).trans (hic r hri)
       have i1 : wq.cell? ⟨pb, po + j * 2 + 1, none⟩ = some (.slice (some ⟨ib, io, none⟩) p.ins.length iq) := (bcell HWq.out _ _ hpb).trans HI1.out
       generalize p.ins.getD r 0 = id at hid RNO RYS i0
       generalize P.getD r 0 = y at z1 hym hyl RNO RYS
       have hidm : id ≤ 9223372036854775807 := by omega
       obtain ⟨⟨yv0, yq0, yh0, _⟩, ⟨yv1, yq1, yh1, _⟩, yh2, yh3, yh4, yh5⟩ := HCL.out y hyl
       have hysm := HS.out.2.2 _ (getD_mem block0 d.blocks y hyl)
       generalize d.blocks.getD y block0 = Y at yh0 yh1 yh2 yh3 yh4 yh5 hysm RNO RYS
       have t0 := hysm.1.1
       have t1 := hysm.2.1
       have b0 := (bcell HWq.out _ _ hbb).trans yh0
       have b1 := (bcell HWq.out _ _ hbb).trans yh1
       have b2 := (bcell HWq.out _ _ hbb).trans yh2
       have b3 := (bcell HWq.out _ _ hbb).trans yh3
       have b4 := (bcell HWq.out _ _ hbb).trans yh4
       have b5 := (bcell HWq.out _ _ hbb).trans yh5
       have HFq : Hid _ := HFo.out.keep (HBo2.out.trans (HC.out.mono (by omega)))
       have F0 := HFq.out.a0
       have F1 := HFq.out.a1
       have F2 := HFq.out.a2
       have l1 : w.heap.size < wq.heap.size := by omega
       have l2 : wo.heap.size < wq.heap.size := by omega
       have l3 : pb < wq.heap.size := by have := HWq.out.size; omega
       have l4 : ib < wq.heap.size := by have := HWq.out.size; omega
       have l5 : bb < wq.heap.size := by have := HWq.out.size; omega
       have HXq : Hid (Below (wo.heap.size + 1) (wo.alloc (.cells #[.slice (some ⟨pb, po, none⟩) x.phis.length q0, .slice v1 x.insts.length q1, .int .i64 x.term.kind, .int .i64 x.term.a, .int .i64 x.term.x, .int .i64 x.term.y] 43)) wq) := HBX.out.trans (HC.out.mono hz2)
       have x0 := (cells6c HXq.out).1
       have hyi : (y : Int) < d.blocks.length := by omega
       clear hqc hic yh0 yh1 yh2 yh3 yh4 yh5 hysm HRR hid
       go_wp2_with fail
       refine wp_region_held_drew (S := fun w' => Below wq.heap.size wq w') (by kernel_rfl) ((Below.refl _ _).drew) (fun hHeld => ?_)
       refine tkh 0 (v := ?_) rfl rfl (by kernel_rfl) (fun _ _ _ h => h) (yesH (by rfl) ?_) hHeld ?_
       rotate_left
       ·intro w9 hS9
        go_simp
        try with_reducible rfl
       simp only [sA, sB, sC]
       refine tkh 1 (v := ?_) rfl rfl (by kernel_rfl) (fun _ _ _ h => h) (yesH (by rfl) ?_) hHeld ?_
       rotate_left
       ·intro w9 hS9
        have g0 := (bcell hS9 _ _ l1).trans F2
        go_simp
        try with_reducible rfl
       simp only [sA, sB, sC]
       refine tkh 2 (v := ?_) rfl rfl (by kernel_rfl) (fun _ _ _ h => h) (yesH (by rfl) ?_) hHeld ?_
       rotate_left
       ·intro w9 hS9
        go_simp
        try with_reducible rfl
       simp only [sA, sB, sC]
       refine tkh 3 (v := ?_) rfl rfl (by kernel_rfl) (fun _ _ _ h => h) (yesH (by rfl) ?_) hHeld ?_
       rotate_left
       ·intro w9 hS9
        go_simp
        try with_reducible rfl
       simp only [sA, sB, sC]
       refine tkh 4 (v := ?_) rfl rfl (by kernel_rfl) (fun _ _ _ h => h) (yesH (by rfl) ?_) hHeld ?_
       rotate_left
       ·intro w9 hS9
        go_simp
        try with_reducible rfl
       simp only [sA, sB, sC]
       refine tkh 5 (v := ?_) rfl rfl (by kernel_rfl) (fun _ _ _ h => h) (yesH (by rfl) ?_) hHeld ?_
       rotate_left
       ·intro w9 hS9
        have g0 := (bcell hS9 _ _ hqb).trans z1
        go_simp
        try with_reducible rfl
       simp only [sA, sB, sC]
       refine tkh 6 (v := ?_) rfl rfl (by kernel_rfl) (fun _ _ _ h => h) (yesH (by rfl) ?_) hHeld ?_
       rotate_left
       ·intro w9 hS9
        go_simp
        try with_reducible rfl
       simp only [sA, sB, sC]
       refine tkh 7 (v := ?_) rfl rfl (by kernel_rfl) (fun _ _ _ h => h) (yesH (by rfl) ?_) hHeld ?_
       rotate_left
       ·intro w9 hS9
        have g0 := (bcell hS9 _ _ l5).trans b0
        have g1 := (bcell hS9 _ _ l5).trans b1
        have g2 := (bcell hS9 _ _ l5).trans b2
        have g3 := (bcell hS9 _ _ l5).trans b3
        have g4 := (bcell hS9 _ _ l5).trans b4
        have g5 := (bcell hS9 _ _ l5).trans b5
        go_simp
        try with_reducible rfl
       simp only [sA, sB, sC]
       refine wpAnyH_ready (rs := [8]) (by kernel_rfl) (by simp) ?_
       refine AllReadyH.cons rfl (fun K hK => ?_) AllReadyH.nil
       go_simp
       refine hK.out _ _ ?_ (fun hHeld2 => ?_)
       ·exact hHeld.alloc hHeld.size _
       clear hK K
       refine wpAnyH_ready (rs := [9]) (by kernel_rfl) (by simp) ?_
       refine AllReadyH.cons rfl (fun K hK => ?_) AllReadyH.nil
       go_simp
       refine hK.out _ _ ?_ (fun hHeld3 => ?_)
       ·exact hHeld.alloc hHeld.size _
       clear hK K
       refine wpAnyH_done (by kernel_rfl) ?_ _
       have yy : (wq.alloc (.cells #[.slice yv0 Y.phis.length yq0, .slice yv1 Y.insts.length yq1, .int .i64 Y.term.kind, .int .i64 Y.term.a, .int .i64 Y.term.x, .int .i64 Y.term.y] 43)).drew.heap[wq.heap.size]? = some (.cells #[.slice yv0 Y.phis.length yq0, .slice yv1 Y.insts.length yq1, .int .i64 Y.term.kind, .int .i64 Y.term.a, .int .i64 Y.term.x, .int .i64 Y.term.y] 43 (0, 0)) := heap_alloc_last _ _
       have hB6 : Below wq.heap.size wq (wq.alloc (.cells #[.slice yv0 Y.phis.length yq0, .slice yv1 Y.insts.length yq1, .int .i64 Y.term.kind, .int .i64 Y.term.a, .int .i64 Y.term.x, .int .i64 Y.term.y] 43)).drew := ((Below.refl _ _).alloc (Nat.le_refl _) _).drew
       generalize (wq.alloc (.cells #[.slice yv0 Y.phis.length yq0, .slice yv1 Y.insts.length yq1, .int .i64 Y.term.kind, .int .i64 Y.term.a, .int .i64 Y.term.x, .int .i64 Y.term.y] 43)).drew = w6 at yy hB6 ⊢
       clear hHeld hHeld2 hHeld3
       have HB6 : Hid (Below wq.heap.size wq w6) := hB6
       have HW6 : Hid (Below w.heap.size w w6) := HWq.out.trans (hB6.mono HWq.out.size)
       have KK2 : Hid (BlocksAt w6 lo (some ⟨bb, off, none⟩) d.blocks) := HK2.out.keep (agree_of_below HW6.out _)
       have HLQ : Hid (IntsAt w6 w.heap.size (some ⟨lb, lof, none⟩) (ints O)) := HLo.out.keep (agree_of_below (HBo2.out.trans ((HC.out.trans (hB6.mono hz3)).mono (by omega))) _)
       have G0 := (bcell hB6 _ _ l1).trans F0
       have G1 := (bcell hB6 _ _ l1).trans F1
       have G2 := (bcell hB6 _ _ l1).trans F2
       have G3 := (bcell hB6 _ _ hqb).trans z1
       have G4 := (bcell hB6 _ _ l2).trans x0
       have G5 := (bcell hB6 _ _ l3).trans i1
       have G6 := (bcell hB6 _ _ l4).trans i0
       have G7 := (cell_of_heap (o := 0) yy).trans rfl
       have G8 := (cell_of_heap (o := 1) yy).trans rfl
       have L1 : w.heap.size < w6.heap.size := by have := hB6.size; omega
       have L2 : wo.heap.size < w6.heap.size := by have := hB6.size; omega
       have L3 : pb < w6.heap.size := by have := hB6.size; omega
       have L4 : ib < w6.heap.size := by have := hB6.size; omega
       have L5 : qb < w6.heap.size := by have := hB6.size; omega
       have L6 : wq.heap.size < w6.heap.size := (Array.getElem?_eq_some_iff.1 yy).1
       have hrii : (r : Int) < p.ins.length := by omega
       have hwr : IntKind.i64.wrap ((Y.phis.length : Int) + Y.insts.length) = endN Y := by rw [IntKind.wrap_i64]; unfold endN; omega
       clear F0 F1 F2 z1 x0 i1 i0 hB6 yy b0 b1 b2 b3 b4 b5
       by_cases hyO : y ∈ O
       ·have HHV : Hid (decide (y ∈ O) = true) := decide_eq_true hyO
        by_cases hq : Sees d id y (endN Y)
        ·have HQ : Hid (true = true ↔ Sees d id y (endN Y)) := ⟨fun _ => hq, fun _ => rfl⟩
         have RY : Hid (∀ jj, jj < r + 1 → P.getD jj 0 ∈ O → Sees d (p.ins.getD jj 0) (P.getD jj 0) (endN (d.blocks.getD (P.getD jj 0) block0))) := RYS.out (fun _ => hq)
         clear hq hyO
         have TH : ∀ xx : Abv (fun v => Below w6.heap.size w6 v), Calls Tryz.prog 93 #[.slice (some ⟨lb, lof, none⟩) O.length lc, .int .i64 (y : Int)] xx.v fun e w'' => e = .returned (.bool true) ∧ ∃ y : Abv (fun v => Below w6.heap.size w6 v), w'' = y.v := fun xx => by rw [← HHV.out]; exact abv_call xx (hasN w.heap.size (some ⟨lb, lof, none⟩) lc O y xx.v (by omega) (HLQ.out.keep (agree_of_below xx.ok _)))
         have TS : ∀ xx : Abv (fun v => Below w6.heap.size w6 v), Calls Tryz.prog 98 #[.agg #[.slice p0 d.params.length c0, .int .i64 d.ret, .slice (some ⟨bb, off, none⟩) d.blocks.length c2], .int .i64 id, .int .i64 (y : Int), .int .i64 (endN Y)] xx.v fun e w'' => e = .returned (.bool true) ∧ ∃ y : Abv (fun v => Below w6.heap.size w6 v), w'' = y.v := fun xx => abv_call xx (seesS lo d p0 c0 (some ⟨bb, off, none⟩) c2 id y (endN Y) true xx.v HS.out (KK2.out.keep (agree_of_below xx.ok _)) HR.out hidm HQ.out)
         go_wp2_with fail
         have hne : Nonempty (Abv (fun v => Below w6.heap.size w6 v)) := abv_ne (Below.refl _ _)
         have k0 := fun xx : Abv (fun v => Below w6.heap.size w6 v) => (bcell xx.ok _ _ L1).trans G0
         have k1 := fun xx : Abv (fun v => Below w6.heap.size w6 v) => (bcell xx.ok _ _ L1).trans G1
         have k2 := fun xx : Abv (fun v => Below w6.heap.size w6 v) => (bcell xx.ok _ _ L1).trans G2
         have k3 := fun xx : Abv (fun v => Below w6.heap.size w6 v) => (bcell xx.ok _ _ L5).trans G3
         have k4 := fun xx : Abv (fun v => Below w6.heap.size w6 v) => (bcell xx.ok _ _ L2).trans G4
         have k5 := fun xx : Abv (fun v => Below w6.heap.size w6 v) => (bcell xx.ok _ _ L3).trans G5
         have k6 := fun xx : Abv (fun v => Below w6.heap.size w6 v) => (bcell xx.ok _ _ L4).trans G6
         have k7 := fun xx : Abv (fun v => Below w6.heap.size w6 v) => (bcell xx.ok _ _ L6).trans G7
         have k8 := fun xx : Abv (fun v => Below w6.heap.size w6 v) => (bcell xx.ok _ _ L6).trans G8
         clear G0 G1 G2 G3 G4 G5 G6 G7 G8
         refine wp_region_abv (fun v => Below w6.heap.size w6 v) (by kernel_rfl) (by kernel_rfl) (drew_below (Below.refl _ _)) ?_
         repeat (go_big_quiet_step (first | (go_at_call 93; with_reducible exact TH _) | (go_at_call 98; with_reducible exact TS _)))
         refine wpQuiet_nil ?_
         rintro w9 ⟨⟨w9, h9⟩, rfl⟩
         have H9 : Hid (Below w6.heap.size w6 w9) := h9
         clear h9 hne k0 k1 k2 k3 k4 k5 k6 k7 k8
         go_wp2_with fail
         go_roundw
         case rel => exact ⟨r + 1, by omega, by go_num, RY.out, HC.out.trans ((HB6.out.trans (H9.out.mono HB6.out.size)).mono hz3)⟩
         case measure => simp [intOf]; omega
        ·have HQ : Hid (false = true ↔ Sees d id y (endN Y)) := ⟨fun h => (by cases h), fun h => absurd h hq⟩
         have E : Hid (false = v) := RNO.out hyO hq
         clear hq hyO
         have TH : ∀ xx : Abv (fun v => Below w6.heap.size w6 v), Calls Tryz.prog 93 #[.slice (some ⟨lb, lof, none⟩) O.length lc, .int .i64 (y : Int)] xx.v fun e w'' => e = .returned (.bool true) ∧ ∃ y : Abv (fun v => Below w6.heap.size w6 v), w'' = y.v := fun xx => by rw [← HHV.out]; exact abv_call xx (hasN w.heap.size (some ⟨lb, lof, none⟩) lc O y xx.v (by omega) (HLQ.out.keep (agree_of_below xx.ok _)))
         have TS : ∀ xx : Abv (fun v => Below w6.heap.size w6 v), Calls Tryz.prog 98 #[.agg #[.slice p0 d.params.length c0, .int .i64 d.ret, .slice (some ⟨bb, off, none⟩) d.blocks.length c2], .int .i64 id, .int .i64 (y : Int), .int .i64 (endN Y)] xx.v fun e w'' => e = .returned (.bool false) ∧ ∃ y : Abv (fun v => Below w6.heap.size w6 v), w'' = y.v := fun xx => abv_call xx (seesS lo d p0 c0 (some ⟨bb, off, none⟩) c2 id y (endN Y) false xx.v HS.out (KK2.out.keep (agree_of_below xx.ok _)) HR.out hidm HQ.out)
         go_wp2_with fail
         have hne : Nonempty (Abv (fun v => Below w6.heap.size w6 v)) := abv_ne (Below.refl _ _)
         have k0 := fun xx : Abv (fun v => Below w6.heap.size w6 v) => (bcell xx.ok _ _ L1).trans G0
         have k1 := fun xx : Abv (fun v => Below w6.heap.size w6 v) => (bcell xx.ok _ _ L1).trans G1
         have k2 := fun xx : Abv (fun v => Below w6.heap.size w6 v) => (bcell xx.ok _ _ L1).trans G2
         have k3 := fun xx : Abv (fun v => Below w6.heap.size w6 v) => (bcell xx.ok _ _ L5).trans G3
         have k4 := fun xx : Abv (fun v => Below w6.heap.size w6 v) => (bcell xx.ok _ _ L2).trans G4
         have k5 := fun xx : Abv (fun v => Below w6.heap.size w6 v) => (bcell xx.ok _ _ L3).trans G5
         have k6 := fun xx : Abv (fun v => Below w6.heap.size w6 v) => (bcell xx.ok _ _ L4).trans G6
         have k7 := fun xx : Abv (fun v => Below w6.heap.size w6 v) => (bcell xx.ok _ _ L6).trans G7
         have k8 := fun xx : Abv (fun v => Below w6.heap.size w6 v) => (bcell xx.ok _ _ L6).trans G8
         clear G0 G1 G2 G3 G4 G5 G6 G7 G8
         refine wp_region_abv (fun v => Below w6.heap.size w6 v) (by kernel_rfl) (by kernel_rfl) (drew_below (Below.refl _ _)) ?_
         repeat (go_big_quiet_step (first | (go_at_call 93; with_reducible exact TH _) | (go_at_call 98; with_reducible exact TS _)))
         refine wpQuiet_nil ?_
         rintro w9 ⟨⟨w9, h9⟩, rfl⟩
         have H9 : Hid (Below w6.heap.size w6 w9) := h9
         clear h9 hne k0 k1 k2 k3 k4 k5 k6 k7 k8
         go_wp2_with fail
         go_ret
         exact ⟨ret_bool E.out, HW6.out.trans (H9.out.mono HW6.out.size)⟩
       ·have HHV : Hid (decide (y ∈ O) = false) := decide_eq_false hyO
        have RY : Hid (∀ jj, jj < r + 1 → P.getD jj 0 ∈ O → Sees d (p.ins.getD jj 0) (P.getD jj 0) (endN (d.blocks.getD (P.getD jj 0) block0))) := RYS.out (fun h => absurd h hyO)
        clear hyO
        have TH : ∀ xx : Abv (fun v => Below w6.heap.size w6 v), Calls Tryz.prog 93 #[.slice (some ⟨lb, lof, none⟩) O.length lc, .int .i64 (y : Int)] xx.v fun e w'' => e = .returned (.bool false) ∧ ∃ y : Abv (fun v => Below w6.heap.size w6 v), w'' = y.v := fun xx => by rw [← HHV.out]; exact abv_call xx (hasN w.heap.size (some ⟨lb, lof, none⟩) lc O y xx.v (by omega) (HLQ.out.keep (agree_of_below xx.ok _)))
        go_wp2_with fail
        have hne : Nonempty (Abv (fun v => Below w6.heap.size w6 v)) := abv_ne (Below.refl _ _)
        have k0 := fun xx : Abv (fun v => Below w6.heap.size w6 v) => (bcell xx.ok _ _ L1).trans G0
        have k1 := fun xx : Abv (fun v => Below w6.heap.size w6 v) => (bcell xx.ok _ _ L1).trans G1
        have k2 := fun xx : Abv (fun v => Below w6.heap.size w6 v) => (bcell xx.ok _ _ L1).trans G2
        have k3 := fun xx : Abv (fun v => Below w6.heap.size w6 v) => (bcell xx.ok _ _ L5).trans G3
        have k4 := fun xx : Abv (fun v => Below w6.heap.size w6 v) => (bcell xx.ok _ _ L2).trans G4
        have k5 := fun xx : Abv (fun v => Below w6.heap.size w6 v) => (bcell xx.ok _ _ L3).trans G5
        have k6 := fun xx : Abv (fun v => Below w6.heap.size w6 v) => (bcell xx.ok _ _ L4).trans G6
        have k7 := fun xx : Abv (fun v => Below w6.heap.size w6 v) => (bcell xx.ok _ _ L6).trans G7
        have k8 := fun xx : Abv (fun v => Below w6.heap.size w6 v) => (bcell xx.ok _ _ L6).trans G8
        clear G0 G1 G2 G3 G4 G5 G6 G7 G8
        refine wp_region_abv (fun v => Below w6.heap.size w6 v) (by kernel_rfl) (by kernel_rfl) (drew_below (Below.refl _ _)) ?_
        repeat (go_big_quiet_step (first | (go_at_call 93; with_reducible exact TH _)))
        refine wpQuiet_nil ?_
        rintro w9 ⟨⟨w9, h9⟩, rfl⟩
        have H9 : Hid (Below w6.heap.size w6 w9) := h9
        clear h9 hne k0 k1 k2 k3 k4 k5 k6 k7 k8
        go_wp2_with fail
        go_roundw
        case rel => exact ⟨r + 1, by omega, by go_num, RY.out, HC.out.trans ((HB6.out.trans (H9.out.mono HB6.out.size)).mono hz3)⟩
        case measure => simp [intOf]; omega
      ·have YES : Hid (∀ jj, jj < P.length → P.getD jj 0 ∈ O → Sees d (p.ins.getD jj 0) (P.getD jj 0) (endN (d.blocks.getD (P.getD jj 0) block0))) := fun jj hjj => HRR.out jj (by omega)
       clear HRR
       go_wp2_with fail
       go_roundw
       case rel => exact ⟨j + 1, by omega, by go_num, PYS.out YES.out, HC.out⟩
       case measure => simp [intOf]; omega
    ·have YPH : Hid (PhiM d O n) := HPM.out.2 fun p hp jj h1 h2 => by
      obtain ⟨q, hq, rfl⟩ := List.getElem_of_mem hp
      have := HJ.out q (by omega) jj h1 h2
      simpa [List.getD, hq] using this
     clear HJ
     go_wp2_with fail
     clear x0
     go_loopw [12] (fun i wr => ∃ j : Nat, j ≤ x.insts.length ∧ i = .int .i64 j ∧ Hid (∀ q, q < j → ∀ id ∈ opsD (x.insts.getD q inst0), Sees d id n (x.phis.length + q)) ∧ Hid (Below w2.heap.size w2 wr)) (fun i _ => x.insts.length - (intOf i).toNat)
     case atStart => exact ⟨0, by omega, rfl, fun q hq => by omega, HB.out⟩
     case round =>
      obtain ⟨j, hj, rfl, HJ, HC⟩ := hrel
      obtain ⟨wq, hwq⟩ : ∃ wq, wq = wr := ⟨_, rfl⟩
      subst hwq
      clear HB HXp
      have HXq : Hid (Below (wo.heap.size + 1) (wo.alloc (.cells #[.slice v0 x.phis.length q0, .slice v1 x.insts.length q1, .int .i64 x.term.kind, .int .i64 x.term.a, .int .i64 x.term.x, .int .i64 x.term.y] 43)) wq) := HBX.out.trans (HC.out.mono hz2)
      have HWq : Hid (Below w.heap.size w wq) := HW2.out.trans (HC.out.mono HW2.out.size)
      have hz3 := HC.out.size
      obtain ⟨x0, x1, x2, x3, x4, x5⟩ := cells6c HXq.out
      by_cases hjl : j < x.insts.length
      ·rcases HM1.out.2 with hn | ⟨pb, po, hve, hplo, hpb, hpc⟩
       ·simp [hn] at hjl
       subst hve
       obtain ⟨i0, i1, i2, i3, i4, i5, ⟨iu, iq, i6, im⟩⟩ := hpc j hjl
       have HOPS : Hid (∀ id ∈ opsD (x.insts.getD j inst0), 0 ≤ id ∧ id < (cntF d : Int)) := HFB.out.ops _ (getD_mem inst0 x.insts j hjl)
       have INO : Hid (∀ id ∈ opsD (x.insts.getD j inst0), ¬ Sees d id n (x.phis.length + j) → false = v) := fun id hid h => NO.out (fun h2 => h ((SI.out.1 h2.2).1 j hjl id hid))
       have IYS : Hid ((∀ id ∈ opsD (x.insts.getD j inst0), Sees d id n (x.phis.length + j)) → ∀ q, q < j + 1 → ∀ id ∈ opsD (x.insts.getD q inst0), Sees d id n (x.phis.length + q)) := fun h q hq => by
        by_cases e : q = j
        ·subst e; exact h
        ·exact HJ.out q (by omega)
       have hsmI : SmInst (x.insts.getD j inst0) := SN.out _ (getD_mem inst0 x.insts j hjl)
       generalize x.insts.getD j inst0 = p at i0 i1 i2 i3 i4 i5 i6 im HOPS INO IYS hsmI
       have hsmA : p.args.length ≤ 1048576 := hsmI
       have hol := opsD_len p hsmA
       have f0 := (bcell HWq.out _ _ hpb).trans i0
       have f1 := (bcell HWq.out _ _ hpb).trans i1
       have f2 := (bcell HWq.out _ _ hpb).trans i2
       have f3 := (bcell HWq.out _ _ hpb).trans i3
       have f4 := (bcell HWq.out _ _ hpb).trans i4
       have f5 := (bcell HWq.out _ _ hpb).trans i5
       have f6 := (bcell HWq.out _ _ hpb).trans i6
       have IM := im.keep (agree_of_below HWq.out _)
       clear hpc i0 i1 i2 i3 i4 i5 i6 im HJ hsmI
       go_wp2_with (go_at_call 99; refine (operS lo p _ _ _ hsmA IM).mono ?_; rintro e w5 ⟨ou, oc, rfl, ho5, hb5⟩; have HO5 : Hid (IntsAt w5 wq.heap.size ou (opsD p)) := ho5.ints; have HB5 : Hid (Below wq.heap.size wq w5) := hb5; clear ho5 hb5)
       clear f0 f1 f2 f3 f4 f5 f6 x0 x1 x2 x3 x4 x5 IM
       have HC5 : Hid (Below w2.heap.size w2 w5) := HC.out.trans (HB5.out.mono hz3)
       go_loopw [14] (fun i wr => ∃ r : Nat, r ≤ (opsD p).length ∧ i = .int .i64 r ∧ Hid (∀ q, q < r → Sees d ((opsD p).getD q 0) n (x.phis.length + j)) ∧ Hid (Below w5.heap.size w5 wr)) (fun i _ => (opsD p).length - (intOf i).toNat)
       case atStart => exact ⟨0, by omega, rfl, fun q hq => by omega, Below.refl _ _⟩
       case round =>
        obtain ⟨r, hr, rfl, HRR, HE⟩ := hrel
        obtain ⟨wz, hwz⟩ : ∃ wz, wz = wr := ⟨_, rfl⟩
        subst hwz
        have HCz : Hid (Below w2.heap.size w2 wz) := HC5.out.trans (HE.out.mono HC5.out.size)
        have HWz : Hid (Below w.heap.size w wz) := HW2.out.trans (HCz.out.mono HW2.out.size)
        have hz4 := HCz.out.size
        by_cases hrl : r < (opsD p).length
        ·rcases HO5.out.2 with hn | ⟨ab, ao, hae, halo, hab, hac⟩
         ·simp [hn] at hrl
         subst hae
         have z1 := (bcell HE.out _ _ hab).trans (hac r hrl)
         have hidm0 := getD_mem 0 (opsD p) r hrl
         have hid := HOPS.out _ hidm0
         have RNO : Hid (¬ Sees d ((opsD p).getD r 0) n (x.phis.length + j) → false = v) := INO.out _ hidm0
         have RYS : Hid (Sees d ((opsD p).getD r 0) n (x.phis.length + j) → ∀ q, q < r + 1 → Sees d ((opsD p).getD q 0) n (x.phis.length + j)) := fun h q hq => by
          by_cases e : q = r
          ·subst e; exact h
          ·exact HRR.out q (by omega)
         generalize (opsD p).getD r 0 = id at z1 hid RNO RYS hidm0
         have hidm : id ≤ 9223372036854775807 := by omega
         have HFz : Hid _ := HFo.out.keep (HBo2.out.trans (HCz.out.mono (by omega)))
         have F0 := HFz.out.a0
         have F1 := HFz.out.a1
         have F2 := HFz.out.a2
         have HXz : Hid (Below (wo.heap.size + 1) (wo.alloc (.cells #[.slice v0 x.phis.length q0, .slice (some ⟨pb, po, none⟩) x.insts.length q1, .int .i64 x.term.kind, .int .i64 x.term.a, .int .i64 x.term.x, .int .i64 x.term.y] 43)) wz) := HBX.out.trans (HCz.out.mono hz2)
         have x0 := (cells6c HXz.out).1
         have KK2 : Hid (BlocksAt wz lo (some ⟨bb, off, none⟩) d.blocks) := HK2.out.keep (agree_of_below HWz.out _)
         have l1 : w.heap.size < wz.heap.size := by omega
         have l2 : wo.heap.size < wz.heap.size := by omega
         have l3 : ab < wz.heap.size := by have := HE.out.size; omega
         have hwr : IntKind.i64.wrap ((x.phis.length : Int) + (j : Int)) = x.phis.length + j := by rw [IntKind.wrap_i64]; omega
         clear hac hid HRR hidm0
         by_cases hq : Sees d id n (x.phis.length + j)
         ·have HQ : Hid (true = true ↔ Sees d id n (x.phis.length + j)) := ⟨fun _ => hq, fun _ => rfl⟩
          have RY : Hid (∀ q, q < r + 1 → Sees d ((opsD p).getD q 0) n (x.phis.length + j)) := RYS.out hq
          clear hq
          have TS : ∀ xx : Abv (fun v => Below wz.heap.size wz v), Calls Tryz.prog 98 #[.agg #[.slice p0 d.params.length c0, .int .i64 d.ret, .slice (some ⟨bb, off, none⟩) d.blocks.length c2], .int .i64 id, .int .i64 (n : Int), .int .i64 ((x.phis.length : Int) + (j : Int))] xx.v fun e w'' => e = .returned (.bool true) ∧ ∃ y : Abv (fun v => Below wz.heap.size wz v), w'' = y.v := fun xx => abv_call xx (seesS lo d p0 c0 (some ⟨bb, off, none⟩) c2 id n ((x.phis.length : Int) + (j : Int)) true xx.v HS.out (KK2.out.keep (agree_of_below xx.ok _)) HR.out hidm HQ.out)
          go_wp2_with fail
          have hne : Nonempty (Abv (fun v => Below wz.heap.size wz v)) := abv_ne (Below.refl _ _)
          have k0 := fun xx : Abv (fun v => Below wz.heap.size wz v) => (bcell xx.ok _ _ l1).trans F0
          have k1 := fun xx : Abv (fun v => Below wz.heap.size wz v) => (bcell xx.ok _ _ l1).trans F1
          have k2 := fun xx : Abv (fun v => Below wz.heap.size wz v) => (bcell xx.ok _ _ l1).trans F2
          have k3 := fun xx : Abv (fun v => Below wz.heap.size wz v) => (bcell xx.ok _ _ l3).trans z1
          have k4 := fun xx : Abv (fun v => Below wz.heap.size wz v) => (bcell xx.ok _ _ l2).trans x0
          clear F0 F1 F2 z1 x0
          refine wp_region_abv (fun v => Below wz.heap.size wz v) (by kernel_rfl) (by kernel_rfl) (drew_below (Below.refl _ _)) ?_
          repeat (go_big_quiet_step (first | (go_at_call 98; with_reducible exact TS _)))
          refine wpQuiet_nil ?_
          rintro w9 ⟨⟨w9, h9⟩, rfl⟩
          have H9 : Hid (Below wz.heap.size wz w9) := h9
          clear h9 hne k0 k1 k2 k3 k4
          go_wp2_with fail
          go_roundw
          case rel => exact ⟨r + 1, by omega, by go_num, RY.out, HE.out.trans (H9.out.mono HE.out.size)⟩
          case measure => simp [intOf]; omega
         ·have HQ : Hid (false = true ↔ Sees d id n (x.phis.length + j)) := ⟨fun h => (by cases h), fun h => absurd h hq⟩
          have E : Hid (false = v) := RNO.out hq
          clear hq
          have TS : ∀ xx : Abv (fun v => Below wz.heap.size wz v), Calls Tryz.prog 98 #[.agg #[.slice p0 d.params.length c0, .int .i64 d.ret, .slice (some ⟨bb, off, none⟩) d.blocks.length c2], .int .i64 id, .int .i64 (n : Int), .int .i64 ((x.phis.length : Int) + (j : Int))] xx.v fun e w'' => e = .returned (.bool false) ∧ ∃ y : Abv (fun v => Below wz.heap.size wz v), w'' = y.v := fun xx => abv_call xx (seesS lo d p0 c0 (some ⟨bb, off, none⟩) c2 id n ((x.phis.length : Int) + (j : Int)) false xx.v HS.out (KK2.out.keep (agree_of_below xx.ok _)) HR.out hidm HQ.out)
          go_wp2_with fail
          have hne : Nonempty (Abv (fun v => Below wz.heap.size wz v)) := abv_ne (Below.refl _ _)
          have k0 := fun xx : Abv (fun v => Below wz.heap.size wz v) => (bcell xx.ok _ _ l1).trans F0
          have k1 := fun xx : Abv (fun v => Below wz.heap.size wz v) => (bcell xx.ok _ _ l1).trans F1
          have k2 := fun xx : Abv (fun v => Below wz.heap.size wz v) => (bcell xx.ok _ _ l1).trans F2
          have k3 := fun xx : Abv (fun v => Below wz.heap.size wz v) => (bcell xx.ok _ _ l3).trans z1
          have k4 := fun xx : Abv (fun v => Below wz.heap.size wz v) => (bcell xx.ok _ _ l2).trans x0
          clear F0 F1 F2 z1 x0
          refine wp_region_abv (fun v => Below wz.heap.size wz v) (by kernel_rfl) (by kernel_rfl) (drew_below (Below.refl _ _)) ?_
          repeat (go_big_quiet_step (first | (go_at_call 98; with_reducible exact TS _)))
          refine wpQuiet_nil ?_
          rintro w9 ⟨⟨w9, h9⟩, rfl⟩
          have H9 : Hid (Below wz.heap.size wz w9) := h9
          clear h9 hne k0 k1 k2 k3 k4
          go_wp2_with fail
          go_ret
          exact ⟨ret_bool E.out, HWz.out.trans (H9.out.mono HWz.out.size)⟩
        ·have YES : Hid (∀ id ∈ opsD p, Sees d id n (x.phis.length + j)) := fun id hid => by
          obtain ⟨q, hq, rfl⟩ := List.getElem_of_mem hid
          have := HRR.out q (by omega)
          simpa [List.getD, hq] using this
         clear HRR
         go_wp2_with fail
         go_roundw
         case rel => exact ⟨j + 1, by omega, by go_num, IYS.out YES.out, HCz.out⟩
         case measure => simp [intOf]; omega
      ·have YIN : Hid (∀ k, k < x.insts.length → ∀ id ∈ opsD (x.insts.getD k inst0), Sees d id n (x.phis.length + k)) := fun q hq => HJ.out q (by omega)
       have HFq : Hid _ := HFo.out.keep (HBo2.out.trans (HC.out.mono (by omega)))
       have F0 := HFq.out.a0
       have F1 := HFq.out.a1
       have F2 := HFq.out.a2
       have KK2 : Hid (BlocksAt wq lo (some ⟨bb, off, none⟩) d.blocks) := HK2.out.keep (agree_of_below HWq.out _)
       have hwr : (x.phis.length : Int) + x.insts.length = endN x := rfl
       clear HJ
       by_cases k13 : x.term.kind = 1 ∨ x.term.kind = 3
       ·have ha := Form.term_a HFB.out k13
        have hidm : x.term.a ≤ 9223372036854775807 := by omega
        have HNT : Hid (namesT x.term = [x.term.a]) := by show _ = _; unfold namesT; rw [if_pos k13]
        by_cases hq : Sees d x.term.a n (endN x)
        ·have DS := seesS lo d p0 c0 (some ⟨bb, off, none⟩) c2 x.term.a n (endN x) true wq HS.out KK2.out HR.out hidm ⟨fun _ => hq, fun _ => rfl⟩
         have YS2 : Hid (PhiM d O n ∧ SeesIn d n) := ⟨YPH.out, SI.out.2 ⟨YIN.out, fun id hid => by rw [HNT.out] at hid; obtain rfl := List.mem_singleton.1 hid; exact hq⟩⟩
         clear hq
         rcases k13 with k1 | k3
         ·rw [k1] at x2
          have kd : (1 : Int) = 1 := rfl
          go_wp2_with (go_at_call 98; refine DS.mono ?_; rintro e w5 ⟨rfl, hb5⟩)
          go_roundw
          case rel => exact ⟨k + 1, by omega, by go_num, YS.out YS2.out, HW.out.trans ((HBo2.out.trans ((HC.out.trans (hb5.mono hz3)).mono (by omega))).mono HW.out.size)⟩
          case measure => simp [intOf]; omega
         ·rw [k3] at x2
          go_wp2_with (go_at_call 98; refine DS.mono ?_; rintro e w5 ⟨rfl, hb5⟩)
          go_roundw
          case rel => exact ⟨k + 1, by omega, by go_num, YS.out YS2.out, HW.out.trans ((HBo2.out.trans ((HC.out.trans (hb5.mono hz3)).mono (by omega))).mono HW.out.size)⟩
          case measure => simp [intOf]; omega
        ·have DS := seesS lo d p0 c0 (some ⟨bb, off, none⟩) c2 x.term.a n (endN x) false wq HS.out KK2.out HR.out hidm ⟨fun h => (by cases h), fun h => absurd h hq⟩
         have E : Hid (false = v) := NO.out (fun h => hq ((SI.out.1 h.2).2 _ (by rw [HNT.out]; exact List.mem_singleton.2 rfl)))
         clear hq
         rcases k13 with k1 | k3
         ·rw [k1] at x2
          go_wp2_with (go_at_call 98; refine DS.mono ?_; rintro e w5 ⟨rfl, hb5⟩)
          go_ret
          exact ⟨ret_bool E.out, HWq.out.trans (hb5.mono HWq.out.size)⟩
         ·rw [k3] at x2
          go_wp2_with (go_at_call 98; refine DS.mono ?_; rintro e w5 ⟨rfl, hb5⟩)
          go_ret
          exact ⟨ret_bool E.out, HWq.out.trans (hb5.mono HWq.out.size)⟩
       ·have HNT : Hid (namesT x.term = []) := by show _ = _; unfold namesT; rw [if_neg k13]
        have YS2 : Hid (PhiM d O n ∧ SeesIn d n) := ⟨YPH.out, SI.out.2 ⟨YIN.out, fun id hid => by rw [HNT.out] at hid; cases hid⟩⟩
        have k1 : ¬ x.term.kind = 1 := fun h => k13 (.inl h)
        have k3 : ¬ x.term.kind = 3 := fun h => k13 (.inr h)
        have kd : (x.term.kind == 1) = false := by simp [k1]
        have kd1 : decide (x.term.kind = 1) = false := by simp [k1]
        have kd2 : (x.term.kind == 3) = false := by simp [k3]
        have kd3 : decide (x.term.kind = 3) = false := by simp [k3]
        clear k13
        go_wp2_with fail
        go_roundw
        case rel => exact ⟨k + 1, by omega, by go_num, YS.out YS2.out, HW.out.trans ((HBo2.out.trans (HC.out.mono (by omega))).mono HW.out.size)⟩
        case measure => simp [intOf]; omega
  ·have E : Hid (true = v) := bool_one (P := DomsP d) ⟨fun _ => HDI.out.1 (fun b hb => by
    obtain ⟨q, hq, rfl⟩ := List.getElem_of_mem hb
    have := HD.out q (by omega)
    simpa [List.getD, hq] using this), fun _ => rfl⟩ HV.out
   clear HD
   go_wp2_with fail
   go_ret
   exact ⟨ret_bool E.out, HWo.out⟩
end Go.Proofs.YtgojlnclpebdcaaGreatDoor
