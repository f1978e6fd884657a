import Derived.Test.YtojhakjkfkmklaaGreatDoorMbBV
import Derived.Test.YtojhakjkfkmklaaGreatDoorFmKV
import Derived.Test.YtojhakjkfkmklaaGreatDoorRmAV
namespace Go.Proofs.YtojhakjkfkmklaaGreatDoor
open Go.RowKit
set_option linter.unusedVariables false
theorem vb_snoc (R : ByteArray) (P : List Int) (n : Int) : vb R P ++ vof n = vb R (P ++ [n]) := by rw [vb_append, vb_one]
theorem vb_snocs (R : ByteArray) (P l : List Int) : vb R P ++ vb ⟨#[]⟩ l = vb R (P ++ l) := by rw [vb_append, vb_emp]
theorem vb_bound {P : List Int} (h : P.length ≤ 2500) : (vb ssa1 P).size ≤ 12504 := by
 have := vb_size P ssa1
 have h4 : ssa1.size = 4 := rfl
 omega
theorem vb_bound0 {P : List Int} (h : P.length ≤ 2500) : (vb ⟨#[]⟩ P).size ≤ 12504 := by
 have := vb_size P ⟨#[]⟩
 have h4 : (⟨#[]⟩ : ByteArray).size = 0 := rfl
 omega
theorem m0keep {w w' : World} {lo : Nat} {a : Option Addr} {l : List PhiD} (h : PhisAt w lo a l) (k : Below w.heap.size w w') : PhisAt w' lo a l := h.keep (agree_of_below k lo)
theorem m1keep {w w' : World} {lo : Nat} {a : Option Addr} {l : List InstD} (h : InstsAt w lo a l) (k : Below w.heap.size w w') : InstsAt w' lo a l := h.keep (agree_of_below k lo)
theorem listN_len (l : List Int) : (listN l).length = l.length + 1 := by simp [listN]
set_option maxHeartbeats 8000000 in
set_option maxRecDepth 100000 in
theorem l6BodyS (lo : Nat) (l : List FuncD) (u : Option Addr) (c : Nat) (w : World) (hs : SmMod l) (hm : modB l = true) (k0 : FuncsAt w lo u l) :
  Calls Tryz.prog 27 #[.agg #[.slice u l.length c]] w fun e w' => e = .returned (.string (vb ssa1 (modM l))) ∧ Below w.heap.size w w' := by
 have hlen := modM_len hm
 obtain ⟨hl3, hf3⟩ := modB_parts hm
 have HF : Hid (∀ d ∈ l, funcB l.length d = true) := hf3
 have HS : Hid (∀ d ∈ l, SmFunc d) := hs.2
 have K0 : Hid (FuncsAt w lo u l) := k0
 have hM : (modM l).length = 1 + (l.flatMap funcM).length := by unfold modM; rw [List.length_cons]; omega
 clear hm hf3 hs k0
 have X0 := Box1.new w l.length u c 26
 have hB0 : Below w.heap.size w (w.alloc (.cells #[.slice u l.length c] 26)) := (Below.refl _ w).alloc (Nat.le_refl _) _
 go_enter Tryz.func27, Tryz.ntmps27
 go_wp2_with fail
 generalize (w.alloc (.cells #[.slice u l.length c] 26)) = W at X0 hB0 ⊢
 refine (varS _ _).mono ?_
 rintro e w1 ⟨rfl, b1⟩
 have HX1 : Hid (Box1 w1 w.heap.size l.length u c) := X0.below b1
 have HB1 : Hid (Below w.heap.size w w1) := hB0.trans (b1.mono hB0.size)
 clear X0 hB0 b1
 have hv1 := vof_len (l.length : Int)
 have HE1 : Hid ((⟨#[83, 83, 65, 49]⟩ : ByteArray) ++ vof (l.length : Int) = vb ssa1 ((l.length : Int) :: (l.take 0).flatMap funcM)) := by show _ = _; rfl
 generalize vof (l.length : Int) = A at hv1 HE1 ⊢
 go_wp2_with fail
 go_loopw [3, 4] (fun st i wr => ∃ (k : Nat) (T : ByteArray), k ≤ l.length ∧ i = .int .i64 k ∧ st = .string T ∧ Hid (T = vb ssa1 ((l.length : Int) :: (l.take k).flatMap funcM)) ∧ Hid (Below w.heap.size w wr) ∧ Hid (Box1 wr w.heap.size l.length u c)) (fun _ i _ => l.length - (intOf i).toNat)
 case atStart => exact ⟨0, _, by omega, rfl, rfl, HE1, HB1, HX1⟩
 case round =>
  obtain ⟨k, T, hk, rfl, rfl, HT, HB, HX⟩ := hrel
  obtain ⟨wo, hwo⟩ : ∃ wo, wo = wr := ⟨_, rfl⟩
  subst hwo
  clear HE1 HB1 HX1 hv1
  have y0 := HX.out.2
  by_cases hlt : k < l.length
  ·rcases (K0.out.keep (agree_of_below HB.out lo)).2 with hn | ⟨bb, off, rfl, hlo, hbb, hcell⟩
   ·simp [hn] at hlt
   obtain ⟨⟨p0, q0, e0, m0⟩, e1, ⟨p2, q2, e2, m2⟩⟩ := hcell k hlt
   have hfb := HF.out _ (getD_mem func0 l k hlt)
   have hsm := HS.out _ (getD_mem func0 l k hlt)
   have hfs := flat_snoc (z := func0) funcM hlt
   have hfl := flat_le l funcM (k + 1)
   rw [hfs, List.length_append] at hfl
   have HN : Hid ((l.take (k + 1)).flatMap funcM = (l.take k).flatMap funcM ++ funcM (l.getD k func0)) := hfs
   generalize hP : (l.take k).flatMap funcM = P at hfl HN HT
   generalize l.getD k func0 = f at e0 e1 e2 m0 m2 hfb hsm HN hfl
   obtain ⟨hp4, hb10, hc60, hbs⟩ := funcB_parts hfb
   have HBS : Hid (f.blocks.all (blockB (cntF f) f.blocks.length l.length) = true) := hbs
   have HSB : Hid (∀ x ∈ f.blocks, SmBlock x) := hsm.2.2
   have hFM : (funcM f).length = (fheadM f).length + (f.blocks.flatMap blockM).length := by unfold funcM; rw [List.length_append]
   have hFH : (fheadM f).length = f.params.length + 3 := by simp [fheadM, listN]
   clear hP hfs hcell hfb hsm hbs
   have hTs : T.size ≤ 12504 := by rw [HT.out]; exact vb_bound (by rw [List.length_cons]; omega)
   have A0 := At.new wo #[.slice p0 f.params.length q0, .int .i64 f.ret, .slice p2 f.blocks.length q2] 49
   have B0 : Below wo.heap.size wo (wo.alloc (.cells #[.slice p0 f.params.length q0, .int .i64 f.ret, .slice p2 f.blocks.length q2] 49)) := (Below.refl _ _).alloc (Nat.le_refl _) _
   have M0 := m0.keep (agree_of_below B0 lo)
   have M2 := m2.keep (agree_of_below B0 lo)
   have HBf : Hid (Below w.heap.size w (wo.alloc (.cells #[.slice p0 f.params.length q0, .int .i64 f.ret, .slice p2 f.blocks.length q2] 49))) := HB.out.trans (B0.mono HB.out.size)
   have HXf : Hid (Box1 (wo.alloc (.cells #[.slice p0 f.params.length q0, .int .i64 f.ret, .slice p2 f.blocks.length q2] 49)) w.heap.size l.length (some ⟨bb, off, none⟩) c) := HX.out.below B0
   go_wp2_with fail
   generalize (wo.alloc (.cells #[.slice p0 f.params.length q0, .int .i64 f.ret, .slice p2 f.blocks.length q2] 49)) = wf at A0 M0 M2 HBf HXf ⊢
   clear e0 e1 e2 m0 m2 HB HX y0 B0
   have lf := A0.lt
   have V1 := fun xx => var_gives f.ret wf xx
   have V2 := fun xx => list_gives lo p0 q0 f.params wf (by omega) M0 xx
   have V3 := fun xx => var_gives (f.blocks.length : Int) wf xx
   have HT2 : Hid (T ++ vof f.ret ++ vb ⟨#[]⟩ (listN f.params) ++ vof (f.blocks.length : Int) = vb ssa1 ((l.length : Int) :: P ++ fheadM f)) := by
    show _ = _
    rw [HT.out, vb_snoc, vb_snocs, vb_snoc]
    unfold fheadM
    simp
   have r1 := vof_len f.ret
   have r2 : (vb ⟨#[]⟩ (listN f.params)).size ≤ 12504 := vb_bound0 (by rw [listN_len]; omega)
   have r3 := vof_len (f.blocks.length : Int)
   generalize vof f.ret = A1 at *
   generalize vb ⟨#[]⟩ (listN f.params) = A2 at *
   generalize vof (f.blocks.length : Int) = A3 at *
   have z1 : (T ++ A1).size ≤ 12509 := by rw [ByteArray.size_append]; omega
   have z2 : (T ++ A1 ++ A2).size ≤ 30000 := by rw [ByteArray.size_append]; omega
   have z3 : (T ++ A1 ++ A2 ++ A3).size ≤ 30005 := by rw [ByteArray.size_append]; omega
   have hne : Nonempty (Abv (fun v => Below wf.heap.size wf v)) := abv_ne (Below.refl _ _)
   have t0 := fun xx : Abv (fun v => Below wf.heap.size wf v) => (bcell xx.ok wo.heap.size 0 lf).trans ((A0.cell 0).trans rfl)
   have t1 := fun xx : Abv (fun v => Below wf.heap.size wf v) => (bcell xx.ok wo.heap.size 1 lf).trans ((A0.cell 1).trans rfl)
   have t2 := fun xx : Abv (fun v => Below wf.heap.size wf v) => (bcell xx.ok wo.heap.size 2 lf).trans ((A0.cell 2).trans rfl)
   refine wp_region_abv (fun v => Below wf.heap.size wf v) (by kernel_rfl) (by kernel_rfl) (drew_below (Below.refl _ _)) ?_
   repeat (go_big_quiet_step (first | (go_at_call 57; first | with_reducible exact V1 _ | with_reducible exact V3 _) | (go_at_call 58; with_reducible exact V2 _)))
   refine wpQuiet_nil ?_
   rintro w9 ⟨⟨w9, h9⟩, rfl⟩
   have HB9 : Hid (Below w.heap.size w w9) := HBf.out.trans (h9.mono HBf.out.size)
   have HX9 : Hid (Box1 w9 w.heap.size l.length (some ⟨bb, off, none⟩) c) := HXf.out.below h9
   have A9 := A0.below h9
   have K2 : Hid (BlocksAt w9 lo p2 f.blocks) := M2.keep (agree_of_below h9 lo)
   clear h9 hne t0 t1 t2 V1 V2 V3 r1 r2 r3 z1 z2 HBf HXf M0 M2 lf A0 hTs
   generalize T ++ A1 ++ A2 ++ A3 = T2 at HT2 z3 ⊢
   have y2 := (A9.cell 2).trans rfl
   generalize hQ : (l.length : Int) :: P ++ fheadM f = Q at HT2
   have HQ : Hid ((l.length : Int) :: P ++ fheadM f = Q) := hQ
   have hQl : Q.length = 1 + P.length + (fheadM f).length := by rw [← hQ]; simp; omega
   clear hQ
   go_wp2_with fail
   go_loopw [3, 6] (fun st i wr => ∃ (j : Nat) (T : ByteArray), j ≤ f.blocks.length ∧ i = .int .i64 j ∧ st = .string T ∧ Hid (T = vb ssa1 (Q ++ (f.blocks.take j).flatMap blockM)) ∧ Hid (Below w9.heap.size w9 wr)) (fun _ i _ => f.blocks.length - (intOf i).toNat)
   case atStart => exact ⟨0, _, by omega, rfl, rfl, by show _ = _; rw [HT2.out]; simp, Below.refl _ _⟩
   case round =>
    obtain ⟨j, T, hj, rfl, rfl, HTb, HBb⟩ := hrel
    obtain ⟨wb, hwb⟩ : ∃ wb, wb = wr := ⟨_, rfl⟩
    subst hwb
    clear y2
    have y2 : wb.cell? ⟨wo.heap.size, 2, none⟩ = some (.slice p2 f.blocks.length q2) := ((A9.below HBb.out).cell 2).trans rfl
    by_cases hjl : j < f.blocks.length
    ·rcases (K2.out.keep (agree_of_below HBb.out lo)).2 with hn | ⟨bc, of2, rfl, hlo2, hbc, hcell⟩
     ·simp [hn] at hjl
     obtain ⟨⟨v0, r0, e0, m0⟩, ⟨v1, r1, e1, m1⟩, e2, e3, e4, e5⟩ := hcell j hjl
     have hxb := List.all_eq_true.1 HBS.out _ (getD_mem block0 f.blocks j hjl)
     have hsm := HSB.out _ (getD_mem block0 f.blocks j hjl)
     have hfs := flat_snoc (z := block0) blockM hjl
     have hfl2 := flat_le f.blocks blockM (j + 1)
     rw [hfs, List.length_append] at hfl2
     have HNb : Hid ((f.blocks.take (j + 1)).flatMap blockM = (f.blocks.take j).flatMap blockM ++ blockM (f.blocks.getD j block0)) := hfs
     generalize hR : (f.blocks.take j).flatMap blockM = R at hfl2 HNb HTb
     generalize f.blocks.getD j block0 = x at e0 e1 e2 e3 e4 e5 m0 m1 hxb hsm HNb hfl2
     simp only [blockB, Bool.and_eq_true] at hxb
     have HPH : Hid (∀ p ∈ x.phis, phiB (cntF f) p = true) := fun p hp => List.all_eq_true.1 hxb.1.1 p hp
     have HIN : Hid (∀ p ∈ x.insts, instB p (cntF f) l.length = true) := fun p hp => List.all_eq_true.1 hxb.1.2 p hp
     have hxp := hsm.1.1
     have hxi := hsm.2.1
     have HSI : Hid (∀ p ∈ x.insts, SmInst p) := hsm.2.2
     have hBM : (blockM x).length = (x.phis.flatMap phiM).length + (x.insts.flatMap instM).length + (termM x.term).length + 2 := by simp [blockM, phisM, instsM]; omega
     clear hR hfs hcell hxb hsm
     have hTs : T.size ≤ 12504 := by rw [HTb.out]; exact vb_bound (by rw [List.length_append]; omega)
     have A0 := At.new wb #[.slice v0 x.phis.length r0, .slice v1 x.insts.length r1, .int .i64 x.term.kind, .int .i64 x.term.a, .int .i64 x.term.x, .int .i64 x.term.y] 86
     have B0 : Below wb.heap.size wb (wb.alloc (.cells #[.slice v0 x.phis.length r0, .slice v1 x.insts.length r1, .int .i64 x.term.kind, .int .i64 x.term.a, .int .i64 x.term.x, .int .i64 x.term.y] 86)) := (Below.refl _ _).alloc (Nat.le_refl _) _
     have M0 := m0.keep (agree_of_below B0 lo)
     have M1 := m1.keep (agree_of_below B0 lo)
     have HBf : Hid (Below w9.heap.size w9 (wb.alloc (.cells #[.slice v0 x.phis.length r0, .slice v1 x.insts.length r1, .int .i64 x.term.kind, .int .i64 x.term.a, .int .i64 x.term.x, .int .i64 x.term.y] 86))) := HBb.out.trans (B0.mono HBb.out.size)
     go_wp2_with fail
     generalize (wb.alloc (.cells #[.slice v0 x.phis.length r0, .slice v1 x.insts.length r1, .int .i64 x.term.kind, .int .i64 x.term.a, .int .i64 x.term.x, .int .i64 x.term.y] 86)) = wx at A0 M0 M1 HBf ⊢
     clear e0 e1 e2 e3 e4 e5 m0 m1 B0 y2 HBb
     refine (varS _ _).mono ?_
     rintro e w3 ⟨rfl, b3⟩
     have A3x := A0.below b3
     have HB3 : Hid (Below w9.heap.size w9 w3) := HBf.out.trans (b3.mono HBf.out.size)
     have M0 := m0keep M0 b3
     have M1 := m1keep M1 b3
     have K3 : Hid (PhisAt w3 lo v0 x.phis) := M0
     have K4 : Hid (InstsAt w3 lo v1 x.insts) := M1
     clear M0 M1 b3 A0 HBf
     have hv3 := vof_len (x.phis.length : Int)
     have HT3 : Hid (T ++ vof (x.phis.length : Int) = vb ssa1 (Q ++ R ++ [(x.phis.length : Int)])) := by show _ = _; rw [HTb.out, vb_snoc]
     generalize vof (x.phis.length : Int) = A4 at hv3 HT3 ⊢
     have x0 := (A3x.cell 0).trans rfl
     go_wp2_with fail
     have hT4 : (T ++ A4).size ≤ 13000 := by rw [ByteArray.size_append]; omega
     generalize T ++ A4 = T4 at HT3 hT4 ⊢
     go_loopw [3, 8] (fun st i wr => ∃ (n : Nat) (T : ByteArray), n ≤ x.phis.length ∧ i = .int .i64 n ∧ st = .string T ∧ Hid (T = vb ssa1 (Q ++ R ++ [(x.phis.length : Int)] ++ (x.phis.take n).flatMap phiM)) ∧ Hid (Below w3.heap.size w3 wr)) (fun _ i _ => x.phis.length - (intOf i).toNat)
     case atStart => exact ⟨0, _, by omega, rfl, rfl, by show _ = _; rw [HT3.out]; simp, Below.refl _ _⟩
     case round =>
      obtain ⟨n, T5, hn, rfl, rfl, HTp, HBp⟩ := hrel
      obtain ⟨wp, hwp⟩ : ∃ wp, wp = wr := ⟨_, rfl⟩
      subst hwp
      clear x0
      have x0 : wp.cell? ⟨wb.heap.size, 0, none⟩ = some (.slice v0 x.phis.length r0) := ((A3x.below HBp.out).cell 0).trans rfl
      by_cases hnl : n < x.phis.length
      ·rcases (K3.out.keep (agree_of_below HBp.out lo)).2 with hz | ⟨bp, op, rfl, hlop, hbp, hcell⟩
       ·simp [hz] at hnl
       obtain ⟨e0, ⟨i0, j0, e1, m1⟩⟩ := hcell n hnl
       have hpb := HPH.out _ (getD_mem phi0 x.phis n hnl)
       have hfs := flat_snoc (z := phi0) phiM hnl
       have hfl3 := flat_le x.phis phiM (n + 1)
       rw [hfs, List.length_append] at hfl3
       have HNp : Hid ((x.phis.take (n + 1)).flatMap phiM = (x.phis.take n).flatMap phiM ++ phiM (x.phis.getD n phi0)) := hfs
       generalize hR : (x.phis.take n).flatMap phiM = R2 at hfl3 HNp HTp
       generalize x.phis.getD n phi0 = y at e0 e1 m1 hpb HNp hfl3
       have hyi : y.ins.length ≤ 10 := by simp [phiB] at hpb; omega
       clear hR hfs hcell hpb
       have hTs5 : T5.size ≤ 12504 := by rw [HTp.out]; exact vb_bound (by simp only [List.length_append, List.length_cons, List.length_nil]; omega)
       have V1 := fun xx => var_gives y.w wp xx
       have V2 := fun xx => list_gives lo i0 j0 y.ins wp (by omega) m1 xx
       have HT6 : Hid (T5 ++ vof y.w ++ vb ⟨#[]⟩ (listN y.ins) = vb ssa1 (Q ++ R ++ [(x.phis.length : Int)] ++ (x.phis.take (n + 1)).flatMap phiM)) := by
        show _ = _
        rw [HTp.out, vb_snoc, vb_snocs, HNp.out]
        unfold phiM
        simp
       have s1 := vof_len y.w
       have s2 : (vb ⟨#[]⟩ (listN y.ins)).size ≤ 12504 := vb_bound0 (by rw [listN_len]; omega)
       generalize vof y.w = A1 at *
       generalize vb ⟨#[]⟩ (listN y.ins) = A2 at *
       have z1 : (T5 ++ A1).size ≤ 12509 := by rw [ByteArray.size_append]; omega
       have z2 : (T5 ++ A1 ++ A2).size ≤ 30000 := by rw [ByteArray.size_append]; omega
       have hne : Nonempty (Abv (fun v => Below wp.heap.size wp v)) := abv_ne (Below.refl _ _)
       have lb : wb.heap.size < wp.heap.size := (A3x.below HBp.out).lt
       have t0 := fun xx : Abv (fun v => Below wp.heap.size wp v) => (bcell xx.ok wb.heap.size 0 lb).trans x0
       have t1 := fun xx : Abv (fun v => Below wp.heap.size wp v) => (bcell xx.ok bp _ hbp).trans e0
       have t2 := fun xx : Abv (fun v => Below wp.heap.size wp v) => (bcell xx.ok bp _ hbp).trans e1
       go_wp2_with fail
       refine wp_region_abv (fun v => Below wp.heap.size wp v) (by kernel_rfl) (by kernel_rfl) (drew_below (Below.refl _ _)) ?_
       repeat (go_big_quiet_step (first | (go_at_call 57; with_reducible exact V1 _) | (go_at_call 58; with_reducible exact V2 _)))
       refine wpQuiet_nil ?_
       rintro w8 ⟨⟨w8, h8⟩, rfl⟩
       have HB8 : Hid (Below w3.heap.size w3 w8) := HBp.out.trans (h8.mono HBp.out.size)
       clear h8 hne t0 t1 t2 V1 V2
       go_wp2_with fail
       go_roundw
       case rel => exact ⟨n + 1, _, by omega, by go_num, rfl, HT6.out, HB8⟩
       case measure => simp [intOf]; omega
      ·have x1 : wp.cell? ⟨wb.heap.size, 1, none⟩ = some (.slice v1 x.insts.length r1) := ((A3x.below HBp.out).cell 1).trans rfl
       have HTq : Hid (T5 = vb ssa1 (Q ++ R ++ phisM x.phis)) := by
        show _ = _
        rw [HTp.out, flat_all x.phis phiM hnl]
        unfold phisM
        simp
       have hTs5 : T5.size ≤ 12504 := by rw [HTq.out]; exact vb_bound (by unfold phisM; simp only [List.length_append, List.length_cons]; omega)
       clear HTp HT3 hT4 hv3 hTs HTb
       go_wp2_with fail
       refine (varS _ _).mono ?_
       rintro e w4 ⟨rfl, b4⟩
       have hv4 := vof_len (x.insts.length : Int)
       have HB4 : Hid (Below w3.heap.size w3 w4) := HBp.out.trans (b4.mono HBp.out.size)
       have HT7 : Hid (T5 ++ vof (x.insts.length : Int) = vb ssa1 (Q ++ R ++ phisM x.phis ++ [(x.insts.length : Int)])) := by show _ = _; rw [HTq.out, vb_snoc]
       generalize vof (x.insts.length : Int) = A5 at hv4 HT7 ⊢
       clear b4 x0 x1
       have x1 : w4.cell? ⟨wb.heap.size, 1, none⟩ = some (.slice v1 x.insts.length r1) := ((A3x.below HB4.out).cell 1).trans rfl
       go_wp2_with fail
       have hT7 : (T5 ++ A5).size ≤ 13000 := by rw [ByteArray.size_append]; omega
       generalize T5 ++ A5 = T7 at HT7 hT7 ⊢
       go_loopw [3, 9] (fun st i wr => ∃ (n : Nat) (T : ByteArray), n ≤ x.insts.length ∧ i = .int .i64 n ∧ st = .string T ∧ Hid (T = vb ssa1 (Q ++ R ++ phisM x.phis ++ [(x.insts.length : Int)] ++ (x.insts.take n).flatMap instM)) ∧ Hid (Below w3.heap.size w3 wr)) (fun _ i _ => x.insts.length - (intOf i).toNat)
       case atStart => exact ⟨0, _, by omega, rfl, rfl, by show _ = _; rw [HT7.out]; simp, HB4⟩
       case round =>
        obtain ⟨m, T8, hm, rfl, rfl, HTi, HBi⟩ := hrel
        obtain ⟨wi, hwi⟩ : ∃ wi, wi = wr := ⟨_, rfl⟩
        subst hwi
        clear x1
        have Ai := A3x.below HBi.out
        have x1 : wi.cell? ⟨wb.heap.size, 1, none⟩ = some (.slice v1 x.insts.length r1) := (Ai.cell 1).trans rfl
        have hPM : (phisM x.phis).length = 1 + (x.phis.flatMap phiM).length := by unfold phisM; rw [List.length_cons]; omega
        by_cases hml : m < x.insts.length
        ·rcases (K4.out.keep (agree_of_below HBi.out lo)).2 with hz | ⟨bi, oi, rfl, hloi, hbi, hcell⟩
         ·simp [hz] at hml
         obtain ⟨e0, e1, e2, e3, e4, e5, ⟨i0, j0, e6, m6⟩⟩ := hcell m hml
         have hib := HIN.out _ (getD_mem inst0 x.insts m hml)
         have his := HSI.out _ (getD_mem inst0 x.insts m hml)
         have hfs := flat_snoc (z := inst0) instM hml
         have hfl4 := flat_le x.insts instM (m + 1)
         rw [hfs, List.length_append] at hfl4
         have HNi : Hid ((x.insts.take (m + 1)).flatMap instM = (x.insts.take m).flatMap instM ++ instM (x.insts.getD m inst0)) := hfs
         generalize hR : (x.insts.take m).flatMap instM = R3 at hfl4 HNi HTi
         generalize x.insts.getD m inst0 = y at e0 e1 e2 e3 e4 e5 e6 m6 hib his HNi hfl4
         have hyl := instM_len hib
         clear hR hfs hcell hib
         have hTs8 : T8.size ≤ 12504 := by rw [HTi.out]; exact vb_bound (by simp only [List.length_append, List.length_cons, List.length_nil]; omega)
         have P1 := l6InstS lo y i0 j0 wi his m6
         have s2 : (vb ⟨#[]⟩ (instM y)).size ≤ 12504 := vb_bound0 (by omega)
         have HT9 : Hid (T8 ++ vb ⟨#[]⟩ (instM y) = vb ssa1 (Q ++ R ++ phisM x.phis ++ [(x.insts.length : Int)] ++ (x.insts.take (m + 1)).flatMap instM)) := by
          show _ = _
          rw [HTi.out, vb_snocs, HNi.out]
          simp
         generalize vb ⟨#[]⟩ (instM y) = A6 at P1 s2 HT9
         go_wp2_with fail
         refine P1.mono ?_
         rintro e w5 ⟨rfl, b5⟩
         have HB5 : Hid (Below w3.heap.size w3 w5) := HBi.out.trans (b5.mono HBi.out.size)
         clear b5
         go_wp2_with fail
         go_roundw
         case rel => exact ⟨m + 1, _, by omega, by go_num, rfl, HT9.out, HB5⟩
         case measure => simp [intOf]; omega
        ·have HTr : Hid (T8 = vb ssa1 (Q ++ R ++ phisM x.phis ++ instsM x.insts)) := by
          show _ = _
          rw [HTi.out, flat_all x.insts instM hml]
          unfold instsM
          simp
         have hTs8 : T8.size ≤ 12504 := by rw [HTr.out]; exact vb_bound (by unfold instsM; simp only [List.length_append, List.length_cons]; omega)
         have x2 : wi.cell? ⟨wb.heap.size, 2, none⟩ = some (.int .i64 x.term.kind) := (Ai.cell 2).trans rfl
         have x3 : wi.cell? ⟨wb.heap.size, 3, none⟩ = some (.int .i64 x.term.a) := (Ai.cell 3).trans rfl
         have x4 : wi.cell? ⟨wb.heap.size, 4, none⟩ = some (.int .i64 x.term.x) := (Ai.cell 4).trans rfl
         have x5 : wi.cell? ⟨wb.heap.size, 5, none⟩ = some (.int .i64 x.term.y) := (Ai.cell 5).trans rfl
         have P1 := l6TermS x.term wi
         have hyl := termM_len x.term
         have s2 : (vb ⟨#[]⟩ (termM x.term)).size ≤ 12504 := vb_bound0 (by omega)
         have HT9 : Hid (T8 ++ vb ⟨#[]⟩ (termM x.term) = vb ssa1 (Q ++ (f.blocks.take (j + 1)).flatMap blockM)) := by
          show _ = _
          rw [HTr.out, vb_snocs, HNb.out]
          unfold blockM
          simp
         generalize vb ⟨#[]⟩ (termM x.term) = A6 at P1 s2 HT9
         clear HTi HT7 hT7 HTq
         go_wp2_with fail
         refine P1.mono ?_
         rintro e w5 ⟨rfl, b5⟩
         have HB5 : Hid (Below w9.heap.size w9 w5) := HB3.out.trans ((HBi.out.trans (b5.mono HBi.out.size)).mono HB3.out.size)
         clear b5
         go_wp2_with fail
         go_roundw
         case rel => exact ⟨j + 1, _, by omega, by go_num, rfl, HT9.out, HB5⟩
         case measure => simp [intOf]; omega
    ·have HT3 : Hid (T = vb ssa1 ((l.length : Int) :: (l.take (k + 1)).flatMap funcM)) := by
      show _ = _
      rw [HTb.out, flat_all f.blocks blockM hjl, HN.out, ← HQ.out]
      unfold funcM
      simp
     have HBk : Hid (Below w.heap.size w wb) := HB9.out.trans (HBb.out.mono HB9.out.size)
     have HXk : Hid (Box1 wb w.heap.size l.length (some ⟨bb, off, none⟩) c) := HX9.out.below HBb.out
     clear HTb HT2
     go_wp2_with fail
     go_roundw
     case rel => exact ⟨k + 1, _, by omega, by go_num, rfl, HT3, HBk, HXk⟩
     case measure => simp [intOf]; omega
  ·have HE : Hid (vb ssa1 (modM l) = T) := by
    show _ = _
    rw [HT.out, flat_all l funcM hlt]; rfl
   go_wp2_with fail
   go_ret
   exact ⟨by rw [HE.out]; rfl, HB.out⟩
end Go.Proofs.YtojhakjkfkmklaaGreatDoor
