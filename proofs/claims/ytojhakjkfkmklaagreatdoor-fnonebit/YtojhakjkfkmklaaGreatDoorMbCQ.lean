/- Modules as bytes: the model's l6Body. -/
import Derived.Test.YtojhakjkfkmklaaGreatDoorMbBQ
import Derived.Test.YtojhakjkfkmklaaGreatDoorFmJQ
import Derived.Test.YtojhakjkfkmklaaGreatDoorRows
import Derived.WalkKit
import Derived.WalkSpells
import Derived.WalkLawsBesides
import Derived.Deep.QuietTactic
namespace Go.Proofs.YtojhakjkfkmklaaGreatDoor
open Go.RowKit
set_option linter.unusedVariables false

theorem vb_snoc (R : ByteArray) (P : List Int) (n : Int) : vb R P ++ vof n = vb R (P ++ [n]) := by rw [vb_append, vb_one]
theorem vb_snocs (R : ByteArray) (P l : List Int) : vb R P ++ vb ⟨#[]⟩ l = vb R (P ++ l) := by rw [vb_append, vb_emp]
theorem vb_bound {P : List Int} (h : P.length ≤ 2500) : (vb ssa1 P).size ≤ 12504 := by
  have := vb_size P ssa1
  have h4 : ssa1.size = 4 := rfl
  omega
theorem vb_bound0 {P : List Int} (h : P.length ≤ 2500) : (vb ⟨#[]⟩ P).size ≤ 12504 := by
  have := vb_size P ⟨#[]⟩
  have h4 : (⟨#[]⟩ : ByteArray).size = 0 := rfl
  omega
theorem m0keep {w w' : World} {lo : Nat} {a : Option Addr} {l : List PhiD} (h : PhisAt w lo a l) (k : Below w.heap.size w w') : PhisAt w' lo a l := h.keep (agree_of_below k lo)
theorem m1keep {w w' : World} {lo : Nat} {a : Option Addr} {l : List InstD} (h : InstsAt w lo a l) (k : Below w.heap.size w w') : InstsAt w' lo a l := h.keep (agree_of_below k lo)
theorem listN_len (l : List Int) : (listN l).length = l.length + 1 := by simp [listN]
set_option maxHeartbeats 8000000 in
set_option maxRecDepth 100000 in
theorem l6BodyS (lo : Nat) (l : List FuncD) (u : Option Addr) (c : Nat) (w : World) (hs : SmMod l) (hm : modB l = true) (k0 : FuncsAt w lo u l) :
    Calls Tryz.prog 27 #[.agg #[.slice u l.length c]] w fun e w' => e = .returned (.string (vb ssa1 (modM l))) ∧ Below w.heap.size w w' := by
  have hlen := modM_len hm
  obtain ⟨hl3, hf3⟩ := modB_parts hm
  have HF : Hid (∀ d ∈ l, funcB l.length d = true) := hf3
  have HS : Hid (∀ d ∈ l, SmFunc d) := hs.2
  have K0 : Hid (FuncsAt w lo u l) := k0
  have hM : (modM l).length = 1 + (l.flatMap funcM).length := by unfold modM; rw [List.length_cons]; omega
  clear hm hf3 hs k0
  have X0 := Box1.new w l.length u c 26
  have hB0 : Below w.heap.size w (w.alloc (.cells #[.slice u l.length c] 26)) := (Below.refl _ w).alloc (Nat.le_refl _) _
  go_enter Tryz.func27, Tryz.ntmps27
  go_wp2_with fail
  generalize (w.alloc (.cells #[.slice u l.length c] 26)) = W at X0 hB0 ⊢
  refine (varS _ _).mono ?_
  rintro e w1 ⟨rfl, b1⟩
  have HX1 : Hid (Box1 w1 w.heap.size l.length u c) := X0.below b1
  have HB1 : Hid (Below w.heap.size w w1) := hB0.trans (b1.mono hB0.size)
  clear X0 hB0 b1
  have hv1 := vof_len (l.length : Int)
  have HE1 : Hid ((⟨#[83, 83, 65, 49]⟩ : ByteArray) ++ vof (l.length : Int) = vb ssa1 ((l.length : Int) :: (l.take 0).flatMap funcM)) := by show _ = _; rfl
  generalize vof (l.length : Int) = A at hv1 HE1 ⊢
  go_wp2_with fail
  go_loopw [3, 4] (fun st i wr => ∃ (k : Nat) (T : ByteArray), k ≤ l.length ∧ i = .int .i64 k ∧ st = .string T ∧ Hid (T = vb ssa1 ((l.length : Int) :: (l.take k).flatMap funcM)) ∧ Hid (Below w.heap.size w wr) ∧ Hid (Box1 wr w.heap.size l.length u c)) (fun _ i _ => l.length - (intOf i).toNat)
  case atStart => exact ⟨0, _, by omega, rfl, rfl, HE1, HB1, HX1⟩
  case round =>
    obtain ⟨k, T, hk, rfl, rfl, HT, HB, HX⟩ := hrel
    obtain ⟨wo, hwo⟩ : ∃ wo, wo = wr := ⟨_, rfl⟩
    subst hwo
    clear HE1 HB1 HX1 hv1
    have y0 := HX.out.2
    by_cases hlt : k < l.length
    · rcases (K0.out.keep (agree_of_below HB.out lo)).2 with hn | ⟨bb, off, rfl, hlo, hbb, hcell⟩
      · simp [hn] at hlt
      obtain ⟨⟨p0, q0, e0, m0⟩, e1, ⟨p2, q2, e2, m2⟩⟩ := hcell k hlt
      have hfb := HF.out _ (getD_mem func0 l k hlt)
      have hsm := HS.out _ (getD_mem func0 l k hlt)
      have hfs := flat_snoc (z := func0) funcM hlt
      have hfl := flat_le l funcM (k + 1)
      rw [hfs, List.length_append] at hfl
      have HN : Hid ((l.take (k + 1)).flatMap funcM = (l.take k).flatMap funcM ++ funcM (l.getD k func0)) := hfs
      generalize hP : (l.take k).flatMap funcM = P at hfl HN HT
      generalize l.getD k func0 = f at e0 e1 e2 m0 m2 hfb hsm HN hfl
      obtain ⟨hp4, hb10, hc60, hbs⟩ := funcB_parts hfb
      have HBS : Hid (f.blocks.all (blockB (cntF f) f.blocks.length l.length) = true) := hbs
      have HSB : Hid (∀ x ∈ f.blocks, SmBlock x) := hsm.2.2
      have hFM : (funcM f).length = (fheadM f).length + (f.blocks.flatMap blockM).length := by unfold funcM; rw [List.length_append]
      have hFH : (fheadM f).length = f.params.length + 3 := by simp [fheadM, listN]
      clear hP hfs hcell hfb hsm hbs
      have hTs : T.size ≤ 12504 := by rw [HT.out]; exact vb_bound (by rw [List.length_cons]; omega)
      have A0 := At.new wo #[.slice p0 f.params.length q0, .int .i64 f.ret, .slice p2 f.blocks.length q2] 49
      have B0 : Below wo.heap.size wo (wo.alloc (.cells #[.slice p0 f.params.length q0, .int .i64 f.ret, .slice p2 f.blocks.length q2] 49)) := (Below.refl _ _).alloc (Nat.le_refl _) _
      have M0 := m0.keep (agree_of_below B0 lo)
      have M2 := m2.keep (agree_of_below B0 lo)
      have HBf : Hid (Below w.heap.size w (wo.alloc (.cells #[.slice p0 f.params.length q0, .int .i64 f.ret, .slice p2 f.blocks.length q2] 49))) := HB.out.trans (B0.mono HB.out.size)
      have HXf : Hid (Box1 (wo.alloc (.cells #[.slice p0 f.params.length q0, .int .i64 f.ret, .slice p2 f.blocks.length q2] 49)) w.heap.size l.length (some ⟨bb, off, none⟩) c) := HX.out.below B0
      go_wp2_with fail
      generalize (wo.alloc (.cells #[.slice p0 f.params.length q0, .int .i64 f.ret, .slice p2 f.blocks.length q2] 49)) = wf at A0 M0 M2 HBf HXf ⊢
      clear e0 e1 e2 m0 m2 HB HX y0 B0
      have lf := A0.lt
      have V1 := fun xx => var_gives f.ret wf xx
      have V2 := fun xx => list_gives lo p0 q0 f.params wf (by omega) M0 xx
      have V3 := fun xx => var_gives (f.blocks.length : Int) wf xx
      have HT2 : Hid (T ++ vof f.ret ++ vb ⟨#[]⟩ (listN f.params) ++ vof (f.blocks.length : Int) = vb ssa1 ((l.length : Int) :: P ++ fheadM f)) := by
        show _ = _
        rw [HT.out, vb_snoc, vb_snocs, vb_snoc]
        unfold fheadM
        simp
      have r1 := vof_len f.ret
      have r2 : (vb ⟨#[]⟩ (listN f.params)).size ≤ 12504 := vb_bound0 (by rw [listN_len]; omega)
      have r3 := vof_len (f.blocks.length : Int)
      generalize vof f.ret = A1 at *
      generalize vb ⟨#[]⟩ (listN f.params) = A2 at *
      generalize vof (f.blocks.length : Int) = A3 at *
      have z1 : (T ++ A1).size ≤ 12509 := by rw [ByteArray.size_append]; omega
      have z2 : (T ++ A1 ++ A2).size ≤ 30000 := by rw [ByteArray.size_append]; omega
      have z3 : (T ++ A1 ++ A2 ++ A3).size ≤ 30005 := by rw [ByteArray.size_append]; omega
      have hne : Nonempty (Abv (fun v => Below wf.heap.size wf v)) := abv_ne (Below.refl _ _)
      have t0 := fun xx : Abv (fun v => Below wf.heap.size wf v) => (bcell xx.ok wo.heap.size 0 lf).trans ((A0.cell 0).trans rfl)
      have t1 := fun xx : Abv (fun v => Below wf.heap.size wf v) => (bcell xx.ok wo.heap.size 1 lf).trans ((A0.cell 1).trans rfl)
      have t2 := fun xx : Abv (fun v => Below wf.heap.size wf v) => (bcell xx.ok wo.heap.size 2 lf).trans ((A0.cell 2).trans rfl)
      refine wp_region_abv (fun v => Below wf.heap.size wf v) (by kernel_rfl) (by kernel_rfl) (drew_below (Below.refl _ _)) ?_
      repeat (go_big_quiet_step (first | (go_at_call 57; first | with_reducible exact V1 _ | with_reducible exact V3 _) | (go_at_call 58; with_reducible exact V2 _)))
      refine wpQuiet_nil ?_
      rintro w9 ⟨⟨w9, h9⟩, rfl⟩
      have HB9 : Hid (Below w.heap.size w w9) := HBf.out.trans (h9.mono HBf.out.size)
      have HX9 : Hid (Box1 w9 w.heap.size l.length (some ⟨bb, off, none⟩) c) := HXf.out.below h9
      have A9 := A0.below h9
      have K2 : Hid (BlocksAt w9 lo p2 f.blocks) := M2.keep (agree_of_below h9 lo)
      clear h9 hne t0 t1 t2 V1 V2 V3 r1 r2 r3 z1 z2 HBf HXf M0 M2 lf A0 hTs
      generalize T ++ A1 ++ A2 ++ A3 = T2 at HT2 z3 ⊢
      have y2 := (A9.cell 2).trans rfl
      generalize hQ : (l.length : Int) :: P ++ fheadM f = Q at HT2
      have HQ : Hid ((l.length : Int) :: P ++ fheadM f = Q) := hQ
      have hQl : Q.length = 1 + P.length + (fheadM f).length := by rw [← hQ]; simp; omega
      clear hQ
      go_wp2_with fail
      go_loopw [3, 6] (fun st i wr => ∃ (j : Nat) (T : ByteArray), j ≤ f.blocks.length ∧ i = .int .i64 j ∧ st = .string T ∧ Hid (T = vb ssa1 (Q ++ (f.blocks.take j).flatMap blockM)) ∧ Hid (Below w9.heap.size w9 wr)) (fun _ i _ => f.blocks.length - (intOf i).toNat)
      case atStart => exact ⟨0, _, by omega, rfl, rfl, by show _ = _; rw [HT2.out]; simp, Below.refl _ _⟩
      case round =>
        obtain ⟨j, T, hj, rfl, rfl, HTb, HBb⟩ := hrel
        obtain ⟨wb, hwb⟩ : ∃ wb, wb = wr := ⟨_, rfl⟩
        subst hwb
        clear y2
        have y2 : wb.cell? ⟨wo.heap.size, 2, none⟩ = some (.slice p2 f.blocks.length q2) := ((A9.below HBb.out).cell 2).trans rfl
        by_cases hjl : j < f.blocks.length
        · rcases (K2.out.keep (agree_of_below HBb.out lo)).2 with hn | ⟨bc, of2, rfl, hlo2, hbc, hcell⟩
          · simp [hn] at hjl
          obtain ⟨⟨v0, r0, e0, m0⟩, ⟨v1, r1, e1, m1⟩, e2, e3, e4, e5⟩ := hcell j hjl
          have hxb := List.all_eq_true.1 HBS.out _ (getD_mem block0 f.blocks j hjl)
          have hsm := HSB.out _ (getD_mem block0 f.blocks j hjl)
          have hfs := flat_snoc (z := block0) blockM hjl
          have hfl2 := flat_le f.blocks blockM (j + 1)
          rw [hfs, List.length_append] at hfl2
          have HNb : Hid ((f.blocks.take (j + 1)).flatMap blockM = (f.blocks.take j).flatMap blockM ++ blockM (f.blocks.getD j block0)) := hfs
          generalize hR : (f.blocks.take j).flatMap blockM = R at hfl2 HNb HTb
          generalize f.blocks.getD j block0 = x at e0 e1 e2 e3 e4 e5 m0 m1 hxb hsm HNb hfl2
          simp only [blockB, Bool.and_eq_true] at hxb
          have HPH : Hid (∀ p ∈ x.phis, phiB (cntF f) p = true) := fun p hp => List.all_eq_true.1 hxb.1.1 p hp
          have HIN : Hid (∀ p ∈ x.insts, instB p (cntF f) l.length = true) := fun p hp => List.all_eq_true.1 hxb.1.2 p hp
          have hxp := hsm.1.1
          have hxi := hsm.2.1
          have HSI : Hid (∀ p ∈ x.insts, SmInst p) := hsm.2.2
          have hBM : (blockM x).length = (x.phis.flatMap phiM).length + (x.insts.flatMap instM).length + (termM x.term).length + 2 := by simp [blockM, phisM, instsM]; omega
          clear hR hfs hcell hxb hsm
          have hTs : T.size ≤ 12504 := by rw [HTb.out]; exact vb_bound (by rw [List.length_append]; omega)
          have A0 := At.new wb #[.slice v0 x.phis.length r0, .slice v1 x.insts.length r1, .int .i64 x.term.kind, .int .i64 x.term.a, .int .i64 x.term.x, .int .i64 x.term.y] 86
          have B0 : Below wb.heap.size wb (wb.alloc (.cells #[.slice v0 x.phis.length r0, .slice v1 x.insts.length r1, .int .i64 x.term.kind, .int .i64 x.term.a, .int .i64 x.term.x, .int .i64 x.term.y] 86)) := (Below.refl _ _).alloc (Nat.le_refl _) _
          have M0 := m0.keep (agree_of_below B0 lo)
          have M1 := m1.keep (agree_of_below B0 lo)
          have HBf : Hid (Below w9.heap.size w9 (wb.alloc (.cells #[.slice v0 x.phis.length r0, .slice v1 x.insts.length r1, .int .i64 x.term.kind, .int .i64 x.term.a, .int .i64 x.term.x, .int .i64 x.term.y] 86))) := HBb.out.trans (B0.mono HBb.out.size)
          go_wp2_with fail
          generalize (wb.alloc (.cells #[.slice v0 x.phis.length r0, .slice v1 x.insts.length r1, .int .i64 x.term.kind, .int .i64 x.term.a, .int .i64 x.term.x, .int .i64 x.term.y] 86)) = wx at A0 M0 M1 HBf ⊢
          clear e0 e1 e2 e3 e4 e5 m0 m1 B0 y2 HBb
          refine (varS _ _).mono ?_
          rintro e w3 ⟨rfl, b3⟩
          have A3x := A0.below b3
          have HB3 : Hid (Below w9.heap.size w9 w3) := HBf.out.trans (b3.mono HBf.out.size)
          have M0 := m0keep M0 b3
          have M1 := m1keep M1 b3
          have K3 : Hid (PhisAt w3 lo v0 x.phis) := M0
          have K4 : Hid (InstsAt w3 lo v1 x.insts) := M1
          clear M0 M1 b3 A0 HBf
          have hv3 := vof_len (x.phis.length : Int)
          have HT3 : Hid (T ++ vof (x.phis.length : Int) = vb ssa1 (Q ++ R ++ [(x.phis.length : Int)])) := by show _ = _; rw [HTb.out, vb_snoc]
          generalize vof (x.phis.length : Int) = A4 at hv3 HT3 ⊢
          have x0 := (A3x.cell 0).trans rfl
          go_wp2_with fail
          have hT4 : (T ++ A4).size ≤ 13000 := by rw [ByteArray.size_append]; omega
          generalize T ++ A4 = T4 at HT3 hT4 ⊢
          go_loopw [3, 8] (fun st i wr => ∃ (n : Nat) (T : ByteArray), n ≤ x.phis.length ∧ i = .int .i64 n ∧ st = .string T ∧ Hid (T = vb ssa1 (Q ++ R ++ [(x.phis.length : Int)] ++ (x.phis.take n).flatMap phiM)) ∧ Hid (Below w3.heap.size w3 wr)) (fun _ i _ => x.phis.length - (intOf i).toNat)
          case atStart => exact ⟨0, _, by omega, rfl, rfl, by show _ = _; rw [HT3.out]; simp, Below.refl _ _⟩
          case round =>
            obtain ⟨n, T5, hn, rfl, rfl, HTp, HBp⟩ := hrel
            obtain ⟨wp, hwp⟩ : ∃ wp, wp = wr := ⟨_, rfl⟩
            subst hwp
            clear x0
            have x0 : wp.cell? ⟨wb.heap.size, 0, none⟩ = some (.slice v0 x.phis.length r0) := ((A3x.below HBp.out).cell 0).trans rfl
            by_cases hnl : n < x.phis.length
            · rcases (K3.out.keep (agree_of_below HBp.out lo)).2 with hz | ⟨bp, op, rfl, hlop, hbp, hcell⟩
              · simp [hz] at hnl
              obtain ⟨e0, ⟨i0, j0, e1, m1⟩⟩ := hcell n hnl
              have hpb := HPH.out _ (getD_mem phi0 x.phis n hnl)
              have hfs := flat_snoc (z := phi0) phiM hnl
              have hfl3 := flat_le x.phis phiM (n + 1)
              rw [hfs, List.length_append] at hfl3
              have HNp : Hid ((x.phis.take (n + 1)).flatMap phiM = (x.phis.take n).flatMap phiM ++ phiM (x.phis.getD n phi0)) := hfs
              generalize hR : (x.phis.take n).flatMap phiM = R2 at hfl3 HNp HTp
              generalize x.phis.getD n phi0 = y at e0 e1 m1 hpb HNp hfl3
              have hyi : y.ins.length ≤ 10 := by simp [phiB] at hpb; omega
              clear hR hfs hcell hpb
              have hTs5 : T5.size ≤ 12504 := by rw [HTp.out]; exact vb_bound (by simp only [List.length_append, List.length_cons, List.length_nil]; omega)
              have V1 := fun xx => var_gives y.w wp xx
              have V2 := fun xx => list_gives lo i0 j0 y.ins wp (by omega) m1 xx
              have HT6 : Hid (T5 ++ vof y.w ++ vb ⟨#[]⟩ (listN y.ins) = vb ssa1 (Q ++ R ++ [(x.phis.length : Int)] ++ (x.phis.take (n + 1)).flatMap phiM)) := by
                show _ = _
                rw [HTp.out, vb_snoc, vb_snocs, HNp.out]
                unfold phiM
                simp
              have s1 := vof_len y.w
              have s2 : (vb ⟨#[]⟩ (listN y.ins)).size ≤ 12504 := vb_bound0 (by rw [listN_len]; omega)
              generalize vof y.w = A1 at *
              generalize vb ⟨#[]⟩ (listN y.ins) = A2 at *
              have z1 : (T5 ++ A1).size ≤ 12509 := by rw [ByteArray.size_append]; omega
              have z2 : (T5 ++ A1 ++ A2).size ≤ 30000 := by rw [ByteArray.size_append]; omega
              have hne : Nonempty (Abv (fun v => Below wp.heap.size wp v)) := abv_ne (Below.refl _ _)
              have lb : wb.heap.size < wp.heap.size := (A3x.below HBp.out).lt
              have t0 := fun xx : Abv (fun v => Below wp.heap.size wp v) => (bcell xx.ok wb.heap.size 0 lb).trans x0
              have t1 := fun xx : Abv (fun v => Below wp.heap.size wp v) => (bcell xx.ok bp _ hbp).trans e0
              have t2 := fun xx : Abv (fun v => Below wp.heap.size wp v) => (bcell xx.ok bp _ hbp).trans e1
              go_wp2_with fail
              refine wp_region_abv (fun v => Below wp.heap.size wp v) (by kernel_rfl) (by kernel_rfl) (drew_below (Below.refl _ _)) ?_
              repeat (go_big_quiet_step (first | (go_at_call 57; with_reducible exact V1 _) | (go_at_call 58; with_reducible exact V2 _)))
              refine wpQuiet_nil ?_
              rintro w8 ⟨⟨w8, h8⟩, rfl⟩
              have HB8 : Hid (Below w3.heap.size w3 w8) := HBp.out.trans (h8.mono HBp.out.size)
              clear h8 hne t0 t1 t2 V1 V2
              go_wp2_with fail
              go_roundw
              case rel => exact ⟨n + 1, _, by omega, by go_num, rfl, HT6.out, HB8⟩
              case measure => simp [intOf]; omega
            · have x1 : wp.cell? ⟨wb.heap.size, 1, none⟩ = some (.slice v1 x.insts.length r1) := ((A3x.below HBp.out).cell 1).trans rfl
              have HTq : Hid (T5 = vb ssa1 (Q ++ R ++ phisM x.phis)) := by
                show _ = _
                rw [HTp.out, flat_all x.phis phiM hnl]
                unfold phisM
                simp
              have hTs5 : T5.size ≤ 12504 := by rw [HTq.out]; exact vb_bound (by unfold phisM; simp only [List.length_append, List.length_cons]; omega)
              clear HTp HT3 hT4 hv3 hTs HTb
              go_wp2_with fail
              refine (varS _ _).mono ?_
              rintro e w4 ⟨rfl, b4⟩
              have hv4 := vof_len (x.insts.length : Int)
              have HB4 : Hid (Below w3.heap.size w3 w4) := HBp.out.trans (b4.mono HBp.out.size)
              have HT7 : Hid (T5 ++ vof (x.insts.length : Int) = vb ssa1 (Q ++ R ++ phisM x.phis ++ [(x.insts.length : Int)])) := by show _ = _; rw [HTq.out, vb_snoc]
              generalize vof (x.insts.length : Int) = A5 at hv4 HT7 ⊢
              clear b4 x0 x1
              have x1 : w4.cell? ⟨wb.heap.size, 1, none⟩ = some (.slice v1 x.insts.length r1) := ((A3x.below HB4.out).cell 1).trans rfl
              go_wp2_with fail
              have hT7 : (T5 ++ A5).size ≤ 13000 := by rw [ByteArray.size_append]; omega
              generalize T5 ++ A5 = T7 at HT7 hT7 ⊢
              go_loopw [3, 9] (fun st i wr => ∃ (n : Nat) (T : ByteArray), n ≤ x.insts.length ∧ i = .int .i64 n ∧ st = .string T ∧ Hid (T = vb ssa1 (Q ++ R ++ phisM x.phis ++ [(x.insts.length : Int)] ++ (x.insts.take n).flatMap instM)) ∧ Hid (Below w3.heap.size w3 wr)) (fun _ i _ => x.insts.length - (intOf i).toNat)
              case atStart => exact ⟨0, _, by omega, rfl, rfl, by show _ = _; rw [HT7.out]; simp, HB4⟩
              case round =>
                obtain ⟨m, T8, hm, rfl, rfl, HTi, HBi⟩ := hrel
                obtain ⟨wi, hwi⟩ : ∃ wi, wi = wr := ⟨_, rfl⟩
                subst hwi
                clear x1
                have Ai := A3x.below HBi.out
                have x1 : wi.cell? ⟨wb.heap.size, 1, none⟩ = some (.slice v1 x.insts.length r1) := (Ai.cell 1).trans rfl
                have hPM : (phisM x.phis).length = 1 + (x.phis.flatMap phiM).length := by unfold phisM; rw [List.length_cons]; omega
                by_cases hml : m < x.insts.length
                · rcases (K4.out.keep (agree_of_below HBi.out lo)).2 with hz | ⟨bi, oi, rfl, hloi, hbi, hcell⟩
                  · simp [hz] at hml
                  obtain ⟨e0, e1, e2, e3, e4, e5, ⟨i0, j0, e6, m6⟩⟩ := hcell m hml
                  have hib := HIN.out _ (getD_mem inst0 x.insts m hml)
                  have his := HSI.out _ (getD_mem inst0 x.insts m hml)
                  have hfs := flat_snoc (z := inst0) instM hml
                  have hfl4 := flat_le x.insts instM (m + 1)
                  rw [hfs, List.length_append] at hfl4
                  have HNi : Hid ((x.insts.take (m + 1)).flatMap instM = (x.insts.take m).flatMap instM ++ instM (x.insts.getD m inst0)) := hfs
                  generalize hR : (x.insts.take m).flatMap instM = R3 at hfl4 HNi HTi
                  generalize x.insts.getD m inst0 = y at e0 e1 e2 e3 e4 e5 e6 m6 hib his HNi hfl4
                  have hyl := instM_len hib
                  clear hR hfs hcell hib
                  have hTs8 : T8.size ≤ 12504 := by rw [HTi.out]; exact vb_bound (by simp only [List.length_append, List.length_cons, List.length_nil]; omega)
                  have P1 := l6InstS lo y i0 j0 wi his m6
                  have s2 : (vb ⟨#[]⟩ (instM y)).size ≤ 12504 := vb_bound0 (by omega)
                  have HT9 : Hid (T8 ++ vb ⟨#[]⟩ (instM y) = vb ssa1 (Q ++ R ++ phisM x.phis ++ [(x.insts.length : Int)] ++ (x.insts.take (m + 1)).flatMap instM)) := by
                    show _ = _
                    rw [HTi.out, vb_snocs, HNi.out]
                    simp
                  generalize vb ⟨#[]⟩ (instM y) = A6 at P1 s2 HT9
                  go_wp2_with fail
                  refine P1.mono ?_
                  rintro e w5 ⟨rfl, b5⟩
                  have HB5 : Hid (Below w3.heap.size w3 w5) := HBi.out.trans (b5.mono HBi.out.size)
                  clear b5
                  go_wp2_with fail
                  go_roundw
                  case rel => exact ⟨m + 1, _, by omega, by go_num, rfl, HT9.out, HB5⟩
                  case measure => simp [intOf]; omega
                · have HTr : Hid (T8 = vb ssa1 (Q ++ R ++ phisM x.phis ++ instsM x.insts)) := by
                    show _ = _
                    rw [HTi.out, flat_all x.insts instM hml]
                    unfold instsM
                    simp
                  have hTs8 : T8.size ≤ 12504 := by rw [HTr.out]; exact vb_bound (by unfold instsM; simp only [List.length_append, List.length_cons]; omega)
                  have x2 : wi.cell? ⟨wb.heap.size, 2, none⟩ = some (.int .i64 x.term.kind) := (Ai.cell 2).trans rfl
                  have x3 : wi.cell? ⟨wb.heap.size, 3, none⟩ = some (.int .i64 x.term.a) := (Ai.cell 3).trans rfl
                  have x4 : wi.cell? ⟨wb.heap.size, 4, none⟩ = some (.int .i64 x.term.x) := (Ai.cell 4).trans rfl
                  have x5 : wi.cell? ⟨wb.heap.size, 5, none⟩ = some (.int .i64 x.term.y) := (Ai.cell 5).trans rfl
                  have P1 := l6TermS x.term wi
                  have hyl := termM_len x.term
                  have s2 : (vb ⟨#[]⟩ (termM x.term)).size ≤ 12504 := vb_bound0 (by omega)
                  have HT9 : Hid (T8 ++ vb ⟨#[]⟩ (termM x.term) = vb ssa1 (Q ++ (f.blocks.take (j + 1)).flatMap blockM)) := by
                    show _ = _
                    rw [HTr.out, vb_snocs, HNb.out]
                    unfold blockM
                    simp
                  generalize vb ⟨#[]⟩ (termM x.term) = A6 at P1 s2 HT9
                  clear HTi HT7 hT7 HTq
                  go_wp2_with fail
                  refine P1.mono ?_
                  rintro e w5 ⟨rfl, b5⟩
                  have HB5 : Hid (Below w9.heap.size w9 w5) := HB3.out.trans ((HBi.out.trans (b5.mono HBi.out.size)).mono HB3.out.size)
                  clear b5
                  go_wp2_with fail
                  go_roundw
                  case rel => exact ⟨j + 1, _, by omega, by go_num, rfl, HT9.out, HB5⟩
                  case measure => simp [intOf]; omega
        · have HT3 : Hid (T = vb ssa1 ((l.length : Int) :: (l.take (k + 1)).flatMap funcM)) := by
            show _ = _
            rw [HTb.out, flat_all f.blocks blockM hjl, HN.out, ← HQ.out]
            unfold funcM
            simp
          have HBk : Hid (Below w.heap.size w wb) := HB9.out.trans (HBb.out.mono HB9.out.size)
          have HXk : Hid (Box1 wb w.heap.size l.length (some ⟨bb, off, none⟩) c) := HX9.out.below HBb.out
          clear HTb HT2
          go_wp2_with fail
          go_roundw
          case rel => exact ⟨k + 1, _, by omega, by go_num, rfl, HT3, HBk, HXk⟩
          case measure => simp [intOf]; omega
    · have HE : Hid (vb ssa1 (modM l) = T) := by
        show _ = _
        rw [HT.out, flat_all l funcM hlt]; rfl
      go_wp2_with fail
      go_ret
      exact ⟨by rw [HE.out]; rfl, HB.out⟩
end Go.Proofs.YtojhakjkfkmklaaGreatDoor
namespace Go.Proofs.YtojhakjkfkmklaaGreatDoor
open Go.RowKit

/-- One bit of a sum. -/
def cbit (c : Nat) : Nat := if c % 2 = 1 then (c / 2) ^^^ 3988292384 else c / 2
def cbits : Nat → Nat → Nat
  | 0, c => c
  | k + 1, c => cbits k (cbit c)
def cbyte (c b : Nat) : Nat := cbits 8 (c ^^^ b)
def csum (c : Nat) (l : List UInt8) : Nat := l.foldl (fun c b => cbyte c b.toNat) c
def crcOf (l : List UInt8) : Nat := csum 4294967295 l ^^^ 4294967295

theorem xor_lt32 {a b : Nat} (ha : a < 4294967296) (hb : b < 4294967296) : a ^^^ b < 4294967296 :=
  Nat.xor_lt_two_pow (n := 32) (by omega) (by omega)
theorem cbit_lt {c : Nat} (h : c < 4294967296) : cbit c < 4294967296 := by
  unfold cbit
  split
  · exact xor_lt32 (by omega) (by omega)
  · omega
theorem cbits_lt (k : Nat) {c : Nat} (h : c < 4294967296) : cbits k c < 4294967296 := by
  induction k generalizing c with
  | zero => exact h
  | succ k ih => exact ih (cbit_lt h)
theorem cbyte_lt {c : Nat} (h : c < 4294967296) (b : UInt8) : cbyte c b.toNat < 4294967296 :=
  cbits_lt 8 (xor_lt32 h (by have := b.toNat_lt; omega))
theorem csum_lt {c : Nat} (h : c < 4294967296) (l : List UInt8) : csum c l < 4294967296 := by
  induction l generalizing c with
  | nil => exact h
  | cons b l ih => exact ih (cbyte_lt h b)
theorem len_data (s : ByteArray) : s.data.toList.length = s.size := by simp
theorem csum_take {s : ByteArray} {k : Nat} (hk : k < s.size) (c : Nat) : csum c (s.data.toList.take (k + 1)) = cbyte (csum c (s.data.toList.take k)) (s[k]'hk).toNat := by
  have hk' : k < s.data.toList.length := by simpa using hk
  unfold csum
  rw [List.take_succ_eq_append_getElem hk', List.foldl_append]
  rfl

def intOf : Value → Int | .int _ q => q | _ => 0

set_option maxHeartbeats 1000000 in
theorem crcS (s : ByteArray) (hs : s.size ≤ 1048576) (w : World) :
    Calls Tryz.prog 61 #[.string s] w fun e w' => e = .returned (.int .i64 (crcOf s.data.toList)) ∧ w' = w := by
  go_enter Tryz.func61, Tryz.ntmps61
  go_wp2_with fail
  go_loop [3, 4] (fun c i => ∃ k m : Nat, k ≤ s.size ∧ m < 4294967296 ∧ i = .int .i64 k ∧ c = .int .u32 m ∧ Hid (m = csum 4294967295 (s.data.toList.take k))) (fun _ i => s.size - (intOf i).toNat)
  case atStart => exact ⟨0, 4294967295, by omega, by omega, rfl, rfl, by show _ = _; simp [csum]⟩
  case round =>
    obtain ⟨k, m, hk, hm, rfl, rfl, HM⟩ := hrel
    by_cases hlt : k < s.size
    · have hx := u32_xor_nat m (s[k]'hlt).toNat hm (by have := (s[k]'hlt).toNat_lt; omega)
      have hxl := xor_lt32 hm (b := (s[k]'hlt).toNat) (by have := (s[k]'hlt).toNat_lt; omega)
      go_wp2_with fail
      go_loop [3, 5] (fun c i => ∃ j m : Nat, j ≤ 8 ∧ m < 4294967296 ∧ i = .int .i64 j ∧ c = .int .u32 m ∧ Hid (cbits (8 - j) m = cbyte (csum 4294967295 (s.data.toList.take k)) (s[k]'hlt).toNat)) (fun _ i => 8 - (intOf i).toNat)
      case atStart => exact ⟨0, _, by omega, hxl, rfl, by rw [Int.emod_eq_of_lt (by omega) (by have := (s[k]'hlt).toNat_lt; omega), hx], by show _ = _; rw [← HM]; rfl⟩
      case round =>
        obtain ⟨j, mj, hj, hmj, rfl, rfl, HJ⟩ := hrel
        by_cases hj8 : j < 8
        · by_cases ho : mj % 2 = 1
          · have ha : bits .and .u32 (mj : Int) 1 = 1 := by
              have := u32_and_nat mj 1 hmj (by omega)
              rw [Nat.and_one_is_mod, ho] at this
              exact this
            clear hx
            go_wp2_with fail
            have e : bits .xor .u32 ((mj : Int) / 2) 3988292384 = ((mj / 2 ^^^ 3988292384 : Nat) : Int) := u32_xor_nat (mj / 2) 3988292384 (by omega) (by omega)
            have hc : cbit mj = mj / 2 ^^^ 3988292384 := by unfold cbit; rw [if_pos ho]
            refine ⟨⟨j + 1, cbit mj, by omega, cbit_lt hmj, rfl, by rw [e, hc], ?_⟩, by simp only [intOf]; omega⟩
            rw [show 8 - j = (8 - (j + 1)) + 1 by omega] at HJ
            exact HJ
          · have ha : bits .and .u32 (mj : Int) 1 = 0 := by
              have := u32_and_nat mj 1 hmj (by omega)
              rw [Nat.and_one_is_mod, Nat.mod_two_ne_one.1 ho] at this
              exact this
            clear hx
            go_wp2_with fail
            have hc : cbit mj = mj / 2 := by unfold cbit; rw [if_neg ho]
            refine ⟨⟨j + 1, cbit mj, by omega, cbit_lt hmj, rfl, by rw [hc]; rfl, ?_⟩, by simp only [intOf]; omega⟩
            rw [show 8 - j = (8 - (j + 1)) + 1 by omega] at HJ
            exact HJ
        · clear hx
          go_wp2_with fail
          refine ⟨⟨k + 1, mj, by omega, hmj, rfl, rfl, ?_⟩, by simp only [intOf]; omega⟩
          rw [show 8 - j = 0 by omega] at HJ
          show mj = _
          rw [csum_take hlt]
          exact HJ
    · go_wp2_with fail
      go_ret
      refine ⟨?_, rfl⟩
      have e : bits .xor .u32 (m : Int) 4294967295 = ((m ^^^ 4294967295 : Nat) : Int) := u32_xor_nat m 4294967295 hm (by omega)
      have hb := xor_lt32 hm (b := 4294967295) (by omega)
      have ht : s.data.toList.take k = s.data.toList := List.take_of_length_le (by rw [len_data]; omega)
      rw [e, show crcOf s.data.toList = m ^^^ 4294967295 by unfold crcOf; rw [HM, ht]]
      generalize m ^^^ 4294967295 = q at hb
      exact congrArg (fun z => Ending.returned (.int .i64 z)) (by unfold wrap64; omega)

set_option maxHeartbeats 1000000 in
theorem crcI (s : ByteArray) (hs : s.size ≤ 1048576) (w : World) :
    Calls Tryz.prog 48 #[.string s] w fun e w' => e = .returned (.int .i64 (crcOf s.data.toList)) ∧ w' = w := by
  go_enter Tryz.func48, Tryz.ntmps48
  go_wp2_with fail
  go_loop [3, 7] (fun c i => ∃ k m : Nat, k ≤ s.size ∧ m < 4294967296 ∧ i = .int .i64 k ∧ c = .int .u32 m ∧ Hid (m = csum 4294967295 (s.data.toList.take k))) (fun _ i => s.size - (intOf i).toNat)
  case atStart => exact ⟨0, 4294967295, by omega, by omega, rfl, rfl, by show _ = _; simp [csum]⟩
  case round =>
    obtain ⟨k, m, hk, hm, rfl, rfl, HM⟩ := hrel
    by_cases hlt : k < s.size
    · have hx := u32_xor_nat m (s[k]'hlt).toNat hm (by have := (s[k]'hlt).toNat_lt; omega)
      have hxl := xor_lt32 hm (b := (s[k]'hlt).toNat) (by have := (s[k]'hlt).toNat_lt; omega)
      go_wp2_with fail
      go_loop [3, 16] (fun c i => ∃ j m : Nat, j ≤ 8 ∧ m < 4294967296 ∧ i = .int .i64 j ∧ c = .int .u32 m ∧ Hid (cbits (8 - j) m = cbyte (csum 4294967295 (s.data.toList.take k)) (s[k]'hlt).toNat)) (fun _ i => 8 - (intOf i).toNat)
      case atStart => exact ⟨0, _, by omega, hxl, rfl, by rw [Int.emod_eq_of_lt (by omega) (by have := (s[k]'hlt).toNat_lt; omega), hx], by show _ = _; rw [← HM]; rfl⟩
      case round =>
        obtain ⟨j, mj, hj, hmj, rfl, rfl, HJ⟩ := hrel
        by_cases hj8 : j < 8
        · by_cases ho : mj % 2 = 1
          · have ha : bits .and .u32 (mj : Int) 1 = 1 := by
              have := u32_and_nat mj 1 hmj (by omega)
              rw [Nat.and_one_is_mod, ho] at this
              exact this
            clear hx
            go_wp2_with fail
            have e : bits .xor .u32 ((mj : Int) / 2) 3988292384 = ((mj / 2 ^^^ 3988292384 : Nat) : Int) := u32_xor_nat (mj / 2) 3988292384 (by omega) (by omega)
            have hc : cbit mj = mj / 2 ^^^ 3988292384 := by unfold cbit; rw [if_pos ho]
            refine ⟨⟨j + 1, cbit mj, by omega, cbit_lt hmj, rfl, by rw [e, hc], ?_⟩, by simp only [intOf]; omega⟩
            rw [show 8 - j = (8 - (j + 1)) + 1 by omega] at HJ
            exact HJ
          · have ha : bits .and .u32 (mj : Int) 1 = 0 := by
              have := u32_and_nat mj 1 hmj (by omega)
              rw [Nat.and_one_is_mod, Nat.mod_two_ne_one.1 ho] at this
              exact this
            clear hx
            go_wp2_with fail
            have hc : cbit mj = mj / 2 := by unfold cbit; rw [if_neg ho]
            refine ⟨⟨j + 1, cbit mj, by omega, cbit_lt hmj, rfl, by rw [hc, show bits .xor .u32 ((mj : Int) / 2) 0 = ((mj / 2 ^^^ 0 : Nat) : Int) from u32_xor_nat (mj / 2) 0 (by omega) (by omega), Nat.xor_zero], ?_⟩, by simp only [intOf]; omega⟩
            rw [show 8 - j = (8 - (j + 1)) + 1 by omega] at HJ
            exact HJ
        · clear hx
          go_wp2_with fail
          refine ⟨⟨k + 1, mj, by omega, hmj, rfl, rfl, ?_⟩, by simp only [intOf]; omega⟩
          rw [show 8 - j = 0 by omega] at HJ
          show mj = _
          rw [csum_take hlt]
          exact HJ
    · go_wp2_with fail
      go_ret
      refine ⟨?_, rfl⟩
      have e : bits .xor .u32 IntKind.u32.max (m : Int) = ((m ^^^ 4294967295 : Nat) : Int) := by rw [Nat.xor_comm]; exact u32_xor_nat 4294967295 m (by omega) hm
      have hb := xor_lt32 hm (b := 4294967295) (by omega)
      have ht : s.data.toList.take k = s.data.toList := List.take_of_length_le (by rw [len_data]; omega)
      rw [e, show crcOf s.data.toList = m ^^^ 4294967295 by unfold crcOf; rw [HM, ht]]
      generalize m ^^^ 4294967295 = q at hb
      exact congrArg (fun z => Ending.returned (.int .i64 z)) (by unfold wrap64; omega)

/-! ### One bit turned, another sum -/
theorem high_odd {a : Nat} (ha : a < 2147483648) : (a ^^^ 3988292384).testBit 31 = true := by
  rw [Nat.testBit_xor, Nat.testBit_lt_two_pow (by omega)]
  decide
theorem cbit_top {c : Nat} (hc : c < 4294967296) : (cbit c).testBit 31 = decide (c % 2 = 1) := by
  unfold cbit
  by_cases h : c % 2 = 1
  · rw [if_pos h, high_odd (by omega)]; simp [h]
  · rw [if_neg h, Nat.testBit_lt_two_pow (by omega)]; simp [h]
theorem xor_cancel {a b p : Nat} (h : a ^^^ p = b ^^^ p) : a = b := by
  have := congrArg (fun z => z ^^^ p) h
  simpa [Nat.xor_assoc] using this
theorem cbit_inj {c d : Nat} (hc : c < 4294967296) (hd : d < 4294967296) (h : cbit c = cbit d) : c = d := by
  have hp := congrArg (fun z => Nat.testBit z 31) h
  simp only [cbit_top hc, cbit_top hd] at hp
  unfold cbit at h
  by_cases h1 : c % 2 = 1
  · have h2 : d % 2 = 1 := by simpa [h1] using hp
    rw [if_pos h1, if_pos h2] at h
    have := xor_cancel h
    omega
  · have h2 : ¬ d % 2 = 1 := by simpa [h1] using hp
    rw [if_neg h1, if_neg h2] at h
    omega
theorem cbits_inj (k : Nat) {c d : Nat} (hc : c < 4294967296) (hd : d < 4294967296) (h : cbits k c = cbits k d) : c = d := by
  induction k generalizing c d with
  | zero => exact h
  | succ k ih => exact cbit_inj hc hd (ih (cbit_lt hc) (cbit_lt hd) h)
theorem byte_lt32 (b : UInt8) : b.toNat < 4294967296 := by have := b.toNat_lt; omega
theorem csum_inj (l : List UInt8) {c d : Nat} (hc : c < 4294967296) (hd : d < 4294967296) (h : csum c l = csum d l) : c = d := by
  induction l generalizing c d with
  | nil => exact h
  | cons b l ih => exact xor_cancel (cbits_inj 8 (xor_lt32 hc (byte_lt32 b)) (xor_lt32 hd (byte_lt32 b)) (ih (cbyte_lt hc b) (cbyte_lt hd b) h))
/-- Another byte at one place, another sum. -/
theorem crc_turn (p r : List UInt8) {a b : UInt8} (h : a ≠ b) : crcOf (p ++ a :: r) ≠ crcOf (p ++ b :: r) := by
  intro e
  have e1 : csum 4294967295 (p ++ a :: r) = csum 4294967295 (p ++ b :: r) := xor_cancel e
  unfold csum at e1
  rw [List.foldl_append, List.foldl_append, List.foldl_cons, List.foldl_cons] at e1
  have hc : csum 4294967295 p < 4294967296 := csum_lt (by omega) p
  have e2 : cbyte (csum 4294967295 p) a.toNat = cbyte (csum 4294967295 p) b.toNat := csum_inj r (cbyte_lt hc a) (cbyte_lt hc b) e1
  have e3 := cbits_inj 8 (xor_lt32 hc (byte_lt32 a)) (xor_lt32 hc (byte_lt32 b)) e2
  rw [Nat.xor_comm _ a.toNat, Nat.xor_comm _ b.toNat] at e3
  exact h (UInt8.toNat_inj.1 (xor_cancel e3))
theorem crc_known : crcOf [49, 50, 51, 52, 53, 54, 55, 56, 57] = 3421780262 := by decide +kernel

end Go.Proofs.YtojhakjkfkmklaaGreatDoor
namespace Go.Proofs.YtojhakjkfkmklaaGreatDoor
open Go.RowKit
set_option linter.unusedVariables false

theorem conv_four (v : World) (a b c d : Int) : (convert 22 9 (.slice (some ⟨v.heap.size, 0, none⟩) 4 4)).run Tryz.prog (v.alloc (.cells #[.int .u8 a, .int .u8 b, .int .u8 c, .int .u8 d] 5)) = .ok (.string ⟨#[UInt8.ofNat a.toNat, UInt8.ofNat b.toNat, UInt8.ofNat c.toNat, UInt8.ofNat d.toNat]⟩) (v.alloc (.cells #[.int .u8 a, .int .u8 b, .int .u8 c, .int .u8 d] 5)) := by
  rw [run_convert_bytes_string _ _ _ 5 _ 4 4 Tryz.underlying22 Tryz.underlying5 Tryz.underlying9]
  have hl := run_loadCells_list (P := Tryz.prog) (v.alloc (.cells #[.int .u8 a, .int .u8 b, .int .u8 c, .int .u8 d] 5)) ⟨v.heap.size, 0, none⟩ ([a, b, c, d].map (Value.int .u8)) (fun j x hj => by
    rcases j with _ | _ | _ | _ | j
    · simp at hj; subst hj; simp [Addr.add]
    · simp at hj; subst hj; simp [Addr.add]
    · simp at hj; subst hj; simp [Addr.add]
    · simp at hj; subst hj; simp [Addr.add]
    · simp at hj)
  rw [run_bytesToString _ _ 4 4 [a, b, c, d] hl]
  rfl
/-- The four bytes of a text's sum. -/
def sumT (s : ByteArray) : ByteArray := ⟨#[UInt8.ofNat ((crcOf s.data.toList : Int) / 16777216 % 256).toNat, UInt8.ofNat ((crcOf s.data.toList : Int) / 65536 % 256).toNat, UInt8.ofNat ((crcOf s.data.toList : Int) / 256 % 256).toNat, UInt8.ofNat ((crcOf s.data.toList : Int) % 256).toNat]⟩
theorem sumT_size (s : ByteArray) : (sumT s).size = 4 := rfl
set_option maxHeartbeats 2000000 in
set_option maxRecDepth 100000 in
theorem sumS (s : ByteArray) (hs : s.size ≤ 1048576) (w : World) :
    Calls Tryz.prog 28 #[.string s] w fun e w' => e = .returned (.string (sumT s)) ∧ Below w.heap.size w w' := by
  have C := crcS s hs w
  have hcv := conv_four w
  go_enter Tryz.func28, Tryz.ntmps28
  go_wp2_with fail
  refine C.mono ?_
  rintro e w1 ⟨rfl, h9⟩
  have h8 := h9.symm
  clear h9
  subst h8
  go_wp2_with fail
  go_ret
  exact ⟨rfl, (Below.refl _ _).alloc (Nat.le_refl _) _⟩
set_option maxHeartbeats 2000000 in
set_option maxRecDepth 100000 in
theorem sumI (s : ByteArray) (hs : s.size ≤ 1048576) (w : World) :
    Calls Tryz.prog 22 #[.string s] w fun e w' => e = .returned (.string (sumT s)) ∧ Below w.heap.size w w' := by
  have C := crcI s hs w
  have hcv := conv_four w
  go_enter Tryz.func22, Tryz.ntmps22
  go_wp2_with fail
  refine C.mono ?_
  rintro e w1 ⟨rfl, h9⟩
  have h8 := h9.symm
  clear h9
  subst h8
  go_wp2_with fail
  go_ret
  exact ⟨rfl, (Below.refl _ _).alloc (Nat.le_refl _) _⟩
def modT (l : List FuncD) : ByteArray := if modB l = true then vb ssa1 (modM l) ++ sumT (vb ssa1 (modM l)) else ⟨#[]⟩
set_option maxHeartbeats 2000000 in
set_option maxRecDepth 100000 in
theorem modBytesS (lo : Nat) (l : List FuncD) (u : Option Addr) (c : Nat) (w : World) (hs : SmMod l) (k0 : FuncsAt w lo u l) :
    Calls Tryz.prog 10 #[.agg #[.slice u l.length c]] w fun e w' => e = .returned (.string (modT l)) ∧ Below w.heap.size w w' := by
  have X0 := Box1.new w l.length u c 26
  have hB0 : Below w.heap.size w (w.alloc (.cells #[.slice u l.length c] 26)) := (Below.refl _ w).alloc (Nat.le_refl _) _
  go_enter Tryz.func10, Tryz.ntmps10
  go_wp2_with fail
  generalize (w.alloc (.cells #[.slice u l.length c] 26)) = W at X0 hB0 ⊢
  refine (modShS lo l u c W hs (k0.keep (agree_of_below hB0 lo))).mono ?_
  rintro e w1 ⟨rfl, b1⟩
  have X1 := X0.below b1
  have hB1 := hB0.trans (b1.mono hB0.size)
  clear X0 hB0 b1
  have y0 := X1.2
  cases hok : modB l with
  | false =>
    have E : Hid (modT l = ⟨#[]⟩) := by show _ = _; unfold modT; rw [hok]; rfl
    go_wp2_with fail
    go_ret
    exact ⟨by rw [E.out]; rfl, hB1⟩
  | true =>
    have E : Hid (modT l = vb ssa1 (modM l) ++ sumT (vb ssa1 (modM l))) := by show _ = _; unfold modT; rw [if_pos hok]
    have P := l6BodyS lo l u c w1 hs hok (k0.keep (agree_of_below hB1 lo))
    have hz := vb_bound (modM_len hok)
    generalize vb ssa1 (modM l) = T at E P hz
    have P2 := fun v => sumS T (by omega) v
    have h4 := sumT_size T
    generalize sumT T = U at E P2 h4
    clear hok
    go_wp2_with fail
    refine P.mono ?_
    rintro e w2 ⟨rfl, b2⟩
    have hB2 := hB1.trans (b2.mono hB1.size)
    clear P y0 b2
    go_wp2_with fail
    refine (P2 _).mono ?_
    rintro e w3 ⟨rfl, b3⟩
    have hB3 := hB2.trans (b3.mono hB2.size)
    clear P2 b3
    go_wp2_with fail
    go_ret
    exact ⟨by rw [E.out]; rfl, hB3⟩
end Go.Proofs.YtojhakjkfkmklaaGreatDoor
