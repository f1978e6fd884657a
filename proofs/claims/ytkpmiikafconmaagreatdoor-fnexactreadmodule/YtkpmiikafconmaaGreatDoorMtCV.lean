import Derived.Test.YtkpmiikafconmaaGreatDoorMtBV
import Derived.Test.YtkpmiikafconmaaGreatDoorFmKV
import Derived.Test.YtkpmiikafconmaaGreatDoorTxKV
import Derived.Test.YtkpmiikafconmaaGreatDoorSzV
import Derived.Lib.Builder
import Derived.Shelf.Strings.Builder1
namespace Go.Proofs.YtkpmiikafconmaaGreatDoor
open Go.RowKit
set_option linter.unusedVariables false
set_option linter.unusedSimpArgs false
theorem xIns_eq (d : InstD) : instTx d ++ (⟨#[10]⟩ : ByteArray) = bs (xIns d) := by
 unfold instTx opW xIns lnT insL
 rw [bs_append, show (⟨#[10]⟩ : ByteArray) = bs [10] from rfl, bs_append]
theorem xTrm_eq (t : TermD) : bs (trmT t) ++ (⟨#[10]⟩ : ByteArray) = bs (xTrm t) := by
 unfold trmT xTrm lnT trmL
 rw [show (⟨#[10]⟩ : ByteArray) = bs [10] from rfl, bs_append]
theorem head_eq (n : Int) (l : List Int) : (⟨#[102, 117, 110, 99, 32]⟩ : ByteArray) ++ bs (Lib.itoa n) ++ bs (numsL l) ++ (⟨#[10]⟩ : ByteArray) = bs (lnT ([102, 117, 110, 99], n :: l)) := by
 unfold lnT
 rw [show (⟨#[102, 117, 110, 99, 32]⟩ : ByteArray) = bs [102, 117, 110, 99, 32] from rfl, show (⟨#[10]⟩ : ByteArray) = bs [10] from rfl, bs_append, bs_append, bs_append]
 simp [numsL]
theorem phi_eq (n : Int) (l : List Int) : (⟨#[112, 104, 105, 32]⟩ : ByteArray) ++ bs (Lib.itoa n) ++ bs (numsL l) ++ (⟨#[10]⟩ : ByteArray) = bs (lnT ([112, 104, 105], n :: l)) := by
 unfold lnT
 rw [show (⟨#[112, 104, 105, 32]⟩ : ByteArray) = bs [112, 104, 105, 32] from rfl, show (⟨#[10]⟩ : ByteArray) = bs [10] from rfl, bs_append, bs_append, bs_append]
 simp [numsL]
theorem app5 (T a b c d : ByteArray) : T ++ a ++ b ++ c ++ d = T ++ (a ++ b ++ c ++ d) := by simp only [ByteArray.append_assoc]
theorem instTx_size {d : InstD} (h : InF d) : (instTx d).size ≤ 100 := by
 have h1 := nums_len (instN d) (instN_sm h)
 have h2 := instN_len h
 have h3 := opWL_len d.op.toNat
 unfold instTx opW
 rw [ByteArray.size_append, bs_size, bs_size]; omega
theorem ln_parts {w : List UInt8} {n : Int} {l : List Int} (h : LnOk (w, n :: l)) : (∃ k : Nat, n = k ∧ k ≤ 4294967295) ∧ SmN l ∧ l.length ≤ 19 :=
 ⟨h.s n (by simp), fun x hx => h.s x (by simp [hx]), by have := h.n; simp at this; omega⟩
set_option maxHeartbeats 8000000 in
set_option maxRecDepth 100000 in
theorem l5TextS (lo : Nat) (l : List FuncD) (u : Option Addr) (c : Nat) (w : World) (hs : SmMod l) (hm : modB l = true) (k0 : FuncsAt w lo u l) :
  Calls Tryz.prog 26 #[.agg #[.slice u l.length c]] w fun e w' => e = .returned (.string (bs (xMod l))) ∧ Below w.heap.size w w' := by
 have hlen := xMod_len hm
 obtain ⟨hl3, hf3⟩ := mod_ok hm
 have HF : Hid (∀ d ∈ l, FnOk d) := hf3
 have HS : Hid (∀ d ∈ l, SmFunc d) := hs.2
 have K0 : Hid (FuncsAt w lo u l) := k0
 have hM : (xMod l).length = (l.flatMap xFun).length := rfl
 clear hm hf3 hs k0
 have X0 := Box1.new w l.length u c 26
 have hB0 : Below w.heap.size w (w.alloc (.cells #[.slice u l.length c] 26)) := (Below.refl _ w).alloc (Nat.le_refl _) _
 go_enter Tryz.func26, Tryz.ntmps26
 go_wp2_with fail
 generalize (w.alloc (.cells #[.slice u l.length c] 26)) = W at X0 hB0 ⊢
 have HX1 : Hid (Box1 W w.heap.size l.length u c) := X0
 have HB1 : Hid (Below w.heap.size w W) := hB0
 clear X0 hB0
 go_loopw [3, 4] (fun st i wr => ∃ (k : Nat) (T : ByteArray), k ≤ l.length ∧ i = .int .i64 k ∧ st = .string T ∧ Hid (T = bs ((l.take k).flatMap xFun)) ∧ Hid (Below w.heap.size w wr) ∧ Hid (Box1 wr w.heap.size l.length u c)) (fun _ i _ => l.length - (intOf i).toNat)
 case atStart => exact ⟨0, _, by omega, rfl, rfl, by show _ = _; rfl, HB1, HX1⟩
 case round =>
  obtain ⟨k, T, hk, rfl, rfl, HT, HB, HX⟩ := hrel
  obtain ⟨wo, hwo⟩ : ∃ wo, wo = wr := ⟨_, rfl⟩
  subst hwo
  clear HB1 HX1
  have y0 := HX.out.2
  by_cases hlt : k < l.length
  ·rcases (K0.out.keep (agree_of_below HB.out lo)).2 with hn | ⟨bb, off, rfl, hlo, hbb, hcell⟩
   ·simp [hn] at hlt
   obtain ⟨⟨p0, q0, e0, m0⟩, e1, ⟨p2, q2, e2, m2⟩⟩ := hcell k hlt
   have hfb := HF.out _ (getD_mem func0 l k hlt)
   have hsm := HS.out _ (getD_mem func0 l k hlt)
   have hfs := flat_snocX (z := func0) xFun hlt
   have hfl := flat_leX l xFun (k + 1)
   rw [hfs, List.length_append] at hfl
   have HN : Hid ((l.take (k + 1)).flatMap xFun = (l.take k).flatMap xFun ++ xFun (l.getD k func0)) := hfs
   generalize hP : (l.take k).flatMap xFun = P at hfl HN HT
   generalize l.getD k func0 = f at e0 e1 e2 m0 m2 hfb hsm HN hfl
   have HFB : Hid (FnOk f) := hfb
   have hb10 := hfb.b10
   have HSB : Hid (∀ x ∈ f.blocks, SmBlock x) := hsm.2.2
   have hFM : (xFun f).length = (xHead f).length + (f.blocks.flatMap xBlk).length := by unfold xFun; rw [List.length_append]
   clear hP hfs hcell hfb hsm
   have hTs : T.size ≤ 51000 := by rw [HT.out, bs_size]; omega
   have A0 := At.new wo #[.slice p0 f.params.length q0, .int .i64 f.ret, .slice p2 f.blocks.length q2] 55
   have B0 : Below wo.heap.size wo (wo.alloc (.cells #[.slice p0 f.params.length q0, .int .i64 f.ret, .slice p2 f.blocks.length q2] 55)) := (Below.refl _ _).alloc (Nat.le_refl _) _
   have M0 := m0.keep (agree_of_below B0 lo)
   have M2 := m2.keep (agree_of_below B0 lo)
   have HBf : Hid (Below w.heap.size w (wo.alloc (.cells #[.slice p0 f.params.length q0, .int .i64 f.ret, .slice p2 f.blocks.length q2] 55))) := HB.out.trans (B0.mono HB.out.size)
   have HXf : Hid (Box1 (wo.alloc (.cells #[.slice p0 f.params.length q0, .int .i64 f.ret, .slice p2 f.blocks.length q2] 55)) w.heap.size l.length (some ⟨bb, off, none⟩) c) := HX.out.below B0
   go_wp2_with fail
   generalize (wo.alloc (.cells #[.slice p0 f.params.length q0, .int .i64 f.ret, .slice p2 f.blocks.length q2] 55)) = wf at A0 M0 M2 HBf HXf ⊢
   clear e0 e1 e2 m0 m2 HB HX y0 B0
   have lf := A0.lt
   obtain ⟨n1, n2, n3⟩ := ln_parts HFB.out.h
   have V1 := fun xx => dec_gives f.ret wf n1 xx
   have V2 := fun xx => nums_gives lo p0 q0 f.params wf (by omega) n2 M0 xx
   have HT2 : Hid (T ++ (⟨#[102, 117, 110, 99, 32]⟩ : ByteArray) ++ bs (Lib.itoa f.ret) ++ bs (numsL f.params) ++ (⟨#[10]⟩ : ByteArray) = bs (P ++ xHead f)) := by
    show _ = _
    rw [app5, head_eq, HT.out, bs_append]; rfl
   have r1 := itoa_sz n1
   have r2 : (bs (numsL f.params)).size ≤ 220 := by rw [bs_size]; have := nums_len f.params n2; omega
   generalize bs (Lib.itoa f.ret) = A1 at *
   generalize bs (numsL f.params) = A2 at *
   have l0 : (⟨#[102, 117, 110, 99, 32]⟩ : ByteArray).size = 5 := rfl
   have l1 : (⟨#[10]⟩ : ByteArray).size = 1 := rfl
   have z0 : (T ++ (⟨#[102, 117, 110, 99, 32]⟩ : ByteArray)).size ≤ 51005 := by rw [ByteArray.size_append]; omega
   have z1 : (T ++ (⟨#[102, 117, 110, 99, 32]⟩ : ByteArray) ++ A1).size ≤ 51015 := by rw [ByteArray.size_append]; omega
   have z2 : (T ++ (⟨#[102, 117, 110, 99, 32]⟩ : ByteArray) ++ A1 ++ A2).size ≤ 51300 := by rw [ByteArray.size_append]; omega
   have z3 : (T ++ (⟨#[102, 117, 110, 99, 32]⟩ : ByteArray) ++ A1 ++ A2 ++ (⟨#[10]⟩ : ByteArray)).size ≤ 51400 := by rw [ByteArray.size_append]; omega
   have hne : Nonempty (Abv (fun v => Below wf.heap.size wf v)) := abv_ne (Below.refl _ _)
   have t0 := fun xx : Abv (fun v => Below wf.heap.size wf v) => (bcell xx.ok wo.heap.size 0 lf).trans ((A0.cell 0).trans rfl)
   have t1 := fun xx : Abv (fun v => Below wf.heap.size wf v) => (bcell xx.ok wo.heap.size 1 lf).trans ((A0.cell 1).trans rfl)
   have t2 := fun xx : Abv (fun v => Below wf.heap.size wf v) => (bcell xx.ok wo.heap.size 2 lf).trans ((A0.cell 2).trans rfl)
   refine wp_region_abv (fun v => Below wf.heap.size wf v) (by kernel_rfl) (by kernel_rfl) (drew_below (Below.refl _ _)) ?_
   repeat (go_big_quiet_step (first | (go_at_call 51; with_reducible exact V1 _) | (go_at_call 52; with_reducible exact V2 _)))
   refine wpQuiet_nil ?_
   rintro w9 ⟨⟨w9, h9⟩, rfl⟩
   have HB9 : Hid (Below w.heap.size w w9) := HBf.out.trans (h9.mono HBf.out.size)
   have HX9 : Hid (Box1 w9 w.heap.size l.length (some ⟨bb, off, none⟩) c) := HXf.out.below h9
   have A9 := A0.below h9
   have K2 : Hid (BlocksAt w9 lo p2 f.blocks) := M2.keep (agree_of_below h9 lo)
   clear h9 hne t0 t1 t2 V1 V2 r1 r2 z0 z1 z2 HBf HXf M0 M2 lf A0 hTs n1 n2 n3
   generalize T ++ (⟨#[102, 117, 110, 99, 32]⟩ : ByteArray) ++ A1 ++ A2 ++ (⟨#[10]⟩ : ByteArray) = T2 at HT2 z3 ⊢
   have y2 := (A9.cell 2).trans rfl
   generalize hQ : P ++ xHead f = Q at HT2
   have HQ : Hid (P ++ xHead f = Q) := hQ
   have hQl : Q.length = P.length + (xHead f).length := by rw [← hQ]; simp
   clear hQ
   go_wp2_with fail
   go_loopw [3, 6] (fun st i wr => ∃ (j : Nat) (T : ByteArray), j ≤ f.blocks.length ∧ i = .int .i64 j ∧ st = .string T ∧ Hid (T = bs (Q ++ (f.blocks.take j).flatMap xBlk)) ∧ Hid (Below w9.heap.size w9 wr)) (fun _ i _ => f.blocks.length - (intOf i).toNat)
   case atStart => exact ⟨0, _, by omega, rfl, rfl, by show _ = _; rw [HT2.out]; simp, Below.refl _ _⟩
   case round =>
    obtain ⟨j, T, hj, rfl, rfl, HTb, HBb⟩ := hrel
    obtain ⟨wb, hwb⟩ : ∃ wb, wb = wr := ⟨_, rfl⟩
    subst hwb
    clear y2
    have y2 : wb.cell? ⟨wo.heap.size, 2, none⟩ = some (.slice p2 f.blocks.length q2) := ((A9.below HBb.out).cell 2).trans rfl
    by_cases hjl : j < f.blocks.length
    ·rcases (K2.out.keep (agree_of_below HBb.out lo)).2 with hn | ⟨bc, of2, rfl, hlo2, hbc, hcell⟩
     ·simp [hn] at hjl
     obtain ⟨⟨v0, r0, e0, m0⟩, ⟨v1, r1, e1, m1⟩, e2, e3, e4, e5⟩ := hcell j hjl
     have hxb := HFB.out.b _ (getD_mem block0 f.blocks j hjl)
     have hsm := HSB.out _ (getD_mem block0 f.blocks j hjl)
     have hfs := flat_snocX (z := block0) xBlk hjl
     have hfl2 := flat_leX f.blocks xBlk (j + 1)
     rw [hfs, List.length_append] at hfl2
     have HNb : Hid ((f.blocks.take (j + 1)).flatMap xBlk = (f.blocks.take j).flatMap xBlk ++ xBlk (f.blocks.getD j block0)) := hfs
     generalize hR : (f.blocks.take j).flatMap xBlk = R at hfl2 HNb HTb
     generalize f.blocks.getD j block0 = x at e0 e1 e2 e3 e4 e5 m0 m1 hxb hsm HNb hfl2
     have HXB : Hid (BkOk x) := hxb
     have hxp := hsm.1.1
     have hxi := hsm.2.1
     have HSI : Hid (∀ p ∈ x.insts, SmInst p) := hsm.2.2
     have hBM : (xBlk x).length = 6 + (x.phis.flatMap xPhi).length + (x.insts.flatMap xIns).length + (xTrm x.term).length := by simp only [xBlk, List.length_append, List.length_cons, List.length_nil]
     clear hR hfs hcell hxb hsm
     have hTs : T.size ≤ 51000 := by rw [HTb.out, bs_size, List.length_append]; omega
     have A0 := At.new wb #[.slice v0 x.phis.length r0, .slice v1 x.insts.length r1, .int .i64 x.term.kind, .int .i64 x.term.a, .int .i64 x.term.x, .int .i64 x.term.y] 74
     have B0 : Below wb.heap.size wb (wb.alloc (.cells #[.slice v0 x.phis.length r0, .slice v1 x.insts.length r1, .int .i64 x.term.kind, .int .i64 x.term.a, .int .i64 x.term.x, .int .i64 x.term.y] 74)) := (Below.refl _ _).alloc (Nat.le_refl _) _
     have M0 := m0.keep (agree_of_below B0 lo)
     have M1 := m1.keep (agree_of_below B0 lo)
     have HBf : Hid (Below w9.heap.size w9 (wb.alloc (.cells #[.slice v0 x.phis.length r0, .slice v1 x.insts.length r1, .int .i64 x.term.kind, .int .i64 x.term.a, .int .i64 x.term.x, .int .i64 x.term.y] 74))) := HBb.out.trans (B0.mono HBb.out.size)
     have lb : (⟨#[98, 108, 111, 99, 107, 10]⟩ : ByteArray).size = 6 := rfl
     have zb : (T ++ (⟨#[98, 108, 111, 99, 107, 10]⟩ : ByteArray)).size ≤ 51010 := by rw [ByteArray.size_append]; omega
     have HT3 : Hid (T ++ (⟨#[98, 108, 111, 99, 107, 10]⟩ : ByteArray) = bs (Q ++ R ++ [98, 108, 111, 99, 107, 10])) := by show _ = _; rw [HTb.out, show (⟨#[98, 108, 111, 99, 107, 10]⟩ : ByteArray) = bs [98, 108, 111, 99, 107, 10] from rfl, bs_append]
     have x0 : (wb.alloc (.cells #[.slice v0 x.phis.length r0, .slice v1 x.insts.length r1, .int .i64 x.term.kind, .int .i64 x.term.a, .int .i64 x.term.x, .int .i64 x.term.y] 74)).cell? ⟨wb.heap.size, 0, none⟩ = some (.slice v0 x.phis.length r0) := A0.cell 0
     go_wp2_with fail
     generalize (wb.alloc (.cells #[.slice v0 x.phis.length r0, .slice v1 x.insts.length r1, .int .i64 x.term.kind, .int .i64 x.term.a, .int .i64 x.term.x, .int .i64 x.term.y] 74)) = w3 at A0 M0 M1 HBf x0 ⊢
     clear e0 e1 e2 e3 e4 e5 m0 m1 B0 y2 HBb
     have A3x := A0
     have HB3 : Hid (Below w9.heap.size w9 w3) := HBf
     have K3 : Hid (PhisAt w3 lo v0 x.phis) := M0
     have K4 : Hid (InstsAt w3 lo v1 x.insts) := M1
     clear M0 M1 A0 HBf
     generalize T ++ (⟨#[98, 108, 111, 99, 107, 10]⟩ : ByteArray) = T4 at HT3 zb ⊢
     go_loopw [3, 8] (fun st i wr => ∃ (n : Nat) (T : ByteArray), n ≤ x.phis.length ∧ i = .int .i64 n ∧ st = .string T ∧ Hid (T = bs (Q ++ R ++ [98, 108, 111, 99, 107, 10] ++ (x.phis.take n).flatMap xPhi)) ∧ Hid (Below w3.heap.size w3 wr)) (fun _ i _ => x.phis.length - (intOf i).toNat)
     case atStart => exact ⟨0, _, by omega, rfl, rfl, by show _ = _; rw [HT3.out]; simp, Below.refl _ _⟩
     case round =>
      obtain ⟨n, T5, hn, rfl, rfl, HTp, HBp⟩ := hrel
      obtain ⟨wp, hwp⟩ : ∃ wp, wp = wr := ⟨_, rfl⟩
      subst hwp
      clear x0
      have x0 : wp.cell? ⟨wb.heap.size, 0, none⟩ = some (.slice v0 x.phis.length r0) := ((A3x.below HBp.out).cell 0).trans rfl
      by_cases hnl : n < x.phis.length
      ·rcases (K3.out.keep (agree_of_below HBp.out lo)).2 with hz | ⟨bp, op, rfl, hlop, hbp, hcell⟩
       ·simp [hz] at hnl
       obtain ⟨e0, ⟨i0, j0, e1, m1⟩⟩ := hcell n hnl
       have hpb := HXB.out.p _ (getD_mem phi0 x.phis n hnl)
       have hfs := flat_snocX (z := phi0) xPhi hnl
       have hfl3 := flat_leX x.phis xPhi (n + 1)
       rw [hfs, List.length_append] at hfl3
       have HNp : Hid ((x.phis.take (n + 1)).flatMap xPhi = (x.phis.take n).flatMap xPhi ++ xPhi (x.phis.getD n phi0)) := hfs
       generalize hR : (x.phis.take n).flatMap xPhi = R2 at hfl3 HNp HTp
       generalize x.phis.getD n phi0 = y at e0 e1 m1 hpb HNp hfl3
       obtain ⟨n1, n2, n3⟩ := ln_parts hpb
       clear hR hfs hcell hpb
       have hTs5 : T5.size ≤ 51000 := by rw [HTp.out, bs_size]; simp only [List.length_append, List.length_cons, List.length_nil]; omega
       have V1 := fun xx => dec_gives y.w wp n1 xx
       have V2 := fun xx => nums_gives lo i0 j0 y.ins wp (by omega) n2 m1 xx
       have HT6 : Hid (T5 ++ (⟨#[112, 104, 105, 32]⟩ : ByteArray) ++ bs (Lib.itoa y.w) ++ bs (numsL y.ins) ++ (⟨#[10]⟩ : ByteArray) = bs (Q ++ R ++ [98, 108, 111, 99, 107, 10] ++ (x.phis.take (n + 1)).flatMap xPhi)) := by
        show _ = _
        rw [app5, phi_eq, HTp.out, bs_append, HNp.out]
        unfold xPhi phiL
        simp
       have s1 := itoa_sz n1
       have s2 : (bs (numsL y.ins)).size ≤ 220 := by rw [bs_size]; have := nums_len y.ins n2; omega
       generalize bs (Lib.itoa y.w) = A1 at *
       generalize bs (numsL y.ins) = A2 at *
       have l0 : (⟨#[112, 104, 105, 32]⟩ : ByteArray).size = 4 := rfl
       have l1 : (⟨#[10]⟩ : ByteArray).size = 1 := rfl
       have z0 : (T5 ++ (⟨#[112, 104, 105, 32]⟩ : ByteArray)).size ≤ 51005 := by rw [ByteArray.size_append]; omega
       have z1 : (T5 ++ (⟨#[112, 104, 105, 32]⟩ : ByteArray) ++ A1).size ≤ 51015 := by rw [ByteArray.size_append]; omega
       have z2 : (T5 ++ (⟨#[112, 104, 105, 32]⟩ : ByteArray) ++ A1 ++ A2).size ≤ 51300 := by rw [ByteArray.size_append]; omega
       have z3 : (T5 ++ (⟨#[112, 104, 105, 32]⟩ : ByteArray) ++ A1 ++ A2 ++ (⟨#[10]⟩ : ByteArray)).size ≤ 51400 := by rw [ByteArray.size_append]; omega
       have hne : Nonempty (Abv (fun v => Below wp.heap.size wp v)) := abv_ne (Below.refl _ _)
       have lb2 : wb.heap.size < wp.heap.size := (A3x.below HBp.out).lt
       have t0 := fun xx : Abv (fun v => Below wp.heap.size wp v) => (bcell xx.ok wb.heap.size 0 lb2).trans x0
       have t1 := fun xx : Abv (fun v => Below wp.heap.size wp v) => (bcell xx.ok bp _ hbp).trans e0
       have t2 := fun xx : Abv (fun v => Below wp.heap.size wp v) => (bcell xx.ok bp _ hbp).trans e1
       go_wp2_with fail
       refine wp_region_abv (fun v => Below wp.heap.size wp v) (by kernel_rfl) (by kernel_rfl) (drew_below (Below.refl _ _)) ?_
       repeat (go_big_quiet_step (first | (go_at_call 51; with_reducible exact V1 _) | (go_at_call 52; with_reducible exact V2 _)))
       refine wpQuiet_nil ?_
       rintro w8 ⟨⟨w8, h8⟩, rfl⟩
       have HB8 : Hid (Below w3.heap.size w3 w8) := HBp.out.trans (h8.mono HBp.out.size)
       clear h8 hne t0 t1 t2 V1 V2
       go_wp2_with fail
       go_roundw
       case rel => exact ⟨n + 1, _, by omega, by go_num, rfl, HT6.out, HB8⟩
       case measure => simp [intOf]; omega
      ·have x1 : wp.cell? ⟨wb.heap.size, 1, none⟩ = some (.slice v1 x.insts.length r1) := ((A3x.below HBp.out).cell 1).trans rfl
       have HTq : Hid (T5 = bs (Q ++ R ++ [98, 108, 111, 99, 107, 10] ++ x.phis.flatMap xPhi)) := by
        show _ = _
        rw [HTp.out, flat_allX x.phis xPhi hnl]
       have hTs5 : T5.size ≤ 51000 := by rw [HTq.out, bs_size]; simp only [List.length_append, List.length_cons, List.length_nil]; omega
       have HB4 : Hid (Below w3.heap.size w3 wp) := HBp
       clear HTp HT3 zb hTs HTb
       go_wp2_with fail
       go_loopw [3, 9] (fun st i wr => ∃ (n : Nat) (T : ByteArray), n ≤ x.insts.length ∧ i = .int .i64 n ∧ st = .string T ∧ Hid (T = bs (Q ++ R ++ [98, 108, 111, 99, 107, 10] ++ x.phis.flatMap xPhi ++ (x.insts.take n).flatMap xIns)) ∧ Hid (Below w3.heap.size w3 wr)) (fun _ i _ => x.insts.length - (intOf i).toNat)
       case atStart => exact ⟨0, _, by omega, rfl, rfl, by show _ = _; rw [HTq.out]; simp, HB4⟩
       case round =>
        obtain ⟨m, T8, hm, rfl, rfl, HTi, HBi⟩ := hrel
        obtain ⟨wi, hwi⟩ : ∃ wi, wi = wr := ⟨_, rfl⟩
        subst hwi
        clear x1 x0
        have Ai := A3x.below HBi.out
        have x1 : wi.cell? ⟨wb.heap.size, 1, none⟩ = some (.slice v1 x.insts.length r1) := (Ai.cell 1).trans rfl
        by_cases hml : m < x.insts.length
        ·rcases (K4.out.keep (agree_of_below HBi.out lo)).2 with hz | ⟨bi, oi, rfl, hloi, hbi, hcell⟩
         ·simp [hz] at hml
         obtain ⟨e0, e1, e2, e3, e4, e5, ⟨i0, j0, e6, m6⟩⟩ := hcell m hml
         have hib := HXB.out.i _ (getD_mem inst0 x.insts m hml)
         have hfs := flat_snocX (z := inst0) xIns hml
         have hfl4 := flat_leX x.insts xIns (m + 1)
         rw [hfs, List.length_append] at hfl4
         have HNi : Hid ((x.insts.take (m + 1)).flatMap xIns = (x.insts.take m).flatMap xIns ++ xIns (x.insts.getD m inst0)) := hfs
         generalize hR : (x.insts.take m).flatMap xIns = R3 at hfl4 HNi HTi
         generalize x.insts.getD m inst0 = y at e0 e1 e2 e3 e4 e5 e6 m6 hib HNi hfl4
         have hIF := instB_inF hib
         clear hR hfs hcell hib
         have hTs8 : T8.size ≤ 51000 := by rw [HTi.out, bs_size]; simp only [List.length_append, List.length_cons, List.length_nil]; omega
         have P1 := l5instS lo y i0 j0 wi hIF m6
         have s2 := instTx_size hIF
         have HT9 : Hid (T8 ++ instTx y ++ (⟨#[10]⟩ : ByteArray) = bs (Q ++ R ++ [98, 108, 111, 99, 107, 10] ++ x.phis.flatMap xPhi ++ (x.insts.take (m + 1)).flatMap xIns)) := by
          show _ = _
          rw [ByteArray.append_assoc, xIns_eq, HTi.out, bs_append, HNi.out]
          simp
         generalize instTx y = A6 at P1 s2 HT9
         have l1 : (⟨#[10]⟩ : ByteArray).size = 1 := rfl
         have z1 : (T8 ++ A6).size ≤ 51200 := by rw [ByteArray.size_append]; omega
         have z2 : (T8 ++ A6 ++ (⟨#[10]⟩ : ByteArray)).size ≤ 51300 := by rw [ByteArray.size_append]; omega
         clear hIF
         go_wp2_with fail
         refine P1.mono ?_
         rintro e w5 ⟨rfl, b5⟩
         have HB5 : Hid (Below w3.heap.size w3 w5) := HBi.out.trans (b5.mono HBi.out.size)
         clear b5
         go_wp2_with fail
         go_roundw
         case rel => exact ⟨m + 1, _, by omega, by go_num, rfl, HT9.out, HB5⟩
         case measure => simp [intOf]; omega
        ·have HTr : Hid (T8 = bs (Q ++ R ++ [98, 108, 111, 99, 107, 10] ++ x.phis.flatMap xPhi ++ x.insts.flatMap xIns)) := by
          show _ = _
          rw [HTi.out, flat_allX x.insts xIns hml]
         have hTs8 : T8.size ≤ 51000 := by rw [HTr.out, bs_size]; simp only [List.length_append, List.length_cons, List.length_nil]; omega
         have x2 : wi.cell? ⟨wb.heap.size, 2, none⟩ = some (.int .i64 x.term.kind) := (Ai.cell 2).trans rfl
         have x3 : wi.cell? ⟨wb.heap.size, 3, none⟩ = some (.int .i64 x.term.a) := (Ai.cell 3).trans rfl
         have x4 : wi.cell? ⟨wb.heap.size, 4, none⟩ = some (.int .i64 x.term.x) := (Ai.cell 4).trans rfl
         have x5 : wi.cell? ⟨wb.heap.size, 5, none⟩ = some (.int .i64 x.term.y) := (Ai.cell 5).trans rfl
         have P1 := l5termS x.term wi HXB.out.t
         have s2 : (bs (trmT x.term)).size ≤ 60 := by rw [bs_size]; exact trmT_len HXB.out.t
         have HT9 : Hid (T8 ++ bs (trmT x.term) ++ (⟨#[10]⟩ : ByteArray) = bs (Q ++ (f.blocks.take (j + 1)).flatMap xBlk)) := by
          show _ = _
          rw [ByteArray.append_assoc, xTrm_eq, HTr.out, bs_append, HNb.out]
          unfold xBlk
          simp
         generalize bs (trmT x.term) = A6 at P1 s2 HT9
         have l1 : (⟨#[10]⟩ : ByteArray).size = 1 := rfl
         have z1 : (T8 ++ A6).size ≤ 51200 := by rw [ByteArray.size_append]; omega
         have z2 : (T8 ++ A6 ++ (⟨#[10]⟩ : ByteArray)).size ≤ 51300 := by rw [ByteArray.size_append]; omega
         clear HTi HTq
         go_wp2_with fail
         refine P1.mono ?_
         rintro e w5 ⟨rfl, b5⟩
         have HB5 : Hid (Below w9.heap.size w9 w5) := HB3.out.trans ((HBi.out.trans (b5.mono HBi.out.size)).mono HB3.out.size)
         clear b5
         go_wp2_with fail
         go_roundw
         case rel => exact ⟨j + 1, _, by omega, by go_num, rfl, HT9.out, HB5⟩
         case measure => simp [intOf]; omega
    ·have HT3 : Hid (T = bs ((l.take (k + 1)).flatMap xFun)) := by
      show _ = _
      rw [HTb.out, flat_allX f.blocks xBlk hjl, HN.out, ← HQ.out]
      unfold xFun
      simp
     have HBk : Hid (Below w.heap.size w wb) := HB9.out.trans (HBb.out.mono HB9.out.size)
     have HXk : Hid (Box1 wb w.heap.size l.length (some ⟨bb, off, none⟩) c) := HX9.out.below HBb.out
     clear HTb HT2
     go_wp2_with fail
     go_roundw
     case rel => exact ⟨k + 1, _, by omega, by go_num, rfl, HT3, HBk, HXk⟩
     case measure => simp [intOf]; omega
  ·have HE : Hid (bs (xMod l) = T) := by
    show _ = _
    rw [HT.out, flat_allX l xFun hlt]; rfl
   go_wp2_with fail
   go_ret
   exact ⟨by rw [HE.out]; rfl, HB.out⟩
end Go.Proofs.YtkpmiikafconmaaGreatDoor
namespace Go.Proofs.YtkpmiikafconmaaGreatDoor
open Go.RowKit Go.Shelf
attribute [local go_sem] Oper.semAt_some
set_option linter.unusedVariables false
structure BxB (b B : Nat) (w w' : World) : Prop where
 os : w'.os = w.os
 tape : w'.tape = w.tape
 output : w'.output = w.output
 size : w.heap.size ≤ w'.heap.size
 block : ∀ i, i < B → i ≠ b → w'.heap[i]? = w.heap[i]?
theorem BxB.refl (b B : Nat) (w : World) : BxB b B w w := ⟨rfl, rfl, rfl, Nat.le_refl _, fun _ _ _ => rfl⟩
theorem BxB.trans {b B : Nat} {x y z : World} (h : BxB b B x y) (k : BxB b B y z) : BxB b B x z := ⟨k.os.trans h.os, k.tape.trans h.tape, k.output.trans h.output, Nat.le_trans h.size k.size, fun i hi hn => (k.block i hi hn).trans (h.block i hi hn)⟩
theorem BxB.set {b B : Nat} {w w' : World} (h : BxB b B w w') (o : Nat) (v : Value) : BxB b B w (w'.setCell ⟨b, o, none⟩ v) :=
 h.trans ⟨rfl, rfl, rfl, by simp [World.setCell], fun i _ hn => Below.heap_setCell _ _ _ _ hn⟩
theorem BxB.grown {b B : Nat} {w w' w2 : World} {row : Option Nat} (h : BxB b B w w') (hg : w'.grownBy w2 row) (hB : B ≤ w.heap.size) (hr : ∀ k, row = some k → B ≤ k) : BxB b B w w2 :=
 h.trans ⟨hg.os, hg.tape, hg.output, hg.size, fun i hi _ => hg.block i (by have := h.size; omega) (fun e => by have := hr i e.symm; omega)⟩
theorem BxB.below {b B : Nat} {w w' w2 : World} (h : BxB b B w w') (k : Below w'.heap.size w' w2) (hB : B ≤ w'.heap.size) : BxB b B w w2 :=
 h.trans ⟨k.os, k.tape, k.output, k.size, fun i hi _ => k.block i (by omega)⟩
structure Bl2 (w : World) (B b : Nat) (p v : Value) (bs : List Value) : Prop where
 block : w.heap[b]? = some (.cells #[p, v] 38 (0, 0))
 row : w.ownsRow B 5 1 v bs.length bs
 ne : v.ownBlock ≠ some b
theorem Bl2.lt {w : World} {B b : Nat} {p v : Value} {bs : List Value} (h : Bl2 w B b p v bs) : b < w.heap.size := by
 rcases Nat.lt_or_ge b w.heap.size with h' | h'
 ·exact h'
 ·have := h.block; rw [Array.getElem?_eq_none h'] at this; cases this
theorem Bl2.keep {w w' : World} {B b : Nat} {p v : Value} {bs : List Value} (h : Bl2 w B b p v bs) (k : Below w.heap.size w w') : Bl2 w' B b p v bs :=
 ⟨(k.block b h.lt).trans h.block, h.row.kept (row := none) ⟨k.os, k.tape, k.output, k.size, fun i hi _ => k.block i hi⟩ (by cases e : v.ownBlock <;> simp), h.ne⟩
def BlA (w : World) (B b : Nat) (l : List Value) : Prop := (∃ v, Bl2 w B b (.pointer (some ⟨b, 0, none⟩)) v l) ∨ (l = [] ∧ Bl2 w B b (.pointer none) (.slice none 0 0) [])
theorem BlA.keep {w w' : World} {B b : Nat} {l : List Value} (h : BlA w B b l) (k : Below w.heap.size w w') : BlA w' B b l := by
 rcases h with ⟨v, h⟩ | ⟨e, h⟩
 ·exact .inl ⟨v, h.keep k⟩
 ·exact .inr ⟨e, h.keep k⟩
theorem BlA.lt {w : World} {B b : Nat} {l : List Value} (h : BlA w B b l) : b < w.heap.size := by
 rcases h with ⟨v, h⟩ | ⟨e, h⟩
 ·exact h.lt
 ·exact h.lt
end Go.Proofs.YtkpmiikafconmaaGreatDoor
namespace Go.Proofs.YtkpmiikafconmaaGreatDoor
open Go.RowKit
set_option linter.unusedVariables false
set_option linter.unusedSimpArgs false
def modText (l : List FuncD) : ByteArray := if modB l = true then bs (xMod l) else ⟨#[]⟩
end Go.Proofs.YtkpmiikafconmaaGreatDoor
namespace Go.Proofs.YtkpmiikafconmaaGreatDoor
open Go.RowKit
set_option linter.unusedVariables false
set_option maxHeartbeats 2000000 in
theorem modTextS (lo : Nat) (l : List FuncD) (u : Option Addr) (c : Nat) (w : World) (hs : SmMod l) (k0 : FuncsAt w lo u l) :
  Calls Tryz.prog 9 #[.agg #[.slice u l.length c]] w fun e w' => e = .returned (.string (modText l)) ∧ Below w.heap.size w w' := by
 have P1 := modShS lo l u c (w.alloc (.cells #[.slice u l.length c] 26)) hs (k0.keep (agree_alloc _ _ _))
 have A0 := At.new w #[.slice u l.length c] 26
 have B0 : Below w.heap.size w (w.alloc (.cells #[.slice u l.length c] 26)) := (Below.refl _ w).alloc (Nat.le_refl _) _
 unfold modText
 by_cases hm : modB l = true
 ·rw [if_pos hm]
  have P2 := fun W (k : Below w.heap.size w W) => l5TextS lo l u c W hs hm (k0.keep (agree_of_below k lo))
  rw [hm] at P1
  clear hm
  generalize bs (xMod l) = X at P2 ⊢
  go_enter Tryz.func9, Tryz.ntmps9
  go_wp2_with fail
  refine P1.mono ?_
  rintro e w1 ⟨rfl, b1⟩
  have B1 := B0.trans (b1.mono B0.size)
  have y0 : w1.cell? ⟨w.heap.size, 0, none⟩ = some (.slice u l.length c) := (A0.below b1).cell 0
  go_wp2_with fail
  refine (P2 _ B1).mono ?_
  rintro e w2 ⟨rfl, b2⟩
  go_wp2_with fail
  go_ret
  exact ⟨rfl, B1.trans (b2.mono B1.size)⟩
 ·rw [if_neg hm]
  have hm' : modB l = false := by simpa using hm
  rw [hm'] at P1
  clear hm hm'
  go_enter Tryz.func9, Tryz.ntmps9
  go_wp2_with fail
  refine P1.mono ?_
  rintro e w1 ⟨rfl, b1⟩
  go_wp2_with fail
  go_ret
  exact ⟨rfl, B0.trans (b1.mono B0.size)⟩
end Go.Proofs.YtkpmiikafconmaaGreatDoor
