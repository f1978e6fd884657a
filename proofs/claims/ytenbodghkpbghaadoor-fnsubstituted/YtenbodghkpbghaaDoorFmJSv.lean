import Derived.Test.YtenbodghkpbghaaDoorFmESv
import Derived.Test.YtenbodghkpbghaaDoorFmHSv
import Derived.Test.YtenbodghkpbghaaDoorSbDSv
import Derived.Deep.RegionHeld2
import Derived.Test.YtenbodghkpbghaaDoorSbLSv
import Derived.Test.YtenbodghkpbghaaDoorRdrSv
import Derived.Deep.QuietTactic
import Derived.BigQuiet
namespace Go.Proofs.YtenbodghkpbghaaDoor
open Go.RowKit
set_option linter.unusedVariables false
theorem cells6b {w : World} {v0 v1 : Value} {t0 t1 t2 t3 : Int} {T : TypeId} :
  (w.alloc (.cells #[v0, v1, .int .i64 t0, .int .i64 t1, .int .i64 t2, .int .i64 t3] T)).cell? ⟨w.heap.size, 0, none⟩ = some v0 ∧ (w.alloc (.cells #[v0, v1, .int .i64 t0, .int .i64 t1, .int .i64 t2, .int .i64 t3] T)).cell? ⟨w.heap.size, 1, none⟩ = some v1 ∧ (w.alloc (.cells #[v0, v1, .int .i64 t0, .int .i64 t1, .int .i64 t2, .int .i64 t3] T)).cell? ⟨w.heap.size, 2, none⟩ = some (.int .i64 t0) ∧ (w.alloc (.cells #[v0, v1, .int .i64 t0, .int .i64 t1, .int .i64 t2, .int .i64 t3] T)).cell? ⟨w.heap.size, 3, none⟩ = some (.int .i64 t1) ∧ (w.alloc (.cells #[v0, v1, .int .i64 t0, .int .i64 t1, .int .i64 t2, .int .i64 t3] T)).cell? ⟨w.heap.size, 4, none⟩ = some (.int .i64 t2) ∧ (w.alloc (.cells #[v0, v1, .int .i64 t0, .int .i64 t1, .int .i64 t2, .int .i64 t3] T)).cell? ⟨w.heap.size, 5, none⟩ = some (.int .i64 t3) := by
 have hb := heap_alloc_last w (.cells #[v0, v1, .int .i64 t0, .int .i64 t1, .int .i64 t2, .int .i64 t3] T)
 exact ⟨(cell_of_heap hb).trans rfl, (cell_of_heap hb).trans rfl, (cell_of_heap hb).trans rfl, (cell_of_heap hb).trans rfl, (cell_of_heap hb).trans rfl, (cell_of_heap hb).trans rfl⟩
set_option maxHeartbeats 4000000 in
set_option maxRecDepth 100000 in
theorem funcShS_ok (lo : Nat) (d : FuncD) (u0 : Option Addr) (c0 : Nat) (u2 : Option Addr) (c2 : Nat) (funcs : Int) (w : World) (hs : SmFunc d) (k0 : IntsAt w lo u0 d.params) (k2 : BlocksAt w lo u2 d.blocks) (g2 : 0 ≤ funcs) (g3 : funcs ≤ 4611686018427387904) (hp : d.params.length ≤ 4) (hr : widthB d.ret = true) (hb1 : 1 ≤ d.blocks.length) (hb2 : d.blocks.length ≤ 10) (hc : cntF d ≤ 60) :
  Calls Tryd.prog 29 #[.agg #[.slice u0 d.params.length c0, .int .i64 d.ret, .slice u2 d.blocks.length c2], .int .i64 funcs] w fun e w' => e = .returned (.bool (funcB funcs d)) ∧ Below w.heap.size w w' := by
 have HS : Hid (∀ p ∈ d.blocks, SmBlock p) := hs.2.2
 have F0 := FBox.start (d := d) (u0 := u0) (u2 := u2) (c0 := c0) (c2 := c2) (w := w) (T := 27)
 have i1 : ¬ (4 : Int) < d.params.length := by omega
 have i2 : (decide (1 ≤ (d.blocks.length : Int)) && decide ((d.blocks.length : Int) ≤ 10)) = true := by simp; omega
 have i4 : ¬ (60 : Int) < cntF d := by omega
 go_enter Tryd.func29, Tryd.ntmps29
 go_wp2_with fail
 refine (countS_any lo d u0 c0 u2 c2 _ hs (k2.keep (agree_of_below F0.below lo))).mono ?_
 rintro e w1 ⟨rfl, hb1'⟩
 have F1 := F0.keep hb1'
 have b0 := F1.a0
 have b1 := F1.a1
 have b2 := F1.a2
 clear hb1' F0
 go_wp2_with (first | (go_at_call 48; refine (widthS _ _).mono ?_; rintro e w' ⟨rfl, rfl⟩) | (go_at_call 30; refine (inS _ _ _ _).mono ?_; rw [i2]; rintro e w' ⟨rfl, rfl⟩))
 have HP0 : Hid (d.params.all widthB = false → false = funcB funcs d) := fun h => by simp [funcB, h]
 have HE : Hid (d.params.all widthB = true → funcB funcs d = d.blocks.all (blockB (cntF d) d.blocks.length funcs)) := fun ha => by simp [funcB, hp, ha, hr, hb1, hb2, hc]
 have K0 := k0.keep (agree_of_below F1.below lo)
 go_loop [7] (fun i => ∃ k : Nat, k ≤ d.params.length ∧ i = .int .i64 k ∧ Hid (∀ j, j < k → widthB (d.params.getD j 0) = true)) (fun i => d.params.length - (intOf i).toNat)
 case atStart => exact ⟨0, by omega, rfl, fun j hj => by omega⟩
 case round =>
  obtain ⟨k, hk, rfl, HD⟩ := hrel
  by_cases hlt : k < d.params.length
  ·rcases K0.2 with hn | ⟨bb, off, rfl, hlo, hb, hcell⟩
   ·simp [hn] at hlt
   have e0 := hcell k hlt
   generalize hx : d.params.getD k 0 = x at e0
   have HX : Hid (d.params.getD k 0 = x) := hx
   clear hcell hx K0 k0
   cases hw : widthB x with
   | true =>
    have HP : Hid (widthB x = true) := hw
    go_wp2_with (go_at_call 48; refine (widthS _ _).mono ?_; rintro e w' ⟨rfl, rfl⟩)
    exact ⟨⟨k + 1, by omega, by go_num, fun j hj => by
     by_cases e : j = k
     ·subst e; rw [HX.out]; exact HP.out
     ·exact HD.out j (by omega)⟩, by simp only [intOf]; omega⟩
   | false =>
    have HF : Hid (false = funcB funcs d) := HP0.out (all_no 0 d.params k hlt (by rw [HX.out, hw]; decide))
    go_wp2_with (go_at_call 48; refine (widthS _ _).mono ?_; rintro e w' ⟨rfl, rfl⟩)
    go_ret
    exact ⟨ret_bool HF.out, F1.below⟩
  ·have HQ : Hid (funcB funcs d = d.blocks.all (blockB (cntF d) d.blocks.length funcs)) := HE.out (all_yes 0 d.params (fun j hj => HD.out j (by omega)))
   clear HE HP0 HD K0 k0
   go_wp2_with fail
   clear b0 b1 b2
   go_loopw [8] (fun i wr => ∃ j : Nat, j ≤ d.blocks.length ∧ i = .int .i64 j ∧ Hid (∀ k, k < j → blockB (cntF d) d.blocks.length funcs (d.blocks.getD k block0) = true) ∧ FBox d u0 c0 u2 c2 w wr) (fun i _ => d.blocks.length - (intOf i).toNat)
   case atStart => exact ⟨0, by omega, rfl, fun k hk => by omega, F1⟩
   case round =>
    obtain ⟨j, hj, rfl, HD, hF⟩ := hrel
    obtain ⟨wo, hwo⟩ : ∃ wo, wo = wr := ⟨_, rfl⟩
    subst hwo
    clear F1
    have b0 := hF.a0
    have b1 := hF.a1
    have b2 := hF.a2
    have hW := hF.below
    by_cases hjl : j < d.blocks.length
    ·rcases k2.2 with hn | ⟨bb, off, rfl, hlo, hbb, hcell⟩
     ·simp [hn] at hjl
     obtain ⟨⟨p0, q0, h0, m0⟩, ⟨p1, q1, h1, m1⟩, h2, h3, h4, h5⟩ := hcell j hjl
     have hsm := HS.out _ (getD_mem block0 d.blocks j hjl)
     generalize hx : d.blocks.getD j block0 = x at h0 h1 h2 h3 h4 h5 m0 m1 hsm
     have HX : Hid (d.blocks.getD j block0 = x) := hx
     have f0 : wo.cell? ⟨bb, off + j * 6, none⟩ = some (.slice p0 x.phis.length q0) := (cell_block (hW.block bb hbb)).trans h0
     have f1 : wo.cell? ⟨bb, off + j * 6 + 1, none⟩ = some (.slice p1 x.insts.length q1) := (cell_block (hW.block bb hbb)).trans h1
     have f2 : wo.cell? ⟨bb, off + j * 6 + 2, none⟩ = some (.int .i64 x.term.kind) := (cell_block (hW.block bb hbb)).trans h2
     have f3 : wo.cell? ⟨bb, off + j * 6 + 3, none⟩ = some (.int .i64 x.term.a) := (cell_block (hW.block bb hbb)).trans h3
     have f4 : wo.cell? ⟨bb, off + j * 6 + 4, none⟩ = some (.int .i64 x.term.x) := (cell_block (hW.block bb hbb)).trans h4
     have f5 : wo.cell? ⟨bb, off + j * 6 + 5, none⟩ = some (.int .i64 x.term.y) := (cell_block (hW.block bb hbb)).trans h5
     have M0 := (m0.keep (agree_of_below hW lo)).keep (agree_alloc wo (.cells #[.slice p0 x.phis.length q0, .slice p1 x.insts.length q1, .int .i64 x.term.kind, .int .i64 x.term.a, .int .i64 x.term.x, .int .i64 x.term.y] 41) _)
     have M1 := (m1.keep (agree_of_below hW lo)).keep (agree_alloc wo (.cells #[.slice p0 x.phis.length q0, .slice p1 x.insts.length q1, .int .i64 x.term.kind, .int .i64 x.term.a, .int .i64 x.term.x, .int .i64 x.term.y] 41) _)
     have FX := hF.alloc (.cells #[.slice p0 x.phis.length q0, .slice p1 x.insts.length q1, .int .i64 x.term.kind, .int .i64 x.term.a, .int .i64 x.term.x, .int .i64 x.term.y] 41)
     have x6 := cells6b (w := wo) (v0 := .slice p0 x.phis.length q0) (v1 := .slice p1 x.insts.length q1) (t0 := x.term.kind) (t1 := x.term.a) (t2 := x.term.x) (t3 := x.term.y) (T := 41)
     have NO : Hid (blockB (cntF d) d.blocks.length funcs x = false → false = funcB funcs d) := fun h => by
      rw [HQ.out]; exact (all_no block0 d.blocks j hjl (by rw [HX.out, h]; decide)).symm
     have YES : Hid (blockB (cntF d) d.blocks.length funcs x = true → ∀ k, k < j + 1 → blockB (cntF d) d.blocks.length funcs (d.blocks.getD k block0) = true) := fun h k hk => by
      by_cases e : k = j
      ·subst e; rw [HX.out]; exact h
      ·exact HD.out k (by omega)
     have NP : Hid (x.phis.all (phiB (cntF d)) = false → false = funcB funcs d) := fun h => NO.out (by simp [blockB, h])
     have NI : Hid (x.insts.all (fun i => instB i (cntF d) funcs) = false → false = funcB funcs d) := fun h => NO.out (by simp [blockB, h])
     have NT : Hid (termB x.term (cntF d) d.blocks.length = false → false = funcB funcs d) := fun h => NO.out (by simp [blockB, h])
     have YT : Hid (x.phis.all (phiB (cntF d)) = true → x.insts.all (fun i => instB i (cntF d) funcs) = true → termB x.term (cntF d) d.blocks.length = true → blockB (cntF d) d.blocks.length funcs x = true) := fun h h' h'' => by simp [blockB, h, h', h'']
     have sp0 := hsm.1.1
     have sp1 := hsm.2.1
     have SP : Hid (∀ p ∈ x.phis, SmPhi p) := hsm.1.2
     have SN : Hid (∀ p ∈ x.insts, SmInst p) := hsm.2.2
     have HBL : Hid (wo.heap.size < (wo.alloc (.cells #[.slice p0 x.phis.length q0, .slice p1 x.insts.length q1, .int .i64 x.term.kind, .int .i64 x.term.a, .int .i64 x.term.x, .int .i64 x.term.y] 41)).heap.size) := by show _ < _; simp
     clear hcell h0 h1 h2 h3 h4 h5 m0 m1 hsm hx hF hW HD k2 NO
     go_wp2_with fail
     clear f0 f1 f2 f3 f4 f5 b0 b1 b2
     generalize wo.alloc (.cells #[.slice p0 x.phis.length q0, .slice p1 x.insts.length q1, .int .i64 x.term.kind, .int .i64 x.term.a, .int .i64 x.term.x, .int .i64 x.term.y] 41) = wx at M0 M1 FX x6 HBL ⊢
     obtain ⟨x0, x1, x2, x3, x4, x5⟩ := x6
     go_loop [10] (fun i => ∃ k : Nat, k ≤ x.phis.length ∧ i = .int .i64 k ∧ Hid (∀ m, m < k → phiB (cntF d) (x.phis.getD m phi0) = true)) (fun i => x.phis.length - (intOf i).toNat)
     case atStart => exact ⟨0, by omega, rfl, fun m hm => by omega⟩
     case round =>
      obtain ⟨k, hk, rfl, HD⟩ := hrel
      by_cases hkl : k < x.phis.length
      ·rcases M0.2 with hn | ⟨pb, po, rfl, hplo, hpb, hpc⟩
       ·simp [hn] at hkl
       obtain ⟨y0, ⟨iu, iq, y1, im⟩⟩ := hpc k hkl
       have hsp := SP.out _ (getD_mem phi0 x.phis k hkl)
       generalize hp : x.phis.getD k phi0 = p at y0 y1 im hsp
       have HPk : Hid (x.phis.getD k phi0 = p) := hp
       have hsp' : p.ins.length ≤ 1048576 := hsp
       have NP1 : Hid (¬ phiB (cntF d) p = true → false = funcB funcs d) := fun h => NP.out (all_no phi0 x.phis k hkl (by rw [HPk.out]; exact h))
       have YP1 : Hid (phiB (cntF d) p = true → ∀ m, m < k + 1 → phiB (cntF d) (x.phis.getD m phi0) = true) := fun h m hm => by
        by_cases e : m = k
        ·subst e; rw [HPk.out]; exact h
        ·exact HD.out m (by omega)
       clear hpc hp hsp HD M0 M1 NP NI NT YT
       cases hw : widthB p.w with
       | false =>
        have HF : Hid (false = funcB funcs d) := NP1.out (phiB_w hw)
        go_wp2_with (go_at_call 48; refine (widthS _ _).mono ?_; rintro e w' ⟨rfl, rfl⟩)
        go_ret
        exact ⟨ret_bool HF.out, FX.below⟩
       | true =>
        by_cases hl : p.ins.length ≤ 10
        ·have hl2 : ¬ (10 : Int) < p.ins.length := by omega
         go_wp2_with (go_at_call 48; refine (widthS _ _).mono ?_; rintro e w' ⟨rfl, rfl⟩)
         go_loop [11] (fun i => ∃ m : Nat, m ≤ p.ins.length ∧ i = .int .i64 m ∧ Hid (∀ n, n < m → belowB (p.ins.getD n 0) (cntF d) = true)) (fun i => p.ins.length - (intOf i).toNat)
         case atStart => exact ⟨0, by omega, rfl, fun n hn => by omega⟩
         case round =>
          obtain ⟨m, hm, rfl, HG⟩ := hrel
          by_cases hml : m < p.ins.length
          ·rcases im.2 with hn | ⟨nb, no, rfl, hnlo, hnb, hnc⟩
           ·simp [hn] at hml
           have e0 := hnc m hml
           generalize hv : p.ins.getD m 0 = v at e0
           have HV : Hid (p.ins.getD m 0 = v) := hv
           clear hnc hv im
           cases hbv : belowB v (cntF d) with
           | true =>
            have HB1 : Hid (belowB v (cntF d) = true) := hbv
            go_wp2_with (go_at_call 30; refine (inB _ _ _).mono ?_; rintro e w' ⟨rfl, rfl⟩)
            exact ⟨⟨m + 1, by omega, by go_num, fun n hn => by
             by_cases e : n = m
             ·subst e; rw [HV.out]; exact HB1.out
             ·exact HG.out n (by omega)⟩, by simp only [intOf]; omega⟩
           | false =>
            have HF : Hid (false = funcB funcs d) := NP1.out (phiB_a (all_no 0 p.ins m hml (by rw [HV.out, hbv]; decide)))
            go_wp2_with (go_at_call 30; refine (inB _ _ _).mono ?_; rintro e w' ⟨rfl, rfl⟩)
            go_ret
            exact ⟨ret_bool HF.out, FX.below⟩
          ·have HF : Hid (∀ m, m < k + 1 → phiB (cntF d) (x.phis.getD m phi0) = true) := YP1.out (phiB_t hw hl (all_yes 0 p.ins (fun n hn => HG.out n (by omega))))
           go_wp2_with fail
           exact ⟨⟨k + 1, by omega, by go_num, HF.out⟩, by simp only [intOf]; omega⟩
        ·have HF : Hid (false = funcB funcs d) := NP1.out (phiB_l hl)
         have hl2 : (10 : Int) < p.ins.length := by omega
         go_wp2_with (go_at_call 48; refine (widthS _ _).mono ?_; rintro e w' ⟨rfl, rfl⟩)
         go_ret
         exact ⟨ret_bool HF.out, FX.below⟩
      ·have HPA : Hid (x.phis.all (phiB (cntF d)) = true) := all_yes phi0 x.phis (fun m hm => HD.out m (by omega))
       clear HD M0 NP
       go_wp2_with fail
       go_loopw [12] (fun i wr => ∃ k : Nat, k ≤ x.insts.length ∧ i = .int .i64 k ∧ Hid (∀ m, m < k → instB (x.insts.getD m inst0) (cntF d) funcs = true) ∧ Below wx.heap.size wx wr) (fun i _ => x.insts.length - (intOf i).toNat)
       case atStart => exact ⟨0, by omega, rfl, fun m hm => by omega, Below.refl _ _⟩
       case round =>
        obtain ⟨k, hk, rfl, HD, hB⟩ := hrel
        obtain ⟨wq, hwq⟩ : ∃ wq, wq = wr := ⟨_, rfl⟩
        subst hwq
        have v0 := (cell_block (hB.block wo.heap.size HBL.out)).trans x0
        have v1 := (cell_block (hB.block wo.heap.size HBL.out)).trans x1
        have v2 := (cell_block (hB.block wo.heap.size HBL.out)).trans x2
        have v3 := (cell_block (hB.block wo.heap.size HBL.out)).trans x3
        have v4 := (cell_block (hB.block wo.heap.size HBL.out)).trans x4
        have v5 := (cell_block (hB.block wo.heap.size HBL.out)).trans x5
        have FQ := FX.keep hB
        by_cases hkl : k < x.insts.length
        ·rcases M1.2 with hn | ⟨pb, po, rfl, hplo, hpb, hpc⟩
         ·simp [hn] at hkl
         obtain ⟨i0, i1, i2, i3, i4, i5, ⟨iu, iq, i6, im⟩⟩ := hpc k hkl
         have hsp := SN.out _ (getD_mem inst0 x.insts k hkl)
         generalize hp : x.insts.getD k inst0 = p at i0 i1 i2 i3 i4 i5 i6 im hsp
         have HPk : Hid (x.insts.getD k inst0 = p) := hp
         have g0 : wq.cell? ⟨pb, po + k * 7, none⟩ = some (.int .i64 p.op) := (cell_block (hB.block pb hpb)).trans i0
         have g1 : wq.cell? ⟨pb, po + k * 7 + 1, none⟩ = some (.int .i64 p.w) := (cell_block (hB.block pb hpb)).trans i1
         have g2' : wq.cell? ⟨pb, po + k * 7 + 2, none⟩ = some (.int .i64 p.a) := (cell_block (hB.block pb hpb)).trans i2
         have g3' : wq.cell? ⟨pb, po + k * 7 + 3, none⟩ = some (.int .i64 p.b) := (cell_block (hB.block pb hpb)).trans i3
         have g4 : wq.cell? ⟨pb, po + k * 7 + 4, none⟩ = some (.int .i64 p.c) := (cell_block (hB.block pb hpb)).trans i4
         have g5 : wq.cell? ⟨pb, po + k * 7 + 5, none⟩ = some (.int .i64 p.imm) := (cell_block (hB.block pb hpb)).trans i5
         have g6 : wq.cell? ⟨pb, po + k * 7 + 6, none⟩ = some (.slice iu p.args.length iq) := (cell_block (hB.block pb hpb)).trans i6
         have IM := im.keep (agree_of_below hB lo)
         have hsp' : p.args.length ≤ 1048576 := hsp
         have B : ∀ B, instB p (cntF d) funcs = B → Calls Tryd.prog 49 #[.agg #[.int .i64 p.op, .int .i64 p.w, .int .i64 p.a, .int .i64 p.b, .int .i64 p.c, .int .i64 p.imm, .slice iu p.args.length iq], .int .i64 (cntF d), .int .i64 funcs] wq fun e w' => e = .returned (.bool B) ∧ Below wq.heap.size wq w' := fun B h => by
          rw [← h]; exact instShS lo p iu iq (cntF d) funcs wq (by omega) (by omega) g2 g3 hsp' IM
         have NI1 : Hid (instB p (cntF d) funcs = false → false = funcB funcs d) := fun h => NI.out (all_no inst0 x.insts k hkl (by rw [HPk.out, h]; decide))
         have YI1 : Hid (instB p (cntF d) funcs = true → ∀ m, m < k + 1 → instB (x.insts.getD m inst0) (cntF d) funcs = true) := fun h m hm => by
          by_cases e : m = k
          ·subst e; rw [HPk.out]; exact h
          ·exact HD.out m (by omega)
         have HBQ : Hid (Below wx.heap.size wx wq) := hB
         clear hpc i0 i1 i2 i3 i4 i5 i6 im hsp hp hB HD M1 NI NT YT IM
         cases hb : instB p (cntF d) funcs with
         | false =>
          have HF : Hid (false = funcB funcs d) := NI1.out hb
          have BB := B _ hb
          clear B
          go_wp2_with (go_at_call 49; refine BB.mono ?_; rintro e w3 ⟨rfl, hb3⟩)
          go_ret
          exact ⟨ret_bool HF.out, (FQ.keep hb3).below⟩
         | true =>
          have HF : Hid (∀ m, m < k + 1 → instB (x.insts.getD m inst0) (cntF d) funcs = true) := YI1.out hb
          have BB := B _ hb
          clear B
          go_wp2_with (go_at_call 49; refine BB.mono ?_; rintro e w3 ⟨rfl, hb3⟩)
          go_roundw
          case rel => exact ⟨k + 1, by omega, by go_num, HF.out, HBQ.out.trans (hb3.mono HBQ.out.size)⟩
          case measure => simp [intOf]; omega
        ·have HIA : Hid (x.insts.all (fun i => instB i (cntF d) funcs) = true) := all_yes inst0 x.insts (fun m hm => HD.out m (by omega))
         have T : ∀ B, termB x.term (cntF d) d.blocks.length = B → Calls Tryd.prog 50 #[.agg #[.int .i64 x.term.kind, .int .i64 x.term.a, .int .i64 x.term.x, .int .i64 x.term.y], .int .i64 (cntF d), .int .i64 d.blocks.length] wq fun e w' => e = .returned (.bool B) ∧ Below wq.heap.size wq w' := fun B h => by
          rw [← h]; exact termShS x.term (cntF d) d.blocks.length wq (by omega) (by omega) (by omega) (by omega)
         clear HD M1 NI hB
         cases hb : termB x.term (cntF d) d.blocks.length with
         | false =>
          have HF : Hid (false = funcB funcs d) := NT.out hb
          have TT := T _ hb
          clear T NT YT
          go_wp2_with (go_at_call 50; refine TT.mono ?_; rintro e w3 ⟨rfl, hb3⟩)
          go_ret
          exact ⟨ret_bool HF.out, (FQ.keep hb3).below⟩
         | true =>
          have HF : Hid (∀ k, k < j + 1 → blockB (cntF d) d.blocks.length funcs (d.blocks.getD k block0) = true) := YES.out (YT.out HPA.out HIA.out hb)
          have TT := T _ hb
          clear T NT YT
          go_wp2_with (go_at_call 50; refine TT.mono ?_; rintro e w3 ⟨rfl, hb3⟩)
          go_roundw
          case rel => exact ⟨j + 1, by omega, by go_num, HF.out, FQ.keep hb3⟩
          case measure => simp [intOf]; omega
    ·have HF : Hid (true = funcB funcs d) := by
      show _ = _
      rw [HQ.out]; exact (all_yes block0 d.blocks (fun k hk => HD.out k (by omega))).symm
     go_wp2_with fail
     go_ret
     exact ⟨ret_bool HF.out, hW⟩
end Go.Proofs.YtenbodghkpbghaaDoor
namespace Go.Proofs.YtenbodghkpbghaaDoor
open Go.RowKit
set_option linter.unusedVariables false
set_option maxHeartbeats 2000000 in
set_option maxRecDepth 100000 in
theorem funcShS_p (lo : Nat) (d : FuncD) (u0 : Option Addr) (c0 : Nat) (u2 : Option Addr) (c2 : Nat) (funcs : Int) (w : World) (hs : SmFunc d) (k0 : IntsAt w lo u0 d.params) (k2 : BlocksAt w lo u2 d.blocks) (hp : ¬ d.params.length ≤ 4) : Calls Tryd.prog 29 #[.agg #[.slice u0 d.params.length c0, .int .i64 d.ret, .slice u2 d.blocks.length c2], .int .i64 funcs] w fun e w' => e = .returned (.bool (funcB funcs d)) ∧ Below w.heap.size w w' := by
 have HR : Hid (false = funcB funcs d) := by show _ = _; simp [funcB, hp]
 have F0 := FBox.start (d := d) (u0 := u0) (u2 := u2) (c0 := c0) (c2 := c2) (w := w) (T := 27)
 have hbl := hs.2.1
 have i1 : (4 : Int) < d.params.length := by omega
 go_enter Tryd.func29, Tryd.ntmps29
 go_wp2_with fail
 refine (countS_any lo d u0 c0 u2 c2 _ hs (k2.keep (agree_of_below F0.below lo))).mono ?_
 rintro e w1 ⟨rfl, hb1'⟩
 have F1 := F0.keep hb1'
 have b0 := F1.a0
 have b1 := F1.a1
 have b2 := F1.a2
 clear hb1' F0
 go_wp2_with fail
 go_ret
 exact ⟨ret_bool HR.out, F1.below⟩
set_option maxHeartbeats 2000000 in
set_option maxRecDepth 100000 in
theorem funcShS_r (lo : Nat) (d : FuncD) (u0 : Option Addr) (c0 : Nat) (u2 : Option Addr) (c2 : Nat) (funcs : Int) (w : World) (hs : SmFunc d) (k0 : IntsAt w lo u0 d.params) (k2 : BlocksAt w lo u2 d.blocks) (hp : d.params.length ≤ 4) (hr : widthB d.ret = false) : Calls Tryd.prog 29 #[.agg #[.slice u0 d.params.length c0, .int .i64 d.ret, .slice u2 d.blocks.length c2], .int .i64 funcs] w fun e w' => e = .returned (.bool (funcB funcs d)) ∧ Below w.heap.size w w' := by
 have HR : Hid (false = funcB funcs d) := by show _ = _; simp [funcB, hr]
 have F0 := FBox.start (d := d) (u0 := u0) (u2 := u2) (c0 := c0) (c2 := c2) (w := w) (T := 27)
 have hbl := hs.2.1
 have i1 : ¬ (4 : Int) < d.params.length := by omega
 go_enter Tryd.func29, Tryd.ntmps29
 go_wp2_with fail
 refine (countS_any lo d u0 c0 u2 c2 _ hs (k2.keep (agree_of_below F0.below lo))).mono ?_
 rintro e w1 ⟨rfl, hb1'⟩
 have F1 := F0.keep hb1'
 have b0 := F1.a0
 have b1 := F1.a1
 have b2 := F1.a2
 clear hb1' F0
 go_wp2_with (first | (go_at_call 48; refine (widthS _ _).mono ?_; rintro e w' ⟨rfl, rfl⟩))
 go_ret
 exact ⟨ret_bool HR.out, F1.below⟩
set_option maxHeartbeats 2000000 in
set_option maxRecDepth 100000 in
theorem funcShS_b (lo : Nat) (d : FuncD) (u0 : Option Addr) (c0 : Nat) (u2 : Option Addr) (c2 : Nat) (funcs : Int) (w : World) (hs : SmFunc d) (k0 : IntsAt w lo u0 d.params) (k2 : BlocksAt w lo u2 d.blocks) (hp : d.params.length ≤ 4) (hr : widthB d.ret = true) (hb : ¬ (1 ≤ d.blocks.length ∧ d.blocks.length ≤ 10)) : Calls Tryd.prog 29 #[.agg #[.slice u0 d.params.length c0, .int .i64 d.ret, .slice u2 d.blocks.length c2], .int .i64 funcs] w fun e w' => e = .returned (.bool (funcB funcs d)) ∧ Below w.heap.size w w' := by
 have HR : Hid (false = funcB funcs d) := by show _ = _; (by_cases q : 1 ≤ d.blocks.length <;> by_cases q2 : d.blocks.length ≤ 10 <;> simp [funcB, q, q2] <;> omega)
 have F0 := FBox.start (d := d) (u0 := u0) (u2 := u2) (c0 := c0) (c2 := c2) (w := w) (T := 27)
 have hbl := hs.2.1
 have i1 : ¬ (4 : Int) < d.params.length := by omega
 have i2 : (decide (1 ≤ (d.blocks.length : Int)) && decide ((d.blocks.length : Int) ≤ 10)) = false := by simp; omega
 go_enter Tryd.func29, Tryd.ntmps29
 go_wp2_with fail
 refine (countS_any lo d u0 c0 u2 c2 _ hs (k2.keep (agree_of_below F0.below lo))).mono ?_
 rintro e w1 ⟨rfl, hb1'⟩
 have F1 := F0.keep hb1'
 have b0 := F1.a0
 have b1 := F1.a1
 have b2 := F1.a2
 clear hb1' F0
 go_wp2_with (first | (go_at_call 48; refine (widthS _ _).mono ?_; rintro e w' ⟨rfl, rfl⟩) | (go_at_call 30; refine (inS _ _ _ _).mono ?_; rw [i2]; rintro e w' ⟨rfl, rfl⟩))
 go_ret
 exact ⟨ret_bool HR.out, F1.below⟩
set_option maxHeartbeats 2000000 in
set_option maxRecDepth 100000 in
theorem funcShS_n (lo : Nat) (d : FuncD) (u0 : Option Addr) (c0 : Nat) (u2 : Option Addr) (c2 : Nat) (funcs : Int) (w : World) (hs : SmFunc d) (k0 : IntsAt w lo u0 d.params) (k2 : BlocksAt w lo u2 d.blocks) (hp : d.params.length ≤ 4) (hr : widthB d.ret = true) (hb : (1 ≤ d.blocks.length ∧ d.blocks.length ≤ 10)) (hn : ¬ cntF d ≤ 60) : Calls Tryd.prog 29 #[.agg #[.slice u0 d.params.length c0, .int .i64 d.ret, .slice u2 d.blocks.length c2], .int .i64 funcs] w fun e w' => e = .returned (.bool (funcB funcs d)) ∧ Below w.heap.size w w' := by
 have HR : Hid (false = funcB funcs d) := by show _ = _; simp [funcB, hn]
 have F0 := FBox.start (d := d) (u0 := u0) (u2 := u2) (c0 := c0) (c2 := c2) (w := w) (T := 27)
 have hbl := hs.2.1
 have i1 : ¬ (4 : Int) < d.params.length := by omega
 have i2 : (decide (1 ≤ (d.blocks.length : Int)) && decide ((d.blocks.length : Int) ≤ 10)) = true := by simp; omega
 have i4 : (60 : Int) < cntF d := by omega
 go_enter Tryd.func29, Tryd.ntmps29
 go_wp2_with fail
 refine (countS_any lo d u0 c0 u2 c2 _ hs (k2.keep (agree_of_below F0.below lo))).mono ?_
 rintro e w1 ⟨rfl, hb1'⟩
 have F1 := F0.keep hb1'
 have b0 := F1.a0
 have b1 := F1.a1
 have b2 := F1.a2
 clear hb1' F0
 go_wp2_with (first | (go_at_call 48; refine (widthS _ _).mono ?_; rintro e w' ⟨rfl, rfl⟩) | (go_at_call 30; refine (inS _ _ _ _).mono ?_; rw [i2]; rintro e w' ⟨rfl, rfl⟩))
 go_ret
 exact ⟨ret_bool HR.out, F1.below⟩
theorem funcShS (lo : Nat) (d : FuncD) (u0 : Option Addr) (c0 : Nat) (u2 : Option Addr) (c2 : Nat) (funcs : Int) (w : World) (hs : SmFunc d) (k0 : IntsAt w lo u0 d.params) (k2 : BlocksAt w lo u2 d.blocks) (g2 : 0 ≤ funcs) (g3 : funcs ≤ 4611686018427387904) : Calls Tryd.prog 29 #[.agg #[.slice u0 d.params.length c0, .int .i64 d.ret, .slice u2 d.blocks.length c2], .int .i64 funcs] w fun e w' => e = .returned (.bool (funcB funcs d)) ∧ Below w.heap.size w w' := by
 by_cases hp : d.params.length ≤ 4
 ·cases hr : widthB d.ret with
  | false => exact funcShS_r lo d u0 c0 u2 c2 funcs w hs k0 k2 hp hr
  | true =>
   by_cases hb : 1 ≤ d.blocks.length ∧ d.blocks.length ≤ 10
   ·by_cases hn : cntF d ≤ 60
    ·exact funcShS_ok lo d u0 c0 u2 c2 funcs w hs k0 k2 g2 g3 hp hr hb.1 hb.2 hn
    ·exact funcShS_n lo d u0 c0 u2 c2 funcs w hs k0 k2 hp hr hb hn
   ·exact funcShS_b lo d u0 c0 u2 c2 funcs w hs k0 k2 hp hr hb
 ·exact funcShS_p lo d u0 c0 u2 c2 funcs w hs k0 k2 hp
end Go.Proofs.YtenbodghkpbghaaDoor
namespace Go.Proofs.YtenbodghkpbghaaDoor
open Go.RowKit
set_option linter.unusedVariables false
set_option linter.unusedSimpArgs false
def SubMT (w : World) (p : FuncD × Bool) (e : Ending) (w' : World) : Prop := (∃ pu pc bu bc, e = .returned (.tuple #[.agg #[.slice pu p.1.params.length pc, .int .i64 p.1.ret, .slice bu p.1.blocks.length bc], .bool p.2]) ∧ IntsAt w' w.heap.size pu p.1.params ∧ BlocksAt w' w.heap.size bu p.1.blocks) ∧ Below w.heap.size w w'
theorem below_int {tt : List Int} {n : Nat} (h : (tt.all fun x => belowB x (n : Int)) = true) (hl : tt.length = n) {l : List Int} (hx : (l.all fun x => belowB x (n : Int)) = true) : InT tt l := fun x hm => by
 have h1 := List.all_eq_true.1 hx x hm
 unfold belowB at h1
 simp only [Bool.and_eq_true, decide_eq_true_eq] at h1
 omega
theorem in_form {d : FuncD} {tt : List Int} (h : subOk d tt) : InF tt d := by
 obtain ⟨hf, hl, ha⟩ := h
 unfold funcB at hf
 simp only [Bool.and_eq_true, decide_eq_true_eq] at hf
 obtain ⟨_, h7⟩ := hf
 have hb : ∀ b ∈ d.blocks, blockB (cntF d) d.blocks.length 3 b = true := List.all_eq_true.1 h7
 refine ⟨fun b hm p hp => ?_, fun b hm i hi => ?_, fun b hm x hx => ?_⟩
 ·have hb2 := hb b hm
  unfold blockB at hb2
  simp only [Bool.and_eq_true] at hb2
  have := List.all_eq_true.1 hb2.1.1 p hp
  unfold phiB at this
  simp only [Bool.and_eq_true, decide_eq_true_eq] at this
  exact below_int ha hl this.2
 ·have hb2 := hb b hm
  unfold blockB at hb2
  simp only [Bool.and_eq_true] at hb2
  have := List.all_eq_true.1 hb2.1.2 i hi
  unfold instB at this
  simp only [Bool.and_eq_true] at this
  exact ⟨this.1.2, below_int ha hl this.2⟩
 ·have hb2 := hb b hm
  unfold blockB at hb2
  simp only [Bool.and_eq_true] at hb2
  have k3 := hb2.2
  unfold namesT at hx
  split at hx
  ·rename_i hk
   rw [List.mem_singleton.1 hx]
   unfold termB at k3
   rcases hk with hk | hk
   ·rw [if_pos hk] at k3
    simp [belowB] at k3
    omega
   ·rw [if_neg (by omega), if_neg (by omega), if_pos hk] at k3
    simp [belowB] at k3
    omega
  ·cases hx
theorem all_take {tt : List Int} {c : Int} {k : Nat} (h : k < tt.length) (h1 : ((tt.take k).all fun x => belowB x c) = true) : ((tt.take (k + 1)).all fun x => belowB x c) = belowB (tt.getD k 0) c := by
 rw [take_one 0 tt k h, List.all_append, h1]
 simp
theorem all_fail {tt : List Int} {c : Int} {k : Nat} (h : k < tt.length) (h1 : belowB (tt.getD k 0) c = false) : ¬ (tt.all fun x => belowB x c) = true := fun h2 => by
 have := List.all_eq_true.1 h2 _ (getD_mem 0 tt k h)
 rw [h1] at this
 cases this
set_option maxHeartbeats 8000000 in
set_option maxRecDepth 100000 in
theorem substS (lo : Nat) (d : FuncD) (u0 : Option Addr) (c0 : Nat) (u2 : Option Addr) (c2 : Nat) (tt : List Int) (ut : Option Addr) (ct : Nat) (w : World) (hs : SmFunc d) (m0 : IntsAt w lo u0 d.params) (m2 : BlocksAt w lo u2 d.blocks) (mt : IntsAt w lo ut tt) :
  Calls Tryd.prog 8 #[.agg #[.slice u0 d.params.length c0, .int .i64 d.ret, .slice u2 d.blocks.length c2], .slice ut tt.length ct] w fun e w' => SubMT w (substD d tt) e w' := by
 have b0 : Below w.heap.size w ((w.alloc (.cells #[.slice u0 d.params.length c0, .int .i64 d.ret, .slice u2 d.blocks.length c2] 27)).alloc (.cells #[.slice none 0 0, .int .i64 0, .slice none 0 0] 27)) := ((Below.refl _ _).alloc (Nat.le_refl _) _).alloc (by simp) _
 have A0 : At ((w.alloc (.cells #[.slice u0 d.params.length c0, .int .i64 d.ret, .slice u2 d.blocks.length c2] 27)).alloc (.cells #[.slice none 0 0, .int .i64 0, .slice none 0 0] 27)) w.heap.size #[.slice u0 d.params.length c0, .int .i64 d.ret, .slice u2 d.blocks.length c2] 27 := (Below.heap_alloc _ _ _ (by simp)).trans (heap_alloc_last _ _)
 have A1 : At ((w.alloc (.cells #[.slice u0 d.params.length c0, .int .i64 d.ret, .slice u2 d.blocks.length c2] 27)).alloc (.cells #[.slice none 0 0, .int .i64 0, .slice none 0 0] 27)) (w.heap.size + 1) #[.slice none 0 0, .int .i64 0, .slice none 0 0] 27 := heap_two2 _ _ _
 have H0 : Hid (Below w.heap.size w ((w.alloc (.cells #[.slice u0 d.params.length c0, .int .i64 d.ret, .slice u2 d.blocks.length c2] 27)).alloc (.cells #[.slice none 0 0, .int .i64 0, .slice none 0 0] 27))) := b0
 have HA : Hid (At ((w.alloc (.cells #[.slice u0 d.params.length c0, .int .i64 d.ret, .slice u2 d.blocks.length c2] 27)).alloc (.cells #[.slice none 0 0, .int .i64 0, .slice none 0 0] 27)) w.heap.size #[.slice u0 d.params.length c0, .int .i64 d.ret, .slice u2 d.blocks.length c2] 27) := A0
 have HZ : Hid (At ((w.alloc (.cells #[.slice u0 d.params.length c0, .int .i64 d.ret, .slice u2 d.blocks.length c2] 27)).alloc (.cells #[.slice none 0 0, .int .i64 0, .slice none 0 0] 27)) (w.heap.size + 1) #[.slice none 0 0, .int .i64 0, .slice none 0 0] 27) := A1
 have hz : (((w.alloc (.cells #[.slice u0 d.params.length c0, .int .i64 d.ret, .slice u2 d.blocks.length c2] 27)).alloc (.cells #[.slice none 0 0, .int .i64 0, .slice none 0 0] 27))).heap.size = w.heap.size + 2 := by simp
 have P := funcShS lo d u0 c0 u2 c2 3 ((w.alloc (.cells #[.slice u0 d.params.length c0, .int .i64 d.ret, .slice u2 d.blocks.length c2] 27)).alloc (.cells #[.slice none 0 0, .int .i64 0, .slice none 0 0] 27)) hs (m0.keep (agree_of_below b0 lo)) (m2.keep (agree_of_below b0 lo)) (by decide) (by decide)
 have NO : ∀ W : World, Below w.heap.size w W → ¬ subOk d tt → SubMT w (substD d tt) (.returned (.tuple #[.agg #[.slice none 0 0, .int .i64 0, .slice none 0 0], .bool false])) W := fun W hB hn => by
  rw [subst_no hn]
  exact ⟨⟨none, 0, none, 0, rfl, ⟨by simp [func0], .inl rfl⟩, ⟨by simp [func0], .inl rfl⟩⟩, hB⟩
 have HNO : Hid (∀ W : World, Below w.heap.size w W → ¬ subOk d tt → SubMT w (substD d tt) (.returned (.tuple #[.agg #[.slice none 0 0, .int .i64 0, .slice none 0 0], .bool false])) W) := NO
 clear NO
 have x0 : (((w.alloc (.cells #[.slice u0 d.params.length c0, .int .i64 d.ret, .slice u2 d.blocks.length c2] 27)).alloc (.cells #[.slice none 0 0, .int .i64 0, .slice none 0 0] 27))).cell? ⟨w.heap.size, 0, none⟩ = some (.slice u0 d.params.length c0) := A0.cell 0
 have x1 : (((w.alloc (.cells #[.slice u0 d.params.length c0, .int .i64 d.ret, .slice u2 d.blocks.length c2] 27)).alloc (.cells #[.slice none 0 0, .int .i64 0, .slice none 0 0] 27))).cell? ⟨w.heap.size, 1, none⟩ = some (.int .i64 d.ret) := A0.cell 1
 have x2 : (((w.alloc (.cells #[.slice u0 d.params.length c0, .int .i64 d.ret, .slice u2 d.blocks.length c2] 27)).alloc (.cells #[.slice none 0 0, .int .i64 0, .slice none 0 0] 27))).cell? ⟨w.heap.size, 2, none⟩ = some (.slice u2 d.blocks.length c2) := A0.cell 2
 clear b0 A0 A1
 go_enter Tryd.func8, Tryd.ntmps8
 go_upto_region 1 with fail
 generalize ((w.alloc (.cells #[.slice u0 d.params.length c0, .int .i64 d.ret, .slice u2 d.blocks.length c2] 27)).alloc (.cells #[.slice none 0 0, .int .i64 0, .slice none 0 0] 27)) = W1 at *
 go_wp2_with fail
 refine P.mono ?_
 rintro e w2 ⟨rfl, b2⟩
 clear P x0 x1 x2
 have HB2 : Hid (Below w.heap.size w w2) := H0.out.trans (b2.mono (by omega))
 have HA2 : Hid (At w2 w.heap.size #[.slice u0 d.params.length c0, .int .i64 d.ret, .slice u2 d.blocks.length c2] 27) := HA.out.below b2
 have HZ2 : Hid (At w2 (w.heap.size + 1) #[.slice none 0 0, .int .i64 0, .slice none 0 0] 27) := HZ.out.below b2
 clear b2 H0 HA HZ hz
 have c_0 : w2.cell? ⟨w.heap.size, 0, none⟩ = some (.slice u0 d.params.length c0) := HA2.out.cell 0
 have c_1 : w2.cell? ⟨w.heap.size, 1, none⟩ = some (.int .i64 d.ret) := HA2.out.cell 1
 have c_2 : w2.cell? ⟨w.heap.size, 2, none⟩ = some (.slice u2 d.blocks.length c2) := HA2.out.cell 2
 cases hF : funcB 3 d with
 | false =>
  have HN : Hid (¬ subOk d tt) := fun h => by rw [h.1] at hF; cases hF
  clear hF
  have r0 : w2.cell? ⟨w.heap.size + 1, 0, none⟩ = some (.slice none 0 0) := HZ2.out.cell 0
  have r1 : w2.cell? ⟨w.heap.size + 1, 1, none⟩ = some (.int .i64 0) := HZ2.out.cell 1
  have r2 : w2.cell? ⟨w.heap.size + 1, 2, none⟩ = some (.slice none 0 0) := HZ2.out.cell 2
  have rf : ∀ o, w2.frozen? ⟨w.heap.size + 1, o, none⟩ = false := fun o => froz_of_heap HZ2.out
  go_wp2_with fail
  have hr := heap_set (o := 2) (v := .slice none 0 0) (heap_set (o := 1) (v := .int .i64 0) (heap_set (o := 0) (v := .slice none 0 0) HZ2.out))
  refine bodyPost_ret (v := .tuple #[.agg #[.slice none 0 0, .int .i64 0, .slice none 0 0], .bool false]) ((results_cell_row_tmp Tryd.results8 _ _ (w.heap.size + 1) _ rfl (run_loadVar_row _ _ 27 _ _ (0, 0) _ hr Tryd.underlying27 rfl (by kernel_rfl))).trans (by rfl)) rfl ?_
  exact HNO.out _ (((HB2.out.setCell (by dsimp only; omega) _).setCell (by dsimp only; omega) _).setCell (by dsimp only; omega) _) HN.out
 | true =>
  have HOK : Hid (OkFn d) := ok_form hF
  have hc60 : cntF d ≤ 60 := by
   have h := hF
   unfold funcB at h
   simp only [Bool.and_eq_true, decide_eq_true_eq] at h
   exact h.1.2
  have HF : Hid (funcB 3 d = true) := hF
  obtain ⟨cn, hcn⟩ : ∃ cn : Nat, cntF d = cn := ⟨_, rfl⟩
  have HCN : Hid (cntF d = cn) := hcn
  rw [hcn] at hc60
  have CNT : Hid (∀ W, Below w.heap.size w W → Calls Tryd.prog 23 #[.agg #[.slice u0 d.params.length c0, .int .i64 d.ret, .slice u2 d.blocks.length c2]] W fun e w' => e = .returned (.int .i64 cn) ∧ Below W.heap.size W w') := fun W k => by rw [← hcn]; exact countS_any lo d u0 c0 u2 c2 W hs (m2.keep (agree_of_below k lo))
  have P2 := CNT.out w2 HB2.out
  clear hF hcn
  go_wp2_with fail
  refine P2.mono ?_
  rintro e w3 ⟨rfl, b3⟩
  clear P2 c_0 c_1 c_2
  have HB3 : Hid (Below w.heap.size w w3) := HB2.out.trans (b3.mono HB2.out.size)
  have HA3 : Hid (At w3 w.heap.size #[.slice u0 d.params.length c0, .int .i64 d.ret, .slice u2 d.blocks.length c2] 27) := HA2.out.below b3
  have HZ3 : Hid (At w3 (w.heap.size + 1) #[.slice none 0 0, .int .i64 0, .slice none 0 0] 27) := HZ2.out.below b3
  clear b3 HB2 HA2 HZ2
  by_cases hL : tt.length = cn
  rotate_left
  ·have HN : Hid (¬ subOk d tt) := fun h => hL (by rw [← HCN.out]; exact h.2.1)
   have hLb : ((tt.length : Int) != (cn : Int)) = true := by simp; omega
   clear hL
   have r0 : w3.cell? ⟨w.heap.size + 1, 0, none⟩ = some (.slice none 0 0) := HZ3.out.cell 0
   have r1 : w3.cell? ⟨w.heap.size + 1, 1, none⟩ = some (.int .i64 0) := HZ3.out.cell 1
   have r2 : w3.cell? ⟨w.heap.size + 1, 2, none⟩ = some (.slice none 0 0) := HZ3.out.cell 2
   have rf : ∀ o, w3.frozen? ⟨w.heap.size + 1, o, none⟩ = false := fun o => froz_of_heap HZ3.out
   go_wp2_with fail
   have hr := heap_set (o := 2) (v := .slice none 0 0) (heap_set (o := 1) (v := .int .i64 0) (heap_set (o := 0) (v := .slice none 0 0) HZ3.out))
   refine bodyPost_ret (v := .tuple #[.agg #[.slice none 0 0, .int .i64 0, .slice none 0 0], .bool false]) ((results_cell_row_tmp Tryd.results8 _ _ (w.heap.size + 1) _ rfl (run_loadVar_row _ _ 27 _ _ (0, 0) _ hr Tryd.underlying27 rfl (by kernel_rfl))).trans (by rfl)) rfl ?_
   exact HNO.out _ (((HB3.out.setCell (by dsimp only; omega) _).setCell (by dsimp only; omega) _).setCell (by dsimp only; omega) _) HN.out
  have HL : Hid (tt.length = cn) := hL
  have hLb : ((tt.length : Int) != (cn : Int)) = false := by simp; omega
  have htl60 : tt.length ≤ 60 := by omega
  clear hL
  go_upto_region 3 with fail
  clear hLb
  go_wp2_with fail
  go_loopw [6] (fun i wr => ∃ k : Nat, k ≤ tt.length ∧ i = .int .i64 k ∧ Hid (((tt.take k).all fun x => belowB x (cn : Int)) = true) ∧ Hid (At wr w.heap.size #[.slice u0 d.params.length c0, .int .i64 d.ret, .slice u2 d.blocks.length c2] 27) ∧ Hid (At wr (w.heap.size + 1) #[.slice none 0 0, .int .i64 0, .slice none 0 0] 27) ∧ Hid (Below w.heap.size w wr)) (fun i _ => tt.length - (intOf i).toNat)
  case atStart => exact ⟨0, by omega, rfl, rfl, HA3.out, HZ3.out, HB3.out⟩
  case round =>
   clear HA3 HZ3 HB3
   obtain ⟨k, hk, rfl, HT, HA, HZ, HB⟩ := hrel
   obtain ⟨w4, hwo⟩ : ∃ w1, w1 = wr := ⟨_, rfl⟩
   subst hwo
   by_cases hlt : k < tt.length
   ·obtain ⟨ga, off, hut, hga, e1⟩ := ints_get (mt.keep (agree_of_below HB.out lo)) hlt
    have HX := all_take hlt HT.out
    have HY := all_fail (c := (cn : Int)) hlt
    have PC := CNT.out w4.drew HB.out.drew
    generalize tt.getD k 0 = y at *
    have hkI : (k : Int) < tt.length := by omega
    have hcI : 0 ≤ (cn : Int) ∧ (cn : Int) ≤ 60 := by omega
    have P5 := fun W => inS y 0 ((cn : Int) - 1) W
    rw [in_below] at P5
    have s0 : w4.drew.cell? ⟨w.heap.size, 0, none⟩ = some (.slice u0 d.params.length c0) ∧ w4.drew.cell? ⟨w.heap.size, 1, none⟩ = some (.int .i64 d.ret) ∧ w4.drew.cell? ⟨w.heap.size, 2, none⟩ = some (.slice u2 d.blocks.length c2) ∧ w4.drew.cell? ⟨ga, off + k, none⟩ = some (.int .i64 y) := ⟨HA.out.cell 0, HA.out.cell 1, HA.out.cell 2, e1⟩
    have HG : Hid (∀ W, Below w4.heap.size w4 W → W.cell? ⟨w.heap.size, 0, none⟩ = some (.slice u0 d.params.length c0) ∧ W.cell? ⟨w.heap.size, 1, none⟩ = some (.int .i64 d.ret) ∧ W.cell? ⟨w.heap.size, 2, none⟩ = some (.slice u2 d.blocks.length c2) ∧ W.cell? ⟨ga, off + k, none⟩ = some (.int .i64 y)) := fun W h => ⟨(HA.out.below h).cell 0, (HA.out.below h).cell 1, (HA.out.below h).cell 2, (cell_block (h.block ga hga)).trans e1⟩
    have HHX : Hid (((tt.take (k + 1)).all fun x => belowB x (cn : Int)) = belowB y (cn : Int)) := HX
    have HHY : Hid (belowB y (cn : Int) = false → ¬ (tt.all fun x => belowB x (cn : Int)) = true) := HY
    subst hut
    clear HX HY e1
    go_wp2_with fail
    refine startX (fun w' => w'.cell? ⟨w.heap.size, 0, none⟩ = some (.slice u0 d.params.length c0) ∧ w'.cell? ⟨w.heap.size, 1, none⟩ = some (.int .i64 d.ret) ∧ w'.cell? ⟨w.heap.size, 2, none⟩ = some (.slice u2 d.blocks.length c2) ∧ w'.cell? ⟨ga, off + k, none⟩ = some (.int .i64 y)) (fun _ => false) (by kernel_rfl) ?_
    refine takeX 0 (v := ?_) rfl rfl (by kernel_rfl) (fun _ _ _ h => h) (yesH (by rfl) ?_) s0 ?_
    rotate_left
    ·intro w9 hS9
     obtain ⟨g0, g1, g2, g3⟩ := hS9
     go_simp
     try with_reducible rfl
    try simp only [Act.put, sA, sB, sC]
    refine takeX 1 (v := ?_) rfl rfl (by kernel_rfl) (fun _ _ _ h => h) (yesH (by rfl) ?_) s0 ?_
    rotate_left
    ·intro w9 hS9
     obtain ⟨g0, g1, g2, g3⟩ := hS9
     go_simp
     try with_reducible rfl
    try simp only [Act.put, sA, sB, sC]
    refine takeX 2 (v := ?_) rfl rfl (by kernel_rfl) (fun _ _ _ h => h) (yesH (by rfl) ?_) s0 ?_
    rotate_left
    ·intro w9 hS9
     obtain ⟨g0, g1, g2, g3⟩ := hS9
     go_simp
     try with_reducible rfl
    try simp only [Act.put, sA, sB, sC]
    refine takeX 3 (v := ?_) rfl rfl (by kernel_rfl) (fun _ _ _ h => h) (yesH (by rfl) ?_) s0 ?_
    rotate_left
    ·intro w9 hS9
     obtain ⟨g0, g1, g2, g3⟩ := hS9
     go_simp
     try with_reducible rfl
    try simp only [Act.put, sA, sB, sC]
    refine takeX 4 (v := ?_) rfl rfl (by kernel_rfl) (fun _ _ _ h => h) (yesH (by rfl) ?_) s0 ?_
    rotate_left
    ·intro w9 hS9
     obtain ⟨g0, g1, g2, g3⟩ := hS9
     go_simp
     try with_reducible rfl
    try simp only [Act.put, sA, sB, sC]
    refine readyX 5 rfl (by kernel_rfl) (fun K hK => ?_)
    go_simp
    go_wp2_with fail
    refine PC.mono ?_
    rintro e w5 ⟨rfl, b5'⟩
    have b5 : Below w4.heap.size w4 w5 := undrew b5'
    have s5 := HG.out w5 b5
    have HA5 : Hid (At w5 w.heap.size #[.slice u0 d.params.length c0, .int .i64 d.ret, .slice u2 d.blocks.length c2] 27) := HA.out.below b5
    have HZ5 : Hid (At w5 (w.heap.size + 1) #[.slice none 0 0, .int .i64 0, .slice none 0 0] 27) := HZ.out.below b5
    have HB5 : Hid (Below w.heap.size w w5) := HB.out.trans (b5.mono HB.out.size)
    clear PC b5 b5' s0 HG HA HZ HB
    refine hK.out _ _ (.inr s5) ?_
    clear hK K
    try simp only [Act.put, sA, sB, sC]
    refine takeX 6 (v := ?_) rfl rfl (by kernel_rfl) (fun _ _ _ h => h) (yesH (by rfl) ?_) s5 ?_
    rotate_left
    ·intro w9 hS9
     go_simp
     try with_reducible rfl
    try simp only [Act.put, sA, sB, sC]
    have P6 := P5 w5
    clear P5
    refine readyX 7 rfl (by kernel_rfl) (fun K hK => ?_)
    go_simp
    go_wp2_with fail
    rw [show IntKind.i64.wrap ((cn : Int) - 1) = (cn : Int) - 1 from by rw [IntKind.wrap_i64]; omega]
    refine P6.mono ?_
    rintro e w6 ⟨rfl, h9⟩
    have h8 := h9.symm
    clear h9 P6
    subst h8
    refine hK.out _ _ (.inr s5) ?_
    clear hK K
    try simp only [Act.put, sA, sB, sC]
    refine takeX 8 (v := ?_) rfl rfl (by kernel_rfl) (fun _ _ _ h => h) (yesH (by rfl) ?_) s5 ?_
    rotate_left
    ·intro w9 hS9
     go_simp
     try with_reducible rfl
    try simp only [Act.put, sA, sB, sC]
    clear s5
    refine doneX (by kernel_rfl) ?_ _
    cases hbb : belowB y (cn : Int) with
    | false =>
     have HN : Hid (¬ subOk d tt) := fun h => HHY.out hbb (by rw [← HCN.out]; exact h.2.2)
     clear hbb HHX HHY
     have r0 : w5.cell? ⟨w.heap.size + 1, 0, none⟩ = some (.slice none 0 0) := HZ5.out.cell 0
     have r1 : w5.cell? ⟨w.heap.size + 1, 1, none⟩ = some (.int .i64 0) := HZ5.out.cell 1
     have r2 : w5.cell? ⟨w.heap.size + 1, 2, none⟩ = some (.slice none 0 0) := HZ5.out.cell 2
     have rf : ∀ o, w5.frozen? ⟨w.heap.size + 1, o, none⟩ = false := fun o => froz_of_heap HZ5.out
     go_wp2_with fail
     have hr := heap_set (o := 2) (v := .slice none 0 0) (heap_set (o := 1) (v := .int .i64 0) (heap_set (o := 0) (v := .slice none 0 0) HZ5.out))
     refine bodyPost_ret (v := .tuple #[.agg #[.slice none 0 0, .int .i64 0, .slice none 0 0], .bool false]) ((results_cell_row_tmp Tryd.results8 _ _ (w.heap.size + 1) _ rfl (run_loadVar_row _ _ 27 _ _ (0, 0) _ hr Tryd.underlying27 rfl (by kernel_rfl))).trans (by rfl)) rfl ?_
     exact HNO.out _ (((HB5.out.setCell (by dsimp only; omega) _).setCell (by dsimp only; omega) _).setCell (by dsimp only; omega) _) HN.out
    | true =>
     have HT5 : Hid (((tt.take (k + 1)).all fun x => belowB x (cn : Int)) = true) := by show _ = _; rw [HHX.out, hbb]
     clear hbb HHX HHY
     go_wp2_with fail
     go_roundw
     case rel => exact ⟨k + 1, by omega, by go_num, HT5.out, HA5.out, HZ5.out, HB5.out⟩
     case measure => simp [intOf]; omega
   ·have HY : Hid (subOk d tt) := ⟨HF.out, by rw [HCN.out]; exact HL.out, by
     have h := HT.out
     rw [show k = tt.length by omega, List.take_length, ← HCN.out] at h
     exact h⟩
    have PF := l8SubstS lo d u0 c0 u2 c2 tt ut ct w4 (m0.keep (agree_of_below HB.out lo)) (m2.keep (agree_of_below HB.out lo)) (mt.keep (agree_of_below HB.out lo)) HOK.out (in_form HY.out)
    have c_0 : w4.cell? ⟨w.heap.size, 0, none⟩ = some (.slice u0 d.params.length c0) := HA.out.cell 0
    have c_1 : w4.cell? ⟨w.heap.size, 1, none⟩ = some (.int .i64 d.ret) := HA.out.cell 1
    have c_2 : w4.cell? ⟨w.heap.size, 2, none⟩ = some (.slice u2 d.blocks.length c2) := HA.out.cell 2
    clear HT
    go_wp2_with fail
    refine PF.mono ?_
    rintro e w7 ⟨⟨pu, pc, bu, bc, rfl, hp, hbk⟩, b7⟩
    clear PF c_0 c_1 c_2
    generalize hq : sbFunc (rhoT tt) d = q at *
    have HQ : Hid (sbFunc (rhoT tt) d = q) := hq
    have HB7 : Hid (Below w.heap.size w w7) := HB.out.trans (b7.mono HB.out.size)
    have HZ7 : Hid (At w7 (w.heap.size + 1) #[.slice none 0 0, .int .i64 0, .slice none 0 0] 27) := HZ.out.below b7
    have HPQ : Hid (IntsAt w7 w4.heap.size pu q.params) := hp
    have HBQ : Hid (BlocksAt w7 w4.heap.size bu q.blocks) := hbk
    have hz4 : w.heap.size + 1 < w4.heap.size := HZ.out.lt
    clear b7 HB HZ HA hp hbk hq
    have r0 : w7.cell? ⟨w.heap.size + 1, 0, none⟩ = some (.slice none 0 0) := HZ7.out.cell 0
    have r1 : w7.cell? ⟨w.heap.size + 1, 1, none⟩ = some (.int .i64 0) := HZ7.out.cell 1
    have r2 : w7.cell? ⟨w.heap.size + 1, 2, none⟩ = some (.slice none 0 0) := HZ7.out.cell 2
    have rf : ∀ o, w7.frozen? ⟨w.heap.size + 1, o, none⟩ = false := fun o => froz_of_heap HZ7.out
    go_wp2_with fail
    have hr := (heap_set (o := 2) (v := .slice bu q.blocks.length bc) (heap_set (o := 1) (v := .int .i64 q.ret) (heap_set (o := 0) (v := .slice pu q.params.length pc) HZ7.out)))
    have BB : Below w.heap.size w (((w7.setCell ⟨w.heap.size + 1, 0, none⟩ (.slice pu q.params.length pc)).setCell ⟨w.heap.size + 1, 1, none⟩ (.int .i64 q.ret)).setCell ⟨w.heap.size + 1, 2, none⟩ (.slice bu q.blocks.length bc)) := ((((((HB7.out).setCell (by dsimp only; omega) _)).setCell (by dsimp only; omega) _)).setCell (by dsimp only; omega) _)
    have AG : Agree w4.heap.size w7 (((w7.setCell ⟨w.heap.size + 1, 0, none⟩ (.slice pu q.params.length pc)).setCell ⟨w.heap.size + 1, 1, none⟩ (.int .i64 q.ret)).setCell ⟨w.heap.size + 1, 2, none⟩ (.slice bu q.blocks.length bc)) := ((agree_setCell _ _ _ _ _ (by omega)).trans (agree_setCell _ _ _ _ _ (by omega))).trans (agree_setCell _ _ _ _ _ (by omega))
    generalize (((w7.setCell ⟨w.heap.size + 1, 0, none⟩ (.slice pu q.params.length pc)).setCell ⟨w.heap.size + 1, 1, none⟩ (.int .i64 q.ret)).setCell ⟨w.heap.size + 1, 2, none⟩ (.slice bu q.blocks.length bc)) = W9 at *
    refine bodyPost_ret (v := .tuple #[.agg #[.slice pu q.params.length pc, .int .i64 q.ret, .slice bu q.blocks.length bc], .bool true]) ((results_cell_row_tmp Tryd.results8 _ _ (w.heap.size + 1) _ rfl (run_loadVar_row _ _ 27 _ _ (0, 0) _ hr Tryd.underlying27 rfl (by kernel_rfl))).trans (by rfl)) rfl ?_
    rw [subst_yes HY.out, HQ.out]
    exact ⟨⟨pu, pc, bu, bc, rfl, (HPQ.out.keep AG).low (by omega), (HBQ.out.keep AG).low (by omega)⟩, BB⟩
end Go.Proofs.YtenbodghkpbghaaDoor
namespace Go.Proofs.YtenbodghkpbghaaDoor
open Go.RowKit
theorem ints_cell {w : World} {lo : Nat} {a : Option Addr} {l : List Int} (h : IntsAt w lo a l) {k : Nat} (hk : k < l.length) : ∃ b off, a = some ⟨b, off, none⟩ ∧ w.cell? ⟨b, off + k, none⟩ = some (.int .i64 (l.getD k 0)) := by
 rcases h.2 with h | ⟨b, off, ha, _, _, hc⟩
 ·rw [h] at hk; simp at hk
 ·exact ⟨b, off, ha, hc k hk⟩
set_option maxHeartbeats 1000000 in
theorem sameL (lo lo' : Nat) (a b : Option Addr) (c c' : Nat) (l : List Int) (w : World) (hl : l.length ≤ 1048576) (h : IntsAt w lo a l) (h' : IntsAt w lo' b l) :
  Calls Tryd.prog 32 #[.slice a l.length c, .slice b l.length c'] w fun e w' => e = .returned (.bool true) ∧ ∃ n, w' = w.drewN n := by
 have HI : Hid (IntsAt w lo a l) := h
 have HM : Hid (IntsAt w lo' b l) := h'
 clear h h'
 go_enter Tryd.func32, Tryd.ntmps32
 go_wp2_with fail
 go_loopw [5] (fun q wr => ∃ k : Nat, k ≤ l.length ∧ q = .int .i64 k ∧ ∃ n, wr = w.drewN n) (fun q _ => l.length - (intOf q).toNat)
 case atStart => exact ⟨0, by omega, rfl, 0, rfl⟩
 case round =>
  obtain ⟨k, hk, rfl, n, rfl⟩ := hrel
  by_cases hlt : k < l.length
  ·obtain ⟨b1, o1, rfl, e1⟩ := ints_cell HI.out hlt
   obtain ⟨b2, o2, rfl, e2⟩ := ints_cell HM.out hlt
   obtain ⟨x, HX⟩ : ∃ x : Int, Hid (l.getD k 0 = x) := ⟨_, rfl⟩
   rw [HX.out] at e1 e2
   go_wp2_with fail
   go_quiet (fail)
   go_wp2_with fail
   exact ⟨⟨k + 1, by omega, by go_num, _, rfl⟩, by simp only [intOf]; omega⟩
  ·go_wp2_with fail
   go_ret
   exact ⟨rfl, n, rfl⟩
end Go.Proofs.YtenbodghkpbghaaDoor
