import Derived.Test.YtgojlnclpebdcaaGreatDoorChLR
namespace Go.Proofs.YtgojlnclpebdcaaGreatDoor
open Go.RowKit
set_option linter.unusedVariables false
set_option linter.unusedSimpArgs false
theorem typ_no2 {d : FuncD} {k : Nat} (hk : k < d.blocks.length) (h : blkTB (typeF d) d.ret (d.blocks.getD k block0) = false) : false = typB d :=
 (all_no block0 d.blocks k hk (by rw [h]; decide)).symm
theorem inst_a {i : InstD} {ids funcs : Int} (h : instB i ids funcs = true) (hc : ids ≤ 60) : i.a ≤ 60 := by
 simp only [instB, Bool.and_eq_true, List.all_eq_true] at h
 obtain ⟨⟨⟨h1, h2⟩, h3⟩, h4⟩ := h
 have hb : ∀ id ∈ opsD i, id < ids := fun id hid => (below_yes (h4 id hid)).2
 rcases op_split i.op with ho | ho | ho | ho | ho | ho | ho | ho | ho | ho | ho | ⟨ho, hk⟩
 ·have := hb i.a (by simp [opsD, ho]); omega
 ·have := hb i.a (by simp [opsD, ho, show opB 18 = false by decide]); omega
 ·have := hb i.a (by simp [opsD, ho, show opB 19 = false by decide]); omega
 ·have := hb i.a (by simp [opsD, ho, show opB 20 = false by decide]); omega
 ·simp [fB, ho, opsD, show opB 21 = false by decide] at h3; omega
 ·have := hb i.a (by simp [opsD, ho, show opB 22 = false by decide]); omega
 ·have := hb i.a (by simp [opsD, ho, show opB 23 = false by decide]); omega
 ·have := hb i.a (by simp [opsD, ho]); omega
 ·have := hb i.a (by simp [opsD, ho, show opB 25 = false by decide]); omega
 ·simp [fB, ho] at h3; omega
 ·have := hb i.a (by simp [opsD, ho, show opB 27 = false by decide]); omega
 ·unfold wB at h1
  rw [if_pos hk] at h1; cases h1
theorem Form.inst_at {funcs : Int} {d : FuncD} (h : Form funcs d) {k : Nat} (hk : k < d.blocks.length) : ∀ i ∈ (d.blocks.getD k block0).insts, instB i (cntF d) funcs = true := fun i hi => by
 have := h.blk _ (getD_mem block0 d.blocks k hk)
 simp only [blockB, Bool.and_eq_true, List.all_eq_true] at this
 exact this.1.2 i hi
set_option maxHeartbeats 4000000 in
set_option maxRecDepth 100000 in
theorem typS (lo : Nat) (d : FuncD) (p0 : Option Addr) (c0 : Nat) (p2 : Option Addr) (c2 : Nat) (funcs : Int) (w : World) (hs : SmFunc d) (k0 : IntsAt w lo p0 d.params) (k2 : BlocksAt w lo p2 d.blocks) (hF : Form funcs d) :
  Calls Tryz.prog 58 #[.agg #[.slice p0 d.params.length c0, .int .i64 d.ret, .slice p2 d.blocks.length c2]] w fun e w' => e = .returned (.bool (typB d)) ∧ Below w.heap.size w w' := by
 have hb1 := hF.b1
 have hb10 := hF.b10
 have hc60 := hF.c60
 have HS : Hid (SmFunc d) := hs
 have HF : Hid (Form funcs d) := hF
 have HK0 : Hid (IntsAt w lo p0 d.params) := k0
 have HK2 : Hid (BlocksAt w lo p2 d.blocks) := k2
 have HF0 : Hid _ := FBox.start (d := d) (u0 := p0) (u2 := p2) (c0 := c0) (c2 := c2) (w := w) (T := 36)
 clear hs hF k0 k2
 go_enter Tryz.func58, Tryz.ntmps58
 go_wp2_with fail
 go_loopw [3] (fun i wr => ∃ k : Nat, k ≤ d.blocks.length ∧ i = .int .i64 k ∧ Hid (∀ j, j < k → blkTB (typeF d) d.ret (d.blocks.getD j block0) = true) ∧ Hid (FBox d p0 c0 p2 c2 w wr)) (fun i _ => d.blocks.length - (intOf i).toNat)
 case atStart => exact ⟨0, by omega, rfl, fun j hj => by omega, HF0.out⟩
 case round =>
  obtain ⟨k, hk, rfl, HD, HFo⟩ := hrel
  clear HF0
  obtain ⟨wo, hwo⟩ : ∃ wo, wo = wr := ⟨_, rfl⟩
  subst hwo
  have a2 := HFo.out.a2
  by_cases hlt : k < d.blocks.length
  ·have hW := HFo.out.below
   have hzo := HFo.out.size
   rcases HK2.out.2 with hn | ⟨b, off, hpe, hlo, hb, hcell⟩
   ·simp [hn] at hlt
   subst hpe
   obtain ⟨⟨v0, q0, h0, m0⟩, ⟨v1, q1, h1, m1⟩, h2, h3, h4, h5⟩ := hcell k hlt
   have hfb := HF.out.at hlt
   have hsm := HS.out.2.2 _ (getD_mem block0 d.blocks k hlt)
   have HIB : Hid (∀ i ∈ (d.blocks.getD k block0).insts, instB i (cntF d) funcs = true) := HF.out.inst_at hlt
   have HNO : Hid (blkTB (typeF d) d.ret (d.blocks.getD k block0) = false → false = typB d) := fun h => typ_no2 hlt h
   have HYS : Hid (blkTB (typeF d) d.ret (d.blocks.getD k block0) = true → ∀ j, j < k + 1 → blkTB (typeF d) d.ret (d.blocks.getD j block0) = true) := fun h j hj => by
    by_cases e : j = k
    ·subst e; exact h
    ·exact HD.out j (by omega)
   generalize d.blocks.getD k block0 = x at h0 h1 h2 h3 h4 h5 m0 m1 hsm HNO HYS hfb HIB
   have HFB : Hid (FBlk (cntF d) d.blocks.length funcs x) := hfb
   have e0 : wo.cell? ⟨b, off + k * 6, none⟩ = some (.slice v0 x.phis.length q0) := (cell_block (hW.block b hb)).trans h0
   have e1 : wo.cell? ⟨b, off + k * 6 + 1, none⟩ = some (.slice v1 x.insts.length q1) := (cell_block (hW.block b hb)).trans h1
   have e2 : wo.cell? ⟨b, off + k * 6 + 2, none⟩ = some (.int .i64 x.term.kind) := (cell_block (hW.block b hb)).trans h2
   have e3 : wo.cell? ⟨b, off + k * 6 + 3, none⟩ = some (.int .i64 x.term.a) := (cell_block (hW.block b hb)).trans h3
   have e4 : wo.cell? ⟨b, off + k * 6 + 4, none⟩ = some (.int .i64 x.term.x) := (cell_block (hW.block b hb)).trans h4
   have e5 : wo.cell? ⟨b, off + k * 6 + 5, none⟩ = some (.int .i64 x.term.y) := (cell_block (hW.block b hb)).trans h5
   have M0 := m0.keep (agree_of_below hW lo)
   have M1 := m1.keep (agree_of_below hW lo)
   have s0 := hsm.1.1
   have s1 := hsm.2.1
   have HWo : Hid (Below w.heap.size w wo) := hW
   clear hcell h0 h1 h2 h3 h4 h5 m0 m1 hsm hfb hW HD
   go_wp2_with fail
   clear e0 e1 e2 e3 e4 e5
   go_loopw [5] (fun i wr => ∃ j : Nat, j ≤ x.phis.length ∧ i = .int .i64 j ∧ Hid (∀ q, q < j → ((x.phis.getD q phi0).ins.all fun id => typeF d id == (x.phis.getD q phi0).w) = true) ∧ Hid (Below (wo.heap.size + 1) (wo.alloc (.cells #[.slice v0 x.phis.length q0, .slice v1 x.insts.length q1, .int .i64 x.term.kind, .int .i64 x.term.a, .int .i64 x.term.x, .int .i64 x.term.y] 43)) wr)) (fun i _ => x.phis.length - (intOf i).toNat)
   case atStart => exact ⟨0, by omega, rfl, fun q hq => by omega, Below.refl _ _⟩
   case round =>
    obtain ⟨j, hj, rfl, HJ, HB⟩ := hrel
    obtain ⟨wp, hwp⟩ : ∃ wp, wp = wr := ⟨_, rfl⟩
    subst hwp
    have hzp : wo.heap.size + 1 ≤ wp.heap.size := by have := HB.out.size; simp at this; omega
    obtain ⟨x0, x1, x2, x3, x4, x5⟩ := cells6c HB.out
    clear a2
    by_cases hjl : j < x.phis.length
    ·rcases M0.2 with hn | ⟨pb, po, rfl, hplo, hpb, hpc⟩
     ·simp [hn] at hjl
     obtain ⟨hi0, ⟨iu, iq, hi1, im⟩⟩ := hpc j hjl
     have hil := im.1
     have HID : Hid (∀ id ∈ (x.phis.getD j phi0).ins, 0 ≤ id ∧ id < (cntF d : Int)) := HFB.out.phi _ (getD_mem phi0 x.phis j hjl)
     have hl10 := HFB.out.phl _ (getD_mem phi0 x.phis j hjl)
     have PNO : Hid (((x.phis.getD j phi0).ins.all fun id => typeF d id == (x.phis.getD j phi0).w) = false → blkTB (typeF d) d.ret x = false) := fun h => by
      have := all_no (f := fun p : PhiD => p.ins.all fun id => typeF d id == p.w) phi0 x.phis j hjl (by simp only [h]; decide)
      unfold blkTB; rw [this]; rfl
     have PYS : Hid (((x.phis.getD j phi0).ins.all fun id => typeF d id == (x.phis.getD j phi0).w) = true → ∀ q, q < j + 1 → ((x.phis.getD q phi0).ins.all fun id => typeF d id == (x.phis.getD q phi0).w) = true) := fun h q hq => by
      by_cases e : q = j
      ·subst e; exact h
      ·exact HJ.out q (by omega)
     generalize x.phis.getD j phi0 = p at hi0 hi1 im hil HID PNO PYS hl10
     have HI0 : Hid (wo.cell? ⟨pb, po + j * 2, none⟩ = some (.int .i64 p.w)) := hi0
     have HI1 : Hid (wo.cell? ⟨pb, po + j * 2 + 1, none⟩ = some (.slice iu p.ins.length iq)) := hi1
     have HIM : Hid (IntsAt wo lo iu p.ins) := im
     have HMM : Hid (PhisAt wo lo (some ⟨pb, po, none⟩) x.phis) := M0
     clear hpc hi0 hi1 im HJ M0 x1 x2 x3 x4 x5
     go_wp2_with fail
     clear x0
     go_loopw [6] (fun i wr => ∃ r : Nat, r ≤ p.ins.length ∧ i = .int .i64 r ∧ Hid (∀ q, q < r → (typeF d (p.ins.getD q 0) == p.w) = true) ∧ Hid (Below (wo.heap.size + 1) (wo.alloc (.cells #[.slice (some ⟨pb, po, none⟩) x.phis.length q0, .slice v1 x.insts.length q1, .int .i64 x.term.kind, .int .i64 x.term.a, .int .i64 x.term.x, .int .i64 x.term.y] 43)) wr)) (fun i _ => p.ins.length - (intOf i).toNat)
     case atStart => exact ⟨0, by omega, rfl, fun q hq => by omega, HB.out⟩
     case round =>
      obtain ⟨r, hr, rfl, HRR, HC⟩ := hrel
      obtain ⟨wq, hwq⟩ : ∃ wq, wq = wr := ⟨_, rfl⟩
      subst hwq
      have hzq : wo.heap.size + 1 ≤ wq.heap.size := by have := HC.out.size; simp at this; omega
      have hWq : Below wo.heap.size wo wq := below_box HC.out
      have HWq : Hid (Below w.heap.size w wq) := HWo.out.trans (hWq.mono HWo.out.size)
      obtain ⟨x0, x1, x2, x3, x4, x5⟩ := cells6c HC.out
      have f0 := (bcell hWq _ _ hpb).trans HI0.out
      have f1 := (bcell hWq _ _ hpb).trans HI1.out
      clear x1 x2 x3 x4 x5
      by_cases hrl : r < p.ins.length
      ·rcases HIM.out.2 with hn | ⟨ib, io, hie, hilo, hib, hic⟩
       ·simp [hn] at hrl
       subst hie
       have z0 : wq.cell? ⟨ib, io + r, none⟩ = some (.int .i64 (p.ins.getD r 0)) := (bcell hWq _ _ hib).trans (hic r hrl)
       have hid := HID.out _ (getD_mem 0 p.ins r hrl)
       have INO : Hid ((typeF d (p.ins.getD r 0) == p.w) = false → (p.ins.all fun id => typeF d id == p.w) = false) := fun h => all_no 0 p.ins r hrl (by simp only [h]; decide)
       have IYS : Hid ((typeF d (p.ins.getD r 0) == p.w) = true → ∀ q, q < r + 1 → (typeF d (p.ins.getD q 0) == p.w) = true) := fun h q hq => by
        by_cases e : q = r
        ·subst e; exact h
        ·exact HRR.out q (by omega)
       generalize p.ins.getD r 0 = id at z0 hid INO IYS
       have hidm : id ≤ 9223372036854775807 := by omega
       have HFq : Hid _ := HFo.out.keep hWq
       have F0 := HFq.out.a0
       have F1 := HFq.out.a1
       have F2 := HFq.out.a2
       have KK0 : Hid (IntsAt wq lo p0 d.params) := HK0.out.keep (agree_of_below HWq.out _)
       have KK2 : Hid (BlocksAt wq lo (some ⟨b, off, none⟩) d.blocks) := HK2.out.keep (agree_of_below HWq.out _)
       have l1 : w.heap.size < wq.heap.size := by omega
       have l2 : wo.heap.size < wq.heap.size := by omega
       have l3 : pb < wq.heap.size := by omega
       have l4 : ib < wq.heap.size := by omega
       generalize htv : typeF d id = tv at INO IYS
       have HTV : Hid (typeF d id = tv) := htv
       clear hic hid htv hWq
       by_cases hq : tv = p.w
       ·have HTV2 : Hid (typeF d id = p.w) := HTV.out.trans hq
        rw [hq] at INO IYS
        clear hq HTV
        have TT : ∀ xx : Abv (fun v => Below wq.heap.size wq v), Calls Tryz.prog 95 #[.agg #[.slice p0 d.params.length c0, .int .i64 d.ret, .slice (some ⟨b, off, none⟩) d.blocks.length c2], .int .i64 id] xx.v fun e w'' => e = .returned (.int .i64 p.w) ∧ ∃ y : Abv (fun v => Below wq.heap.size wq v), w'' = y.v := fun xx => by rw [← HTV2.out]; exact typeAbv lo d p0 c0 (some ⟨b, off, none⟩) c2 id wq xx HS.out KK0.out KK2.out hidm
        go_wp2_with fail
        have hne : Nonempty (Abv (fun v => Below wq.heap.size wq v)) := abv_ne (Below.refl _ _)
        have y0 := fun xx : Abv (fun v => Below wq.heap.size wq v) => (bcell xx.ok _ _ l1).trans F0
        have y1 := fun xx : Abv (fun v => Below wq.heap.size wq v) => (bcell xx.ok _ _ l1).trans F1
        have y2 := fun xx : Abv (fun v => Below wq.heap.size wq v) => (bcell xx.ok _ _ l1).trans F2
        have y3 := fun xx : Abv (fun v => Below wq.heap.size wq v) => (bcell xx.ok _ _ l2).trans x0
        have y4 := fun xx : Abv (fun v => Below wq.heap.size wq v) => (bcell xx.ok _ _ l3).trans f0
        have y5 := fun xx : Abv (fun v => Below wq.heap.size wq v) => (bcell xx.ok _ _ l3).trans f1
        have y6 := fun xx : Abv (fun v => Below wq.heap.size wq v) => (bcell xx.ok _ _ l4).trans z0
        clear F0 F1 F2 x0 f0 f1 z0
        refine wp_region_abv (fun v => Below wq.heap.size wq v) (by kernel_rfl) (by kernel_rfl) (drew_below (Below.refl _ _)) ?_
        repeat (go_big_quiet_step (first | (go_at_call 95; with_reducible exact TT _)))
        refine wpQuiet_nil ?_
        rintro w9 ⟨⟨w9, h9⟩, rfl⟩
        have H9 : Hid (Below wq.heap.size wq w9) := h9
        clear h9 hne y0 y1 y2 y3 y4 y5 y6
        go_wp2_with fail
        go_roundw
        case rel => exact ⟨r + 1, by omega, by go_num, IYS.out (by simp), HC.out.trans (H9.out.mono hzq)⟩
        case measure => simp [intOf]; omega
       ·have E : Hid (false = typB d) := HNO.out (PNO.out (INO.out (by simp [hq])))
        have TT : ∀ xx : Abv (fun v => Below wq.heap.size wq v), Calls Tryz.prog 95 #[.agg #[.slice p0 d.params.length c0, .int .i64 d.ret, .slice (some ⟨b, off, none⟩) d.blocks.length c2], .int .i64 id] xx.v fun e w'' => e = .returned (.int .i64 tv) ∧ ∃ y : Abv (fun v => Below wq.heap.size wq v), w'' = y.v := fun xx => by rw [← HTV.out]; exact typeAbv lo d p0 c0 (some ⟨b, off, none⟩) c2 id wq xx HS.out KK0.out KK2.out hidm
        go_wp2_with fail
        have hne : Nonempty (Abv (fun v => Below wq.heap.size wq v)) := abv_ne (Below.refl _ _)
        have y0 := fun xx : Abv (fun v => Below wq.heap.size wq v) => (bcell xx.ok _ _ l1).trans F0
        have y1 := fun xx : Abv (fun v => Below wq.heap.size wq v) => (bcell xx.ok _ _ l1).trans F1
        have y2 := fun xx : Abv (fun v => Below wq.heap.size wq v) => (bcell xx.ok _ _ l1).trans F2
        have y3 := fun xx : Abv (fun v => Below wq.heap.size wq v) => (bcell xx.ok _ _ l2).trans x0
        have y4 := fun xx : Abv (fun v => Below wq.heap.size wq v) => (bcell xx.ok _ _ l3).trans f0
        have y5 := fun xx : Abv (fun v => Below wq.heap.size wq v) => (bcell xx.ok _ _ l3).trans f1
        have y6 := fun xx : Abv (fun v => Below wq.heap.size wq v) => (bcell xx.ok _ _ l4).trans z0
        clear F0 F1 F2 x0 f0 f1 z0
        refine wp_region_abv (fun v => Below wq.heap.size wq v) (by kernel_rfl) (by kernel_rfl) (drew_below (Below.refl _ _)) ?_
        repeat (go_big_quiet_step (first | (go_at_call 95; with_reducible exact TT _)))
        refine wpQuiet_nil ?_
        rintro w9 ⟨⟨w9, h9⟩, rfl⟩
        have H9 : Hid (Below wq.heap.size wq w9) := h9
        clear h9 hne y0 y1 y2 y3 y4 y5 y6
        go_wp2_with fail
        go_ret
        exact ⟨ret_bool E.out, HWq.out.trans (H9.out.mono HWq.out.size)⟩
      ·have YES : Hid ((p.ins.all fun id => typeF d id == p.w) = true) := all_yes 0 p.ins (fun q hq => HRR.out q (by omega))
       clear hWq HRR
       go_wp2_with fail
       go_roundw
       case rel => exact ⟨j + 1, by omega, by go_num, PYS.out YES.out, HC.out⟩
       case measure => simp [intOf]; omega
    ·have YES : Hid ((x.phis.all fun p => p.ins.all fun id => typeF d id == p.w) = true) := all_yes phi0 x.phis (fun q hq => HJ.out q (by omega))
     clear M0 HJ
     go_wp2_with fail
     clear x0 x1 x2 x3 x4 x5
     go_loopw [7] (fun i wr => ∃ j : Nat, j ≤ x.insts.length ∧ i = .int .i64 j ∧ Hid (∀ q, q < j → argB (typeF d) (x.insts.getD q inst0) = true) ∧ Hid (Below (wo.heap.size + 1) (wo.alloc (.cells #[.slice v0 x.phis.length q0, .slice v1 x.insts.length q1, .int .i64 x.term.kind, .int .i64 x.term.a, .int .i64 x.term.x, .int .i64 x.term.y] 43)) wr)) (fun i _ => x.insts.length - (intOf i).toNat)
     case atStart => exact ⟨0, by omega, rfl, fun q hq => by omega, HB.out⟩
     case round =>
      obtain ⟨j, hj, rfl, HJ, HC⟩ := hrel
      obtain ⟨wq, hwq⟩ : ∃ wq, wq = wr := ⟨_, rfl⟩
      subst hwq
      clear HB hzp
      have hWq : Below wo.heap.size wo wq := below_box HC.out
      have hzq : wo.heap.size + 1 ≤ wq.heap.size := by have := HC.out.size; simp at this; omega
      have HWq : Hid (Below w.heap.size w wq) := HWo.out.trans (hWq.mono HWo.out.size)
      obtain ⟨x0, x1, x2, x3, x4, x5⟩ := cells6c HC.out
      have HFq : Hid _ := HFo.out.keep hWq
      have F0 := HFq.out.a0
      have F1 := HFq.out.a1
      have F2 := HFq.out.a2
      have KK0 : Hid (IntsAt wq lo p0 d.params) := HK0.out.keep (agree_of_below HWq.out _)
      have KK2 : Hid (BlocksAt wq lo (some ⟨b, off, none⟩) d.blocks) := HK2.out.keep (agree_of_below HWq.out _)
      have l1 : w.heap.size < wq.heap.size := by omega
      have l2 : wo.heap.size < wq.heap.size := by omega
      by_cases hjl : j < x.insts.length
      ·rcases M1.2 with hn | ⟨pb, po, rfl, hplo, hpb, hpc⟩
       ·simp [hn] at hjl
       obtain ⟨i0, i1, i2, i3, i4, i5, ⟨iu, iq, i6, im⟩⟩ := hpc j hjl
       have HOPS : Hid (∀ id ∈ opsD (x.insts.getD j inst0), 0 ≤ id ∧ id < (cntF d : Int)) := HFB.out.ops _ (getD_mem inst0 x.insts j hjl)
       have hia := inst_a (HIB.out _ (getD_mem inst0 x.insts j hjl)) (by omega)
       have INO : Hid (argB (typeF d) (x.insts.getD j inst0) = false → blkTB (typeF d) d.ret x = false) := fun h => by
        have := all_no (f := argB (typeF d)) inst0 x.insts j hjl (by rw [h]; decide)
        unfold blkTB; rw [this]; simp
       have IYS : Hid (argB (typeF d) (x.insts.getD j inst0) = true → ∀ q, q < j + 1 → argB (typeF d) (x.insts.getD q inst0) = true) := fun h q hq => by
        by_cases e : q = j
        ·subst e; exact h
        ·exact HJ.out q (by omega)
       generalize x.insts.getD j inst0 = p at i0 i1 i2 i3 i4 i5 i6 im HOPS INO IYS hia
       have f0 := (bcell hWq _ _ hpb).trans i0
       have f1 := (bcell hWq _ _ hpb).trans i1
       have f2 := (bcell hWq _ _ hpb).trans i2
       have f3 := (bcell hWq _ _ hpb).trans i3
       have f4 := (bcell hWq _ _ hpb).trans i4
       have f5 := (bcell hWq _ _ hpb).trans i5
       have f6 := (bcell hWq _ _ hpb).trans i6
       have l3 : pb < wq.heap.size := by omega
       generalize hbv : argB (typeF d) p = bv at INO IYS
       have HBV : Hid (argB (typeF d) p = bv) := hbv
       clear hpc i0 i1 i2 i3 i4 i5 i6 im M1 HJ hbv hWq
       have TA : ∀ xx : Abv (fun v => Below wq.heap.size wq v), Calls Tryz.prog 96 #[.agg #[.slice p0 d.params.length c0, .int .i64 d.ret, .slice (some ⟨b, off, none⟩) d.blocks.length c2], .agg #[.int .i64 p.op, .int .i64 p.w, .int .i64 p.a, .int .i64 p.b, .int .i64 p.c, .int .i64 p.imm, .slice iu p.args.length iq]] xx.v fun e w'' => e = .returned (.bool bv) ∧ ∃ y : Abv (fun v => Below wq.heap.size wq v), w'' = y.v := fun xx => by
        rw [← HBV.out]
        exact abv_call xx (argS lo d p0 c0 (some ⟨b, off, none⟩) c2 p iu iq xx.v HS.out (KK0.out.keep (agree_of_below xx.ok _)) (KK2.out.keep (agree_of_below xx.ok _)) (by omega) (fun id hid => ⟨by have := HOPS.out id hid; omega, HF.out.type_ge (HOPS.out id hid).1 (HOPS.out id hid).2⟩))
       cases bv with
       | true =>
        have HQ : Hid (True) := trivial
        go_wp2_with fail
        have hne : Nonempty (Abv (fun v => Below wq.heap.size wq v)) := abv_ne (Below.refl _ _)
        have y0 := fun xx : Abv (fun v => Below wq.heap.size wq v) => (bcell xx.ok _ _ l1).trans F0
        have y1 := fun xx : Abv (fun v => Below wq.heap.size wq v) => (bcell xx.ok _ _ l1).trans F1
        have y2 := fun xx : Abv (fun v => Below wq.heap.size wq v) => (bcell xx.ok _ _ l1).trans F2
        have y3 := fun xx : Abv (fun v => Below wq.heap.size wq v) => (bcell xx.ok _ _ l2).trans x1
        have z0 := fun xx : Abv (fun v => Below wq.heap.size wq v) => (bcell xx.ok _ _ l3).trans f0
        have z1 := fun xx : Abv (fun v => Below wq.heap.size wq v) => (bcell xx.ok _ _ l3).trans f1
        have z2 := fun xx : Abv (fun v => Below wq.heap.size wq v) => (bcell xx.ok _ _ l3).trans f2
        have z3 := fun xx : Abv (fun v => Below wq.heap.size wq v) => (bcell xx.ok _ _ l3).trans f3
        have z4 := fun xx : Abv (fun v => Below wq.heap.size wq v) => (bcell xx.ok _ _ l3).trans f4
        have z5 := fun xx : Abv (fun v => Below wq.heap.size wq v) => (bcell xx.ok _ _ l3).trans f5
        have z6 := fun xx : Abv (fun v => Below wq.heap.size wq v) => (bcell xx.ok _ _ l3).trans f6
        clear F0 F1 F2 x0 x1 x2 x3 x4 x5 f0 f1 f2 f3 f4 f5 f6
        refine wp_region_abv (fun v => Below wq.heap.size wq v) (by kernel_rfl) (by kernel_rfl) (drew_below (Below.refl _ _)) ?_
        repeat (go_big_quiet_step (first | (go_at_call 96; with_reducible exact TA _)))
        refine wpQuiet_nil ?_
        rintro w9 ⟨⟨w9, h9⟩, rfl⟩
        have H9 : Hid (Below wq.heap.size wq w9) := h9
        clear h9 hne y0 y1 y2 y3 z0 z1 z2 z3 z4 z5 z6
        go_wp2_with fail
        go_roundw
        case rel => exact ⟨j + 1, by omega, by go_num, IYS.out (by first | rfl | trivial), HC.out.trans (H9.out.mono hzq)⟩
        case measure => simp [intOf]; omega
       | false =>
        have E : Hid (false = typB d) := HNO.out (INO.out rfl)
        go_wp2_with fail
        have hne : Nonempty (Abv (fun v => Below wq.heap.size wq v)) := abv_ne (Below.refl _ _)
        have y0 := fun xx : Abv (fun v => Below wq.heap.size wq v) => (bcell xx.ok _ _ l1).trans F0
        have y1 := fun xx : Abv (fun v => Below wq.heap.size wq v) => (bcell xx.ok _ _ l1).trans F1
        have y2 := fun xx : Abv (fun v => Below wq.heap.size wq v) => (bcell xx.ok _ _ l1).trans F2
        have y3 := fun xx : Abv (fun v => Below wq.heap.size wq v) => (bcell xx.ok _ _ l2).trans x1
        have z0 := fun xx : Abv (fun v => Below wq.heap.size wq v) => (bcell xx.ok _ _ l3).trans f0
        have z1 := fun xx : Abv (fun v => Below wq.heap.size wq v) => (bcell xx.ok _ _ l3).trans f1
        have z2 := fun xx : Abv (fun v => Below wq.heap.size wq v) => (bcell xx.ok _ _ l3).trans f2
        have z3 := fun xx : Abv (fun v => Below wq.heap.size wq v) => (bcell xx.ok _ _ l3).trans f3
        have z4 := fun xx : Abv (fun v => Below wq.heap.size wq v) => (bcell xx.ok _ _ l3).trans f4
        have z5 := fun xx : Abv (fun v => Below wq.heap.size wq v) => (bcell xx.ok _ _ l3).trans f5
        have z6 := fun xx : Abv (fun v => Below wq.heap.size wq v) => (bcell xx.ok _ _ l3).trans f6
        clear F0 F1 F2 x0 x1 x2 x3 x4 x5 f0 f1 f2 f3 f4 f5 f6
        refine wp_region_abv (fun v => Below wq.heap.size wq v) (by kernel_rfl) (by kernel_rfl) (drew_below (Below.refl _ _)) ?_
        repeat (go_big_quiet_step (first | (go_at_call 96; with_reducible exact TA _)))
        refine wpQuiet_nil ?_
        rintro w9 ⟨⟨w9, h9⟩, rfl⟩
        have H9 : Hid (Below wq.heap.size wq w9) := h9
        clear h9 hne y0 y1 y2 y3 z0 z1 z2 z3 z4 z5 z6
        go_wp2_with fail
        go_ret
        exact ⟨ret_bool E.out, HWq.out.trans (H9.out.mono HWq.out.size)⟩
      ·have YES2 : Hid (x.insts.all (argB (typeF d)) = true) := all_yes inst0 x.insts (fun q hq => HJ.out q (by omega))
       clear M1 HJ
       have BT : Hid (blkTB (typeF d) d.ret x = trmB (typeF d) x.term d.ret) := by show _ = _; unfold blkTB; rw [YES.out, YES2.out]; rfl
       clear hWq
       by_cases k1 : x.term.kind = 1
       ·have ha := Form.term_a HFB.out (.inl k1)
        have hidm : x.term.a ≤ 9223372036854775807 := by omega
        have BT2 : Hid (blkTB (typeF d) d.ret x = (typeF d x.term.a == d.ret)) := by show _ = _; rw [BT.out, trmB, if_pos k1]
        generalize htv : typeF d x.term.a = tv at BT2
        have HTV : Hid (typeF d x.term.a = tv) := htv
        have kd : (x.term.kind == 1) = true := by simp [k1]
        clear htv
        rw [k1] at x2
        by_cases hq : tv = d.ret
        ·have hq3 : (tv != d.ret) = false := by simp [hq]
         have YS : Hid (blkTB (typeF d) d.ret x = true) := by show _ = _; rw [BT2.out]; simp [hq]
         have TT : ∀ xx : Abv (fun v => Below wq.heap.size wq v), Calls Tryz.prog 95 #[.agg #[.slice p0 d.params.length c0, .int .i64 d.ret, .slice (some ⟨b, off, none⟩) d.blocks.length c2], .int .i64 x.term.a] xx.v fun e w'' => e = .returned (.int .i64 tv) ∧ ∃ y : Abv (fun v => Below wq.heap.size wq v), w'' = y.v := fun xx => by rw [← HTV.out]; exact typeAbv lo d p0 c0 (some ⟨b, off, none⟩) c2 x.term.a wq xx HS.out KK0.out KK2.out hidm
         go_wp2_with fail
         have hne : Nonempty (Abv (fun v => Below wq.heap.size wq v)) := abv_ne (Below.refl _ _)
         have y0 := fun xx : Abv (fun v => Below wq.heap.size wq v) => (bcell xx.ok _ _ l1).trans F0
         have y1 := fun xx : Abv (fun v => Below wq.heap.size wq v) => (bcell xx.ok _ _ l1).trans F1
         have y2 := fun xx : Abv (fun v => Below wq.heap.size wq v) => (bcell xx.ok _ _ l1).trans F2
         have y3 := fun xx : Abv (fun v => Below wq.heap.size wq v) => (bcell xx.ok _ _ l2).trans x2
         have y4 := fun xx : Abv (fun v => Below wq.heap.size wq v) => (bcell xx.ok _ _ l2).trans x3
         clear F0 F1 F2 x0 x1 x2 x3 x4 x5
         refine wp_region_abv (fun v => Below wq.heap.size wq v) (by kernel_rfl) (by kernel_rfl) (drew_below (Below.refl _ _)) ?_
         repeat (go_big_quiet_step (first | (go_at_call 95; with_reducible exact TT _)))
         refine wpQuiet_nil ?_
         rintro w9 ⟨⟨w9, h9⟩, rfl⟩
         have H9 : Hid (Below wq.heap.size wq w9) := h9
         clear h9 hne y0 y1 y2 y3 y4
         go_wp2_with fail
         go_roundw
         case rel => exact ⟨k + 1, by omega, by go_num, HYS.out YS.out, HFo.out.keep ((below_box HC.out).trans (H9.out.mono (by omega)))⟩
         case measure => simp [intOf]; omega
        ·have hq3 : (tv != d.ret) = true := by simp [hq]
         have E : Hid (false = typB d) := HNO.out (by rw [BT2.out]; simp [hq])
         have TT : ∀ xx : Abv (fun v => Below wq.heap.size wq v), Calls Tryz.prog 95 #[.agg #[.slice p0 d.params.length c0, .int .i64 d.ret, .slice (some ⟨b, off, none⟩) d.blocks.length c2], .int .i64 x.term.a] xx.v fun e w'' => e = .returned (.int .i64 tv) ∧ ∃ y : Abv (fun v => Below wq.heap.size wq v), w'' = y.v := fun xx => by rw [← HTV.out]; exact typeAbv lo d p0 c0 (some ⟨b, off, none⟩) c2 x.term.a wq xx HS.out KK0.out KK2.out hidm
         go_wp2_with fail
         have hne : Nonempty (Abv (fun v => Below wq.heap.size wq v)) := abv_ne (Below.refl _ _)
         have y0 := fun xx : Abv (fun v => Below wq.heap.size wq v) => (bcell xx.ok _ _ l1).trans F0
         have y1 := fun xx : Abv (fun v => Below wq.heap.size wq v) => (bcell xx.ok _ _ l1).trans F1
         have y2 := fun xx : Abv (fun v => Below wq.heap.size wq v) => (bcell xx.ok _ _ l1).trans F2
         have y3 := fun xx : Abv (fun v => Below wq.heap.size wq v) => (bcell xx.ok _ _ l2).trans x2
         have y4 := fun xx : Abv (fun v => Below wq.heap.size wq v) => (bcell xx.ok _ _ l2).trans x3
         clear F0 F1 F2 x0 x1 x2 x3 x4 x5
         refine wp_region_abv (fun v => Below wq.heap.size wq v) (by kernel_rfl) (by kernel_rfl) (drew_below (Below.refl _ _)) ?_
         repeat (go_big_quiet_step (first | (go_at_call 95; with_reducible exact TT _)))
         refine wpQuiet_nil ?_
         rintro w9 ⟨⟨w9, h9⟩, rfl⟩
         have H9 : Hid (Below wq.heap.size wq w9) := h9
         clear h9 hne y0 y1 y2 y3 y4
         go_wp2_with fail
         go_ret
         exact ⟨ret_bool E.out, HWq.out.trans (H9.out.mono HWq.out.size)⟩
       ·by_cases k3 : x.term.kind = 3
        ·have ha := Form.term_a HFB.out (.inr k3)
         have hidm : x.term.a ≤ 9223372036854775807 := by omega
         have BT2 : Hid (blkTB (typeF d) d.ret x = (typeF d x.term.a == 1)) := by show _ = _; rw [BT.out, trmB, if_neg k1, if_pos k3]
         generalize htv : typeF d x.term.a = tv at BT2
         have HTV : Hid (typeF d x.term.a = tv) := htv
         clear htv
         rw [k3] at x2
         by_cases hq : tv = 1
         ·have hq3 : (tv != 1) = false := by simp [hq]
          have YS : Hid (blkTB (typeF d) d.ret x = true) := by show _ = _; rw [BT2.out]; simp [hq]
          have TT : ∀ xx : Abv (fun v => Below wq.heap.size wq v), Calls Tryz.prog 95 #[.agg #[.slice p0 d.params.length c0, .int .i64 d.ret, .slice (some ⟨b, off, none⟩) d.blocks.length c2], .int .i64 x.term.a] xx.v fun e w'' => e = .returned (.int .i64 tv) ∧ ∃ y : Abv (fun v => Below wq.heap.size wq v), w'' = y.v := fun xx => by rw [← HTV.out]; exact typeAbv lo d p0 c0 (some ⟨b, off, none⟩) c2 x.term.a wq xx HS.out KK0.out KK2.out hidm
          go_wp2_with fail
          have hne : Nonempty (Abv (fun v => Below wq.heap.size wq v)) := abv_ne (Below.refl _ _)
          have y0 := fun xx : Abv (fun v => Below wq.heap.size wq v) => (bcell xx.ok _ _ l1).trans F0
          have y1 := fun xx : Abv (fun v => Below wq.heap.size wq v) => (bcell xx.ok _ _ l1).trans F1
          have y2 := fun xx : Abv (fun v => Below wq.heap.size wq v) => (bcell xx.ok _ _ l1).trans F2
          have y3 := fun xx : Abv (fun v => Below wq.heap.size wq v) => (bcell xx.ok _ _ l2).trans x2
          have y4 := fun xx : Abv (fun v => Below wq.heap.size wq v) => (bcell xx.ok _ _ l2).trans x3
          clear F0 F1 F2 x0 x1 x2 x3 x4 x5
          refine wp_region_abv (fun v => Below wq.heap.size wq v) (by kernel_rfl) (by kernel_rfl) (drew_below (Below.refl _ _)) ?_
          repeat (go_big_quiet_step (first | (go_at_call 95; with_reducible exact TT _)))
          refine wpQuiet_nil ?_
          rintro w9 ⟨⟨w9, h9⟩, rfl⟩
          have H9 : Hid (Below wq.heap.size wq w9) := h9
          clear h9 hne y0 y1 y2 y3 y4
          go_wp2_with fail
          go_roundw
          case rel => exact ⟨k + 1, by omega, by go_num, HYS.out YS.out, HFo.out.keep ((below_box HC.out).trans (H9.out.mono (by omega)))⟩
          case measure => simp [intOf]; omega
         ·have hq3 : (tv != 1) = true := by simp [hq]
          have E : Hid (false = typB d) := HNO.out (by rw [BT2.out]; simp [hq])
          have TT : ∀ xx : Abv (fun v => Below wq.heap.size wq v), Calls Tryz.prog 95 #[.agg #[.slice p0 d.params.length c0, .int .i64 d.ret, .slice (some ⟨b, off, none⟩) d.blocks.length c2], .int .i64 x.term.a] xx.v fun e w'' => e = .returned (.int .i64 tv) ∧ ∃ y : Abv (fun v => Below wq.heap.size wq v), w'' = y.v := fun xx => by rw [← HTV.out]; exact typeAbv lo d p0 c0 (some ⟨b, off, none⟩) c2 x.term.a wq xx HS.out KK0.out KK2.out hidm
          go_wp2_with fail
          have hne : Nonempty (Abv (fun v => Below wq.heap.size wq v)) := abv_ne (Below.refl _ _)
          have y0 := fun xx : Abv (fun v => Below wq.heap.size wq v) => (bcell xx.ok _ _ l1).trans F0
          have y1 := fun xx : Abv (fun v => Below wq.heap.size wq v) => (bcell xx.ok _ _ l1).trans F1
          have y2 := fun xx : Abv (fun v => Below wq.heap.size wq v) => (bcell xx.ok _ _ l1).trans F2
          have y3 := fun xx : Abv (fun v => Below wq.heap.size wq v) => (bcell xx.ok _ _ l2).trans x2
          have y4 := fun xx : Abv (fun v => Below wq.heap.size wq v) => (bcell xx.ok _ _ l2).trans x3
          clear F0 F1 F2 x0 x1 x2 x3 x4 x5
          refine wp_region_abv (fun v => Below wq.heap.size wq v) (by kernel_rfl) (by kernel_rfl) (drew_below (Below.refl _ _)) ?_
          repeat (go_big_quiet_step (first | (go_at_call 95; with_reducible exact TT _)))
          refine wpQuiet_nil ?_
          rintro w9 ⟨⟨w9, h9⟩, rfl⟩
          have H9 : Hid (Below wq.heap.size wq w9) := h9
          clear h9 hne y0 y1 y2 y3 y4
          go_wp2_with fail
          go_ret
          exact ⟨ret_bool E.out, HWq.out.trans (H9.out.mono HWq.out.size)⟩
        ·have YS : Hid (blkTB (typeF d) d.ret x = true) := by show _ = _; rw [BT.out, trmB, if_neg k1, if_neg k3]
         have kd : (x.term.kind == 1) = false := by simp [k1]
         have kd1 : decide (x.term.kind = 1) = false := by simp [k1]
         have kd2 : (x.term.kind == 3) = false := by simp [k3]
         have kd3 : decide (x.term.kind = 3) = false := by simp [k3]
         go_wp2_with fail
         have hne : Nonempty (Abv (fun v => Below wq.heap.size wq v)) := abv_ne (Below.refl _ _)
         have y0 := fun xx : Abv (fun v => Below wq.heap.size wq v) => (bcell xx.ok _ _ l1).trans F0
         have y1 := fun xx : Abv (fun v => Below wq.heap.size wq v) => (bcell xx.ok _ _ l1).trans F1
         have y2 := fun xx : Abv (fun v => Below wq.heap.size wq v) => (bcell xx.ok _ _ l1).trans F2
         have y3 := fun xx : Abv (fun v => Below wq.heap.size wq v) => (bcell xx.ok _ _ l2).trans x2
         have y4 := fun xx : Abv (fun v => Below wq.heap.size wq v) => (bcell xx.ok _ _ l2).trans x3
         clear F0 F1 F2 x0 x1 x2 x3 x4 x5
         refine wp_region_abv (fun v => Below wq.heap.size wq v) (by kernel_rfl) (by kernel_rfl) (drew_below (Below.refl _ _)) ?_
         repeat (go_big_quiet_step (fail))
         refine wpQuiet_nil ?_
         rintro w9 ⟨⟨w9, h9⟩, rfl⟩
         have H9 : Hid (Below wq.heap.size wq w9) := h9
         clear h9 hne y0 y1 y2 y3 y4
         go_wp2_with fail
         go_roundw
         case rel => exact ⟨k + 1, by omega, by go_num, HYS.out YS.out, HFo.out.keep ((below_box HC.out).trans (H9.out.mono (by omega)))⟩
         case measure => simp [intOf]; omega
  ·have E : Hid (true = typB d) := (all_yes block0 d.blocks (fun q hq => HD.out q (by omega))).symm
   go_wp2_with fail
   go_ret
   exact ⟨ret_bool E.out, HFo.out.below⟩
end Go.Proofs.YtgojlnclpebdcaaGreatDoor
