import Derived.Test.YtgojlnclpebdcaaGreatDoorChMR
import Derived.Test.YtgojlnclpebdcaaGreatDoorChFR
import Derived.Test.YtgojlnclpebdcaaGreatDoorFmDR
namespace Go.Proofs.YtgojlnclpebdcaaGreatDoor
open Go.RowKit
set_option linter.unusedVariables false
set_option linter.unusedSimpArgs false
set_option maxHeartbeats 8000000 in
set_option maxRecDepth 100000 in
theorem clsS (lo : Nat) (l : List FuncD) (d : FuncD) (pm : Option Addr) (cm : Nat) (p0 : Option Addr) (c0 : Nat) (p2 : Option Addr) (c2 : Nat) (w : World) (hsl : SmMod l) (hs : SmFunc d) (kM : FuncsAt w lo pm l) (k0 : IntsAt w lo p0 d.params) (k2 : BlocksAt w lo p2 d.blocks) (hF : Form l.length d) :
  Calls Tryz.prog 59 #[.agg #[.slice pm l.length cm], .agg #[.slice p0 d.params.length c0, .int .i64 d.ret, .slice p2 d.blocks.length c2]] w fun e w' => e = .returned (.bool (clsB l d)) ∧ Below w.heap.size w w' := by
 have hb1 := hF.b1
 have hb10 := hF.b10
 have hc60 := hF.c60
 have HS : Hid (SmFunc d) := hs
 have HSL : Hid (SmMod l) := hsl
 have HF : Hid (Form l.length d) := hF
 have HK0 : Hid (IntsAt w lo p0 d.params) := k0
 have HK2 : Hid (BlocksAt w lo p2 d.blocks) := k2
 have HKM : Hid (FuncsAt w lo pm l) := kM
 have hB0 : Hid (Below w.heap.size w ((w.alloc (.cells #[.slice pm l.length cm] 26)).alloc (.cells #[.slice p0 d.params.length c0, .int .i64 d.ret, .slice p2 d.blocks.length c2] 36))) := ((Below.refl _ _).alloc (Nat.le_refl _) _).alloc (by simp) _
 have HM0 : Hid (((w.alloc (.cells #[.slice pm l.length cm] 26)).alloc (.cells #[.slice p0 d.params.length c0, .int .i64 d.ret, .slice p2 d.blocks.length c2] 36)).heap[w.heap.size]? = some (.cells #[.slice pm l.length cm] 26 (0, 0))) := (Below.heap_alloc _ _ _ (by simp)).trans (heap_alloc_last _ _)
 have HF0 : Hid (((w.alloc (.cells #[.slice pm l.length cm] 26)).alloc (.cells #[.slice p0 d.params.length c0, .int .i64 d.ret, .slice p2 d.blocks.length c2] 36)).heap[w.heap.size + 1]? = some (.cells #[.slice p0 d.params.length c0, .int .i64 d.ret, .slice p2 d.blocks.length c2] 36 (0, 0))) := heap_two _ _ _
 clear hs hF k0 k2 kM hsl
 go_enter Tryz.func59, Tryz.ntmps59
 go_wp2_with fail
 go_loopw [5] (fun i wr => ∃ k : Nat, k ≤ d.blocks.length ∧ i = .int .i64 k ∧ Hid (∀ j, j < k → ((d.blocks.getD j block0).insts.all (cllB l (typeF d))) = true) ∧ Hid (Below (w.heap.size + 1 + 1) ((w.alloc (.cells #[.slice pm l.length cm] 26)).alloc (.cells #[.slice p0 d.params.length c0, .int .i64 d.ret, .slice p2 d.blocks.length c2] 36)) wr)) (fun i _ => d.blocks.length - (intOf i).toNat)
 case atStart => exact ⟨0, by omega, rfl, fun j hj => by omega, Below.refl _ _⟩
 case round =>
  obtain ⟨k, hk, rfl, HD, HW⟩ := hrel
  obtain ⟨wo, hwo⟩ : ∃ wo, wo = wr := ⟨_, rfl⟩
  subst hwo
  have HWo : Hid (Below w.heap.size w wo) := hB0.out.trans (HW.out.mono (by omega))
  have hff := (HW.out.block (w.heap.size + 1) (by omega)).trans HF0.out
  have a2 : wo.cell? ⟨w.heap.size + 1, 2, none⟩ = some (.slice p2 d.blocks.length c2) := (cell_of_heap hff).trans rfl
  by_cases hlt : k < d.blocks.length
  ·rcases HK2.out.2 with hn | ⟨b, off, hpe, hlo, hb, hcell⟩
   ·simp [hn] at hlt
   subst hpe
   obtain ⟨_, ⟨v1, q1, h1, m1⟩, _⟩ := hcell k hlt
   have hfb := HF.out.at hlt
   have hsm := HS.out.2.2 _ (getD_mem block0 d.blocks k hlt)
   have HNO : Hid (∀ j, j < (d.blocks.getD k block0).insts.length → cllB l (typeF d) ((d.blocks.getD k block0).insts.getD j inst0) = false → clsB l d = false) := fun j hj h => cls_no hlt hj h
   have HYS : Hid ((d.blocks.getD k block0).insts.all (cllB l (typeF d)) = true → ∀ j, j < k + 1 → ((d.blocks.getD j block0).insts.all (cllB l (typeF d))) = true) := fun h j hj => by
    by_cases e : j = k
    ·subst e; exact h
    ·exact HD.out j (by omega)
   generalize d.blocks.getD k block0 = x at h1 m1 hsm HNO HYS hfb
   have HFB : Hid (FBlk (cntF d) d.blocks.length l.length x) := hfb
   have H1 : Hid (w.cell? ⟨b, off + k * 6 + 1, none⟩ = some (.slice v1 x.insts.length q1)) := h1
   have HM1 : Hid (InstsAt w lo v1 x.insts) := m1
   have s1 := hsm.2.1
   have SN : Hid (∀ p ∈ x.insts, SmInst p) := hsm.2.2
   clear hcell h1 m1 hsm hfb HD hff
   go_wp2_with fail
   clear a2
   go_loopw [6] (fun i wr => ∃ j : Nat, j ≤ x.insts.length ∧ i = .int .i64 j ∧ Hid (∀ q, q < j → cllB l (typeF d) (x.insts.getD q inst0) = true) ∧ Hid (Below (w.heap.size + 1 + 1) ((w.alloc (.cells #[.slice pm l.length cm] 26)).alloc (.cells #[.slice p0 d.params.length c0, .int .i64 d.ret, .slice (some ⟨b, off, none⟩) d.blocks.length c2] 36)) wr)) (fun i _ => x.insts.length - (intOf i).toNat)
   case atStart => exact ⟨0, by omega, rfl, fun q hq => by omega, HW.out⟩
   case round =>
    obtain ⟨j, hj, rfl, HJ, HC⟩ := hrel
    obtain ⟨wq, hwq⟩ : ∃ wq, wq = wr := ⟨_, rfl⟩
    subst hwq
    have HWq : Hid (Below w.heap.size w wq) := hB0.out.trans (HC.out.mono (by omega))
    have hzq : w.heap.size + 1 + 1 ≤ wq.heap.size := by have := HC.out.size; simp at this; omega
    have hff := (HC.out.block (w.heap.size + 1) (by omega)).trans HF0.out
    have a0 : wq.cell? ⟨w.heap.size + 1, 0, none⟩ = some (.slice p0 d.params.length c0) := (cell_of_heap hff).trans rfl
    have a1 : wq.cell? ⟨w.heap.size + 1, 1, none⟩ = some (.int .i64 d.ret) := (cell_of_heap hff).trans rfl
    have a2 : wq.cell? ⟨w.heap.size + 1, 2, none⟩ = some (.slice (some ⟨b, off, none⟩) d.blocks.length c2) := (cell_of_heap hff).trans rfl
    have am : wq.cell? ⟨w.heap.size, 0, none⟩ = some (.slice pm l.length cm) := (cell_of_heap ((HC.out.block w.heap.size (by omega)).trans HM0.out)).trans rfl
    have e1 : wq.cell? ⟨b, off + k * 6 + 1, none⟩ = some (.slice v1 x.insts.length q1) := (bcell HWq.out _ _ hb).trans H1.out
    clear hff
    by_cases hjl : j < x.insts.length
    ·rcases HM1.out.2 with hn | ⟨pb, po, hve, hplo, hpb, hpc⟩
     ·simp [hn] at hjl
     subst hve
     obtain ⟨i0, i1, i2, i3, i4, i5, ⟨iu, iq, i6, im⟩⟩ := hpc j hjl
     have HOPS : Hid (∀ id ∈ opsD (x.insts.getD j inst0), 0 ≤ id ∧ id < (cntF d : Int)) := HFB.out.ops _ (getD_mem inst0 x.insts j hjl)
     have HIMM : Hid ((x.insts.getD j inst0).op = 26 → 0 ≤ (x.insts.getD j inst0).imm ∧ (x.insts.getD j inst0).imm < (l.length : Int)) := HFB.out.imm _ (getD_mem inst0 x.insts j hjl)
     have INO : Hid (cllB l (typeF d) (x.insts.getD j inst0) = false → clsB l d = false) := fun h => HNO.out j hjl h
     have IYS : Hid (cllB l (typeF d) (x.insts.getD j inst0) = true → ∀ q, q < j + 1 → cllB l (typeF d) (x.insts.getD q inst0) = true) := fun h q hq => by
      by_cases e : q = j
      ·subst e; exact h
      ·exact HJ.out q (by omega)
     have hsmI : SmInst (x.insts.getD j inst0) := SN.out _ (getD_mem inst0 x.insts j hjl)
     generalize x.insts.getD j inst0 = p at i0 i1 i2 i3 i4 i5 i6 im HOPS INO IYS HIMM hsmI
     have hsmA : p.args.length ≤ 1048576 := hsmI
     have f0 := (bcell HWq.out _ _ hpb).trans i0
     have f1 := (bcell HWq.out _ _ hpb).trans i1
     have f2 := (bcell HWq.out _ _ hpb).trans i2
     have f3 := (bcell HWq.out _ _ hpb).trans i3
     have f4 := (bcell HWq.out _ _ hpb).trans i4
     have f5 := (bcell HWq.out _ _ hpb).trans i5
     have f6 := (bcell HWq.out _ _ hpb).trans i6
     have HIM : Hid (IntsAt w lo iu p.args) := im
     clear hpc i0 i1 i2 i3 i4 i5 i6 im HJ hsmI
     by_cases ho : p.op = 26
     ·have HOA : Hid (opsD p = p.args) := by show _ = _; simp [opsD, ho, show opB 26 = false by decide]
      obtain ⟨m, hm, hml⟩ := nat_of (HIMM.out ho)
      have CE : Hid (cllB l (typeF d) p = calB (typeF d) (l.getD m func0) p) := by show _ = _; unfold cllB; simp [ho, hm]
      rcases HKM.out.2 with hn | ⟨fb, fo, hume, hflo, hfb', hfc⟩
      ·simp [hn] at hml
      subst hume
      obtain ⟨⟨g0, gq0, n0, nm0⟩, n1, ⟨g2, gq2, n2, nm2⟩⟩ := hfc m hml
      have hgs : (l.getD m func0).params.length ≤ 1048576 := (HSL.out.2 _ (getD_mem func0 l m hml)).1
      have hgb : (l.getD m func0).blocks.length ≤ 1048576 := (HSL.out.2 _ (getD_mem func0 l m hml)).2.1
      generalize l.getD m func0 = g at n0 nm0 n1 n2 nm2 hgs CE hgb
      have t0 := (bcell HWq.out _ _ hfb').trans n0
      have t1 := (bcell HWq.out _ _ hfb').trans n1
      have t2 := (bcell HWq.out _ _ hfb').trans n2
      have HN0 : Hid (IntsAt w lo g0 g.params) := nm0
      have hmi : (m : Int) < l.length := by omega
      have hsl3 := HSL.out.1
      have lfb : fb < wq.heap.size := by have := HWq.out.size; omega
      have lw1 : w.heap.size < wq.heap.size := by omega
      have lw2 : w.heap.size + 1 < wq.heap.size := by omega
      rw [hm] at f5
      rw [ho] at f0
      have HM : Hid (p.imm = m) := hm
      have HO : Hid (p.op = 26) := ho
      clear hfc n0 n1 n2 nm0 nm2 hm ho
      by_cases e1' : p.w = g.ret
      ·have we : (p.w == g.ret) = true := by simp [e1']
       have we2 : (p.w != g.ret) = false := by simp [e1']
       by_cases e2' : p.args.length = g.params.length
       ·have HE1 : Hid (p.w = g.ret) := e1'
        have HE2 : Hid (p.args.length = g.params.length) := e2'
        rw [e1'] at f1
        rw [e2'] at f6
        clear e1' e2' we we2
        go_wp2_with fail
        clear a0 a1 a2 am e1 f0 f1 f2 f3 f4 f5 f6 t0 t1 t2
        go_loopw [9] (fun i wr => ∃ r : Nat, r ≤ g.params.length ∧ i = .int .i64 r ∧ Hid (∀ q, q < r → typeF d (p.args.getD q 0) = g.params.getD q 0) ∧ Hid (Below (wq.heap.size + 1 + 1) ((wq.alloc (.cells #[.int .i64 26, .int .i64 g.ret, .int .i64 p.a, .int .i64 p.b, .int .i64 p.c, .int .i64 (m : Int), .slice iu g.params.length iq] 54)).alloc (.cells #[.slice g0 g.params.length gq0, .int .i64 g.ret, .slice g2 g.blocks.length gq2] 36)) wr)) (fun i _ => g.params.length - (intOf i).toNat)
        case atStart => exact ⟨0, by omega, rfl, fun q hq => by omega, Below.refl _ _⟩
        case round =>
         obtain ⟨r, hr, rfl, HRR, HE⟩ := hrel
         obtain ⟨wz, hwz⟩ : ∃ wz, wz = wr := ⟨_, rfl⟩
         subst hwz
         have hqz : Below wq.heap.size wq wz := (((Below.refl wq.heap.size wq).alloc (Nat.le_refl _) _).alloc (by simp) _).trans (HE.out.mono (by omega))
         have HWz : Hid (Below w.heap.size w wz) := HWq.out.trans (hqz.mono HWq.out.size)
         have HCz : Hid (Below (w.heap.size + 1 + 1) ((w.alloc (.cells #[.slice (some ⟨fb, fo, none⟩) l.length cm] 26)).alloc (.cells #[.slice p0 d.params.length c0, .int .i64 d.ret, .slice (some ⟨b, off, none⟩) d.blocks.length c2] 36)) wz) := HC.out.trans (hqz.mono (by omega))
         have hzz : wq.heap.size + 1 + 1 ≤ wz.heap.size := by have := HE.out.size; simp at this; omega
         have hin := (HE.out.block wq.heap.size (by omega)).trans ((Below.heap_alloc _ _ _ (by simp)).trans (heap_alloc_last _ _))
         have hgn := (HE.out.block (wq.heap.size + 1) (by omega)).trans (heap_two _ _ _)
         have y6 : wz.cell? ⟨wq.heap.size, 6, none⟩ = some (.slice iu g.params.length iq) := (cell_of_heap hin).trans rfl
         have z0 : wz.cell? ⟨wq.heap.size + 1, 0, none⟩ = some (.slice g0 g.params.length gq0) := (cell_of_heap hgn).trans rfl
         clear hin hgn
         by_cases hrl : r < g.params.length
         ·rcases HIM.out.2 with hn | ⟨ab, ao, hae, halo, hab, hac⟩
          ·have := HE2.out; simp [hn] at this; omega
          subst hae
          rcases HN0.out.2 with hn | ⟨gb, go, hge, hglo, hgbb, hgc⟩
          ·simp [hn] at hrl
          subst hge
          have z1 : wz.cell? ⟨ab, ao + r, none⟩ = some (.int .i64 (p.args.getD r 0)) := (bcell HWz.out _ _ hab).trans (hac r (by have := HE2.out; omega))
          have z2 : wz.cell? ⟨gb, go + r, none⟩ = some (.int .i64 (g.params.getD r 0)) := (bcell HWz.out _ _ hgbb).trans (hgc r hrl)
          have hid := HOPS.out _ (by rw [HOA.out]; exact getD_mem 0 p.args r (by have := HE2.out; omega))
          have RNO : Hid (¬ typeF d (p.args.getD r 0) = g.params.getD r 0 → cllB l (typeF d) p = false) := fun h => CE.out.trans (cals_no (by have := HE2.out; omega) h)
          have RYS : Hid (typeF d (p.args.getD r 0) = g.params.getD r 0 → ∀ q, q < r + 1 → typeF d (p.args.getD q 0) = g.params.getD q 0) := fun h q hq => by
           by_cases e : q = r
           ·subst e; exact h
           ·exact HRR.out q (by omega)
          generalize g.params.getD r 0 = pv at z2 RNO RYS
          generalize p.args.getD r 0 = id at z1 hid RNO RYS
          have hidm : id ≤ 9223372036854775807 := by omega
          have hff := (HCz.out.block (w.heap.size + 1) (by omega)).trans HF0.out
          have F0 : wz.cell? ⟨w.heap.size + 1, 0, none⟩ = some (.slice p0 d.params.length c0) := (cell_of_heap hff).trans rfl
          have F1 : wz.cell? ⟨w.heap.size + 1, 1, none⟩ = some (.int .i64 d.ret) := (cell_of_heap hff).trans rfl
          have F2 : wz.cell? ⟨w.heap.size + 1, 2, none⟩ = some (.slice (some ⟨b, off, none⟩) d.blocks.length c2) := (cell_of_heap hff).trans rfl
          have KK0 : Hid (IntsAt wz lo p0 d.params) := HK0.out.keep (agree_of_below HWz.out _)
          have KK2 : Hid (BlocksAt wz lo (some ⟨b, off, none⟩) d.blocks) := HK2.out.keep (agree_of_below HWz.out _)
          have l1 : w.heap.size + 1 < wz.heap.size := by omega
          have l2 : wq.heap.size < wz.heap.size := by omega
          have l3 : wq.heap.size + 1 < wz.heap.size := by omega
          have l4 : ab < wz.heap.size := by have := HWz.out.size; omega
          have l5 : gb < wz.heap.size := by have := HWz.out.size; omega
          generalize htv : typeF d id = tv at RNO RYS
          have HTV : Hid (typeF d id = tv) := htv
          clear hac hgc hid htv hqz hff HRR
          by_cases hq : tv = pv
          ·have HTV2 : Hid (typeF d id = pv) := HTV.out.trans hq
           rw [hq] at RNO RYS
           clear hq HTV
           have TT : ∀ xx : Abv (fun v => Below wz.heap.size wz v), Calls Tryz.prog 95 #[.agg #[.slice p0 d.params.length c0, .int .i64 d.ret, .slice (some ⟨b, off, none⟩) d.blocks.length c2], .int .i64 id] xx.v fun e w'' => e = .returned (.int .i64 pv) ∧ ∃ y : Abv (fun v => Below wz.heap.size wz v), w'' = y.v := fun xx => by rw [← HTV2.out]; exact typeAbv lo d p0 c0 (some ⟨b, off, none⟩) c2 id wz xx HS.out KK0.out KK2.out hidm
           go_wp2_with fail
           have hne : Nonempty (Abv (fun v => Below wz.heap.size wz v)) := abv_ne (Below.refl _ _)
           have k0 := fun xx : Abv (fun v => Below wz.heap.size wz v) => (bcell xx.ok _ _ l1).trans F0
           have k1 := fun xx : Abv (fun v => Below wz.heap.size wz v) => (bcell xx.ok _ _ l1).trans F1
           have k2 := fun xx : Abv (fun v => Below wz.heap.size wz v) => (bcell xx.ok _ _ l1).trans F2
           have k3 := fun xx : Abv (fun v => Below wz.heap.size wz v) => (bcell xx.ok _ _ l2).trans y6
           have k4 := fun xx : Abv (fun v => Below wz.heap.size wz v) => (bcell xx.ok _ _ l3).trans z0
           have k5 := fun xx : Abv (fun v => Below wz.heap.size wz v) => (bcell xx.ok _ _ l4).trans z1
           have k6 := fun xx : Abv (fun v => Below wz.heap.size wz v) => (bcell xx.ok _ _ l5).trans z2
           clear F0 F1 F2 y6 z0 z1 z2
           refine wp_region_abv (fun v => Below wz.heap.size wz v) (by kernel_rfl) (by kernel_rfl) (drew_below (Below.refl _ _)) ?_
           repeat (go_big_quiet_step (first | (go_at_call 95; with_reducible exact TT _)))
           refine wpQuiet_nil ?_
           rintro w9 ⟨⟨w9, h9⟩, rfl⟩
           have H9 : Hid (Below wz.heap.size wz w9) := h9
           clear h9 hne k0 k1 k2 k3 k4 k5 k6
           go_wp2_with fail
           go_roundw
           case rel => exact ⟨r + 1, by omega, by go_num, RYS.out (by first | rfl | trivial), HE.out.trans (H9.out.mono hzz)⟩
           case measure => simp [intOf]; omega
          ·have E : Hid (false = clsB l d) := (INO.out (RNO.out hq)).symm
           have TT : ∀ xx : Abv (fun v => Below wz.heap.size wz v), Calls Tryz.prog 95 #[.agg #[.slice p0 d.params.length c0, .int .i64 d.ret, .slice (some ⟨b, off, none⟩) d.blocks.length c2], .int .i64 id] xx.v fun e w'' => e = .returned (.int .i64 tv) ∧ ∃ y : Abv (fun v => Below wz.heap.size wz v), w'' = y.v := fun xx => by rw [← HTV.out]; exact typeAbv lo d p0 c0 (some ⟨b, off, none⟩) c2 id wz xx HS.out KK0.out KK2.out hidm
           go_wp2_with fail
           have hne : Nonempty (Abv (fun v => Below wz.heap.size wz v)) := abv_ne (Below.refl _ _)
           have k0 := fun xx : Abv (fun v => Below wz.heap.size wz v) => (bcell xx.ok _ _ l1).trans F0
           have k1 := fun xx : Abv (fun v => Below wz.heap.size wz v) => (bcell xx.ok _ _ l1).trans F1
           have k2 := fun xx : Abv (fun v => Below wz.heap.size wz v) => (bcell xx.ok _ _ l1).trans F2
           have k3 := fun xx : Abv (fun v => Below wz.heap.size wz v) => (bcell xx.ok _ _ l2).trans y6
           have k4 := fun xx : Abv (fun v => Below wz.heap.size wz v) => (bcell xx.ok _ _ l3).trans z0
           have k5 := fun xx : Abv (fun v => Below wz.heap.size wz v) => (bcell xx.ok _ _ l4).trans z1
           have k6 := fun xx : Abv (fun v => Below wz.heap.size wz v) => (bcell xx.ok _ _ l5).trans z2
           clear F0 F1 F2 y6 z0 z1 z2
           refine wp_region_abv (fun v => Below wz.heap.size wz v) (by kernel_rfl) (by kernel_rfl) (drew_below (Below.refl _ _)) ?_
           repeat (go_big_quiet_step (first | (go_at_call 95; with_reducible exact TT _)))
           refine wpQuiet_nil ?_
           rintro w9 ⟨⟨w9, h9⟩, rfl⟩
           have H9 : Hid (Below wz.heap.size wz w9) := h9
           clear h9 hne k0 k1 k2 k3 k4 k5 k6
           go_wp2_with fail
           go_ret
           exact ⟨ret_bool E.out, HWz.out.trans (H9.out.mono HWz.out.size)⟩
         ·have YES : Hid (cllB l (typeF d) p = true) := CE.out.trans (cals_yes HE1.out HE2.out (fun q hq => HRR.out q (by have := HE2.out; omega)))
          clear hqz HRR
          go_wp2_with fail
          go_roundw
          case rel => exact ⟨j + 1, by omega, by go_num, IYS.out YES.out, HCz.out⟩
          case measure => simp [intOf]; omega
       ·have E : Hid (false = clsB l d) := (INO.out (CE.out.trans (by unfold calB; simp [e2']))).symm
        have e3 : ¬ (p.args.length : Int) = g.params.length := by omega
        go_wp2_with fail
        go_ret
        exact ⟨ret_bool E.out, (HWq.out.alloc HWq.out.size _).alloc (by have := HWq.out.size; simp; omega) _⟩
      ·have E : Hid (false = clsB l d) := (INO.out (CE.out.trans (by unfold calB; simp [e1']))).symm
       have we : (p.w == g.ret) = false := by simp [e1']
       have we2 : (p.w != g.ret) = true := by simp [e1']
       go_wp2_with fail
       go_ret
       exact ⟨ret_bool E.out, (HWq.out.alloc HWq.out.size _).alloc (by have := HWq.out.size; simp; omega) _⟩
     ·have YS : Hid (cllB l (typeF d) p = true) := by show _ = _; unfold cllB; simp [ho]
      go_wp2_with fail
      go_roundw
      case rel => exact ⟨j + 1, by omega, by go_num, IYS.out YS.out, HC.out.alloc (by omega) _⟩
      case measure => simp [intOf]; omega
    ·have YES : Hid (x.insts.all (cllB l (typeF d)) = true) := all_yes inst0 x.insts (fun q hq => HJ.out q (by omega))
     clear HJ
     go_wp2_with fail
     go_roundw
     case rel => exact ⟨k + 1, by omega, by go_num, HYS.out YES.out, HC.out⟩
     case measure => simp [intOf]; omega
  ·have E : Hid (true = clsB l d) := (all_yes (f := fun b : BlockD => b.insts.all (cllB l (typeF d))) block0 d.blocks (fun q hq => HD.out q (by omega))).symm
   clear hff
   go_wp2_with fail
   go_ret
   exact ⟨ret_bool E.out, HWo.out⟩
end Go.Proofs.YtgojlnclpebdcaaGreatDoor
namespace Go.Proofs.YtgojlnclpebdcaaGreatDoor
open Go.RowKit
set_option linter.unusedVariables false
theorem width0 : widthB 0 = false := by decide
theorem width8 : widthB 8 = true := by decide
theorem cells7 {w w' : World} {o0 o1 o2 o3 o4 o5 o6 : Value} {T : TypeId} (h : Below (w.alloc (.cells #[o0, o1, o2, o3, o4, o5, o6] T)).heap.size (w.alloc (.cells #[o0, o1, o2, o3, o4, o5, o6] T)) w') :
  w'.cell? ⟨w.heap.size, 0, none⟩ = some o0 ∧ w'.cell? ⟨w.heap.size, 1, none⟩ = some o1 ∧ w'.cell? ⟨w.heap.size, 2, none⟩ = some o2 ∧ w'.cell? ⟨w.heap.size, 3, none⟩ = some o3 ∧ w'.cell? ⟨w.heap.size, 4, none⟩ = some o4 ∧ w'.cell? ⟨w.heap.size, 5, none⟩ = some o5 ∧ w'.cell? ⟨w.heap.size, 6, none⟩ = some o6 ∧ Below w.heap.size w w' := by
 have hb := (h.block w.heap.size (by simp)).trans (heap_alloc_last _ _)
 exact ⟨(cell_of_heap hb).trans rfl, (cell_of_heap hb).trans rfl, (cell_of_heap hb).trans rfl, (cell_of_heap hb).trans rfl, (cell_of_heap hb).trans rfl, (cell_of_heap hb).trans rfl, (cell_of_heap hb).trans rfl, ((Below.refl _ _).alloc (Nat.le_refl _) _).trans (h.mono (by simp))⟩
set_option maxHeartbeats 2000000 in
set_option maxRecDepth 100000 in
theorem instShS_18 (iw a b c imm : Int) (u : Option Addr) (q : Nat) (ids funcs : Int) (w : World) (g0 : 0 ≤ ids) (g1 : ids ≤ 4611686018427387904) (g2 : 0 ≤ funcs) (g3 : funcs ≤ 4611686018427387904) :
  Calls Tryz.prog 65 #[.agg #[.int .i64 18, .int .i64 iw, .int .i64 a, .int .i64 b, .int .i64 c, .int .i64 imm, .slice u 0 q], .int .i64 ids, .int .i64 funcs] w fun e w' => e = .returned (.bool (instB ⟨18, iw, a, b, c, imm, []⟩ ids funcs)) ∧ Below w.heap.size w w' := by
 generalize hV : instB ⟨18, iw, a, b, c, imm, []⟩ ids funcs = V
 have E : opsD ⟨18, iw, a, b, c, imm, []⟩ = [a] := rfl
 have HI : Hid (([a]).all (fun n => belowB n ids) = true → V = (widthB iw && imm == 0 && b == 0 && c == 0)) := fun hall => by
  rw [← hV]
  unfold instB wB iB fB
  rw [E, hall]
  first | (simp; done) | (simp; ac_rfl)
 have HJ : Hid (([a]).all (fun n => belowB n ids) = false → V = false) := fun hall => by
  rw [← hV]
  unfold instB
  rw [E, hall]
  simp
 have O := fun w => operS 0 ⟨18, iw, a, b, c, imm, []⟩ u q w (by simp) ⟨by simp, .inl rfl⟩
 rw [E] at O
 dsimp only [List.length_nil, List.length_cons] at O
 clear E hV
 go_enter Tryz.func65, Tryz.ntmps65
 go_wp2_with fail
 refine (inS _ _ _ _).mono ?_
 rintro e w' ⟨rfl, rfl⟩
 go_wp2_with fail
 refine (O _).mono ?_
 rintro e w1 ⟨v, r, rfl, ho, hb1⟩
 obtain ⟨x0, x1, x2, x3, x4, x5, x6, hB⟩ := cells7 hb1
 have HO := ho.ints
 clear ho hb1 O
 go_wp2_with fail
 go_loop [8] (fun i => ∃ k : Nat, k ≤ 1 ∧ i = .int .i64 k ∧ Hid (∀ j, j < k → belowB (([a]).getD j 0) ids = true)) (fun i => 1 - (intOf i).toNat)
 case atStart => exact ⟨0, by omega, rfl, fun j hj => by omega⟩
 case round =>
  obtain ⟨k, hk9, rfl, HD⟩ := hrel
  by_cases hlt : k < 1
  ·rcases HO.2 with hn | ⟨bb, off, rfl, hlo, hb, hcell⟩
   ·cases hn
   have e0 := hcell k (by simpa using hlt)
   generalize hx : ([a]).getD k 0 = x at e0
   have HX : Hid (([a]).getD k 0 = x) := hx
   clear hcell hx HO
   cases hp : belowB x ids with
   | true =>
    have HP : Hid (belowB x ids = true) := hp
    go_wp2_with (go_at_call 32; refine (inB _ _ _).mono ?_; rintro e w' ⟨rfl, rfl⟩)
    exact ⟨⟨k + 1, by omega, by go_num, fun j hj => by
     by_cases e : j = k
     ·subst e; rw [HX.out]; exact HP.out
     ·exact HD.out j (by omega)⟩, by simp only [intOf]; omega⟩
   | false =>
    have HP : Hid (belowB x ids = false) := hp
    go_wp2_with (go_at_call 32; refine (inB _ _ _).mono ?_; rintro e w' ⟨rfl, rfl⟩)
    go_ret
    refine ⟨ret_bool ?_, hB⟩
    rw [HJ.out (all_no 0 ([a]) k (by simpa using hlt) (by rw [HX.out, HP.out]; decide))]
  ·have hall := all_yes 0 (f := fun n => belowB n ids) ([a]) (fun j hj => HD.out j (by first | omega | (simp at hj; done) | (simp at hj; omega)))
   have HK : Hid (V = (widthB iw && imm == 0 && b == 0 && c == 0)) := HI.out hall
   clear hall HI HJ HD HO
   go_wp2_with (first | (go_at_call 64; refine (widthS _ _).mono ?_; rintro e w' ⟨rfl, rfl⟩) | (go_at_call 103; refine (valueS _ _ _).mono ?_; rintro e w' ⟨rfl, rfl⟩) | (go_at_call 32; refine (inB _ _ _).mono ?_; rintro e w' ⟨rfl, rfl⟩))
   all_goals
    go_ret
    refine ⟨ret_bool ?_, hB⟩
    have hk := HK.out
    have hw0 := width0
    have hw8 := width8
    clear HK
    first | (simp_all; done) | (simp_all; omega) | (by_cases h8 : iw = 8 <;> by_cases h0 : iw = 0 <;> simp_all; done)
set_option maxHeartbeats 2000000 in
set_option maxRecDepth 100000 in
theorem instShS_19 (iw a b c imm : Int) (u : Option Addr) (q : Nat) (ids funcs : Int) (w : World) (g0 : 0 ≤ ids) (g1 : ids ≤ 4611686018427387904) (g2 : 0 ≤ funcs) (g3 : funcs ≤ 4611686018427387904) :
  Calls Tryz.prog 65 #[.agg #[.int .i64 19, .int .i64 iw, .int .i64 a, .int .i64 b, .int .i64 c, .int .i64 imm, .slice u 0 q], .int .i64 ids, .int .i64 funcs] w fun e w' => e = .returned (.bool (instB ⟨19, iw, a, b, c, imm, []⟩ ids funcs)) ∧ Below w.heap.size w w' := by
 generalize hV : instB ⟨19, iw, a, b, c, imm, []⟩ ids funcs = V
 have E : opsD ⟨19, iw, a, b, c, imm, []⟩ = [a] := rfl
 have HI : Hid (([a]).all (fun n => belowB n ids) = true → V = (widthB iw && imm == 0 && b == 0 && c == 0)) := fun hall => by
  rw [← hV]
  unfold instB wB iB fB
  rw [E, hall]
  first | (simp; done) | (simp; ac_rfl)
 have HJ : Hid (([a]).all (fun n => belowB n ids) = false → V = false) := fun hall => by
  rw [← hV]
  unfold instB
  rw [E, hall]
  simp
 have O := fun w => operS 0 ⟨19, iw, a, b, c, imm, []⟩ u q w (by simp) ⟨by simp, .inl rfl⟩
 rw [E] at O
 dsimp only [List.length_nil, List.length_cons] at O
 clear E hV
 go_enter Tryz.func65, Tryz.ntmps65
 go_wp2_with fail
 refine (inS _ _ _ _).mono ?_
 rintro e w' ⟨rfl, rfl⟩
 go_wp2_with fail
 refine (O _).mono ?_
 rintro e w1 ⟨v, r, rfl, ho, hb1⟩
 obtain ⟨x0, x1, x2, x3, x4, x5, x6, hB⟩ := cells7 hb1
 have HO := ho.ints
 clear ho hb1 O
 go_wp2_with fail
 go_loop [8] (fun i => ∃ k : Nat, k ≤ 1 ∧ i = .int .i64 k ∧ Hid (∀ j, j < k → belowB (([a]).getD j 0) ids = true)) (fun i => 1 - (intOf i).toNat)
 case atStart => exact ⟨0, by omega, rfl, fun j hj => by omega⟩
 case round =>
  obtain ⟨k, hk9, rfl, HD⟩ := hrel
  by_cases hlt : k < 1
  ·rcases HO.2 with hn | ⟨bb, off, rfl, hlo, hb, hcell⟩
   ·cases hn
   have e0 := hcell k (by simpa using hlt)
   generalize hx : ([a]).getD k 0 = x at e0
   have HX : Hid (([a]).getD k 0 = x) := hx
   clear hcell hx HO
   cases hp : belowB x ids with
   | true =>
    have HP : Hid (belowB x ids = true) := hp
    go_wp2_with (go_at_call 32; refine (inB _ _ _).mono ?_; rintro e w' ⟨rfl, rfl⟩)
    exact ⟨⟨k + 1, by omega, by go_num, fun j hj => by
     by_cases e : j = k
     ·subst e; rw [HX.out]; exact HP.out
     ·exact HD.out j (by omega)⟩, by simp only [intOf]; omega⟩
   | false =>
    have HP : Hid (belowB x ids = false) := hp
    go_wp2_with (go_at_call 32; refine (inB _ _ _).mono ?_; rintro e w' ⟨rfl, rfl⟩)
    go_ret
    refine ⟨ret_bool ?_, hB⟩
    rw [HJ.out (all_no 0 ([a]) k (by simpa using hlt) (by rw [HX.out, HP.out]; decide))]
  ·have hall := all_yes 0 (f := fun n => belowB n ids) ([a]) (fun j hj => HD.out j (by first | omega | (simp at hj; done) | (simp at hj; omega)))
   have HK : Hid (V = (widthB iw && imm == 0 && b == 0 && c == 0)) := HI.out hall
   clear hall HI HJ HD HO
   go_wp2_with (first | (go_at_call 64; refine (widthS _ _).mono ?_; rintro e w' ⟨rfl, rfl⟩) | (go_at_call 103; refine (valueS _ _ _).mono ?_; rintro e w' ⟨rfl, rfl⟩) | (go_at_call 32; refine (inB _ _ _).mono ?_; rintro e w' ⟨rfl, rfl⟩))
   all_goals
    go_ret
    refine ⟨ret_bool ?_, hB⟩
    have hk := HK.out
    have hw0 := width0
    have hw8 := width8
    clear HK
    first | (simp_all; done) | (simp_all; omega) | (by_cases h8 : iw = 8 <;> by_cases h0 : iw = 0 <;> simp_all; done)
set_option maxHeartbeats 2000000 in
set_option maxRecDepth 100000 in
theorem instShS_20 (iw a b c imm : Int) (u : Option Addr) (q : Nat) (ids funcs : Int) (w : World) (g0 : 0 ≤ ids) (g1 : ids ≤ 4611686018427387904) (g2 : 0 ≤ funcs) (g3 : funcs ≤ 4611686018427387904) :
  Calls Tryz.prog 65 #[.agg #[.int .i64 20, .int .i64 iw, .int .i64 a, .int .i64 b, .int .i64 c, .int .i64 imm, .slice u 0 q], .int .i64 ids, .int .i64 funcs] w fun e w' => e = .returned (.bool (instB ⟨20, iw, a, b, c, imm, []⟩ ids funcs)) ∧ Below w.heap.size w w' := by
 generalize hV : instB ⟨20, iw, a, b, c, imm, []⟩ ids funcs = V
 have E : opsD ⟨20, iw, a, b, c, imm, []⟩ = [a] := rfl
 have HI : Hid (([a]).all (fun n => belowB n ids) = true → V = (widthB iw && imm == 0 && b == 0 && c == 0)) := fun hall => by
  rw [← hV]
  unfold instB wB iB fB
  rw [E, hall]
  first | (simp; done) | (simp; ac_rfl)
 have HJ : Hid (([a]).all (fun n => belowB n ids) = false → V = false) := fun hall => by
  rw [← hV]
  unfold instB
  rw [E, hall]
  simp
 have O := fun w => operS 0 ⟨20, iw, a, b, c, imm, []⟩ u q w (by simp) ⟨by simp, .inl rfl⟩
 rw [E] at O
 dsimp only [List.length_nil, List.length_cons] at O
 clear E hV
 go_enter Tryz.func65, Tryz.ntmps65
 go_wp2_with fail
 refine (inS _ _ _ _).mono ?_
 rintro e w' ⟨rfl, rfl⟩
 go_wp2_with fail
 refine (O _).mono ?_
 rintro e w1 ⟨v, r, rfl, ho, hb1⟩
 obtain ⟨x0, x1, x2, x3, x4, x5, x6, hB⟩ := cells7 hb1
 have HO := ho.ints
 clear ho hb1 O
 go_wp2_with fail
 go_loop [8] (fun i => ∃ k : Nat, k ≤ 1 ∧ i = .int .i64 k ∧ Hid (∀ j, j < k → belowB (([a]).getD j 0) ids = true)) (fun i => 1 - (intOf i).toNat)
 case atStart => exact ⟨0, by omega, rfl, fun j hj => by omega⟩
 case round =>
  obtain ⟨k, hk9, rfl, HD⟩ := hrel
  by_cases hlt : k < 1
  ·rcases HO.2 with hn | ⟨bb, off, rfl, hlo, hb, hcell⟩
   ·cases hn
   have e0 := hcell k (by simpa using hlt)
   generalize hx : ([a]).getD k 0 = x at e0
   have HX : Hid (([a]).getD k 0 = x) := hx
   clear hcell hx HO
   cases hp : belowB x ids with
   | true =>
    have HP : Hid (belowB x ids = true) := hp
    go_wp2_with (go_at_call 32; refine (inB _ _ _).mono ?_; rintro e w' ⟨rfl, rfl⟩)
    exact ⟨⟨k + 1, by omega, by go_num, fun j hj => by
     by_cases e : j = k
     ·subst e; rw [HX.out]; exact HP.out
     ·exact HD.out j (by omega)⟩, by simp only [intOf]; omega⟩
   | false =>
    have HP : Hid (belowB x ids = false) := hp
    go_wp2_with (go_at_call 32; refine (inB _ _ _).mono ?_; rintro e w' ⟨rfl, rfl⟩)
    go_ret
    refine ⟨ret_bool ?_, hB⟩
    rw [HJ.out (all_no 0 ([a]) k (by simpa using hlt) (by rw [HX.out, HP.out]; decide))]
  ·have hall := all_yes 0 (f := fun n => belowB n ids) ([a]) (fun j hj => HD.out j (by first | omega | (simp at hj; done) | (simp at hj; omega)))
   have HK : Hid (V = (widthB iw && imm == 0 && b == 0 && c == 0)) := HI.out hall
   clear hall HI HJ HD HO
   go_wp2_with (first | (go_at_call 64; refine (widthS _ _).mono ?_; rintro e w' ⟨rfl, rfl⟩) | (go_at_call 103; refine (valueS _ _ _).mono ?_; rintro e w' ⟨rfl, rfl⟩) | (go_at_call 32; refine (inB _ _ _).mono ?_; rintro e w' ⟨rfl, rfl⟩))
   all_goals
    go_ret
    refine ⟨ret_bool ?_, hB⟩
    have hk := HK.out
    have hw0 := width0
    have hw8 := width8
    clear HK
    first | (simp_all; done) | (simp_all; omega) | (by_cases h8 : iw = 8 <;> by_cases h0 : iw = 0 <;> simp_all; done)
set_option maxHeartbeats 2000000 in
set_option maxRecDepth 100000 in
theorem instShS_27 (iw a b c imm : Int) (u : Option Addr) (q : Nat) (ids funcs : Int) (w : World) (g0 : 0 ≤ ids) (g1 : ids ≤ 4611686018427387904) (g2 : 0 ≤ funcs) (g3 : funcs ≤ 4611686018427387904) :
  Calls Tryz.prog 65 #[.agg #[.int .i64 27, .int .i64 iw, .int .i64 a, .int .i64 b, .int .i64 c, .int .i64 imm, .slice u 0 q], .int .i64 ids, .int .i64 funcs] w fun e w' => e = .returned (.bool (instB ⟨27, iw, a, b, c, imm, []⟩ ids funcs)) ∧ Below w.heap.size w w' := by
 generalize hV : instB ⟨27, iw, a, b, c, imm, []⟩ ids funcs = V
 have E : opsD ⟨27, iw, a, b, c, imm, []⟩ = [a] := rfl
 have HI : Hid (([a]).all (fun n => belowB n ids) = true → V = (widthB iw && imm == 0 && b == 0 && c == 0)) := fun hall => by
  rw [← hV]
  unfold instB wB iB fB
  rw [E, hall]
  first | (simp; done) | (simp; ac_rfl)
 have HJ : Hid (([a]).all (fun n => belowB n ids) = false → V = false) := fun hall => by
  rw [← hV]
  unfold instB
  rw [E, hall]
  simp
 have O := fun w => operS 0 ⟨27, iw, a, b, c, imm, []⟩ u q w (by simp) ⟨by simp, .inl rfl⟩
 rw [E] at O
 dsimp only [List.length_nil, List.length_cons] at O
 clear E hV
 go_enter Tryz.func65, Tryz.ntmps65
 go_wp2_with fail
 refine (inS _ _ _ _).mono ?_
 rintro e w' ⟨rfl, rfl⟩
 go_wp2_with fail
 refine (O _).mono ?_
 rintro e w1 ⟨v, r, rfl, ho, hb1⟩
 obtain ⟨x0, x1, x2, x3, x4, x5, x6, hB⟩ := cells7 hb1
 have HO := ho.ints
 clear ho hb1 O
 go_wp2_with fail
 go_loop [8] (fun i => ∃ k : Nat, k ≤ 1 ∧ i = .int .i64 k ∧ Hid (∀ j, j < k → belowB (([a]).getD j 0) ids = true)) (fun i => 1 - (intOf i).toNat)
 case atStart => exact ⟨0, by omega, rfl, fun j hj => by omega⟩
 case round =>
  obtain ⟨k, hk9, rfl, HD⟩ := hrel
  by_cases hlt : k < 1
  ·rcases HO.2 with hn | ⟨bb, off, rfl, hlo, hb, hcell⟩
   ·cases hn
   have e0 := hcell k (by simpa using hlt)
   generalize hx : ([a]).getD k 0 = x at e0
   have HX : Hid (([a]).getD k 0 = x) := hx
   clear hcell hx HO
   cases hp : belowB x ids with
   | true =>
    have HP : Hid (belowB x ids = true) := hp
    go_wp2_with (go_at_call 32; refine (inB _ _ _).mono ?_; rintro e w' ⟨rfl, rfl⟩)
    exact ⟨⟨k + 1, by omega, by go_num, fun j hj => by
     by_cases e : j = k
     ·subst e; rw [HX.out]; exact HP.out
     ·exact HD.out j (by omega)⟩, by simp only [intOf]; omega⟩
   | false =>
    have HP : Hid (belowB x ids = false) := hp
    go_wp2_with (go_at_call 32; refine (inB _ _ _).mono ?_; rintro e w' ⟨rfl, rfl⟩)
    go_ret
    refine ⟨ret_bool ?_, hB⟩
    rw [HJ.out (all_no 0 ([a]) k (by simpa using hlt) (by rw [HX.out, HP.out]; decide))]
  ·have hall := all_yes 0 (f := fun n => belowB n ids) ([a]) (fun j hj => HD.out j (by first | omega | (simp at hj; done) | (simp at hj; omega)))
   have HK : Hid (V = (widthB iw && imm == 0 && b == 0 && c == 0)) := HI.out hall
   clear hall HI HJ HD HO
   go_wp2_with (first | (go_at_call 64; refine (widthS _ _).mono ?_; rintro e w' ⟨rfl, rfl⟩) | (go_at_call 103; refine (valueS _ _ _).mono ?_; rintro e w' ⟨rfl, rfl⟩) | (go_at_call 32; refine (inB _ _ _).mono ?_; rintro e w' ⟨rfl, rfl⟩))
   all_goals
    go_ret
    refine ⟨ret_bool ?_, hB⟩
    have hk := HK.out
    have hw0 := width0
    have hw8 := width8
    clear HK
    first | (simp_all; done) | (simp_all; omega) | (by_cases h8 : iw = 8 <;> by_cases h0 : iw = 0 <;> simp_all; done)
end Go.Proofs.YtgojlnclpebdcaaGreatDoor
namespace Go.Proofs.YtgojlnclpebdcaaGreatDoor
open Go.RowKit
set_option linter.unusedVariables false
set_option maxHeartbeats 2000000 in
set_option maxRecDepth 100000 in
theorem instShS_21 (iw a b c imm : Int) (u : Option Addr) (q : Nat) (ids funcs : Int) (w : World) (g0 : 0 ≤ ids) (g1 : ids ≤ 4611686018427387904) (g2 : 0 ≤ funcs) (g3 : funcs ≤ 4611686018427387904) :
  Calls Tryz.prog 65 #[.agg #[.int .i64 21, .int .i64 iw, .int .i64 a, .int .i64 b, .int .i64 c, .int .i64 imm, .slice u 0 q], .int .i64 ids, .int .i64 funcs] w fun e w' => e = .returned (.bool (instB ⟨21, iw, a, b, c, imm, []⟩ ids funcs)) ∧ Below w.heap.size w w' := by
 generalize hV : instB ⟨21, iw, a, b, c, imm, []⟩ ids funcs = V
 have E : opsD ⟨21, iw, a, b, c, imm, []⟩ = [] := rfl
 have HI : Hid (([]).all (fun n => belowB n ids) = true → V = (widthB iw && valueB iw imm && a == 0 && b == 0 && c == 0)) := fun hall => by
  rw [← hV]
  unfold instB wB iB fB
  rw [E, hall]
  first | (simp; done) | (simp; ac_rfl)
 have HJ : Hid (([]).all (fun n => belowB n ids) = false → V = false) := fun hall => by
  rw [← hV]
  unfold instB
  rw [E, hall]
  simp
 have O := fun w => operS 0 ⟨21, iw, a, b, c, imm, []⟩ u q w (by simp) ⟨by simp, .inl rfl⟩
 rw [E] at O
 dsimp only [List.length_nil, List.length_cons] at O
 clear E hV
 go_enter Tryz.func65, Tryz.ntmps65
 go_wp2_with fail
 refine (inS _ _ _ _).mono ?_
 rintro e w' ⟨rfl, rfl⟩
 go_wp2_with fail
 refine (O _).mono ?_
 rintro e w1 ⟨v, r, rfl, ho, hb1⟩
 obtain ⟨x0, x1, x2, x3, x4, x5, x6, hB⟩ := cells7 hb1
 have HO := ho.ints
 clear ho hb1 O
 go_wp2_with fail
 go_loop [8] (fun i => ∃ k : Nat, k ≤ 0 ∧ i = .int .i64 k ∧ Hid (∀ j, j < k → belowB (([]).getD j 0) ids = true)) (fun i => 0 - (intOf i).toNat)
 case atStart => exact ⟨0, by omega, rfl, fun j hj => by omega⟩
 case round =>
  obtain ⟨k, hk9, rfl, HD⟩ := hrel
  by_cases hlt : k < 0
  ·exact absurd hlt (by omega)
  ·have hall := all_yes 0 (f := fun n => belowB n ids) ([]) (fun j hj => HD.out j (by first | omega | (simp at hj; done) | (simp at hj; omega)))
   have HK : Hid (V = (widthB iw && valueB iw imm && a == 0 && b == 0 && c == 0)) := HI.out hall
   clear hall HI HJ HD HO
   go_wp2_with (first | (go_at_call 64; refine (widthS _ _).mono ?_; rintro e w' ⟨rfl, rfl⟩) | (go_at_call 103; refine (valueS _ _ _).mono ?_; rintro e w' ⟨rfl, rfl⟩) | (go_at_call 32; refine (inB _ _ _).mono ?_; rintro e w' ⟨rfl, rfl⟩))
   all_goals
    go_ret
    refine ⟨ret_bool ?_, hB⟩
    have hk := HK.out
    have hw0 := width0
    have hw8 := width8
    clear HK
    first | (simp_all; done) | (simp_all; omega) | (by_cases h8 : iw = 8 <;> by_cases h0 : iw = 0 <;> simp_all; done)
set_option maxHeartbeats 2000000 in
set_option maxRecDepth 100000 in
theorem instShS_22 (iw a b c imm : Int) (u : Option Addr) (q : Nat) (ids funcs : Int) (w : World) (g0 : 0 ≤ ids) (g1 : ids ≤ 4611686018427387904) (g2 : 0 ≤ funcs) (g3 : funcs ≤ 4611686018427387904) :
  Calls Tryz.prog 65 #[.agg #[.int .i64 22, .int .i64 iw, .int .i64 a, .int .i64 b, .int .i64 c, .int .i64 imm, .slice u 0 q], .int .i64 ids, .int .i64 funcs] w fun e w' => e = .returned (.bool (instB ⟨22, iw, a, b, c, imm, []⟩ ids funcs)) ∧ Below w.heap.size w w' := by
 generalize hV : instB ⟨22, iw, a, b, c, imm, []⟩ ids funcs = V
 have E : opsD ⟨22, iw, a, b, c, imm, []⟩ = [a, b, c] := rfl
 have HI : Hid (([a, b, c]).all (fun n => belowB n ids) = true → V = (widthB iw && imm == 0)) := fun hall => by
  rw [← hV]
  unfold instB wB iB fB
  rw [E, hall]
  first | (simp; done) | (simp; ac_rfl)
 have HJ : Hid (([a, b, c]).all (fun n => belowB n ids) = false → V = false) := fun hall => by
  rw [← hV]
  unfold instB
  rw [E, hall]
  simp
 have O := fun w => operS 0 ⟨22, iw, a, b, c, imm, []⟩ u q w (by simp) ⟨by simp, .inl rfl⟩
 rw [E] at O
 dsimp only [List.length_nil, List.length_cons] at O
 clear E hV
 go_enter Tryz.func65, Tryz.ntmps65
 go_wp2_with fail
 refine (inS _ _ _ _).mono ?_
 rintro e w' ⟨rfl, rfl⟩
 go_wp2_with fail
 refine (O _).mono ?_
 rintro e w1 ⟨v, r, rfl, ho, hb1⟩
 obtain ⟨x0, x1, x2, x3, x4, x5, x6, hB⟩ := cells7 hb1
 have HO := ho.ints
 clear ho hb1 O
 go_wp2_with fail
 go_loop [8] (fun i => ∃ k : Nat, k ≤ 3 ∧ i = .int .i64 k ∧ Hid (∀ j, j < k → belowB (([a, b, c]).getD j 0) ids = true)) (fun i => 3 - (intOf i).toNat)
 case atStart => exact ⟨0, by omega, rfl, fun j hj => by omega⟩
 case round =>
  obtain ⟨k, hk9, rfl, HD⟩ := hrel
  by_cases hlt : k < 3
  ·rcases HO.2 with hn | ⟨bb, off, rfl, hlo, hb, hcell⟩
   ·cases hn
   have e0 := hcell k (by simpa using hlt)
   generalize hx : ([a, b, c]).getD k 0 = x at e0
   have HX : Hid (([a, b, c]).getD k 0 = x) := hx
   clear hcell hx HO
   cases hp : belowB x ids with
   | true =>
    have HP : Hid (belowB x ids = true) := hp
    go_wp2_with (go_at_call 32; refine (inB _ _ _).mono ?_; rintro e w' ⟨rfl, rfl⟩)
    exact ⟨⟨k + 1, by omega, by go_num, fun j hj => by
     by_cases e : j = k
     ·subst e; rw [HX.out]; exact HP.out
     ·exact HD.out j (by omega)⟩, by simp only [intOf]; omega⟩
   | false =>
    have HP : Hid (belowB x ids = false) := hp
    go_wp2_with (go_at_call 32; refine (inB _ _ _).mono ?_; rintro e w' ⟨rfl, rfl⟩)
    go_ret
    refine ⟨ret_bool ?_, hB⟩
    rw [HJ.out (all_no 0 ([a, b, c]) k (by simpa using hlt) (by rw [HX.out, HP.out]; decide))]
  ·have hall := all_yes 0 (f := fun n => belowB n ids) ([a, b, c]) (fun j hj => HD.out j (by first | omega | (simp at hj; done) | (simp at hj; omega)))
   have HK : Hid (V = (widthB iw && imm == 0)) := HI.out hall
   clear hall HI HJ HD HO
   go_wp2_with (first | (go_at_call 64; refine (widthS _ _).mono ?_; rintro e w' ⟨rfl, rfl⟩) | (go_at_call 103; refine (valueS _ _ _).mono ?_; rintro e w' ⟨rfl, rfl⟩) | (go_at_call 32; refine (inB _ _ _).mono ?_; rintro e w' ⟨rfl, rfl⟩))
   all_goals
    go_ret
    refine ⟨ret_bool ?_, hB⟩
    have hk := HK.out
    have hw0 := width0
    have hw8 := width8
    clear HK
    first | (simp_all; done) | (simp_all; omega) | (by_cases h8 : iw = 8 <;> by_cases h0 : iw = 0 <;> simp_all; done)
set_option maxHeartbeats 2000000 in
set_option maxRecDepth 100000 in
theorem instShS_23 (iw a b c imm : Int) (u : Option Addr) (q : Nat) (ids funcs : Int) (w : World) (g0 : 0 ≤ ids) (g1 : ids ≤ 4611686018427387904) (g2 : 0 ≤ funcs) (g3 : funcs ≤ 4611686018427387904) :
  Calls Tryz.prog 65 #[.agg #[.int .i64 23, .int .i64 iw, .int .i64 a, .int .i64 b, .int .i64 c, .int .i64 imm, .slice u 0 q], .int .i64 ids, .int .i64 funcs] w fun e w' => e = .returned (.bool (instB ⟨23, iw, a, b, c, imm, []⟩ ids funcs)) ∧ Below w.heap.size w w' := by
 generalize hV : instB ⟨23, iw, a, b, c, imm, []⟩ ids funcs = V
 have E : opsD ⟨23, iw, a, b, c, imm, []⟩ = [a] := rfl
 have HI : Hid (([a]).all (fun n => belowB n ids) = true → V = (iw == 8 && imm == 0 && b == 0 && c == 0)) := fun hall => by
  rw [← hV]
  unfold instB wB iB fB
  rw [E, hall]
  first | (simp; done) | (simp; ac_rfl)
 have HJ : Hid (([a]).all (fun n => belowB n ids) = false → V = false) := fun hall => by
  rw [← hV]
  unfold instB
  rw [E, hall]
  simp
 have O := fun w => operS 0 ⟨23, iw, a, b, c, imm, []⟩ u q w (by simp) ⟨by simp, .inl rfl⟩
 rw [E] at O
 dsimp only [List.length_nil, List.length_cons] at O
 clear E hV
 go_enter Tryz.func65, Tryz.ntmps65
 go_wp2_with fail
 refine (inS _ _ _ _).mono ?_
 rintro e w' ⟨rfl, rfl⟩
 go_wp2_with fail
 refine (O _).mono ?_
 rintro e w1 ⟨v, r, rfl, ho, hb1⟩
 obtain ⟨x0, x1, x2, x3, x4, x5, x6, hB⟩ := cells7 hb1
 have HO := ho.ints
 clear ho hb1 O
 go_wp2_with fail
 go_loop [8] (fun i => ∃ k : Nat, k ≤ 1 ∧ i = .int .i64 k ∧ Hid (∀ j, j < k → belowB (([a]).getD j 0) ids = true)) (fun i => 1 - (intOf i).toNat)
 case atStart => exact ⟨0, by omega, rfl, fun j hj => by omega⟩
 case round =>
  obtain ⟨k, hk9, rfl, HD⟩ := hrel
  by_cases hlt : k < 1
  ·rcases HO.2 with hn | ⟨bb, off, rfl, hlo, hb, hcell⟩
   ·cases hn
   have e0 := hcell k (by simpa using hlt)
   generalize hx : ([a]).getD k 0 = x at e0
   have HX : Hid (([a]).getD k 0 = x) := hx
   clear hcell hx HO
   cases hp : belowB x ids with
   | true =>
    have HP : Hid (belowB x ids = true) := hp
    go_wp2_with (go_at_call 32; refine (inB _ _ _).mono ?_; rintro e w' ⟨rfl, rfl⟩)
    exact ⟨⟨k + 1, by omega, by go_num, fun j hj => by
     by_cases e : j = k
     ·subst e; rw [HX.out]; exact HP.out
     ·exact HD.out j (by omega)⟩, by simp only [intOf]; omega⟩
   | false =>
    have HP : Hid (belowB x ids = false) := hp
    go_wp2_with (go_at_call 32; refine (inB _ _ _).mono ?_; rintro e w' ⟨rfl, rfl⟩)
    go_ret
    refine ⟨ret_bool ?_, hB⟩
    rw [HJ.out (all_no 0 ([a]) k (by simpa using hlt) (by rw [HX.out, HP.out]; decide))]
  ·have hall := all_yes 0 (f := fun n => belowB n ids) ([a]) (fun j hj => HD.out j (by first | omega | (simp at hj; done) | (simp at hj; omega)))
   have HK : Hid (V = (iw == 8 && imm == 0 && b == 0 && c == 0)) := HI.out hall
   clear hall HI HJ HD HO
   go_wp2_with (first | (go_at_call 64; refine (widthS _ _).mono ?_; rintro e w' ⟨rfl, rfl⟩) | (go_at_call 103; refine (valueS _ _ _).mono ?_; rintro e w' ⟨rfl, rfl⟩) | (go_at_call 32; refine (inB _ _ _).mono ?_; rintro e w' ⟨rfl, rfl⟩))
   all_goals
    go_ret
    refine ⟨ret_bool ?_, hB⟩
    have hk := HK.out
    have hw0 := width0
    have hw8 := width8
    clear HK
    first | (simp_all; done) | (simp_all; omega) | (by_cases h8 : iw = 8 <;> by_cases h0 : iw = 0 <;> simp_all; done)
end Go.Proofs.YtgojlnclpebdcaaGreatDoor
