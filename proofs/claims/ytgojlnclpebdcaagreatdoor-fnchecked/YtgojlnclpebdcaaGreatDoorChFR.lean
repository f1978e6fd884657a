import Derived.Test.YtgojlnclpebdcaaGreatDoorChAR
import Derived.Test.YtgojlnclpebdcaaGreatDoorMemR
import Derived.LaidEql
namespace Go.Proofs.YtgojlnclpebdcaaGreatDoor
open Go.RowKit
set_option linter.unusedVariables false
def OutC (b : Bool) (aW aC : Addr) (v : Value) : Prop := (b = true ∧ v = .nilIface) ∨ (b = false ∧ (v = errV aW ∨ v = errV aC))
theorem cals_no {t : Int → Int} {g : FuncD} {i : InstD} {k : Nat} (hk : k < i.args.length) (h : ¬ t (i.args.getD k 0) = g.params.getD k 0) : calB t g i = false := by
 have : ((List.range i.args.length).all fun k => t (i.args.getD k 0) == g.params.getD k 0) = false := all_no 0 (List.range i.args.length) k (by simp; exact hk) (by simp [hk] at h ⊢; exact h)
 unfold calB; rw [this]; simp
theorem cals_yes {t : Int → Int} {g : FuncD} {i : InstD} (h1 : i.w = g.ret) (h2 : i.args.length = g.params.length) (h : ∀ k, k < i.args.length → t (i.args.getD k 0) = g.params.getD k 0) : calB t g i = true := by
 have : ((List.range i.args.length).all fun k => t (i.args.getD k 0) == g.params.getD k 0) = true := by
  rw [List.all_eq_true]
  exact fun k hk => by rw [h k (List.mem_range.1 hk)]; simp
 unfold calB; rw [this, h2, h1]; simp
set_option maxHeartbeats 4000000 in
theorem callI (lo : Nat) (d g : FuncD) (i : InstD) (ut : Option Addr) (ct : Nat) (u : Option Addr) (q : Nat) (p0 : Option Addr) (q0 : Nat) (p2 : Option Addr) (q2 : Nat) (aW aC : Addr) (w : World)
  (hc60 : cntF d ≤ 60) (hT : IntsAt w lo ut (tysF d)) (hA : IntsAt w lo u i.args) (hP : IntsAt w lo p0 g.params) (hin : ∀ id ∈ i.args, 0 ≤ id ∧ id < (cntF d : Int)) (hl : i.args.length ≤ 1048576) (hgl : g.params.length ≤ 1048576) (hW : Gv w 4 (errV aW)) (hC : Gv w 3 (errV aC)) :
  Calls Tryz.prog 83 #[.slice ut (cntF d) ct, .agg #[.int .i64 i.imm, .slice u i.args.length q], .int .i64 i.w, .agg #[.slice p0 g.params.length q0, .int .i64 g.ret, .slice p2 g.blocks.length q2]] w fun e w' => (∃ v, e = .returned v ∧ OutC (calB (typeF d) g i) aW aC v) ∧ Below w.heap.size w w' := by
 have w0 := hW.cell
 have w1 := hW.lt
 have n0 := hC.cell
 have n1 := hC.lt
 unfold errV at w0 n0
 clear hW hC
 by_cases h1 : i.w = g.ret
 ·by_cases h2 : i.args.length = g.params.length
  ·have HIN : Hid (∀ id ∈ i.args, 0 ≤ id ∧ id < (cntF d : Int)) := hin
   have HTT : Hid (IntsAt w lo ut (tysF d)) := hT
   have HAA : Hid (IntsAt w lo u i.args) := hA
   have HPP : Hid (IntsAt w lo p0 g.params) := hP
   have H1 : Hid (i.w = g.ret) := h1
   have H2 : Hid (i.args.length = g.params.length) := h2
   rw [h1, h2]
   have hgl2 : g.params.length ≤ 1048576 := by omega
   clear hin hT hA hP h1 h2 hl
   go_enter Tryz.func83, Tryz.ntmps83
   go_wp2_with fail
   go_loopw [27] (fun x wr => ∃ k : Nat, k ≤ g.params.length ∧ x = .int .i64 k ∧ Hid (∀ j, j < k → typeF d (i.args.getD j 0) = g.params.getD j 0) ∧ Hid (Below (w.heap.size + 1 + 1) ((w.alloc (.cells #[.int .i64 i.imm, .slice u g.params.length q] 132)).alloc (.cells #[.slice p0 g.params.length q0, .int .i64 g.ret, .slice p2 g.blocks.length q2] 36)) wr)) (fun x _ => g.params.length - (intOf x).toNat)
   case atStart => exact ⟨0, by omega, rfl, fun j hj => by omega, Below.refl _ _⟩
   case round =>
    obtain ⟨k, hk, rfl, HD, HB⟩ := hrel
    obtain ⟨wo, hwo⟩ : ∃ wo, wo = wr := ⟨_, rfl⟩
    subst hwo
    have hB : Below w.heap.size w wo := (((Below.refl w.heap.size w).alloc (Nat.le_refl _) _).alloc (by simp) _).trans (HB.out.mono (by omega))
    have hz : w.heap.size + 1 + 1 ≤ wo.heap.size := by have := HB.out.size; simp at this; omega
    by_cases hlt : k < g.params.length
    ·have hh := (HB.out.block (w.heap.size + 1) (by omega)).trans (show _ = some (Obj.cells #[.slice p0 g.params.length q0, .int .i64 g.ret, .slice p2 g.blocks.length q2] 36 (0, 0)) from heap_two _ _ _)
     have y0 : wo.cell? ⟨w.heap.size + 1, 0, none⟩ = some (.slice p0 g.params.length q0) := (cell_of_heap hh).trans rfl
     rcases HAA.out.2 with hn | ⟨ab, ao, rfl, halo, hab, hac⟩
     ·have := H2.out; simp [hn] at this; omega
     rcases HPP.out.2 with hn | ⟨pb, po, rfl, hplo, hpb, hpc⟩
     ·simp [hn] at hlt
     have z0 : wo.cell? ⟨ab, ao + k, none⟩ = some (.int .i64 (i.args.getD k 0)) := (bcell hB _ _ hab).trans (hac k (by have := H2.out; omega))
     have z1 : wo.cell? ⟨pb, po + k, none⟩ = some (.int .i64 (g.params.getD k 0)) := (bcell hB _ _ hpb).trans (hpc k hlt)
     have hid := HIN.out _ (getD_mem 0 i.args k (by have := H2.out; omega))
     have NO : Hid (¬ typeF d (i.args.getD k 0) = g.params.getD k 0 → calB (typeF d) g i = false) := fun h => cals_no (by have := H2.out; omega) h
     have YS : Hid (typeF d (i.args.getD k 0) = g.params.getD k 0 → ∀ j, j < k + 1 → typeF d (i.args.getD j 0) = g.params.getD j 0) := fun h j hj => by
      by_cases e : j = k
      ·subst e; exact h
      ·exact HD.out j (by omega)
     generalize g.params.getD k 0 = pv at z1 NO YS
     generalize i.args.getD k 0 = id at z0 hid NO YS
     obtain ⟨idn, rfl⟩ : ∃ n : Nat, id = n := ⟨id.toNat, by omega⟩
     have hidn : idn < cntF d := by omega
     rcases HTT.out.2 with hn | ⟨tb, tof, rfl, htlo, htb, htc⟩
     ·have := tys_len d; simp [hn] at this; omega
     have z2 : wo.cell? ⟨tb, tof + idn, none⟩ = some (.int .i64 (typeF d idn)) := (bcell hB _ _ htb).trans ((htc idn (by rw [tys_len]; exact hidn)).trans (by rw [tys_at hidn]))
     have g0' := (bcell hB _ _ w1).trans w0
     have g1' : 4 < wo.heap.size := by omega
     generalize typeF d (idn : Int) = tv at z2 NO YS
     clear hac hpc htc hid hB hh w0 n0
     by_cases hq : tv = pv
     ·subst hq
      go_wp2_with fail
      go_quiet (fail)
      go_wp2_with fail
      go_roundw
      case rel => exact ⟨k + 1, by omega, by go_num, YS.out (by simp), below_drewN HB.out _⟩
      case measure => simp [intOf]; omega
     ·have E : Hid (OutC (calB (typeF d) g i) aW aC (errV aW)) := .inr ⟨NO.out hq, .inl rfl⟩
      go_wp2_with fail
      go_quiet (fail)
      go_wp2_with fail
      go_ret
      exact ⟨⟨_, rfl, E.out⟩, (((Below.refl w.heap.size w).alloc (Nat.le_refl _) _).alloc (by simp) _).trans ((below_drewN HB.out _).mono (by omega))⟩
    ·have E : Hid (OutC (calB (typeF d) g i) aW aC .nilIface) := .inl ⟨cals_yes H1.out H2.out (fun j hj => HD.out j (by have := H2.out; omega)), rfl⟩
     have HB2 : Hid (Below w.heap.size w wo) := hB
     clear hB
     go_wp2_with fail
     go_ret
     exact ⟨⟨_, rfl, E.out⟩, HB2.out⟩
  ·have h2i : ¬ (i.args.length : Int) = g.params.length := by omega
   have E : Hid (OutC (calB (typeF d) g i) aW aC (errV aC)) := .inr ⟨by unfold calB; simp [h2], .inr rfl⟩
   clear hT hA hP hin
   go_enter Tryz.func83, Tryz.ntmps83
   go_wp2_with fail
   go_ret
   exact ⟨⟨_, rfl, E.out⟩, ((Below.refl w.heap.size w).alloc (Nat.le_refl _) _).alloc (by simp) _⟩
 ·have E : Hid (OutC (calB (typeF d) g i) aW aC (errV aW)) := .inr ⟨by unfold calB; simp [h1], .inl rfl⟩
  clear hT hA hP hin
  go_enter Tryz.func83, Tryz.ntmps83
  go_wp2_with fail
  go_ret
  exact ⟨⟨_, rfl, E.out⟩, ((Below.refl w.heap.size w).alloc (Nat.le_refl _) _).alloc (by simp) _⟩
end Go.Proofs.YtgojlnclpebdcaaGreatDoor
namespace Go.Proofs.YtgojlnclpebdcaaGreatDoor
open Go.RowKit
def SmMod (l : List FuncD) : Prop := l.length ≤ 1048576 ∧ ∀ d ∈ l, SmFunc d
end Go.Proofs.YtgojlnclpebdcaaGreatDoor
namespace Go.Proofs.YtgojlnclpebdcaaGreatDoor
open Go.RowKit
set_option linter.unusedVariables false
theorem OutC.yes {b : Bool} {aW aC : Addr} {v : Value} (h : OutC b aW aC v) (hb : b = true) : v = .nilIface := by
 rcases h with h | h
 ·exact h.2
 ·rw [hb] at h; cases h.1
theorem OutC.no {b : Bool} {aW aC : Addr} {v : Value} (h : OutC b aW aC v) (hb : b = false) : ∃ x, v = .iface 212 (.pointer (some x)) ∧ (x = aW ∨ x = aC) := by
 rcases h with h | h
 ·rw [hb] at h; cases h.1
 ·rcases h.2 with h | h
  ·exact ⟨aW, h, .inl rfl⟩
  ·exact ⟨aC, h, .inr rfl⟩
theorem cls_no {l : List FuncD} {d : FuncD} {k j : Nat} (hk : k < d.blocks.length) (hj : j < (d.blocks.getD k block0).insts.length) (h : cllB l (typeF d) ((d.blocks.getD k block0).insts.getD j inst0) = false) : clsB l d = false :=
 all_no block0 d.blocks k hk (by rw [all_no (f := cllB l (typeF d)) inst0 (d.blocks.getD k block0).insts j hj (by rw [h]; decide)]; decide)
set_option maxHeartbeats 8000000 in
set_option maxRecDepth 100000 in
theorem callsI (lo : Nat) (l : List FuncD) (d : FuncD) (um : Option Addr) (cm : Nat) (u0 : Option Addr) (c0 : Nat) (u2 : Option Addr) (c2 : Nat) (aW aC : Addr) (w : World) (hsl : SmMod l) (hs : SmFunc d) (kM : FuncsAt w lo um l) (k0 : IntsAt w lo u0 d.params) (k2 : BlocksAt w lo u2 d.blocks) (hF : Form l.length d) (hvW : Gv w 4 (errV aW)) (hvC : Gv w 3 (errV aC)) :
  Calls Tryz.prog 47 #[.agg #[.slice um l.length cm], .agg #[.slice u0 d.params.length c0, .int .i64 d.ret, .slice u2 d.blocks.length c2]] w fun e w' => (∃ v, e = .returned v ∧ OutC (clsB l d) aW aC v) ∧ Below w.heap.size w w' := by
 have hb1 := hF.b1
 have hb10 := hF.b10
 have hc60 := hF.c60
 have HS : Hid (SmFunc d) := hs
 have HSL : Hid (SmMod l) := hsl
 have HF : Hid (Form l.length d) := hF
 have hBM : Below w.heap.size w (w.alloc (.cells #[.slice um l.length cm] 26)) := (Below.refl _ _).alloc (Nat.le_refl _) _
 have F0 := FBox.start (d := d) (u0 := u0) (u2 := u2) (c0 := c0) (c2 := c2) (w := w.alloc (.cells #[.slice um l.length cm] 26)) (T := 36)
 have hB0 : Below w.heap.size w ((w.alloc (.cells #[.slice um l.length cm] 26)).alloc (.cells #[.slice u0 d.params.length c0, .int .i64 d.ret, .slice u2 d.blocks.length c2] 36)) := hBM.trans (F0.below.mono (by simp))
 have X0 : ((w.alloc (.cells #[.slice um l.length cm] 26)).alloc (.cells #[.slice u0 d.params.length c0, .int .i64 d.ret, .slice u2 d.blocks.length c2] 36)).cell? ⟨w.heap.size, 0, none⟩ = some (.slice um l.length cm) := cell_new (by simp) ((cell_of_heap (heap_alloc_last _ _)).trans rfl)
 have D := typesI lo d u0 c0 u2 c2 _ hs (k0.keep (agree_of_below hB0 lo)) (k2.keep (agree_of_below hB0 lo)) hc60
 have HKM : Hid (FuncsAt w lo um l) := kM
 have HVW : Hid (Gv w 4 (errV aW)) := hvW
 have HVC : Hid (Gv w 3 (errV aC)) := hvC
 have hlo1 : 4 < w.heap.size := hvW.lt
 clear hs hF k0 hsl kM hvW hvC
 go_enter Tryz.func47, Tryz.ntmps47
 go_wp2_with (go_at_call 82; refine D.mono ?_; rintro e w1 ⟨⟨N, rfl, hT⟩, hb1'⟩; have HT : Hid (IntsAt w1 w.heap.size (some ⟨N, 0, none⟩) (tysF d)) := hT.low (by simp; omega); have HF1 : Hid _ := F0.keep hb1'; have HX1 : Hid (w1.cell? ⟨w.heap.size, 0, none⟩ = some (.slice um l.length cm)) := (bcell hb1' _ _ (by simp; omega)).trans X0; have HB1 : Hid (Below w.heap.size w w1) := hB0.trans (hb1'.mono (by simp; omega)); have a2 : w1.cell? ⟨w.heap.size + 1, 2, none⟩ = some (.slice u2 d.blocks.length c2) := (by have := HF1.out.a2; simpa using this); have hz1 : w.heap.size + 1 + 1 ≤ w1.heap.size := (by have := HF1.out.size; simp at this; omega); clear hb1' hT F0 D X0 hB0 hBM)
 go_loopw [18] (fun i wr => ∃ k : Nat, k ≤ d.blocks.length ∧ i = .int .i64 k ∧ Hid (∀ j, j < k → ((d.blocks.getD j block0).insts.all (cllB l (typeF d))) = true) ∧ Hid (Below w1.heap.size w1 wr)) (fun i _ => d.blocks.length - (intOf i).toNat)
 case atStart => exact ⟨0, by omega, rfl, fun j hj => by omega, Below.refl _ _⟩
 case round =>
  obtain ⟨k, hk, rfl, HD, HW⟩ := hrel
  clear a2
  obtain ⟨wo, hwo⟩ : ∃ wo, wo = wr := ⟨_, rfl⟩
  subst hwo
  have HWo : Hid (Below w.heap.size w wo) := HB1.out.trans (HW.out.mono (by omega))
  have hzo : w1.heap.size ≤ wo.heap.size := HW.out.size
  by_cases hlt : k < d.blocks.length
  ·have HTo : Hid (IntsAt wo w.heap.size (some ⟨N, 0, none⟩) (tysF d)) := HT.out.keep (agree_of_below HW.out _)
   have HXo : Hid (wo.cell? ⟨w.heap.size, 0, none⟩ = some (.slice um l.length cm)) := (bcell HW.out _ _ (by omega)).trans HX1.out
   have hW := HWo.out
   rcases k2.2 with hn | ⟨b, off, rfl, hlo, hb, hcell⟩
   ·simp [hn] at hlt
   obtain ⟨⟨v0, q0, h0, m0⟩, ⟨v1, q1, h1, m1⟩, h2, h3, h4, h5⟩ := hcell k hlt
   have hfb := HF.out.at hlt
   have hsm := HS.out.2.2 _ (getD_mem block0 d.blocks k hlt)
   have HNO : Hid (∀ j, j < (d.blocks.getD k block0).insts.length → cllB l (typeF d) ((d.blocks.getD k block0).insts.getD j inst0) = false → clsB l d = false) := fun j hj h => cls_no hlt hj h
   have HYS : Hid ((d.blocks.getD k block0).insts.all (cllB l (typeF d)) = true → ∀ j, j < k + 1 → ((d.blocks.getD j block0).insts.all (cllB l (typeF d))) = true) := fun h j hj => by
    by_cases e : j = k
    ·subst e; exact h
    ·exact HD.out j (by omega)
   generalize d.blocks.getD k block0 = x at h0 h1 h2 h3 h4 h5 m0 m1 hsm HNO HYS hfb
   have HFB : Hid (FBlk (cntF d) d.blocks.length l.length x) := hfb
   have e0 : wo.cell? ⟨b, off + k * 6, none⟩ = some (.slice v0 x.phis.length q0) := (cell_block (hW.block b hb)).trans h0
   have e1 : wo.cell? ⟨b, off + k * 6 + 1, none⟩ = some (.slice v1 x.insts.length q1) := (cell_block (hW.block b hb)).trans h1
   have e2 : wo.cell? ⟨b, off + k * 6 + 2, none⟩ = some (.int .i64 x.term.kind) := (cell_block (hW.block b hb)).trans h2
   have e3 : wo.cell? ⟨b, off + k * 6 + 3, none⟩ = some (.int .i64 x.term.a) := (cell_block (hW.block b hb)).trans h3
   have e4 : wo.cell? ⟨b, off + k * 6 + 4, none⟩ = some (.int .i64 x.term.x) := (cell_block (hW.block b hb)).trans h4
   have e5 : wo.cell? ⟨b, off + k * 6 + 5, none⟩ = some (.int .i64 x.term.y) := (cell_block (hW.block b hb)).trans h5
   have M1 := m1.keep (agree_of_below hW lo)
   have s1 := hsm.2.1
   have SN : Hid (∀ p ∈ x.insts, SmInst p) := hsm.2.2
   clear hcell h0 h1 h2 h3 h4 h5 m0 m1 hsm hfb hW HD
   go_wp2_with fail
   clear e0 e1 e2 e3 e4 e5
   go_loopw [25] (fun i wr => ∃ j : Nat, j ≤ x.insts.length ∧ i = .int .i64 j ∧ Hid (∀ q, q < j → cllB l (typeF d) (x.insts.getD q inst0) = true) ∧ Hid (Below (wo.heap.size + 1) (wo.alloc (.cells #[.slice v0 x.phis.length q0, .slice v1 x.insts.length q1, .int .i64 x.term.kind, .int .i64 x.term.a, .int .i64 x.term.x, .int .i64 x.term.y] 43)) wr)) (fun i _ => x.insts.length - (intOf i).toNat)
   case atStart => exact ⟨0, by omega, rfl, fun q hq => by omega, Below.refl _ _⟩
   case round =>
    obtain ⟨j, hj, rfl, HJ, HC⟩ := hrel
    obtain ⟨wq, hwq⟩ : ∃ wq, wq = wr := ⟨_, rfl⟩
    subst hwq
    have hWj : Below wo.heap.size wo wq := below_box HC.out
    have hzq : wo.heap.size + 1 ≤ wq.heap.size := by have := HC.out.size; simp at this; omega
    have HWq : Hid (Below w.heap.size w wq) := HWo.out.trans (hWj.mono (by omega))
    have HTq : Hid (IntsAt wq w.heap.size (some ⟨N, 0, none⟩) (tysF d)) := HTo.out.keep (agree_of_below hWj _)
    have HXq : Hid (wq.cell? ⟨w.heap.size, 0, none⟩ = some (.slice um l.length cm)) := (bcell hWj _ _ (by omega)).trans HXo.out
    by_cases hjl : j < x.insts.length
    ·rcases M1.2 with hn | ⟨pb, po, rfl, hplo, hpb, hpc⟩
     ·simp [hn] at hjl
     obtain ⟨i0, i1, i2, i3, i4, i5, ⟨iu, iq, i6, im⟩⟩ := hpc j hjl
     have HOPS : Hid (∀ id ∈ opsD (x.insts.getD j inst0), 0 ≤ id ∧ id < (cntF d : Int)) := HFB.out.ops _ (getD_mem inst0 x.insts j hjl)
     have HIMM : Hid ((x.insts.getD j inst0).op = 26 → 0 ≤ (x.insts.getD j inst0).imm ∧ (x.insts.getD j inst0).imm < (l.length : Int)) := HFB.out.imm _ (getD_mem inst0 x.insts j hjl)
     have INO : Hid (cllB l (typeF d) (x.insts.getD j inst0) = false → clsB l d = false) := fun h => HNO.out j hjl h
     have IYS : Hid (cllB l (typeF d) (x.insts.getD j inst0) = true → ∀ q, q < j + 1 → cllB l (typeF d) (x.insts.getD q inst0) = true) := fun h q hq => by
      by_cases e : q = j
      ·subst e; exact h
      ·exact HJ.out q (by omega)
     have hsmI : SmInst (x.insts.getD j inst0) := SN.out _ (getD_mem inst0 x.insts j hjl)
     generalize x.insts.getD j inst0 = p at i0 i1 i2 i3 i4 i5 i6 im HOPS INO IYS HIMM hsmI
     have hsmA : p.args.length ≤ 1048576 := hsmI
     have f0 : wq.cell? ⟨pb, po + j * 7, none⟩ = some (.int .i64 p.op) := (bcell hWj _ _ hpb).trans i0
     have f1 : wq.cell? ⟨pb, po + j * 7 + 1, none⟩ = some (.int .i64 p.w) := (bcell hWj _ _ hpb).trans i1
     have f2 : wq.cell? ⟨pb, po + j * 7 + 2, none⟩ = some (.int .i64 p.a) := (bcell hWj _ _ hpb).trans i2
     have f3 : wq.cell? ⟨pb, po + j * 7 + 3, none⟩ = some (.int .i64 p.b) := (bcell hWj _ _ hpb).trans i3
     have f4 : wq.cell? ⟨pb, po + j * 7 + 4, none⟩ = some (.int .i64 p.c) := (bcell hWj _ _ hpb).trans i4
     have f5 : wq.cell? ⟨pb, po + j * 7 + 5, none⟩ = some (.int .i64 p.imm) := (bcell hWj _ _ hpb).trans i5
     have f6 : wq.cell? ⟨pb, po + j * 7 + 6, none⟩ = some (.slice iu p.args.length iq) := (bcell hWj _ _ hpb).trans i6
     have HIM : Hid (IntsAt wq lo iu p.args) := im.keep (agree_of_below hWj lo)
     have K := kind_any p iu iq (wq.alloc (.cells #[.int .i64 p.op, .int .i64 p.w, .int .i64 p.a, .int .i64 p.b, .int .i64 p.c, .int .i64 p.imm, .slice iu p.args.length iq] 54))
     clear hpc i0 i1 i2 i3 i4 i5 i6 im hWj M1 HJ hsmI
     by_cases ho : p.op = 26
     ·rw [kv_26 ho] at K
      have AA := as_callKind_callKind
      have HOA : Hid (opsD p = p.args) := by show _ = _; simp [opsD, ho, show opB 26 = false by decide]
      obtain ⟨m, hm, hml⟩ := nat_of (HIMM.out ho)
      have CE : Hid (cllB l (typeF d) p = calB (typeF d) (l.getD m func0) p) := by show _ = _; unfold cllB; simp [ho, hm]
      rcases HKM.out.2 with hn | ⟨fb, fo, hume, hflo, hfb', hfc⟩
      ·simp [hn] at hml
      subst hume
      obtain ⟨⟨p0, pq0, n0, nm0⟩, n1, ⟨p2, pq2, n2, nm2⟩⟩ := hfc m hml
      have hgs : (l.getD m func0).params.length ≤ 1048576 := (HSL.out.2 _ (getD_mem func0 l m hml)).1
      generalize l.getD m func0 = g at n0 nm0 n1 n2 nm2 hgs CE
      have HM : Hid (p.imm = m) := hm
      have hmi : (m : Int) < l.length := by omega
      rw [hm] at f5 K
      have HN0 : Hid (IntsAt w lo p0 g.params) := nm0
      have HCa : Hid (_ ∧ _ ∧ _) := ⟨n0, n1, n2⟩
      have hsl3 := HSL.out.1
      clear hfc n0 n1 n2 nm0 nm2 hm ho
      go_wp2_with (go_at_call 41; refine K.mono ?_; rintro e w5 ⟨rfl, hb5⟩)
      have hz5 : wq.heap.size + 1 ≤ w5.heap.size := by have := hb5.size; simp at this; omega
      have hB5 : Below wq.heap.size wq w5 := ((Below.refl wq.heap.size wq).alloc (Nat.le_refl _) _).trans (hb5.mono (by simp))
      have hB6 : Below wq.heap.size wq (w5.alloc (.cells #[.int .i64 (m : Int), .slice iu p.args.length iq] 132)) := hB5.alloc (by omega) _
      have y0 : (w5.alloc (.cells #[.int .i64 (m : Int), .slice iu p.args.length iq] 132)).cell? ⟨w5.heap.size, 0, none⟩ = some (.int .i64 (m : Int)) := (cell_of_heap (heap_alloc_last _ _)).trans rfl
      have y1 : (w5.alloc (.cells #[.int .i64 (m : Int), .slice iu p.args.length iq] 132)).cell? ⟨w5.heap.size, 1, none⟩ = some (.slice iu p.args.length iq) := (cell_of_heap (heap_alloc_last _ _)).trans rfl
      have r1 : (w5.alloc (.cells #[.int .i64 (m : Int), .slice iu p.args.length iq] 132)).cell? ⟨wq.heap.size, 1, none⟩ = some (.int .i64 p.w) := cell_new (by omega) ((cell_block (hb5.block wq.heap.size (by simp))).trans ((cell_of_heap (heap_alloc_last _ _)).trans rfl))
      have hy : w5.heap.size < (w5.alloc (.cells #[.int .i64 (m : Int), .slice iu p.args.length iq] 132)).heap.size := by simp
      generalize w5.alloc (.cells #[.int .i64 (m : Int), .slice iu p.args.length iq] 132) = w6 at hB6 y0 y1 r1 hy ⊢
      have hBw : Below w.heap.size w w6 := HWq.out.trans (hB6.mono HWq.out.size)
      have r0 : w6.cell? ⟨w.heap.size, 0, none⟩ = some (.slice (some ⟨fb, fo, none⟩) l.length cm) := (bcell hB6 _ _ (by omega)).trans HXq.out
      have t0 : w6.cell? ⟨fb, fo + m * 3, none⟩ = some (.slice p0 g.params.length pq0) := (bcell hBw _ _ hfb').trans HCa.out.1
      have t1 : w6.cell? ⟨fb, fo + m * 3 + 1, none⟩ = some (.int .i64 g.ret) := (bcell hBw _ _ hfb').trans HCa.out.2.1
      have t2 : w6.cell? ⟨fb, fo + m * 3 + 2, none⟩ = some (.slice p2 g.blocks.length pq2) := (bcell hBw _ _ hfb').trans HCa.out.2.2
      have hy2 : wq.heap.size < w6.heap.size := by omega
      have hy3 : w.heap.size < w6.heap.size := by omega
      have hy4 : fb < w6.heap.size := by omega
      have hzz : min lo w.heap.size ≤ lo := Nat.min_le_left _ _
      have hz3 : min lo w.heap.size ≤ w.heap.size := Nat.min_le_right _ _
      have B := callI (min lo w.heap.size) d g p (some ⟨N, 0, none⟩) (cntF d) iu iq p0 pq0 p2 pq2 aW aC w6.drew hc60 ((HTq.out.keep (agree_of_below hB6.drew _)).low hz3) ((HIM.out.keep (agree_of_below hB6.drew _)).low hzz) ((HN0.out.keep (agree_of_below hBw.drew _)).low hzz) (fun id hid => HOPS.out id (by rw [HOA.out]; exact hid)) hsmA hgs (HVW.out.keep hBw.drew) (HVC.out.keep hBw.drew)
      rw [HM.out] at B
      have HB6 : Hid (Below wq.heap.size wq w6) := hB6
      have HBw : Hid (Below w.heap.size w w6) := hBw
      clear hBw hB6 hB5 hb5 f0 f1 f2 f3 f4 f5 f6 K
      have y0d : w6.drew.cell? ⟨w5.heap.size, 0, none⟩ = some (.int .i64 (m : Int)) := y0
      have y1d : w6.drew.cell? ⟨w5.heap.size, 1, none⟩ = some (.slice iu p.args.length iq) := y1
      have r1d : w6.drew.cell? ⟨wq.heap.size, 1, none⟩ = some (.int .i64 p.w) := r1
      have r0d : w6.drew.cell? ⟨w.heap.size, 0, none⟩ = some (.slice (some ⟨fb, fo, none⟩) l.length cm) := r0
      have t0d : w6.drew.cell? ⟨fb, fo + m * 3, none⟩ = some (.slice p0 g.params.length pq0) := t0
      have t1d : w6.drew.cell? ⟨fb, fo + m * 3 + 1, none⟩ = some (.int .i64 g.ret) := t1
      have t2d : w6.drew.cell? ⟨fb, fo + m * 3 + 2, none⟩ = some (.slice p2 g.blocks.length pq2) := t2
      cases hcb : calB (typeF d) g p with
      | true =>
       have YS : Hid (cllB l (typeF d) p = true) := CE.out.trans hcb
       have BB : ∀ wz : World, wz = w6.drew → Calls Tryz.prog 83 #[.slice (some ⟨N, 0, none⟩) (cntF d) (cntF d), .agg #[.int .i64 (m : Int), .slice iu p.args.length iq], .int .i64 p.w, .agg #[.slice p0 g.params.length pq0, .int .i64 g.ret, .slice p2 g.blocks.length pq2]] wz fun e w' => e = .returned .nilIface ∧ Below wz.heap.size wz w' := fun wz e => by
        subst e
        refine B.mono ?_
        rintro e w' ⟨⟨v, rfl, ho⟩, hb⟩
        exact ⟨by rw [ho.yes hcb], hb⟩
       clear B hcb
       go_region_held2 (fun w' => w'.cell? ⟨w5.heap.size, 0, none⟩ = some (.int .i64 (m : Int)) ∧ w'.cell? ⟨w5.heap.size, 1, none⟩ = some (.slice iu p.args.length iq) ∧ w'.cell? ⟨wq.heap.size, 1, none⟩ = some (.int .i64 p.w) ∧ w'.cell? ⟨w.heap.size, 0, none⟩ = some (.slice (some ⟨fb, fo, none⟩) l.length cm) ∧ w'.cell? ⟨fb, fo + m * 3, none⟩ = some (.slice p0 g.params.length pq0) ∧ w'.cell? ⟨fb, fo + m * 3 + 1, none⟩ = some (.int .i64 g.ret) ∧ w'.cell? ⟨fb, fo + m * 3 + 2, none⟩ = some (.slice p2 g.blocks.length pq2)) (first | with_reducible exact ⟨y0d, y1d, r1d, r0d, t0d, t1d, t2d⟩ | with_reducible exact ⟨d0, d1, d2, d3, d4, d5, d6⟩) ((go_at_call 83; refine (BB w6.drew rfl).mono ?_; rintro e w8 ⟨rfl, hb8⟩; have hb9 := drop_drew hb8; have d0 := (bcell hb8 _ _ (by exact hy)).trans y0d; have d1 := (bcell hb8 _ _ (by exact hy)).trans y1d; have d2 := (bcell hb8 _ _ (by exact hy2)).trans r1d; have d3 := (bcell hb8 _ _ (by exact hy3)).trans r0d; have d4 := (bcell hb8 _ _ (by exact hy4)).trans t0d; have d5 := (bcell hb8 _ _ (by exact hy4)).trans t1d; have d6 := (bcell hb8 _ _ (by exact hy4)).trans t2d))
       all_goals
        clear d0 d1 d2 d3 d4 d5 d6
        go_wp2_with fail
        go_roundw
        case rel => exact ⟨j + 1, by omega, by go_num, IYS.out YS.out, HC.out.trans ((HB6.out.trans (hb9.mono (by omega))).mono (by omega))⟩
        case measure => simp [intOf]; omega
      | false =>
       have NS : Hid (clsB l d = false) := INO.out (CE.out.trans hcb)
       have BB : ∀ wz : World, wz = w6.drew → Calls Tryz.prog 83 #[.slice (some ⟨N, 0, none⟩) (cntF d) (cntF d), .agg #[.int .i64 (m : Int), .slice iu p.args.length iq], .int .i64 p.w, .agg #[.slice p0 g.params.length pq0, .int .i64 g.ret, .slice p2 g.blocks.length pq2]] wz fun e w' => (∃ x, e = .returned (.iface 212 (.pointer (some x))) ∧ (x = aW ∨ x = aC)) ∧ Below wz.heap.size wz w' := fun wz e => by
        subst e
        refine B.mono ?_
        rintro e w' ⟨⟨v, rfl, ho⟩, hb⟩
        obtain ⟨x, hx, hx2⟩ := ho.no hcb
        exact ⟨⟨x, by rw [hx], hx2⟩, hb⟩
       clear B hcb
       go_region_held2 (fun w' => w'.cell? ⟨w5.heap.size, 0, none⟩ = some (.int .i64 (m : Int)) ∧ w'.cell? ⟨w5.heap.size, 1, none⟩ = some (.slice iu p.args.length iq) ∧ w'.cell? ⟨wq.heap.size, 1, none⟩ = some (.int .i64 p.w) ∧ w'.cell? ⟨w.heap.size, 0, none⟩ = some (.slice (some ⟨fb, fo, none⟩) l.length cm) ∧ w'.cell? ⟨fb, fo + m * 3, none⟩ = some (.slice p0 g.params.length pq0) ∧ w'.cell? ⟨fb, fo + m * 3 + 1, none⟩ = some (.int .i64 g.ret) ∧ w'.cell? ⟨fb, fo + m * 3 + 2, none⟩ = some (.slice p2 g.blocks.length pq2)) (first | with_reducible exact ⟨y0d, y1d, r1d, r0d, t0d, t1d, t2d⟩ | with_reducible exact ⟨d0, d1, d2, d3, d4, d5, d6⟩) ((go_at_call 83; refine (BB w6.drew rfl).mono ?_; rintro e w8 ⟨⟨xx, rfl, hxx⟩, hb8⟩; have hb9 := drop_drew hb8; have d0 := (bcell hb8 _ _ (by exact hy)).trans y0d; have d1 := (bcell hb8 _ _ (by exact hy)).trans y1d; have d2 := (bcell hb8 _ _ (by exact hy2)).trans r1d; have d3 := (bcell hb8 _ _ (by exact hy3)).trans r0d; have d4 := (bcell hb8 _ _ (by exact hy4)).trans t0d; have d5 := (bcell hb8 _ _ (by exact hy4)).trans t1d; have d6 := (bcell hb8 _ _ (by exact hy4)).trans t2d))
       all_goals
        clear d0 d1 d2 d3 d4 d5 d6
        go_wp2_with fail
        go_ret
        exact ⟨⟨_, rfl, .inr ⟨NS.out, by rcases hxx with rfl | rfl <;> simp [errV]⟩⟩, HBw.out.trans (hb9.mono HBw.out.size)⟩
     ·obtain ⟨T, v, f, DD⟩ := disp p iu iq
      rw [DD.kv] at K
      have AA := DD.as_call ho
      have YS : Hid (cllB l (typeF d) p = true) := by show _ = _; unfold cllB; simp [ho]
      clear DD
      go_wp2_with (go_at_call 41; refine K.mono ?_; rintro e w5 ⟨rfl, hb5⟩)
      go_roundw
      case rel => exact ⟨j + 1, by omega, by go_num, IYS.out YS.out, ((HC.out.alloc hzq _).trans (hb5.mono (by simp; omega))).alloc (by have := hb5.size; simp at this; omega) _⟩
      case measure => simp [intOf]; omega
    ·have YES : Hid (x.insts.all (cllB l (typeF d)) = true) := all_yes inst0 x.insts (fun q hq => HJ.out q (by omega))
     clear hWj M1 HJ
     go_wp2_with fail
     go_roundw
     case rel => exact ⟨k + 1, by omega, by go_num, HYS.out YES.out, HW.out.trans ((below_box HC.out).mono HW.out.size)⟩
     case measure => simp [intOf]; omega
  ·have E : Hid (OutC (clsB l d) aW aC .nilIface) := .inl ⟨all_yes (f := fun b : BlockD => b.insts.all (cllB l (typeF d))) block0 d.blocks (fun q hq => HD.out q (by omega)), rfl⟩
   go_wp2_with fail
   go_ret
   exact ⟨⟨_, rfl, E.out⟩, HWo.out⟩
set_option maxHeartbeats 2000000 in
theorem closI (lo : Nat) (l : List FuncD) (d : FuncD) (M : Nat) (um : Option Addr) (cm : Nat) (u0 : Option Addr) (c0 : Nat) (u2 : Option Addr) (c2 : Nat) (aW aC : Addr) (w : World) (hsl : SmMod l) (hs : SmFunc d) (kM : FuncsAt w lo um l) (k0 : IntsAt w lo u0 d.params) (k2 : BlocksAt w lo u2 d.blocks) (hF : Form l.length d) (hvW : Gv w 4 (errV aW)) (hvC : Gv w 3 (errV aC)) (hM : w.cell? ⟨M, 0, none⟩ = some (.slice um l.length cm)) (hMl : M < w.heap.size) :
  Calls Tryz.prog 46 #[.agg #[.slice u0 d.params.length c0, .int .i64 d.ret, .slice u2 d.blocks.length c2], .pointer (some ⟨M, 0, none⟩)] w fun e w' => (∃ v, e = .returned v ∧ OutC (clsB l d) aW aC v) ∧ Below w.heap.size w w' := by
 have hB : Below w.heap.size w (w.alloc (.cells #[.slice u0 d.params.length c0, .int .i64 d.ret, .slice u2 d.blocks.length c2] 36)) := (Below.refl _ _).alloc (Nat.le_refl _) _
 have D := callsI lo l d um cm u0 c0 u2 c2 aW aC _ hsl hs (kM.keep (agree_of_below hB lo)) (k0.keep (agree_of_below hB lo)) (k2.keep (agree_of_below hB lo)) hF (hvW.keep hB) (hvC.keep hB)
 clear kM k0 k2 hsl hs hF hvW hvC
 go_enter Tryz.func46, Tryz.ntmps46
 go_wp2_with (go_at_call 47; refine D.mono ?_; rintro e w1 ⟨⟨v, rfl, ho⟩, hb1⟩; have HO : Hid (OutC (clsB l d) aW aC v) := ho; clear ho)
 go_ret
 exact ⟨⟨_, rfl, HO.out⟩, hB.trans (hb1.mono (by simp))⟩
end Go.Proofs.YtgojlnclpebdcaaGreatDoor
