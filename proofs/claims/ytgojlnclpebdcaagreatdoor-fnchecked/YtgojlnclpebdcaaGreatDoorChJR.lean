import Derived.Test.YtgojlnclpebdcaaGreatDoorMemR
import Derived.Test.YtgojlnclpebdcaaGreatDoorChIR
namespace Go.Proofs.YtgojlnclpebdcaaGreatDoor
open Go.RowKit
set_option linter.unusedVariables false
set_option linter.unusedSimpArgs false
def PhiS (d : FuncD) (n x : Nat) : Prop := ∀ j, j < (predN (succN d.blocks) d.blocks.length x).length → (predN (succN d.blocks) d.blocks.length x).getD j 0 = n → SeesP d n x j
theorem pred_nodup (S : Nat → List Nat) (n x : Nat) : (predN S n x).Nodup := List.nodup_range.filter _
theorem nodup_at {l : List Nat} (h : l.Nodup) {i j : Nat} (hi : i < l.length) (hj : j < l.length) (e : l.getD i 0 = l.getD j 0) : i = j := by
 simp only [List.getD, List.getElem?_eq_getElem hi, List.getElem?_eq_getElem hj, Option.getD_some] at e
 exact (List.getElem_inj h).1 e
theorem phiS_at {d : FuncD} {n x j : Nat} (hj : j < (predN (succN d.blocks) d.blocks.length x).length) (e : (predN (succN d.blocks) d.blocks.length x).getD j 0 = n) : PhiS d n x ↔ SeesP d n x j :=
 ⟨fun h => h j hj e, fun h i hi ei => by rw [nodup_at (pred_nodup _ _ _) hi hj (ei.trans e.symm)]; exact h⟩
theorem phs_at {d : FuncD} (h : phsB d = true) {x : Nat} (hx : x < d.blocks.length) : ∀ p ∈ (d.blocks.getD x block0).phis, p.ins.length = (predN (succN d.blocks) d.blocks.length x).length := fun p hp => by
 have h1 := (List.all_eq_true.1 h) x (List.mem_range.2 hx)
 exact of_decide_eq_true ((List.all_eq_true.1 h1) p hp)
theorem mem_pred {S : Nat → List Nat} {n i x : Nat} (hi : i < n) (h : x ∈ S i) : i ∈ predN S n x := List.mem_filter.2 ⟨List.mem_range.2 hi, by simpa using h⟩
set_option maxHeartbeats 4000000 in
set_option maxRecDepth 100000 in
theorem behindI (lo N : Nat) (d : FuncD) (u0 : Option Addr) (c0 : Nat) (u2 : Option Addr) (c2 : Nat) (sv : Array Value) (funcs : Int) (nn : Nat) (w : World) (hs : SmFunc d) (k2 : BlocksAt w lo u2 d.blocks) (hF : Form funcs d) (hP : phsB d = true) (hG : Graph w N d.blocks.length (succN d.blocks)) (hv : Sv d u0 c0 u2 c2 sv) (hn : nn < d.blocks.length) :
  Calls Tryz.prog 87 #[.agg sv, .pointer (some ⟨N + 1 + nn, 0, none⟩)] w fun e w' => (∃ v, e = .returned (.bool v) ∧ (v = true ↔ ∀ x ∈ succN d.blocks nn, PhiS d nn x)) ∧ Below w.heap.size w w' := by
 have HS : Hid (SmFunc d) := hs
 have HF : Hid (Form funcs d) := hF
 have HV : Hid (Sv d u0 c0 u2 c2 sv) := hv
 have HK2 : Hid (BlocksAt w lo u2 d.blocks) := k2
 have HG : Hid (Graph w N d.blocks.length (succN d.blocks)) := hG
 have HPB : Hid (phsB d = true) := hP
 have hsz := hv.size
 have hb10 : nn < 10 := by have := hF.b10; omega
 have hbl := hF.b10
 have hslen := succ_len d.blocks nn
 have HSL : Hid (∀ s ∈ succN d.blocks nn, s < d.blocks.length) := right_lt hF.right nn
 have hB0 : Below w.heap.size w (w.alloc (.cells sv 148)) := (Below.refl _ _).alloc (Nat.le_refl _) _
 have HH0 : Hid ((w.alloc (.cells sv 148)).heap[w.heap.size]? = some (.cells sv 148 (0, 0))) := heap_alloc_last _ _
 obtain ⟨sa, sc, pa, pc, hnode, hsp, _⟩ := hG.node nn hn
 have hNl : N + 1 + nn < w.heap.size := (Array.getElem?_eq_some_iff.1 hnode).1
 have c1 : w.cell? ⟨N + 1 + nn, 1, none⟩ = some (.slice sa (succN d.blocks nn).length sc) := (cell_of_heap hnode).trans rfl
 have c0' : w.cell? ⟨N + 1 + nn, 0, none⟩ = some (.int .i64 nn) := (cell_of_heap hnode).trans rfl
 have HSP : Hid (PtrsAt w N N sa (succN d.blocks nn)) := hsp
 clear hs hF hv k2 hG hP hnode hsp
 go_enter Tryz.func87, Tryz.ntmps87
 go_wp2_with fail
 go_loopw [15] (fun i wr => ∃ k : Nat, k ≤ (succN d.blocks nn).length ∧ i = .int .i64 k ∧ Hid (∀ j, j < k → PhiS d nn ((succN d.blocks nn).getD j 0)) ∧ Hid (Below (w.heap.size + 1) (w.alloc (.cells sv 148)) wr)) (fun i _ => (succN d.blocks nn).length - (intOf i).toNat)
 case atStart => exact ⟨0, by omega, rfl, fun j hj => by omega, Below.refl _ _⟩
 case round =>
  obtain ⟨k, hk, rfl, HD, HB⟩ := hrel
  obtain ⟨wo, hwo⟩ : ∃ wo, wo = wr := ⟨_, rfl⟩
  subst hwo
  have hW : Below w.heap.size w wo := below_box HB.out
  have hz : w.heap.size + 1 ≤ wo.heap.size := by have := HB.out.size; simp at this; omega
  have HROW : Hid (wo.heap[w.heap.size]? = some (.cells sv 148 (0, 0))) := (HB.out.block _ (by omega)).trans HH0.out
  have HW : Hid (Below w.heap.size w wo) := hW
  by_cases hlt : k < (succN d.blocks nn).length
  ·rcases HSP.out with hn0 | ⟨g, rfl, hgN, hgl, hgc⟩
   ·simp [hn0] at hlt
   have z0 := (bcell hW _ _ hgl).trans (hgc k hlt)
   have hxm := getD_mem 0 (succN d.blocks nn) k hlt
   have hxl := HSL.out _ hxm
   have hpm : nn ∈ predN (succN d.blocks) d.blocks.length ((succN d.blocks nn).getD k 0) := mem_pred hn hxm
   have NO : Hid (¬ PhiS d nn ((succN d.blocks nn).getD k 0) → ¬ ∀ x ∈ succN d.blocks nn, PhiS d nn x) := fun h h2 => h (h2 _ hxm)
   have YS : Hid (PhiS d nn ((succN d.blocks nn).getD k 0) → ∀ j, j < k + 1 → PhiS d nn ((succN d.blocks nn).getD j 0)) := fun h j hj => by
    by_cases e : j = k
    ·subst e; exact h
    ·exact HD.out j (by omega)
   generalize (succN d.blocks nn).getD k 0 = x at z0 hxm hxl hpm NO YS
   unfold ptrV at z0
   obtain ⟨xsa, xsc, xpa, xpc, hxn, _, hxp⟩ := HG.out.node x hxl
   have hXl : N + 1 + x < w.heap.size := (Array.getElem?_eq_some_iff.1 hxn).1
   have y0 : wo.cell? ⟨N + 1 + x, 0, none⟩ = some (.int .i64 x) := (bcell hW _ _ hXl).trans ((cell_of_heap hxn).trans rfl)
   have y2 : wo.cell? ⟨N + 1 + x, 2, none⟩ = some (.slice xpa (predN (succN d.blocks) d.blocks.length x).length xpc) := (bcell hW _ _ hXl).trans ((cell_of_heap hxn).trans rfl)
   have DI := indexI N N d.blocks.length xpa xpc (predN (succN d.blocks) d.blocks.length x) nn wo (hxp.keep (agree_of_below hW _)) (HG.out.keep (agree_of_below hW _)).nodes (fun y hy => pred_lt y hy) hn (by have := pred_len (S := succN d.blocks) (n := d.blocks.length) (x := x); omega)
   rcases HK2.out.2 with hn0 | ⟨bb, off, hue, hlo, hbb, hcell⟩
   ·simp [hn0] at hxl
   subst hue
   obtain ⟨⟨v0, q0, h0, m0⟩, _⟩ := hcell x hxl
   have HPH : Hid (∀ p ∈ (d.blocks.getD x block0).phis, p.ins.length = (predN (succN d.blocks) d.blocks.length x).length) := phs_at HPB.out hxl
   have HSPD : Hid (∀ j, SeesP d nn x j ↔ ∀ p ∈ (d.blocks.getD x block0).phis, Sees d (p.ins.getD j 0) nn (endN (d.blocks.getD nn block0))) := fun j => Iff.rfl
   have hsm := (HS.out.2.2 _ (getD_mem block0 d.blocks x hxl)).1
   have HFX : Hid (∀ p ∈ (d.blocks.getD x block0).phis, ∀ id ∈ p.ins, 0 ≤ id ∧ id < (cntF d : Int)) := (HF.out.at hxl).phi
   have s2 : wo.cell? ⟨w.heap.size, 2, none⟩ = some (.slice (some ⟨bb, off, none⟩) d.blocks.length c2) := (cell_of_heap HROW.out).trans HV.out.s2
   generalize d.blocks.getD x block0 = X at h0 m0 HPH HSPD hsm HFX
   obtain ⟨⟨nv0, nq0, nh0, _⟩, ⟨nv1, nq1, nh1, _⟩, nh2, nh3, nh4, nh5⟩ := hcell nn hn
   have hnsm := HS.out.2.2 _ (getD_mem block0 d.blocks nn hn)
   generalize d.blocks.getD nn block0 = Y at nh0 nh1 nh2 nh3 nh4 nh5 HSPD hnsm
   have t0 := hnsm.1.1
   have t1 := hnsm.2.1
   have s0 := hsm.1
   have e0 : wo.cell? ⟨bb, off + x * 6, none⟩ = some (.slice v0 X.phis.length q0) := (bcell hW _ _ hbb).trans h0
   have M0 := m0.keep (agree_of_below hW lo)
   have HY : Hid (w.cell? ⟨bb, off + nn * 6, none⟩ = some (.slice nv0 Y.phis.length nq0) ∧ w.cell? ⟨bb, off + nn * 6 + 1, none⟩ = some (.slice nv1 Y.insts.length nq1) ∧ w.cell? ⟨bb, off + nn * 6 + 2, none⟩ = some (.int .i64 Y.term.kind) ∧ w.cell? ⟨bb, off + nn * 6 + 3, none⟩ = some (.int .i64 Y.term.a) ∧ w.cell? ⟨bb, off + nn * 6 + 4, none⟩ = some (.int .i64 Y.term.x) ∧ w.cell? ⟨bb, off + nn * 6 + 5, none⟩ = some (.int .i64 Y.term.y)) := ⟨nh0, nh1, nh2, nh3, nh4, nh5⟩
   have HC0 : Hid (w.cell? ⟨N + 1 + nn, 0, none⟩ = some (.int .i64 nn)) := c0'
   have hbo : bb < wo.heap.size := by omega
   have hzX : N + 1 + x < wo.heap.size := by omega
   clear hgc hxn hxp hcell h0 m0 hsm hnsm nh0 nh1 nh2 nh3 nh4 nh5 hW c1 c0' HD
   go_wp2_with (go_at_call 115; refine DI.mono ?_; rintro e w2 ⟨⟨z, rfl, hz0⟩, hw2⟩; rw [hw2]; clear hw2; obtain ⟨j0, rfl, hj0, hj1, _⟩ := hz0.resolve_left (fun h => h.2 hpm); have HJ0 : Hid ((predN (succN d.blocks) d.blocks.length x).getD j0 0 = nn) := hj1; clear hz0 hj1 DI)
   go_quiet (fail)
   go_wp2_with fail
   clear e0 y0 y2 z0 s2
   go_loopw [36] (fun i wr => ∃ r : Nat, r ≤ X.phis.length ∧ i = .int .i64 r ∧ Hid (∀ q, q < r → Sees d ((X.phis.getD q phi0).ins.getD j0 0) nn (endN Y)) ∧ Hid (Below wo.heap.size wo wr)) (fun i _ => X.phis.length - (intOf i).toNat)
   case atStart => exact ⟨0, by omega, rfl, fun q hq => by omega, below_drewN (Below.refl _ _) _⟩
   case round =>
    obtain ⟨r, hr, rfl, HR, HC⟩ := hrel
    obtain ⟨wq, hwq⟩ : ∃ wq, wq = wr := ⟨_, rfl⟩
    subst hwq
    have hC := HC.out
    have hzq := hC.size
    by_cases hrl : r < X.phis.length
    ·rcases M0.2 with hn0 | ⟨pb, po, rfl, hplo, hpb, hpc⟩
     ·simp [hn0] at hrl
     obtain ⟨hi0, ⟨iu, iq, hi1, im⟩⟩ := hpc r hrl
     have hlen := HPH.out _ (getD_mem phi0 X.phis r hrl)
     have hidr : ∀ id ∈ (X.phis.getD r phi0).ins, 0 ≤ id ∧ id < (cntF d : Int) := HFX.out _ (getD_mem phi0 X.phis r hrl)
     have PNO : Hid (¬ Sees d ((X.phis.getD r phi0).ins.getD j0 0) nn (endN Y) → ¬ PhiS d nn x) := fun h h2 => h ((HSPD.out j0).1 ((phiS_at hj0 HJ0.out).1 h2) _ (getD_mem phi0 X.phis r hrl))
     have PYS : Hid (Sees d ((X.phis.getD r phi0).ins.getD j0 0) nn (endN Y) → ∀ q, q < r + 1 → Sees d ((X.phis.getD q phi0).ins.getD j0 0) nn (endN Y)) := fun h q hq => by
      by_cases e : q = r
      ·subst e; exact h
      ·exact HR.out q (by omega)
     generalize X.phis.getD r phi0 = p at hi0 hi1 im hlen hidr PNO PYS
     have hj0p : j0 < p.ins.length := by omega
     have hid0 := hidr _ (getD_mem 0 p.ins j0 hj0p)
     rcases im.2 with hn0 | ⟨ib, io, rfl, hilo, hib, hic⟩
     ·simp [hn0] at hj0p
     have HZ1 : Hid (wo.cell? ⟨ib, io + j0, none⟩ = some (.int .i64 (p.ins.getD j0 0))) := hic j0 hj0p
     generalize p.ins.getD j0 0 = id at hid0 PNO PYS HZ1
     have f0 : wq.cell? ⟨pb, po + r * 2, none⟩ = some (.int .i64 p.w) := (bcell hC _ _ hpb).trans hi0
     have f1 : wq.cell? ⟨pb, po + r * 2 + 1, none⟩ = some (.slice (some ⟨ib, io, none⟩) p.ins.length iq) := (bcell hC _ _ hpb).trans hi1
     have hidm : id ≤ 9223372036854775807 := by have := HF.out.c60; omega
     have hjp : (j0 : Int) < p.ins.length := by omega
     have hill := im.1
     clear hpc hi0 hi1 im hic M0 HR hlen hidr hid0
     go_wp2_with fail
     clear f0 f1
     have hB6 : Below wo.heap.size wo (wq.alloc (.cells #[.int .i64 p.w, .slice (some ⟨ib, io, none⟩) p.ins.length iq] 45)) := hC.alloc hzq _
     have phc : (wq.alloc (.cells #[.int .i64 p.w, .slice (some ⟨ib, io, none⟩) p.ins.length iq] 45)).heap[wq.heap.size]? = some (.cells #[.int .i64 p.w, .slice (some ⟨ib, io, none⟩) p.ins.length iq] 45 (0, 0)) := heap_alloc_last _ _
     have hy : wq.heap.size < (wq.alloc (.cells #[.int .i64 p.w, .slice (some ⟨ib, io, none⟩) p.ins.length iq] 45)).heap.size := by simp
     have hB6q : Below wq.heap.size wq (wq.alloc (.cells #[.int .i64 p.w, .slice (some ⟨ib, io, none⟩) p.ins.length iq] 45)) := (Below.refl _ _).alloc (Nat.le_refl _) _
     generalize wq.alloc (.cells #[.int .i64 p.w, .slice (some ⟨ib, io, none⟩) p.ins.length iq] 45) = w6 at hB6 phc hy hB6q ⊢
     have HB6 : Hid (Below wo.heap.size wo w6) := hB6
     have HBw6 : Hid (Below w.heap.size w w6) := HW.out.trans (hB6.mono HW.out.size)
     have HB6q : Hid (Below wq.heap.size wq w6) := hB6q
     clear hB6 hC hB6q
     by_cases hq : Sees d id nn (endN Y)
     ·have HQ : Hid (Sees d id nn (endN Y)) := hq
      clear hq
      refine wp_region_held_drew (S := fun w' => Below w6.heap.size w6 w') (by kernel_rfl) ((Below.refl _ _).drew) (fun hHeld => ?_)
      refine tkh 0 (v := .agg sv) rfl rfl (by kernel_rfl) (fun _ _ _ h => h) (yieldsIf_row (by rfl) 148 _ rfl w.heap.size rfl 148 sv (0, 0) _ (fun w9 hS9 => (hS9.block w.heap.size (by have := HB6.out.size; omega)).trans ((HB6.out.block w.heap.size (by omega)).trans HROW.out)) Tryz.underlying148 rfl (by rw [infoS, hsz])) hHeld ?_
      simp only [sA, sB, sC]
      refine tkh 1 (v := ?_) rfl rfl (by kernel_rfl) (fun _ _ _ h => h) (yesH (by rfl) ?_) hHeld ?_
      rotate_left
      ·intro w9 hS9
       go_simp
       try with_reducible rfl
      simp only [sA, sB, sC]
      refine tkh 2 (v := ?_) rfl rfl (by kernel_rfl) (fun _ _ _ h => h) (yesH (by rfl) ?_) hHeld ?_
      rotate_left
      ·intro w9 hS9
       have g1 := (cell_of_heap (o := 1) ((hS9.block _ hy).trans phc)).trans rfl
       go_simp
       try with_reducible rfl
      simp only [sA, sB, sC]
      refine tkh 3 (v := ?_) rfl rfl (by kernel_rfl) (fun _ _ _ h => h) (yesH (by rfl) ?_) hHeld ?_
      rotate_left
      ·intro w9 hS9
       go_simp
       try with_reducible rfl
      simp only [sA, sB, sC]
      refine tkh 4 (v := ?_) rfl rfl (by kernel_rfl) (fun _ _ _ h => h) (yesH (by rfl) ?_) hHeld ?_
      rotate_left
      ·intro w9 hS9
       go_simp
       try with_reducible rfl
      simp only [sA, sB, sC]
      refine tkh 5 (v := ?_) rfl rfl (by kernel_rfl) (fun _ _ _ h => h) (yesH (by rfl) ?_) hHeld ?_
      rotate_left
      ·intro w9 hS9
       have g2 := (cell_block ((hS9.block ib (by have := HB6.out.size; omega)).trans (HB6.out.block ib hib))).trans HZ1.out
       go_simp
       try with_reducible rfl
      simp only [sA, sB, sC]
      refine tkh 6 (v := ?_) rfl rfl (by kernel_rfl) (fun _ _ _ h => h) (yesH (by rfl) ?_) hHeld ?_
      rotate_left
      ·intro w9 hS9
       go_simp
       try with_reducible rfl
      simp only [sA, sB, sC]
      refine tkh 7 (v := ?_) rfl rfl (by kernel_rfl) (fun _ _ _ h => h) (yesH (by rfl) ?_) hHeld ?_
      rotate_left
      ·intro w9 hS9
       go_simp
       try with_reducible rfl
      simp only [sA, sB, sC]
      refine tkh 8 (v := ?_) rfl rfl (by kernel_rfl) (fun _ _ _ h => h) (yesH (by rfl) ?_) hHeld ?_
      rotate_left
      ·intro w9 hS9
       go_simp
       try with_reducible rfl
      simp only [sA, sB, sC]
      refine tkh 9 (v := ?_) rfl rfl (by kernel_rfl) (fun _ _ _ h => h) (yesH (by rfl) ?_) hHeld ?_
      rotate_left
      ·intro w9 hS9
       have g3 := (cell_block ((hS9.block (N + 1 + nn) (by have := HBw6.out.size; omega)).trans (HBw6.out.block (N + 1 + nn) hNl))).trans HC0.out
       go_simp
       try with_reducible rfl
      simp only [sA, sB, sC]
      refine tkh 10 (v := ?_) rfl rfl (by kernel_rfl) (fun _ _ _ h => h) (yesH (by rfl) ?_) hHeld ?_
      rotate_left
      ·intro w9 hS9
       go_simp
       try with_reducible rfl
      simp only [sA, sB, sC]
      refine tkh 11 (v := ?_) rfl rfl (by kernel_rfl) (fun _ _ _ h => h) (yesH (by rfl) ?_) hHeld ?_
      rotate_left
      ·intro w9 hS9
       go_simp
       try with_reducible rfl
      simp only [sA, sB, sC]
      refine tkh 12 (v := ?_) rfl rfl (by kernel_rfl) (fun _ _ _ h => h) (yesH (by rfl) ?_) hHeld ?_
      rotate_left
      ·intro w9 hS9
       have g4 := (cell_of_heap (o := 2) ((hS9.block w.heap.size (by have := HB6.out.size; omega)).trans ((HB6.out.block w.heap.size (by omega)).trans HROW.out))).trans HV.out.s2
       go_simp
       try with_reducible rfl
      simp only [sA, sB, sC]
      refine tkh 13 (v := ?_) rfl rfl (by kernel_rfl) (fun _ _ _ h => h) (yesH (by rfl) ?_) hHeld ?_
      rotate_left
      ·intro w9 hS9
       go_simp
       try with_reducible rfl
      simp only [sA, sB, sC]
      refine tkh 14 (v := ?_) rfl rfl (by kernel_rfl) (fun _ _ _ h => h) (yesH (by rfl) ?_) hHeld ?_
      rotate_left
      ·intro w9 hS9
       go_simp
       try with_reducible rfl
      simp only [sA, sB, sC]
      refine tkh 15 (v := ?_) rfl rfl (by kernel_rfl) (fun _ _ _ h => h) (yesH (by rfl) ?_) hHeld ?_
      rotate_left
      ·intro w9 hS9
       go_simp
       try with_reducible rfl
      simp only [sA, sB, sC]
      refine tkh 16 (v := ?_) rfl rfl (by kernel_rfl) (fun _ _ _ h => h) (yesH (by rfl) ?_) hHeld ?_
      rotate_left
      ·intro w9 hS9
       have g3 := (cell_block ((hS9.block (N + 1 + nn) (by have := HBw6.out.size; omega)).trans (HBw6.out.block (N + 1 + nn) hNl))).trans HC0.out
       go_simp
       try with_reducible rfl
      simp only [sA, sB, sC]
      refine tkh 17 (v := ?_) rfl rfl (by kernel_rfl) (fun _ _ _ h => h) (yesH (by rfl) ?_) hHeld ?_
      rotate_left
      ·intro w9 hS9
       go_simp
       try with_reducible rfl
      simp only [sA, sB, sC]
      refine tkh 18 (v := ?_) rfl rfl (by kernel_rfl) (fun _ _ _ h => h) (yesH (by rfl) ?_) hHeld ?_
      rotate_left
      ·intro w9 hS9
       have gb := (hS9.block bb (by have := HBw6.out.size; omega)).trans (HBw6.out.block bb hbb)
       have b0 := (cell_block gb).trans HY.out.1
       have b1 := (cell_block gb).trans HY.out.2.1
       have b2 := (cell_block gb).trans HY.out.2.2.1
       have b3 := (cell_block gb).trans HY.out.2.2.2.1
       have b4 := (cell_block gb).trans HY.out.2.2.2.2.1
       have b5 := (cell_block gb).trans HY.out.2.2.2.2.2
       go_simp
       try with_reducible rfl
      simp only [sA, sB, sC]
      refine wpAnyH_ready (rs := [19]) (by kernel_rfl) (by simp) ?_
      refine AllReadyH.cons rfl (fun K hK => ?_) AllReadyH.nil
      go_simp
      go_wp2_with (go_at_call 125; refine (endI Y _ _ _ _ _ t0 t1).mono ?_; rintro e w7 ⟨rfl, hb7⟩; have hb7s := hHeld.trans (hb7.mono hHeld.size))
      refine hK.out _ _ ?_ (fun hHeld2 => ?_)
      ·exact hb7s
      clear hK K hHeld
      have hHeld := hHeld2
      clear hHeld2
      try simp only [Act.put, sA, sB, sC]
      refine wpAnyH_ready (rs := [20]) (by kernel_rfl) (by simp) ?_
      refine AllReadyH.cons rfl (fun K hK => ?_) AllReadyH.nil
      go_simp
      go_wp2_with (go_at_call 126; refine (seesI lo d u0 c0 (some ⟨bb, off, none⟩) c2 sv id nn _ _ HS.out (HK2.out.keep (agree_of_below (HBw6.out.trans (hb7s.mono HBw6.out.size)) _)) HF.out.right HV.out hidm hb10).mono ?_; rintro e w8 ⟨⟨v8, rfl, hq8⟩, hb8'⟩; have hb8 := hb7s.trans (hb8'.mono hb7s.size); have hv8 : v8 = true := hq8.2 HQ.out; subst hv8; clear hq8)
      refine hK.out _ _ ?_ (fun hHeld2 => ?_)
      ·exact hb8
      clear hK K hHeld
      have hHeld := hHeld2
      clear hHeld2
      try simp only [Act.put, sA, sB, sC]
      refine tkh 21 (v := ?_) rfl rfl (by kernel_rfl) (fun _ _ _ h => h) (yesH (by rfl) ?_) hHeld ?_
      rotate_left
      ·intro w9 hS9
       go_simp
       try with_reducible rfl
      simp only [sA, sB, sC]
      refine wpAnyH_done (by kernel_rfl) ?_ _
      go_wp2_with fail
      go_roundw
      case rel => exact ⟨r + 1, by omega, by go_num, PYS.out HQ.out, HB6.out.trans (hb8.mono HB6.out.size)⟩
      case measure => simp [intOf]; omega
     ·have HQ : Hid (¬ Sees d id nn (endN Y)) := hq
      clear hq
      refine wp_region_held_drew (S := fun w' => Below w6.heap.size w6 w') (by kernel_rfl) ((Below.refl _ _).drew) (fun hHeld => ?_)
      refine tkh 0 (v := .agg sv) rfl rfl (by kernel_rfl) (fun _ _ _ h => h) (yieldsIf_row (by rfl) 148 _ rfl w.heap.size rfl 148 sv (0, 0) _ (fun w9 hS9 => (hS9.block w.heap.size (by have := HB6.out.size; omega)).trans ((HB6.out.block w.heap.size (by omega)).trans HROW.out)) Tryz.underlying148 rfl (by rw [infoS, hsz])) hHeld ?_
      simp only [sA, sB, sC]
      refine tkh 1 (v := ?_) rfl rfl (by kernel_rfl) (fun _ _ _ h => h) (yesH (by rfl) ?_) hHeld ?_
      rotate_left
      ·intro w9 hS9
       go_simp
       try with_reducible rfl
      simp only [sA, sB, sC]
      refine tkh 2 (v := ?_) rfl rfl (by kernel_rfl) (fun _ _ _ h => h) (yesH (by rfl) ?_) hHeld ?_
      rotate_left
      ·intro w9 hS9
       have g1 := (cell_of_heap (o := 1) ((hS9.block _ hy).trans phc)).trans rfl
       go_simp
       try with_reducible rfl
      simp only [sA, sB, sC]
      refine tkh 3 (v := ?_) rfl rfl (by kernel_rfl) (fun _ _ _ h => h) (yesH (by rfl) ?_) hHeld ?_
      rotate_left
      ·intro w9 hS9
       go_simp
       try with_reducible rfl
      simp only [sA, sB, sC]
      refine tkh 4 (v := ?_) rfl rfl (by kernel_rfl) (fun _ _ _ h => h) (yesH (by rfl) ?_) hHeld ?_
      rotate_left
      ·intro w9 hS9
       go_simp
       try with_reducible rfl
      simp only [sA, sB, sC]
      refine tkh 5 (v := ?_) rfl rfl (by kernel_rfl) (fun _ _ _ h => h) (yesH (by rfl) ?_) hHeld ?_
      rotate_left
      ·intro w9 hS9
       have g2 := (cell_block ((hS9.block ib (by have := HB6.out.size; omega)).trans (HB6.out.block ib hib))).trans HZ1.out
       go_simp
       try with_reducible rfl
      simp only [sA, sB, sC]
      refine tkh 6 (v := ?_) rfl rfl (by kernel_rfl) (fun _ _ _ h => h) (yesH (by rfl) ?_) hHeld ?_
      rotate_left
      ·intro w9 hS9
       go_simp
       try with_reducible rfl
      simp only [sA, sB, sC]
      refine tkh 7 (v := ?_) rfl rfl (by kernel_rfl) (fun _ _ _ h => h) (yesH (by rfl) ?_) hHeld ?_
      rotate_left
      ·intro w9 hS9
       go_simp
       try with_reducible rfl
      simp only [sA, sB, sC]
      refine tkh 8 (v := ?_) rfl rfl (by kernel_rfl) (fun _ _ _ h => h) (yesH (by rfl) ?_) hHeld ?_
      rotate_left
      ·intro w9 hS9
       go_simp
       try with_reducible rfl
      simp only [sA, sB, sC]
      refine tkh 9 (v := ?_) rfl rfl (by kernel_rfl) (fun _ _ _ h => h) (yesH (by rfl) ?_) hHeld ?_
      rotate_left
      ·intro w9 hS9
       have g3 := (cell_block ((hS9.block (N + 1 + nn) (by have := HBw6.out.size; omega)).trans (HBw6.out.block (N + 1 + nn) hNl))).trans HC0.out
       go_simp
       try with_reducible rfl
      simp only [sA, sB, sC]
      refine tkh 10 (v := ?_) rfl rfl (by kernel_rfl) (fun _ _ _ h => h) (yesH (by rfl) ?_) hHeld ?_
      rotate_left
      ·intro w9 hS9
       go_simp
       try with_reducible rfl
      simp only [sA, sB, sC]
      refine tkh 11 (v := ?_) rfl rfl (by kernel_rfl) (fun _ _ _ h => h) (yesH (by rfl) ?_) hHeld ?_
      rotate_left
      ·intro w9 hS9
       go_simp
       try with_reducible rfl
      simp only [sA, sB, sC]
      refine tkh 12 (v := ?_) rfl rfl (by kernel_rfl) (fun _ _ _ h => h) (yesH (by rfl) ?_) hHeld ?_
      rotate_left
      ·intro w9 hS9
       have g4 := (cell_of_heap (o := 2) ((hS9.block w.heap.size (by have := HB6.out.size; omega)).trans ((HB6.out.block w.heap.size (by omega)).trans HROW.out))).trans HV.out.s2
       go_simp
       try with_reducible rfl
      simp only [sA, sB, sC]
      refine tkh 13 (v := ?_) rfl rfl (by kernel_rfl) (fun _ _ _ h => h) (yesH (by rfl) ?_) hHeld ?_
      rotate_left
      ·intro w9 hS9
       go_simp
       try with_reducible rfl
      simp only [sA, sB, sC]
      refine tkh 14 (v := ?_) rfl rfl (by kernel_rfl) (fun _ _ _ h => h) (yesH (by rfl) ?_) hHeld ?_
      rotate_left
      ·intro w9 hS9
       go_simp
       try with_reducible rfl
      simp only [sA, sB, sC]
      refine tkh 15 (v := ?_) rfl rfl (by kernel_rfl) (fun _ _ _ h => h) (yesH (by rfl) ?_) hHeld ?_
      rotate_left
      ·intro w9 hS9
       go_simp
       try with_reducible rfl
      simp only [sA, sB, sC]
      refine tkh 16 (v := ?_) rfl rfl (by kernel_rfl) (fun _ _ _ h => h) (yesH (by rfl) ?_) hHeld ?_
      rotate_left
      ·intro w9 hS9
       have g3 := (cell_block ((hS9.block (N + 1 + nn) (by have := HBw6.out.size; omega)).trans (HBw6.out.block (N + 1 + nn) hNl))).trans HC0.out
       go_simp
       try with_reducible rfl
      simp only [sA, sB, sC]
      refine tkh 17 (v := ?_) rfl rfl (by kernel_rfl) (fun _ _ _ h => h) (yesH (by rfl) ?_) hHeld ?_
      rotate_left
      ·intro w9 hS9
       go_simp
       try with_reducible rfl
      simp only [sA, sB, sC]
      refine tkh 18 (v := ?_) rfl rfl (by kernel_rfl) (fun _ _ _ h => h) (yesH (by rfl) ?_) hHeld ?_
      rotate_left
      ·intro w9 hS9
       have gb := (hS9.block bb (by have := HBw6.out.size; omega)).trans (HBw6.out.block bb hbb)
       have b0 := (cell_block gb).trans HY.out.1
       have b1 := (cell_block gb).trans HY.out.2.1
       have b2 := (cell_block gb).trans HY.out.2.2.1
       have b3 := (cell_block gb).trans HY.out.2.2.2.1
       have b4 := (cell_block gb).trans HY.out.2.2.2.2.1
       have b5 := (cell_block gb).trans HY.out.2.2.2.2.2
       go_simp
       try with_reducible rfl
      simp only [sA, sB, sC]
      refine wpAnyH_ready (rs := [19]) (by kernel_rfl) (by simp) ?_
      refine AllReadyH.cons rfl (fun K hK => ?_) AllReadyH.nil
      go_simp
      go_wp2_with (go_at_call 125; refine (endI Y _ _ _ _ _ t0 t1).mono ?_; rintro e w7 ⟨rfl, hb7⟩; have hb7s := hHeld.trans (hb7.mono hHeld.size))
      refine hK.out _ _ ?_ (fun hHeld2 => ?_)
      ·exact hb7s
      clear hK K hHeld
      have hHeld := hHeld2
      clear hHeld2
      try simp only [Act.put, sA, sB, sC]
      refine wpAnyH_ready (rs := [20]) (by kernel_rfl) (by simp) ?_
      refine AllReadyH.cons rfl (fun K hK => ?_) AllReadyH.nil
      go_simp
      go_wp2_with (go_at_call 126; refine (seesI lo d u0 c0 (some ⟨bb, off, none⟩) c2 sv id nn _ _ HS.out (HK2.out.keep (agree_of_below (HBw6.out.trans (hb7s.mono HBw6.out.size)) _)) HF.out.right HV.out hidm hb10).mono ?_; rintro e w8 ⟨⟨v8, rfl, hq8⟩, hb8'⟩; have hb8 := hb7s.trans (hb8'.mono hb7s.size); have hv8 : v8 = false := (by cases v8 with | true => exact absurd (hq8.1 rfl) HQ.out | false => rfl); subst hv8; clear hq8)
      refine hK.out _ _ ?_ (fun hHeld2 => ?_)
      ·exact hb8
      clear hK K hHeld
      have hHeld := hHeld2
      clear hHeld2
      try simp only [Act.put, sA, sB, sC]
      refine tkh 21 (v := ?_) rfl rfl (by kernel_rfl) (fun _ _ _ h => h) (yesH (by rfl) ?_) hHeld ?_
      rotate_left
      ·intro w9 hS9
       go_simp
       try with_reducible rfl
      simp only [sA, sB, sC]
      refine wpAnyH_done (by kernel_rfl) ?_ _
      go_wp2_with fail
      go_ret
      exact ⟨⟨_, rfl, ⟨fun h => (by cases h), fun h => absurd h (NO.out (PNO.out HQ.out))⟩⟩, HBw6.out.trans (hb8.mono HBw6.out.size)⟩
    ·have YES : Hid (PhiS d nn x) := by
      refine (phiS_at hj0 HJ0.out).2 ((HSPD.out j0).2 fun p hp => ?_)
      obtain ⟨q, hq, rfl⟩ := List.getElem_of_mem hp
      have := HR.out q (by omega)
      simpa [List.getD, hq] using this
     clear hC M0 HR
     go_wp2_with fail
     go_roundw
     case rel => exact ⟨k + 1, by omega, by go_num, YS.out YES.out, HB.out.trans (HC.out.mono hz)⟩
     case measure => simp [intOf]; omega
  ·have E : Hid (∀ x ∈ succN d.blocks nn, PhiS d nn x) := fun x hx => by
    obtain ⟨j, hj, rfl⟩ := List.getElem_of_mem hx
    have := HD.out j (by omega)
    simpa [List.getD, hj] using this
   clear hW HD
   go_wp2_with fail
   go_ret
   exact ⟨⟨_, rfl, ⟨fun _ => E.out, fun _ => rfl⟩⟩, HW.out⟩
end Go.Proofs.YtgojlnclpebdcaaGreatDoor
