import Derived.Test.YtgojlnclpebdcaaGreatDoorFmDR
import Derived.Deep.RegionHeld2
import Derived.Test.YtgojlnclpebdcaaGreatDoorOpsR
import Derived.BigQuiet
import Derived.Deep.QuietTactic
namespace Go.Proofs.YtgojlnclpebdcaaGreatDoor
open Go.RowKit
set_option linter.unusedVariables false
structure FBox (d : FuncD) (u0 : Option Addr) (c0 : Nat) (u2 : Option Addr) (c2 : Nat) (w w1 : World) : Prop where
 a0 : w1.cell? ⟨w.heap.size, 0, none⟩ = some (.slice u0 d.params.length c0)
 a1 : w1.cell? ⟨w.heap.size, 1, none⟩ = some (.int .i64 d.ret)
 a2 : w1.cell? ⟨w.heap.size, 2, none⟩ = some (.slice u2 d.blocks.length c2)
 below : Below w.heap.size w w1
 size : w.heap.size + 1 ≤ w1.heap.size
theorem FBox.keep {d : FuncD} {u0 u2 : Option Addr} {c0 c2 : Nat} {w w1 w2 : World} (h : FBox d u0 c0 u2 c2 w w1) (k : Below w1.heap.size w1 w2) : FBox d u0 c0 u2 c2 w w2 := by
 have hz := h.size
 exact ⟨(cell_block (k.block _ (by omega))).trans h.a0, (cell_block (k.block _ (by omega))).trans h.a1, (cell_block (k.block _ (by omega))).trans h.a2, h.below.trans (k.mono (by omega)), Nat.le_trans hz k.size⟩
theorem FBox.start {d : FuncD} {u0 u2 : Option Addr} {c0 c2 : Nat} {w : World} {T : TypeId} : FBox d u0 c0 u2 c2 w (w.alloc (.cells #[.slice u0 d.params.length c0, .int .i64 d.ret, .slice u2 d.blocks.length c2] T)) := by
 have hb := heap_alloc_last w (.cells #[.slice u0 d.params.length c0, .int .i64 d.ret, .slice u2 d.blocks.length c2] T)
 exact ⟨(cell_of_heap hb).trans rfl, (cell_of_heap hb).trans rfl, (cell_of_heap hb).trans rfl, (Below.refl _ _).alloc (Nat.le_refl _) _, by simp⟩
theorem FBox.alloc {d : FuncD} {u0 u2 : Option Addr} {c0 c2 : Nat} {w w1 : World} (h : FBox d u0 c0 u2 c2 w w1) (o : Obj) : FBox d u0 c0 u2 c2 w (w1.alloc o) := h.keep ((Below.refl _ _).alloc (Nat.le_refl _) o)
theorem cell_far {w : World} {g o h p : Nat} {v : Value} {x : Option Value} (hn : h < g) (hx : w.cell? ⟨h, p, none⟩ = x) : (w.setCell ⟨g, o, none⟩ v).cell? ⟨h, p, none⟩ = x := (cell_block (Below.heap_setCell _ _ _ _ (by show h ≠ g; omega))).trans hx
theorem cell_new {w : World} {h p : Nat} {o : Obj} {x : Value} (hn : h < w.heap.size) (hx : w.cell? ⟨h, p, none⟩ = some x) : (w.alloc o).cell? ⟨h, p, none⟩ = some x := (cell_block (Below.heap_alloc w o h hn)).trans hx
theorem new_room {w w2 : World} {a b c : Int} {T : TypeId} (h : Below (w.drew.alloc (.cells #[.int .i64 a, .int .i64 b, .int .i64 c] T)).heap.size (w.drew.alloc (.cells #[.int .i64 a, .int .i64 b, .int .i64 c] T)) w2) :
  w2.heap[w.heap.size]? = some (.cells #[.int .i64 a, .int .i64 b, .int .i64 c] T (0, 0)) := by
 have h2 : (w.drew.alloc (.cells #[.int .i64 a, .int .i64 b, .int .i64 c] T)).heap.size = w.drew.heap.size + 1 := by simp
 have h3 : w.drew.heap.size = w.heap.size := rfl
 exact (h.block w.heap.size (by omega)).trans (heap_alloc_last w.drew _)
structure RBox (R : Nat) (a b c : Int) (w1 : World) : Prop where
 r0 : w1.cell? ⟨R, 0, none⟩ = some (.int .i64 a)
 r1 : w1.cell? ⟨R, 1, none⟩ = some (.int .i64 b)
 r2 : w1.cell? ⟨R, 2, none⟩ = some (.int .i64 c)
 lt : R < w1.heap.size
theorem RBox.keep {R : Nat} {a b c : Int} {w1 w2 : World} (h : RBox R a b c w1) (k : Below w1.heap.size w1 w2) : RBox R a b c w2 :=
 ⟨(cell_block (k.block _ h.lt)).trans h.r0, (cell_block (k.block _ h.lt)).trans h.r1, (cell_block (k.block _ h.lt)).trans h.r2, Nat.lt_of_lt_of_le h.lt k.size⟩
theorem RBox.of {R : Nat} {a b c : Int} {w1 : World} {T : TypeId} (h : w1.heap[R]? = some (.cells #[.int .i64 a, .int .i64 b, .int .i64 c] T (0, 0))) : RBox R a b c w1 :=
 ⟨(cell_of_heap h).trans rfl, (cell_of_heap h).trans rfl, (cell_of_heap h).trans rfl, (Array.getElem?_eq_some_iff.1 h).1⟩
set_option maxHeartbeats 4000000 in
set_option maxRecDepth 100000 in
theorem funcShI_ok (lo : Nat) (d : FuncD) (u0 : Option Addr) (c0 : Nat) (u2 : Option Addr) (c2 : Nat) (funcs : Int) (w : World) (hs : SmFunc d) (k0 : IntsAt w lo u0 d.params) (k2 : BlocksAt w lo u2 d.blocks) (hp : d.params.length ≤ 4) (ha : d.params.all widthB = true) (hr : widthB d.ret = true) (hb1 : 1 ≤ d.blocks.length) (hb2 : d.blocks.length ≤ 10) (hc : cntF d ≤ 60) :
  Calls Tryz.prog 33 #[.agg #[.slice u0 d.params.length c0, .int .i64 d.ret, .slice u2 d.blocks.length c2], .int .i64 funcs] w fun e w' => e = .returned (.bool (funcB funcs d)) ∧ Below w.heap.size w w' := by
 have HS : Hid (∀ p ∈ d.blocks, SmBlock p) := hs.2.2
 have HE : Hid (funcB funcs d = d.blocks.all (blockB (cntF d) d.blocks.length funcs)) := by show _ = _; simp [funcB, hp, ha, hr, hb1, hb2, hc]
 have K1 := (k0.keep (agree_alloc w (.cells #[.slice u0 d.params.length c0, .int .i64 d.ret, .slice u2 d.blocks.length c2] 36) _))
 have F0 := FBox.start (d := d) (u0 := u0) (u2 := u2) (c0 := c0) (c2 := c2) (w := w) (T := 36)
 have i1 : ¬ (4 : Int) < d.params.length := by omega
 have i2 : ¬ (d.blocks.length : Int) < 1 := by omega
 have i3 : ¬ (10 : Int) < d.blocks.length := by omega
 have i4 : ¬ (60 : Int) < cntF d := by omega
 have A := fun w k => allWidthsI lo u0 c0 d.params w k
 simp only [show (fun n => widthB n) = widthB from rfl] at A
 rw [ha] at A
 go_enter Tryz.func33, Tryz.ntmps33
 go_wp2_with (first | (go_at_call 61; refine (A _ K1).mono ?_; rintro e w' ⟨rfl, rfl⟩) | (go_at_call 62; refine (widthI _ _).mono ?_; rintro e w' ⟨rfl, rfl⟩))
 refine (countI_any lo d u0 c0 u2 c2 _ hs (k2.keep (agree_of_below F0.below lo))).mono ?_
 rintro e w1 ⟨rfl, hb1'⟩
 have F1 := F0.keep hb1'
 have b0 := F1.a0
 have b1 := F1.a1
 have b2 := F1.a2
 clear hb1' F0 A K1
 go_wp2_with fail
 have z0 : w.heap.size < w1.heap.size := by have := F1.size; omega
 have F1d := F1.keep (Below.refl w1.heap.size w1).drew
 have b0d := F1d.a0
 have b1d := F1d.a1
 have b2d := F1d.a2
 have F1n := F1d.alloc (.cells #[.int .i64 0, .int .i64 0, .int .i64 0] 111)
 have b0n := F1n.a0
 have b1n := F1n.a1
 have b2n := F1n.a2
 have KB := k2.keep (agree_of_below F1d.below lo)
 have KN := k2.keep (agree_of_below F1n.below lo)
 go_region_held2 (fun w' => w'.cell? ⟨w.heap.size, 0, none⟩ = some (.slice u0 d.params.length c0) ∧ w'.cell? ⟨w.heap.size, 1, none⟩ = some (.int .i64 d.ret) ∧ w'.cell? ⟨w.heap.size, 2, none⟩ = some (.slice u2 d.blocks.length c2)) (first | with_reducible exact ⟨b0d, b1d, b2d⟩ | with_reducible exact ⟨b0n, b1n, b2n⟩ | with_reducible exact ⟨e0, e1, e2⟩ | with_reducible exact ⟨cell_new z2 e0, cell_new z2 e1, cell_new z2 e2⟩ | with_reducible exact ⟨cell_far z0 (cell_far z0 (cell_far z0 e0)), cell_far z0 (cell_far z0 (cell_far z0 e1)), cell_far z0 (cell_far z0 (cell_far z0 e2))⟩ | go_keep) (first | (go_at_call 17; refine (countI_any lo d u0 c0 u2 c2 _ hs KN).mono ?_; rintro e w2 ⟨rfl, hb2'⟩; have F2 := F1n.keep hb2'; have e0 := F2.a0; have e1 := F2.a1; have e2 := F2.a2; have hr2 := new_room hb2'; have r0 := cell_of_heap (o := 0) hr2; have r1 := cell_of_heap (o := 1) hr2; have r2 := cell_of_heap (o := 2) hr2; have q0 := froz_of_heap (o := 0) hr2; have q1 := froz_of_heap (o := 1) hr2; have q2 := froz_of_heap (o := 2) hr2) | (go_at_call 17; refine (countI_any lo d u0 c0 u2 c2 _ hs KB).mono ?_; rintro e w2 ⟨rfl, hb2'⟩; have F2 := F1d.keep hb2'; have e0 := F2.a0; have e1 := F2.a1; have e2 := F2.a2; have z2 : w.heap.size < w2.heap.size := by have := F2.size; omega))
 ·have RB : RBox w2.heap.size (cntF d) d.blocks.length funcs (w2.alloc (.cells #[.int .i64 (cntF d), .int .i64 d.blocks.length, .int .i64 funcs] 111)) := RBox.of (heap_alloc_last _ _)
  have FB := F2.alloc (.cells #[.int .i64 (cntF d), .int .i64 d.blocks.length, .int .i64 funcs] 111)
  clear e0 e1 e2 z2 hb2' F2
  clear b0 b1 b2 b0d b1d b2d b0n b1n b2n KB KN F1 F1d F1n z0
  have z0 := FB.a0
  have z1 := FB.a1
  have z2 := FB.a2
  go_wp2_with fail
  clear z0 z1 z2
  go_loopw [49] (fun i wr => ∃ j : Nat, j ≤ d.blocks.length ∧ i = .int .i64 j ∧ Hid (∀ k, k < j → blockB (cntF d) d.blocks.length funcs (d.blocks.getD k block0) = true) ∧ RBox w2.heap.size (cntF d) d.blocks.length funcs wr ∧ Below w.heap.size w wr) (fun i _ => d.blocks.length - (intOf i).toNat)
  case atStart => exact ⟨0, by omega, rfl, fun k hk => by omega, RB, FB.below⟩
  case round =>
   obtain ⟨j, hj, rfl, HD, hR, hW⟩ := hrel
   obtain ⟨wp, hwp⟩ : ∃ wp, wp = wr := ⟨_, rfl⟩
   subst hwp
   clear RB FB
   by_cases hjl : j < d.blocks.length
   ·rcases k2.2 with hn | ⟨bb, off, rfl, hlo, hbb, hcell⟩
    ·simp [hn] at hjl
    obtain ⟨⟨p0, q0, h0, m0⟩, ⟨p1, q1, h1, m1⟩, h2, h3, h4, h5⟩ := hcell j hjl
    have hsm := HS.out _ (getD_mem block0 d.blocks j hjl)
    generalize hx : d.blocks.getD j block0 = x at h0 h1 h2 h3 h4 h5 m0 m1 hsm
    have HX : Hid (d.blocks.getD j block0 = x) := hx
    have f0 : wp.cell? ⟨bb, off + j * 6, none⟩ = some (.slice p0 x.phis.length q0) := (cell_block (hW.block bb hbb)).trans h0
    have f1 : wp.cell? ⟨bb, off + j * 6 + 1, none⟩ = some (.slice p1 x.insts.length q1) := (cell_block (hW.block bb hbb)).trans h1
    have f2 : wp.cell? ⟨bb, off + j * 6 + 2, none⟩ = some (.int .i64 x.term.kind) := (cell_block (hW.block bb hbb)).trans h2
    have f3 : wp.cell? ⟨bb, off + j * 6 + 3, none⟩ = some (.int .i64 x.term.a) := (cell_block (hW.block bb hbb)).trans h3
    have f4 : wp.cell? ⟨bb, off + j * 6 + 4, none⟩ = some (.int .i64 x.term.x) := (cell_block (hW.block bb hbb)).trans h4
    have f5 : wp.cell? ⟨bb, off + j * 6 + 5, none⟩ = some (.int .i64 x.term.y) := (cell_block (hW.block bb hbb)).trans h5
    have M0 := (m0.keep (agree_of_below hW lo)).keep (agree_alloc wp (.cells #[.slice p0 x.phis.length q0, .slice p1 x.insts.length q1, .int .i64 x.term.kind, .int .i64 x.term.a, .int .i64 x.term.x, .int .i64 x.term.y] 43) _)
    have M1 := (m1.keep (agree_of_below hW lo)).keep (agree_alloc wp (.cells #[.slice p0 x.phis.length q0, .slice p1 x.insts.length q1, .int .i64 x.term.kind, .int .i64 x.term.a, .int .i64 x.term.x, .int .i64 x.term.y] 43) _)
    have RA := hR.keep ((Below.refl _ _).alloc (Nat.le_refl _) (.cells #[.slice p0 x.phis.length q0, .slice p1 x.insts.length q1, .int .i64 x.term.kind, .int .i64 x.term.a, .int .i64 x.term.x, .int .i64 x.term.y] 43))
    have WA : Below w.heap.size w (wp.alloc (.cells #[.slice p0 x.phis.length q0, .slice p1 x.insts.length q1, .int .i64 x.term.kind, .int .i64 x.term.a, .int .i64 x.term.x, .int .i64 x.term.y] 43)) := hW.alloc hW.size _
    have B : ∀ B, blockB (cntF d) d.blocks.length funcs x = B → Calls Tryz.prog 63 #[.agg #[.slice p0 x.phis.length q0, .slice p1 x.insts.length q1, .int .i64 x.term.kind, .int .i64 x.term.a, .int .i64 x.term.x, .int .i64 x.term.y], .agg #[.int .i64 (cntF d), .int .i64 d.blocks.length, .int .i64 funcs]] (wp.alloc (.cells #[.slice p0 x.phis.length q0, .slice p1 x.insts.length q1, .int .i64 x.term.kind, .int .i64 x.term.a, .int .i64 x.term.x, .int .i64 x.term.y] 43)) fun e w' => e = .returned (.bool B) ∧ Below (wp.alloc (.cells #[.slice p0 x.phis.length q0, .slice p1 x.insts.length q1, .int .i64 x.term.kind, .int .i64 x.term.a, .int .i64 x.term.x, .int .i64 x.term.y] 43)).heap.size (wp.alloc (.cells #[.slice p0 x.phis.length q0, .slice p1 x.insts.length q1, .int .i64 x.term.kind, .int .i64 x.term.a, .int .i64 x.term.x, .int .i64 x.term.y] 43)) w' := fun B h => by
     rw [← h]; exact blockShI lo x p0 q0 p1 q1 (cntF d) d.blocks.length funcs _ hsm M0 M1
    have NO : Hid (blockB (cntF d) d.blocks.length funcs x = false → false = funcB funcs d) := fun h => by
     rw [HE.out]; exact (all_no block0 d.blocks j hjl (by rw [HX.out, h]; decide)).symm
    have YES : Hid (blockB (cntF d) d.blocks.length funcs x = true → ∀ k, k < j + 1 → blockB (cntF d) d.blocks.length funcs (d.blocks.getD k block0) = true) := fun h k hk => by
     by_cases e : k = j
     ·subst e; rw [HX.out]; exact h
     ·exact HD.out k (by omega)
    have t0 := RA.r0
    have t1 := RA.r1
    have t2 := RA.r2
    have HRA : Hid (RBox w2.heap.size (cntF d) d.blocks.length funcs (wp.alloc (.cells #[.slice p0 x.phis.length q0, .slice p1 x.insts.length q1, .int .i64 x.term.kind, .int .i64 x.term.a, .int .i64 x.term.x, .int .i64 x.term.y] 43))) := RA
    have HWA : Hid (Below w.heap.size w (wp.alloc (.cells #[.slice p0 x.phis.length q0, .slice p1 x.insts.length q1, .int .i64 x.term.kind, .int .i64 x.term.a, .int .i64 x.term.x, .int .i64 x.term.y] 43))) := WA
    clear hcell h0 h1 h2 h3 h4 h5 m0 m1 hsm hx hR hW M0 M1 RA WA HD
    cases hb : blockB (cntF d) d.blocks.length funcs x with
    | false =>
     have HF : Hid (false = funcB funcs d) := NO.out hb
     have BB := B _ hb
     clear B
     go_wp2_with (go_at_call 63; refine BB.mono ?_; rintro e w3 ⟨rfl, hb3⟩)
     go_ret
     exact ⟨ret_bool HF.out, HWA.out.trans (hb3.mono HWA.out.size)⟩
    | true =>
     have HF : Hid (blockB (cntF d) d.blocks.length funcs x = true) := hb
     have BB := B _ hb
     clear B
     go_wp2_with (go_at_call 63; refine BB.mono ?_; rintro e w3 ⟨rfl, hb3⟩)
     go_roundw
     case rel => exact ⟨j + 1, by omega, by go_num, YES.out HF.out, HRA.out.keep hb3, HWA.out.trans (hb3.mono HWA.out.size)⟩
     case measure => simp [intOf]; omega
   ·have HF : Hid (true = funcB funcs d) := by
     show _ = _
     rw [HE.out]; exact (all_yes block0 d.blocks (fun k hk => HD.out k (by omega))).symm
    go_wp2_with fail
    go_ret
    exact ⟨ret_bool HF.out, hW⟩
 ·have RB : RBox w1.heap.size (cntF d) d.blocks.length funcs (((w2.setCell ⟨w1.heap.size, 0, none⟩ (.int .i64 (cntF d))).setCell ⟨w1.heap.size, 1, none⟩ (.int .i64 d.blocks.length)).setCell ⟨w1.heap.size, 2, none⟩ (.int .i64 funcs)) := RBox.of (heap_set (heap_set (heap_set hr2)))
  have FB : FBox d u0 c0 u2 c2 w (((w2.setCell ⟨w1.heap.size, 0, none⟩ (.int .i64 (cntF d))).setCell ⟨w1.heap.size, 1, none⟩ (.int .i64 d.blocks.length)).setCell ⟨w1.heap.size, 2, none⟩ (.int .i64 funcs)) :=
   ⟨cell_far z0 (cell_far z0 (cell_far z0 e0)), cell_far z0 (cell_far z0 (cell_far z0 e1)), cell_far z0 (cell_far z0 (cell_far z0 e2)), ((F2.below.setCell (by dsimp only; omega) _).setCell (by dsimp only; omega) _).setCell (by dsimp only; omega) _, by have := F2.size; simp [World.setCell]; omega⟩
  generalize ((w2.setCell ⟨w1.heap.size, 0, none⟩ (.int .i64 (cntF d))).setCell ⟨w1.heap.size, 1, none⟩ (.int .i64 d.blocks.length)).setCell ⟨w1.heap.size, 2, none⟩ (.int .i64 funcs) = wz at RB FB ⊢
  clear e0 e1 e2 hb2' F2 hr2 r0 r1 r2 q0 q1 q2
  clear b0 b1 b2 b0d b1d b2d b0n b1n b2n KB KN F1 F1d F1n z0
  have z0 := FB.a0
  have z1 := FB.a1
  have z2 := FB.a2
  go_wp2_with fail
  clear z0 z1 z2
  go_loopw [49] (fun i wr => ∃ j : Nat, j ≤ d.blocks.length ∧ i = .int .i64 j ∧ Hid (∀ k, k < j → blockB (cntF d) d.blocks.length funcs (d.blocks.getD k block0) = true) ∧ RBox w1.heap.size (cntF d) d.blocks.length funcs wr ∧ Below w.heap.size w wr) (fun i _ => d.blocks.length - (intOf i).toNat)
  case atStart => exact ⟨0, by omega, rfl, fun k hk => by omega, RB, FB.below⟩
  case round =>
   obtain ⟨j, hj, rfl, HD, hR, hW⟩ := hrel
   obtain ⟨wp, hwp⟩ : ∃ wp, wp = wr := ⟨_, rfl⟩
   subst hwp
   clear RB FB
   by_cases hjl : j < d.blocks.length
   ·rcases k2.2 with hn | ⟨bb, off, rfl, hlo, hbb, hcell⟩
    ·simp [hn] at hjl
    obtain ⟨⟨p0, q0, h0, m0⟩, ⟨p1, q1, h1, m1⟩, h2, h3, h4, h5⟩ := hcell j hjl
    have hsm := HS.out _ (getD_mem block0 d.blocks j hjl)
    generalize hx : d.blocks.getD j block0 = x at h0 h1 h2 h3 h4 h5 m0 m1 hsm
    have HX : Hid (d.blocks.getD j block0 = x) := hx
    have f0 : wp.cell? ⟨bb, off + j * 6, none⟩ = some (.slice p0 x.phis.length q0) := (cell_block (hW.block bb hbb)).trans h0
    have f1 : wp.cell? ⟨bb, off + j * 6 + 1, none⟩ = some (.slice p1 x.insts.length q1) := (cell_block (hW.block bb hbb)).trans h1
    have f2 : wp.cell? ⟨bb, off + j * 6 + 2, none⟩ = some (.int .i64 x.term.kind) := (cell_block (hW.block bb hbb)).trans h2
    have f3 : wp.cell? ⟨bb, off + j * 6 + 3, none⟩ = some (.int .i64 x.term.a) := (cell_block (hW.block bb hbb)).trans h3
    have f4 : wp.cell? ⟨bb, off + j * 6 + 4, none⟩ = some (.int .i64 x.term.x) := (cell_block (hW.block bb hbb)).trans h4
    have f5 : wp.cell? ⟨bb, off + j * 6 + 5, none⟩ = some (.int .i64 x.term.y) := (cell_block (hW.block bb hbb)).trans h5
    have M0 := (m0.keep (agree_of_below hW lo)).keep (agree_alloc wp (.cells #[.slice p0 x.phis.length q0, .slice p1 x.insts.length q1, .int .i64 x.term.kind, .int .i64 x.term.a, .int .i64 x.term.x, .int .i64 x.term.y] 43) _)
    have M1 := (m1.keep (agree_of_below hW lo)).keep (agree_alloc wp (.cells #[.slice p0 x.phis.length q0, .slice p1 x.insts.length q1, .int .i64 x.term.kind, .int .i64 x.term.a, .int .i64 x.term.x, .int .i64 x.term.y] 43) _)
    have RA := hR.keep ((Below.refl _ _).alloc (Nat.le_refl _) (.cells #[.slice p0 x.phis.length q0, .slice p1 x.insts.length q1, .int .i64 x.term.kind, .int .i64 x.term.a, .int .i64 x.term.x, .int .i64 x.term.y] 43))
    have WA : Below w.heap.size w (wp.alloc (.cells #[.slice p0 x.phis.length q0, .slice p1 x.insts.length q1, .int .i64 x.term.kind, .int .i64 x.term.a, .int .i64 x.term.x, .int .i64 x.term.y] 43)) := hW.alloc hW.size _
    have B : ∀ B, blockB (cntF d) d.blocks.length funcs x = B → Calls Tryz.prog 63 #[.agg #[.slice p0 x.phis.length q0, .slice p1 x.insts.length q1, .int .i64 x.term.kind, .int .i64 x.term.a, .int .i64 x.term.x, .int .i64 x.term.y], .agg #[.int .i64 (cntF d), .int .i64 d.blocks.length, .int .i64 funcs]] (wp.alloc (.cells #[.slice p0 x.phis.length q0, .slice p1 x.insts.length q1, .int .i64 x.term.kind, .int .i64 x.term.a, .int .i64 x.term.x, .int .i64 x.term.y] 43)) fun e w' => e = .returned (.bool B) ∧ Below (wp.alloc (.cells #[.slice p0 x.phis.length q0, .slice p1 x.insts.length q1, .int .i64 x.term.kind, .int .i64 x.term.a, .int .i64 x.term.x, .int .i64 x.term.y] 43)).heap.size (wp.alloc (.cells #[.slice p0 x.phis.length q0, .slice p1 x.insts.length q1, .int .i64 x.term.kind, .int .i64 x.term.a, .int .i64 x.term.x, .int .i64 x.term.y] 43)) w' := fun B h => by
     rw [← h]; exact blockShI lo x p0 q0 p1 q1 (cntF d) d.blocks.length funcs _ hsm M0 M1
    have NO : Hid (blockB (cntF d) d.blocks.length funcs x = false → false = funcB funcs d) := fun h => by
     rw [HE.out]; exact (all_no block0 d.blocks j hjl (by rw [HX.out, h]; decide)).symm
    have YES : Hid (blockB (cntF d) d.blocks.length funcs x = true → ∀ k, k < j + 1 → blockB (cntF d) d.blocks.length funcs (d.blocks.getD k block0) = true) := fun h k hk => by
     by_cases e : k = j
     ·subst e; rw [HX.out]; exact h
     ·exact HD.out k (by omega)
    have t0 := RA.r0
    have t1 := RA.r1
    have t2 := RA.r2
    have HRA : Hid (RBox w1.heap.size (cntF d) d.blocks.length funcs (wp.alloc (.cells #[.slice p0 x.phis.length q0, .slice p1 x.insts.length q1, .int .i64 x.term.kind, .int .i64 x.term.a, .int .i64 x.term.x, .int .i64 x.term.y] 43))) := RA
    have HWA : Hid (Below w.heap.size w (wp.alloc (.cells #[.slice p0 x.phis.length q0, .slice p1 x.insts.length q1, .int .i64 x.term.kind, .int .i64 x.term.a, .int .i64 x.term.x, .int .i64 x.term.y] 43))) := WA
    clear hcell h0 h1 h2 h3 h4 h5 m0 m1 hsm hx hR hW M0 M1 RA WA HD
    cases hb : blockB (cntF d) d.blocks.length funcs x with
    | false =>
     have HF : Hid (false = funcB funcs d) := NO.out hb
     have BB := B _ hb
     clear B
     go_wp2_with (go_at_call 63; refine BB.mono ?_; rintro e w3 ⟨rfl, hb3⟩)
     go_ret
     exact ⟨ret_bool HF.out, HWA.out.trans (hb3.mono HWA.out.size)⟩
    | true =>
     have HF : Hid (blockB (cntF d) d.blocks.length funcs x = true) := hb
     have BB := B _ hb
     clear B
     go_wp2_with (go_at_call 63; refine BB.mono ?_; rintro e w3 ⟨rfl, hb3⟩)
     go_roundw
     case rel => exact ⟨j + 1, by omega, by go_num, YES.out HF.out, HRA.out.keep hb3, HWA.out.trans (hb3.mono HWA.out.size)⟩
     case measure => simp [intOf]; omega
   ·have HF : Hid (true = funcB funcs d) := by
     show _ = _
     rw [HE.out]; exact (all_yes block0 d.blocks (fun k hk => HD.out k (by omega))).symm
    go_wp2_with fail
    go_ret
    exact ⟨ret_bool HF.out, hW⟩
end Go.Proofs.YtgojlnclpebdcaaGreatDoor
namespace Go.Proofs.YtgojlnclpebdcaaGreatDoor
open Go.RowKit
set_option linter.unusedVariables false
def unB (op w f : Int) : Bool := if op = 18 ∨ op = 19 then f != 0 && decide (f < w) else if op = 20 then decide (w < f) else f == w
set_option maxHeartbeats 1000000 in
theorem unI (op iw a b c imm : Int) (u : Option Addr) (n q : Nat) (f : Int) (w : World) :
  Calls Tryz.prog 122 #[.agg #[.int .i64 op, .int .i64 iw, .int .i64 a, .int .i64 b, .int .i64 c, .int .i64 imm, .slice u n q], .int .i64 f] w fun e w' => e = .returned (.bool (unB op iw f)) ∧ Below w.heap.size w w' := by
 by_cases h18 : op = 18
 ·subst h18
  by_cases hf : f = 0
  ·subst hf
   have E : Hid (false = unB 18 iw 0) := by show _ = _; simp [unB]
   go_enter Tryz.func122, Tryz.ntmps122
   go_wp2_with fail
   go_ret
   exact ⟨ret_bool E.out, (Below.refl _ _).alloc (Nat.le_refl _) _⟩
  ·have E : Hid ((f != 0 && decide (f < iw)) = unB 18 iw f) := by show _ = _; simp [unB]
   go_enter Tryz.func122, Tryz.ntmps122
   go_wp2_with fail
   go_ret
   exact ⟨ret_bool E.out, (Below.refl _ _).alloc (Nat.le_refl _) _⟩
 by_cases h19 : op = 19
 ·subst h19
  by_cases hf : f = 0
  ·subst hf
   have E : Hid (false = unB 19 iw 0) := by show _ = _; simp [unB]
   go_enter Tryz.func122, Tryz.ntmps122
   go_wp2_with fail
   go_ret
   exact ⟨ret_bool E.out, (Below.refl _ _).alloc (Nat.le_refl _) _⟩
  ·have E : Hid ((f != 0 && decide (f < iw)) = unB 19 iw f) := by show _ = _; simp [unB]
   go_enter Tryz.func122, Tryz.ntmps122
   go_wp2_with fail
   go_ret
   exact ⟨ret_bool E.out, (Below.refl _ _).alloc (Nat.le_refl _) _⟩
 by_cases h20 : op = 20
 ·subst h20
  have E : Hid (decide (iw < f) = unB 20 iw f) := by show _ = _; simp [unB]
  go_enter Tryz.func122, Tryz.ntmps122
  go_wp2_with fail
  go_ret
  exact ⟨ret_bool E.out, (Below.refl _ _).alloc (Nat.le_refl _) _⟩
 have E : Hid ((f == iw) = unB op iw f) := by show _ = _; simp [unB, h18, h19, h20]
 go_enter Tryz.func122, Tryz.ntmps122
 go_wp2_with fail
 go_ret
 exact ⟨ret_bool E.out, (Below.refl _ _).alloc (Nat.le_refl _) _⟩
set_option maxHeartbeats 1000000 in
theorem trmI (lo : Nat) (ty : List Int) (ut : Option Addr) (ct : Nat) (x : TermD) (ret : Int) (w : World) (ht : IntsAt w lo ut ty) (hin : x.kind = 1 ∨ x.kind = 3 → 0 ≤ x.a ∧ x.a < ty.length) :
  Calls Tryz.prog 85 #[.slice ut ty.length ct, .agg #[.int .i64 x.kind, .int .i64 x.a, .int .i64 x.x, .int .i64 x.y], .int .i64 ret] w fun e w' => e = .returned (.bool (trmB (fun i => ty.getD i.toNat 0) x ret)) ∧ Below w.heap.size w w' := by
 obtain ⟨k, a, tx, tyy⟩ := x
 simp only at hin ⊢
 by_cases h1 : k = 1
 ·subst h1
  obtain ⟨ha, hl⟩ := hin (.inl rfl)
  obtain ⟨y, rfl⟩ : ∃ y : Nat, a = y := ⟨a.toNat, by omega⟩
  rcases ht.2 with hn | ⟨b, off, rfl, hlo, hb, hcell⟩
  ·simp [hn] at hl; omega
  have e0 := hcell y (by omega)
  have E : Hid ((ty.getD y 0 == ret) = trmB (fun i => ty.getD i.toNat 0) ⟨1, y, tx, tyy⟩ ret) := by show _ = _; simp [trmB]
  generalize ty.getD y 0 = v at e0 E
  clear ht hcell hin
  go_enter Tryz.func85, Tryz.ntmps85
  go_wp2_with fail
  go_ret
  exact ⟨ret_bool E.out, (Below.refl _ _).alloc (Nat.le_refl _) _⟩
 by_cases h3 : k = 3
 ·subst h3
  obtain ⟨ha, hl⟩ := hin (.inr rfl)
  obtain ⟨y, rfl⟩ : ∃ y : Nat, a = y := ⟨a.toNat, by omega⟩
  rcases ht.2 with hn | ⟨b, off, rfl, hlo, hb, hcell⟩
  ·simp [hn] at hl; omega
  have e0 := hcell y (by omega)
  have E : Hid ((ty.getD y 0 == 1) = trmB (fun i => ty.getD i.toNat 0) ⟨3, y, tx, tyy⟩ ret) := by show _ = _; simp [trmB]
  generalize ty.getD y 0 = v at e0 E
  clear ht hcell hin
  go_enter Tryz.func85, Tryz.ntmps85
  go_wp2_with fail
  go_ret
  exact ⟨ret_bool E.out, (Below.refl _ _).alloc (Nat.le_refl _) _⟩
 have E : Hid (true = trmB (fun i => ty.getD i.toNat 0) ⟨k, a, tx, tyy⟩ ret) := by show _ = _; simp [trmB, h1, h3]
 go_enter Tryz.func85, Tryz.ntmps85
 go_wp2_with fail
 go_ret
 exact ⟨ret_bool E.out, (Below.refl _ _).alloc (Nat.le_refl _) _⟩
theorem opr_facts {w w1 : World} {T : TypeId} {op iw a b c imm : Int} {sl : Value} (h : Below (w.alloc (.cells #[.int .i64 op, .int .i64 iw, .int .i64 a, .int .i64 b, .int .i64 c, .int .i64 imm, sl] T)).heap.size (w.alloc (.cells #[.int .i64 op, .int .i64 iw, .int .i64 a, .int .i64 b, .int .i64 c, .int .i64 imm, sl] T)) w1) :
  w1.heap[w.heap.size]? = some (.cells #[.int .i64 op, .int .i64 iw, .int .i64 a, .int .i64 b, .int .i64 c, .int .i64 imm, sl] T (0, 0)) ∧ w.heap.size < w1.heap.size ∧ (∀ b o v, b < w.heap.size → w.cell? ⟨b, o, none⟩ = some v → w1.cell? ⟨b, o, none⟩ = some v) ∧ Below w.heap.size w w1 := by
 have hz := h.size
 simp at hz
 exact ⟨(h.block _ (by simp)).trans (heap_alloc_last _ _), by omega, fun b o v hb hc => (bcell h b o (by simp; omega)).trans (cell_new hb hc), ((Below.refl w.heap.size w).alloc (Nat.le_refl _) _).trans (h.mono (by simp))⟩
theorem below_drewN {b : Nat} {w w' : World} (h : Below b w w') (n : Nat) : Below b w (w'.drewN n) := ⟨h.os, h.tape, h.output, h.size, h.block⟩
set_option maxHeartbeats 2000000 in
set_option maxRecDepth 100000 in
theorem opr_bin (op iw imm c : Int) (x y z : Nat) (args : List Int) (u : Option Addr) (q : Nat) (bt ot n ct : Nat) (t : Int → Int) (w : World) (hb : bt < w.heap.size) (hn : n ≤ 1000) (ht : ∀ k : Nat, k < n → w.cell? ⟨bt, ot + k, none⟩ = some (.int .i64 (t k))) (hx : x < n) (hy : y < n) (ho : opB op = true) :
  Calls Tryz.prog 84 #[.slice (some ⟨bt, ot, none⟩) n ct, .agg #[.int .i64 op, .int .i64 iw, .int .i64 x, .int .i64 y, .int .i64 c, .int .i64 imm, .slice u args.length q]] w fun e w' => e = .returned (.bool (argB t ⟨op, iw, x, y, c, imm, args⟩)) ∧ Below w.heap.size w w' := by
 have HK : Hid (kindV ⟨op, iw, x, y, c, imm, args⟩ u q = .iface 118 (.agg #[.int .i64 (x : Int), .int .i64 (y : Int)])) := kv_bin ho
 have ex := ht x hx
 generalize hvx : t (x : Int) = vx at ex
 have ey := ht y hy
 generalize hvy : t (y : Int) = vy at ey
 have E : Hid ((vx == iw && vy == iw) = argB t ⟨op, iw, x, y, c, imm, args⟩) := by show _ = _; simp [argB, ho, hvx, hvy]
 have A0 := as_binaryKind_binaryKind
 clear ht hvx hvy
 go_enter Tryz.func84, Tryz.ntmps84
 go_wp2_with (go_at_call 41; refine (kind_any ⟨op, iw, x, y, c, imm, args⟩ u q _).mono ?_; rintro e w1 ⟨rfl, hb1⟩; rw [HK.out]; obtain ⟨hh, zz, hq, hB⟩ := opr_facts hb1; have fw := (cell_of_heap (o := 1) hh).trans rfl; have fx := hq bt (ot + x) _ hb ex; have fy := hq bt (ot + y) _ hb ey; have zb : bt < w1.heap.size := (by omega); have HB : Hid (Below w.heap.size w w1) := hB; clear hB hb1 hq)
 by_cases h1 : vx = iw
 ·have hd : (vx == iw) = true := by simp [h1]
  go_quiet (fail)
  go_wp2_with fail
  go_ret
  refine ⟨ret_bool (Eq.trans ?_ E.out), ?_⟩
  ·simp [h1]
  ·exact below_drewN (HB.out.alloc (by omega) _) _
 ·have hd : (vx == iw) = false := by simp [h1]
  have hd2 : decide (vx = iw) = false := by simp [h1]
  go_quiet (fail)
  go_wp2_with fail
  go_ret
  refine ⟨ret_bool (Eq.trans ?_ E.out), ?_⟩
  ·simp [h1]
  ·exact below_drewN (HB.out.alloc (by omega) _) _
set_option maxHeartbeats 2000000 in
set_option maxRecDepth 100000 in
theorem opr_22 (iw imm : Int) (x y z : Nat) (args : List Int) (u : Option Addr) (q : Nat) (bt ot n ct : Nat) (t : Int → Int) (w : World) (hb : bt < w.heap.size) (hn : n ≤ 1000) (ht : ∀ k : Nat, k < n → w.cell? ⟨bt, ot + k, none⟩ = some (.int .i64 (t k))) (hx : x < n) (hy : y < n) (hz : z < n) :
  Calls Tryz.prog 84 #[.slice (some ⟨bt, ot, none⟩) n ct, .agg #[.int .i64 22, .int .i64 iw, .int .i64 x, .int .i64 y, .int .i64 z, .int .i64 imm, .slice u args.length q]] w fun e w' => e = .returned (.bool (argB t ⟨22, iw, x, y, z, imm, args⟩)) ∧ Below w.heap.size w w' := by
 have HK : Hid (kindV ⟨22, iw, x, y, z, imm, args⟩ u q = .iface 127 (.agg #[.int .i64 (x : Int), .int .i64 (y : Int), .int .i64 (z : Int)])) := kv_22 rfl
 have ex := ht x hx
 generalize hvx : t (x : Int) = vx at ex
 have ey := ht y hy
 generalize hvy : t (y : Int) = vy at ey
 have ez := ht z hz
 generalize hvz : t (z : Int) = vz at ez
 have E : Hid ((vx == 1 && vy == iw && vz == iw) = argB t ⟨22, iw, x, y, z, imm, args⟩) := by show _ = _; simp [argB, show opB 22 = false by decide, hvx, hvy, hvz]
 have A0 := as_selectKind_binaryKind
 have A1 := as_selectKind_unaryKind
 have A2 := as_selectKind_selectKind
 clear ht hvx hvy hvz
 go_enter Tryz.func84, Tryz.ntmps84
 go_wp2_with (go_at_call 41; refine (kind_any ⟨22, iw, x, y, z, imm, args⟩ u q _).mono ?_; rintro e w1 ⟨rfl, hb1⟩; rw [HK.out]; obtain ⟨hh, zz, hq, hB⟩ := opr_facts hb1; have fw := (cell_of_heap (o := 1) hh).trans rfl; have fx := hq bt (ot + x) _ hb ex; have fy := hq bt (ot + y) _ hb ey; have fz := hq bt (ot + z) _ hb ez; have zb : bt < w1.heap.size := (by omega); have HB : Hid (Below w.heap.size w w1) := hB; clear hB hb1 hq)
 by_cases h1 : vx = 1
 ·have hd : (vx == 1) = true := by simp [h1]
  by_cases h2 : vy = iw
  ·have hd3 : (vy == iw) = true := by simp [h2]
   go_quiet (fail)
   go_wp2_with fail
   go_ret
   refine ⟨ret_bool (Eq.trans ?_ E.out), ?_⟩
   ·simp [h1, h2]
   ·exact below_drewN (HB.out.alloc (by omega) _) _
  ·have hd3 : (vy == iw) = false := by simp [h2]
   have hd4 : decide (vy = iw) = false := by simp [h2]
   go_quiet (fail)
   go_wp2_with fail
   go_ret
   refine ⟨ret_bool (Eq.trans ?_ E.out), ?_⟩
   ·simp [h1, h2]
   ·exact below_drewN (HB.out.alloc (by omega) _) _
 ·have hd : (vx == 1) = false := by simp [h1]
  have hd2 : decide (vx = 1) = false := by simp [h1]
  go_quiet (fail)
  go_wp2_with fail
  go_ret
  refine ⟨ret_bool (Eq.trans ?_ E.out), ?_⟩
  ·simp [h1]
  ·exact below_drewN (HB.out.alloc (by omega) _) _
set_option maxHeartbeats 2000000 in
set_option maxRecDepth 100000 in
theorem opr_23 (iw imm b c : Int) (x y z : Nat) (args : List Int) (u : Option Addr) (q : Nat) (bt ot n ct : Nat) (t : Int → Int) (w : World) (hb : bt < w.heap.size) (hn : n ≤ 1000) (ht : ∀ k : Nat, k < n → w.cell? ⟨bt, ot + k, none⟩ = some (.int .i64 (t k))) (hx : x < n) :
  Calls Tryz.prog 84 #[.slice (some ⟨bt, ot, none⟩) n ct, .agg #[.int .i64 23, .int .i64 iw, .int .i64 x, .int .i64 b, .int .i64 c, .int .i64 imm, .slice u args.length q]] w fun e w' => e = .returned (.bool (argB t ⟨23, iw, x, b, c, imm, args⟩)) ∧ Below w.heap.size w w' := by
 have HK : Hid (kindV ⟨23, iw, x, b, c, imm, args⟩ u q = .iface 128 (.agg #[.int .i64 (x : Int)])) := kv_23 rfl
 have ex := ht x hx
 generalize hvx : t (x : Int) = vx at ex
 have E : Hid ((vx == 32) = argB t ⟨23, iw, x, b, c, imm, args⟩) := by show _ = _; simp [argB, show opB 23 = false by decide, hvx]
 have A0 := as_loadKind_binaryKind
 have A1 := as_loadKind_unaryKind
 have A2 := as_loadKind_selectKind
 have A3 := as_loadKind_loadKind
 clear ht hvx
 go_enter Tryz.func84, Tryz.ntmps84
 go_wp2_with (go_at_call 41; refine (kind_any ⟨23, iw, x, b, c, imm, args⟩ u q _).mono ?_; rintro e w1 ⟨rfl, hb1⟩; rw [HK.out]; obtain ⟨hh, zz, hq, hB⟩ := opr_facts hb1; have fw := (cell_of_heap (o := 1) hh).trans rfl; have fx := hq bt (ot + x) _ hb ex; have zb : bt < w1.heap.size := (by omega); have HB : Hid (Below w.heap.size w w1) := hB; clear hB hb1 hq)
 go_ret
 refine ⟨ret_bool (Eq.trans ?_ E.out), ?_⟩
 ·first | rfl | simp
 ·first | exact HB.out.alloc (by omega) _ | exact HB.out
set_option maxHeartbeats 2000000 in
set_option maxRecDepth 100000 in
theorem opr_25 (iw imm b c : Int) (x y z : Nat) (args : List Int) (u : Option Addr) (q : Nat) (bt ot n ct : Nat) (t : Int → Int) (w : World) (hb : bt < w.heap.size) (hn : n ≤ 1000) (ht : ∀ k : Nat, k < n → w.cell? ⟨bt, ot + k, none⟩ = some (.int .i64 (t k))) (hx : x < n) :
  Calls Tryz.prog 84 #[.slice (some ⟨bt, ot, none⟩) n ct, .agg #[.int .i64 25, .int .i64 iw, .int .i64 x, .int .i64 b, .int .i64 c, .int .i64 imm, .slice u args.length q]] w fun e w' => e = .returned (.bool (argB t ⟨25, iw, x, b, c, imm, args⟩)) ∧ Below w.heap.size w w' := by
 have HK : Hid (kindV ⟨25, iw, x, b, c, imm, args⟩ u q = .iface 130 (.agg #[.int .i64 (x : Int)])) := kv_25 rfl
 have ex := ht x hx
 generalize hvx : t (x : Int) = vx at ex
 have E : Hid ((vx != 0) = argB t ⟨25, iw, x, b, c, imm, args⟩) := by show _ = _; simp [argB, show opB 25 = false by decide, hvx]
 have A0 := as_printKind_binaryKind
 have A1 := as_printKind_unaryKind
 have A2 := as_printKind_selectKind
 have A3 := as_printKind_loadKind
 have A4 := as_printKind_storeKind
 have A5 := as_printKind_printKind
 clear ht hvx
 go_enter Tryz.func84, Tryz.ntmps84
 go_wp2_with (go_at_call 41; refine (kind_any ⟨25, iw, x, b, c, imm, args⟩ u q _).mono ?_; rintro e w1 ⟨rfl, hb1⟩; rw [HK.out]; obtain ⟨hh, zz, hq, hB⟩ := opr_facts hb1; have fw := (cell_of_heap (o := 1) hh).trans rfl; have fx := hq bt (ot + x) _ hb ex; have zb : bt < w1.heap.size := (by omega); have HB : Hid (Below w.heap.size w w1) := hB; clear hB hb1 hq)
 go_ret
 refine ⟨ret_bool (Eq.trans ?_ E.out), ?_⟩
 ·first | rfl | simp
 ·first | exact HB.out.alloc (by omega) _ | exact HB.out
set_option maxHeartbeats 2000000 in
set_option maxRecDepth 100000 in
theorem opr_24 (iw imm c : Int) (x y z : Nat) (args : List Int) (u : Option Addr) (q : Nat) (bt ot n ct : Nat) (t : Int → Int) (w : World) (hb : bt < w.heap.size) (hn : n ≤ 1000) (ht : ∀ k : Nat, k < n → w.cell? ⟨bt, ot + k, none⟩ = some (.int .i64 (t k))) (hx : x < n) (hy : y < n) :
  Calls Tryz.prog 84 #[.slice (some ⟨bt, ot, none⟩) n ct, .agg #[.int .i64 24, .int .i64 iw, .int .i64 x, .int .i64 y, .int .i64 c, .int .i64 imm, .slice u args.length q]] w fun e w' => e = .returned (.bool (argB t ⟨24, iw, x, y, c, imm, args⟩)) ∧ Below w.heap.size w w' := by
 have HK : Hid (kindV ⟨24, iw, x, y, c, imm, args⟩ u q = .iface 129 (.agg #[.int .i64 (x : Int), .int .i64 (y : Int)])) := kv_24 rfl
 have ex := ht x hx
 generalize hvx : t (x : Int) = vx at ex
 have ey := ht y hy
 generalize hvy : t (y : Int) = vy at ey
 have E : Hid ((vx == 32 && vy == 8) = argB t ⟨24, iw, x, y, c, imm, args⟩) := by show _ = _; simp [argB, show opB 24 = false by decide, hvx, hvy]
 have A0 := as_storeKind_binaryKind
 have A1 := as_storeKind_unaryKind
 have A2 := as_storeKind_selectKind
 have A3 := as_storeKind_loadKind
 have A4 := as_storeKind_storeKind
 clear ht hvx hvy
 by_cases h1 : vx = 32
 ·have hd : (vx == 32) = true := by simp [h1]
  go_enter Tryz.func84, Tryz.ntmps84
  go_wp2_with (go_at_call 41; refine (kind_any ⟨24, iw, x, y, c, imm, args⟩ u q _).mono ?_; rintro e w1 ⟨rfl, hb1⟩; rw [HK.out]; obtain ⟨hh, zz, hq, hB⟩ := opr_facts hb1; have fw := (cell_of_heap (o := 1) hh).trans rfl; have fx := hq bt (ot + x) _ hb ex; have fy := hq bt (ot + y) _ hb ey; have zb : bt < w1.heap.size := (by omega); have HB : Hid (Below w.heap.size w w1) := hB; clear hB hb1 hq)
  go_ret
  refine ⟨ret_bool (Eq.trans ?_ E.out), ?_⟩
  ·simp [h1]
  ·first | exact HB.out.alloc (by omega) _ | exact HB.out
 ·have hd : (vx == 32) = false := by simp [h1]
  have hd2 : decide (vx = 32) = false := by simp [h1]
  go_enter Tryz.func84, Tryz.ntmps84
  go_wp2_with (go_at_call 41; refine (kind_any ⟨24, iw, x, y, c, imm, args⟩ u q _).mono ?_; rintro e w1 ⟨rfl, hb1⟩; rw [HK.out]; obtain ⟨hh, zz, hq, hB⟩ := opr_facts hb1; have fw := (cell_of_heap (o := 1) hh).trans rfl; have fx := hq bt (ot + x) _ hb ex; have fy := hq bt (ot + y) _ hb ey; have zb : bt < w1.heap.size := (by omega); have HB : Hid (Below w.heap.size w w1) := hB; clear hB hb1 hq)
  go_ret
  refine ⟨ret_bool (Eq.trans ?_ E.out), ?_⟩
  ·simp [h1]
  ·first | exact HB.out.alloc (by omega) _ | exact HB.out
set_option maxHeartbeats 2000000 in
set_option maxRecDepth 100000 in
theorem opr_u (op iw imm b c : Int) (x y z : Nat) (args : List Int) (u : Option Addr) (q : Nat) (bt ot n ct : Nat) (t : Int → Int) (w : World) (hb : bt < w.heap.size) (hn : n ≤ 1000) (ht : ∀ k : Nat, k < n → w.cell? ⟨bt, ot + k, none⟩ = some (.int .i64 (t k))) (hx : x < n) (ho : op = 18 ∨ op = 19 ∨ op = 20 ∨ op = 27) :
  Calls Tryz.prog 84 #[.slice (some ⟨bt, ot, none⟩) n ct, .agg #[.int .i64 op, .int .i64 iw, .int .i64 x, .int .i64 b, .int .i64 c, .int .i64 imm, .slice u args.length q]] w fun e w' => e = .returned (.bool (argB t ⟨op, iw, x, b, c, imm, args⟩)) ∧ Below w.heap.size w w' := by
 have HK : Hid (kindV ⟨op, iw, x, b, c, imm, args⟩ u q = .iface 123 (.agg #[.int .i64 (x : Int)])) := by
  rcases ho with rfl | rfl | rfl | rfl <;> first | exact kv_18 rfl | exact kv_19 rfl | exact kv_20 rfl | exact kv_27 rfl
 have ex := ht x hx
 generalize hvx : t (x : Int) = vx at ex
 have E : Hid (unB op iw vx = argB t ⟨op, iw, x, b, c, imm, args⟩) := by
  rcases ho with rfl | rfl | rfl | rfl <;> (show _ = _; simp [unB, argB, opB, hvx])
 have A0 := as_unaryKind_binaryKind
 have A1 := as_unaryKind_unaryKind
 clear ht hvx ho
 go_enter Tryz.func84, Tryz.ntmps84
 go_wp2_with (go_at_call 41; refine (kind_any ⟨op, iw, x, b, c, imm, args⟩ u q _).mono ?_; rintro e w1 ⟨rfl, hb1⟩; rw [HK.out]; obtain ⟨hh, zz, hq, hB⟩ := opr_facts hb1; have i0 := (cell_of_heap (o := 0) hh).trans rfl; have i2 := (cell_of_heap (o := 2) hh).trans rfl; have i3 := (cell_of_heap (o := 3) hh).trans rfl; have i4 := (cell_of_heap (o := 4) hh).trans rfl; have i5 := (cell_of_heap (o := 5) hh).trans rfl; have i6 := (cell_of_heap (o := 6) hh).trans rfl; have fw := (cell_of_heap (o := 1) hh).trans rfl; have fx := hq bt (ot + x) _ hb ex; have zb : bt < w1.heap.size := (by omega); have HB : Hid (Below w.heap.size w w1) := hB; clear hB hb1 hq)
 have D := fun (w : World) => unI op iw x b c imm u args.length q vx w
 go_region_with ((go_at_call 122; refine (D _).mono ?_; rintro e w2 ⟨rfl, hb2⟩))
 all_goals
  go_wp2_with fail
  go_ret
  refine ⟨ret_bool E.out, ?_⟩
  have hb3 := drop_drew hb2
  first | exact HB.out.trans (hb3.mono HB.out.size) | exact (HB.out.alloc (by omega) _).trans (hb3.mono (by have := HB.out.size; simp; omega))
set_option maxHeartbeats 2000000 in
set_option maxRecDepth 100000 in
theorem opr_n (op iw imm a b c : Int) (x y z : Nat) (args : List Int) (u : Option Addr) (q : Nat) (bt ot n ct : Nat) (t : Int → Int) (w : World) (hb : bt < w.heap.size) (hn : n ≤ 1000) (ht : ∀ k : Nat, k < n → w.cell? ⟨bt, ot + k, none⟩ = some (.int .i64 (t k))) (T : TypeId) (V : Value) (HK : Hid (kindV ⟨op, iw, a, b, c, imm, args⟩ u q = .iface T V)) (E : Hid (true = argB t ⟨op, iw, a, b, c, imm, args⟩)) (A0 : AsN T 118 (.agg #[.int .i64 0, .int .i64 0])) (A1 : AsN T 123 (.agg #[.int .i64 0])) (A2 : AsN T 127 (.agg #[.int .i64 0, .int .i64 0, .int .i64 0])) (A3 : AsN T 128 (.agg #[.int .i64 0])) (A4 : AsN T 129 (.agg #[.int .i64 0, .int .i64 0])) (A5 : AsN T 130 (.agg #[.int .i64 0])) :
  Calls Tryz.prog 84 #[.slice (some ⟨bt, ot, none⟩) n ct, .agg #[.int .i64 op, .int .i64 iw, .int .i64 a, .int .i64 b, .int .i64 c, .int .i64 imm, .slice u args.length q]] w fun e w' => e = .returned (.bool (argB t ⟨op, iw, a, b, c, imm, args⟩)) ∧ Below w.heap.size w w' := by
 clear ht
 go_enter Tryz.func84, Tryz.ntmps84
 go_wp2_with (go_at_call 41; refine (kind_any ⟨op, iw, a, b, c, imm, args⟩ u q _).mono ?_; rintro e w1 ⟨rfl, hb1⟩; rw [HK.out]; obtain ⟨hh, zz, hq, hB⟩ := opr_facts hb1; have fw := (cell_of_heap (o := 1) hh).trans rfl; have zb : bt < w1.heap.size := (by omega); have HB : Hid (Below w.heap.size w w1) := hB; clear hB hb1 hq)
 go_ret
 refine ⟨ret_bool (Eq.trans ?_ E.out), ?_⟩
 ·rfl
 ·first | exact HB.out.alloc (by omega) _ | exact HB.out
theorem nat_of {a : Int} {n : Nat} (h : 0 ≤ a ∧ a < n) : ∃ x : Nat, a = x ∧ x < n := ⟨a.toNat, by omega, by omega⟩
theorem oprI (lo : Nat) (ty : List Int) (ut : Option Addr) (ct : Nat) (d : InstD) (u : Option Addr) (q : Nat) (w : World) (hn : ty.length ≤ 1000) (ht : IntsAt w lo ut ty) (hin : ∀ id ∈ opsD d, 0 ≤ id ∧ id < ty.length) (h1 : 1 ≤ ty.length) :
  Calls Tryz.prog 84 #[.slice ut ty.length ct, .agg #[.int .i64 d.op, .int .i64 d.w, .int .i64 d.a, .int .i64 d.b, .int .i64 d.c, .int .i64 d.imm, .slice u d.args.length q]] w fun e w' => e = .returned (.bool (argB (fun i => ty.getD i.toNat 0) d)) ∧ Below w.heap.size w w' := by
 obtain ⟨op, iw, a, b, c, imm, args⟩ := d
 rcases ht.2 with hn0 | ⟨bt, ot, rfl, hlo, hb, hcell⟩
 ·simp [hn0] at h1
 have hc : ∀ k : Nat, k < ty.length → w.cell? ⟨bt, ot + k, none⟩ = some (.int .i64 ((fun i : Int => ty.getD i.toNat 0) (k : Int))) := fun k hk => by simpa using hcell k hk
 rcases op_split op with ho | rfl | rfl | rfl | rfl | rfl | rfl | rfl | rfl | rfl | rfl | ⟨ho, hk⟩
 ·simp [opsD, ho] at hin
  obtain ⟨x, rfl, hx⟩ := nat_of hin.1
  obtain ⟨y, rfl, hy⟩ := nat_of hin.2
  exact opr_bin op iw imm c x y 0 args u q bt ot ty.length ct _ w hb hn hc hx hy ho
 ·simp [opsD, show opB 18 = false by decide] at hin
  obtain ⟨x, rfl, hx⟩ := nat_of hin
  exact opr_u _ iw imm b c x 0 0 args u q bt ot ty.length ct _ w hb hn hc hx (by simp)
 ·simp [opsD, show opB 19 = false by decide] at hin
  obtain ⟨x, rfl, hx⟩ := nat_of hin
  exact opr_u _ iw imm b c x 0 0 args u q bt ot ty.length ct _ w hb hn hc hx (by simp)
 ·simp [opsD, show opB 20 = false by decide] at hin
  obtain ⟨x, rfl, hx⟩ := nat_of hin
  exact opr_u _ iw imm b c x 0 0 args u q bt ot ty.length ct _ w hb hn hc hx (by simp)
 ·exact opr_n _ iw imm a b c 0 0 0 args u q bt ot ty.length ct _ w hb hn hc _ _ (kv_21 rfl) (by show _ = _; simp [argB, opB]) as_constKind_binaryKind as_constKind_unaryKind as_constKind_selectKind as_constKind_loadKind as_constKind_storeKind as_constKind_printKind
 ·simp [opsD, show opB 22 = false by decide] at hin
  obtain ⟨x, rfl, hx⟩ := nat_of hin.1
  obtain ⟨y, rfl, hy⟩ := nat_of hin.2.1
  obtain ⟨z, rfl, hz⟩ := nat_of hin.2.2
  exact opr_22 iw imm x y z args u q bt ot ty.length ct _ w hb hn hc hx hy hz
 ·simp [opsD, show opB 23 = false by decide] at hin
  obtain ⟨x, rfl, hx⟩ := nat_of hin
  exact opr_23 iw imm b c x 0 0 args u q bt ot ty.length ct _ w hb hn hc hx
 ·simp [opsD, show opB 24 = false by decide] at hin
  obtain ⟨x, rfl, hx⟩ := nat_of hin.1
  obtain ⟨y, rfl, hy⟩ := nat_of hin.2
  exact opr_24 iw imm c x y 0 args u q bt ot ty.length ct _ w hb hn hc hx hy
 ·simp [opsD, show opB 25 = false by decide] at hin
  obtain ⟨x, rfl, hx⟩ := nat_of hin
  exact opr_25 iw imm b c x 0 0 args u q bt ot ty.length ct _ w hb hn hc hx
 ·exact opr_n _ iw imm a b c 0 0 0 args u q bt ot ty.length ct _ w hb hn hc _ _ (kv_26 rfl) (by show _ = _; simp [argB, opB]) as_callKind_binaryKind as_callKind_unaryKind as_callKind_selectKind as_callKind_loadKind as_callKind_storeKind as_callKind_printKind
 ·simp [opsD, show opB 27 = false by decide] at hin
  obtain ⟨x, rfl, hx⟩ := nat_of hin
  exact opr_u _ iw imm b c x 0 0 args u q bt ot ty.length ct _ w hb hn hc hx (by simp)
 ·exact opr_n op iw imm a b c 0 0 0 args u q bt ot ty.length ct _ w hb hn hc _ _ (kv_no ho hk) (by show _ = _; (have g1 : ¬ op = 18 := (by omega); have g2 : ¬ op = 19 := (by omega); have g3 : ¬ op = 20 := (by omega); have g4 : ¬ op = 22 := (by omega); have g5 : ¬ op = 23 := (by omega); have g6 : ¬ op = 24 := (by omega); have g7 : ¬ op = 25 := (by omega); have g8 : ¬ op = 27 := (by omega); simp [argB, ho, g1, g2, g3, g4, g5, g6, g7, g8])) as_strangeKind_binaryKind as_strangeKind_unaryKind as_strangeKind_selectKind as_strangeKind_loadKind as_strangeKind_storeKind as_strangeKind_printKind
end Go.Proofs.YtgojlnclpebdcaaGreatDoor
