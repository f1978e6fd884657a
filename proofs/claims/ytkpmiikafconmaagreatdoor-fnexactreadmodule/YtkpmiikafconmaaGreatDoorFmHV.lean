import Derived.Test.YtkpmiikafconmaaGreatDoorOwAV
import Derived.Deep.RegionHeld2
import Derived.Test.YtkpmiikafconmaaGreatDoorSzV
namespace Go.Proofs.YtkpmiikafconmaaGreatDoor
open Go.RowKit
set_option linter.unusedVariables false
structure FBox (d : FuncD) (u0 : Option Addr) (c0 : Nat) (u2 : Option Addr) (c2 : Nat) (w w1 : World) : Prop where
 a0 : w1.cell? ⟨w.heap.size, 0, none⟩ = some (.slice u0 d.params.length c0)
 a1 : w1.cell? ⟨w.heap.size, 1, none⟩ = some (.int .i64 d.ret)
 a2 : w1.cell? ⟨w.heap.size, 2, none⟩ = some (.slice u2 d.blocks.length c2)
 below : Below w.heap.size w w1
 size : w.heap.size + 1 ≤ w1.heap.size
theorem FBox.keep {d : FuncD} {u0 u2 : Option Addr} {c0 c2 : Nat} {w w1 w2 : World} (h : FBox d u0 c0 u2 c2 w w1) (k : Below w1.heap.size w1 w2) : FBox d u0 c0 u2 c2 w w2 := by
 have hz := h.size
 exact ⟨(cell_block (k.block _ (by omega))).trans h.a0, (cell_block (k.block _ (by omega))).trans h.a1, (cell_block (k.block _ (by omega))).trans h.a2, h.below.trans (k.mono (by omega)), Nat.le_trans hz k.size⟩
theorem FBox.start {d : FuncD} {u0 u2 : Option Addr} {c0 c2 : Nat} {w : World} {T : TypeId} : FBox d u0 c0 u2 c2 w (w.alloc (.cells #[.slice u0 d.params.length c0, .int .i64 d.ret, .slice u2 d.blocks.length c2] T)) := by
 have hb := heap_alloc_last w (.cells #[.slice u0 d.params.length c0, .int .i64 d.ret, .slice u2 d.blocks.length c2] T)
 exact ⟨(cell_of_heap hb).trans rfl, (cell_of_heap hb).trans rfl, (cell_of_heap hb).trans rfl, (Below.refl _ _).alloc (Nat.le_refl _) _, by simp⟩
theorem FBox.alloc {d : FuncD} {u0 u2 : Option Addr} {c0 c2 : Nat} {w w1 : World} (h : FBox d u0 c0 u2 c2 w w1) (o : Obj) : FBox d u0 c0 u2 c2 w (w1.alloc o) := h.keep ((Below.refl _ _).alloc (Nat.le_refl _) o)
theorem cell_far {w : World} {g o h p : Nat} {v : Value} {x : Option Value} (hn : h < g) (hx : w.cell? ⟨h, p, none⟩ = x) : (w.setCell ⟨g, o, none⟩ v).cell? ⟨h, p, none⟩ = x := (cell_block (Below.heap_setCell _ _ _ _ (by show h ≠ g; omega))).trans hx
theorem cell_new {w : World} {h p : Nat} {o : Obj} {x : Value} (hn : h < w.heap.size) (hx : w.cell? ⟨h, p, none⟩ = some x) : (w.alloc o).cell? ⟨h, p, none⟩ = some x := (cell_block (Below.heap_alloc w o h hn)).trans hx
theorem new_room {w w2 : World} {a b c : Int} {T : TypeId} (h : Below (w.drew.alloc (.cells #[.int .i64 a, .int .i64 b, .int .i64 c] T)).heap.size (w.drew.alloc (.cells #[.int .i64 a, .int .i64 b, .int .i64 c] T)) w2) :
  w2.heap[w.heap.size]? = some (.cells #[.int .i64 a, .int .i64 b, .int .i64 c] T (0, 0)) := by
 have h2 : (w.drew.alloc (.cells #[.int .i64 a, .int .i64 b, .int .i64 c] T)).heap.size = w.drew.heap.size + 1 := by simp
 have h3 : w.drew.heap.size = w.heap.size := rfl
 exact (h.block w.heap.size (by omega)).trans (heap_alloc_last w.drew _)
structure RBox (R : Nat) (a b c : Int) (w1 : World) : Prop where
 r0 : w1.cell? ⟨R, 0, none⟩ = some (.int .i64 a)
 r1 : w1.cell? ⟨R, 1, none⟩ = some (.int .i64 b)
 r2 : w1.cell? ⟨R, 2, none⟩ = some (.int .i64 c)
 lt : R < w1.heap.size
theorem RBox.keep {R : Nat} {a b c : Int} {w1 w2 : World} (h : RBox R a b c w1) (k : Below w1.heap.size w1 w2) : RBox R a b c w2 :=
 ⟨(cell_block (k.block _ h.lt)).trans h.r0, (cell_block (k.block _ h.lt)).trans h.r1, (cell_block (k.block _ h.lt)).trans h.r2, Nat.lt_of_lt_of_le h.lt k.size⟩
theorem RBox.of {R : Nat} {a b c : Int} {w1 : World} {T : TypeId} (h : w1.heap[R]? = some (.cells #[.int .i64 a, .int .i64 b, .int .i64 c] T (0, 0))) : RBox R a b c w1 :=
 ⟨(cell_of_heap h).trans rfl, (cell_of_heap h).trans rfl, (cell_of_heap h).trans rfl, (Array.getElem?_eq_some_iff.1 h).1⟩
set_option maxHeartbeats 4000000 in
set_option maxRecDepth 100000 in
theorem funcShI_ok (lo : Nat) (d : FuncD) (u0 : Option Addr) (c0 : Nat) (u2 : Option Addr) (c2 : Nat) (funcs : Int) (w : World) (hs : SmFunc d) (k0 : IntsAt w lo u0 d.params) (k2 : BlocksAt w lo u2 d.blocks) (hp : d.params.length ≤ 4) (ha : d.params.all widthB = true) (hr : widthB d.ret = true) (hb1 : 1 ≤ d.blocks.length) (hb2 : d.blocks.length ≤ 10) (hc : cntF d ≤ 60) :
  Calls Tryz.prog 38 #[.agg #[.slice u0 d.params.length c0, .int .i64 d.ret, .slice u2 d.blocks.length c2], .int .i64 funcs] w fun e w' => e = .returned (.bool (funcB funcs d)) ∧ Below w.heap.size w w' := by
 have HS : Hid (∀ p ∈ d.blocks, SmBlock p) := hs.2.2
 have HE : Hid (funcB funcs d = d.blocks.all (blockB (cntF d) d.blocks.length funcs)) := by show _ = _; simp [funcB, hp, ha, hr, hb1, hb2, hc]
 have K1 := (k0.keep (agree_alloc w (.cells #[.slice u0 d.params.length c0, .int .i64 d.ret, .slice u2 d.blocks.length c2] 55) _))
 have F0 := FBox.start (d := d) (u0 := u0) (u2 := u2) (c0 := c0) (c2 := c2) (w := w) (T := 55)
 have i1 : ¬ (4 : Int) < d.params.length := by omega
 have i2 : ¬ (d.blocks.length : Int) < 1 := by omega
 have i3 : ¬ (10 : Int) < d.blocks.length := by omega
 have i4 : ¬ (60 : Int) < cntF d := by omega
 have A := fun w k => allWidthsI lo u0 c0 d.params w k
 simp only [show (fun n => widthB n) = widthB from rfl] at A
 rw [ha] at A
 go_enter Tryz.func38, Tryz.ntmps38
 go_wp2_with (first | (go_at_call 70; refine (A _ K1).mono ?_; rintro e w' ⟨rfl, rfl⟩) | (go_at_call 71; refine (widthI _ _).mono ?_; rintro e w' ⟨rfl, rfl⟩))
 refine (countI_any lo d u0 c0 u2 c2 _ hs (k2.keep (agree_of_below F0.below lo))).mono ?_
 rintro e w1 ⟨rfl, hb1'⟩
 have F1 := F0.keep hb1'
 have b0 := F1.a0
 have b1 := F1.a1
 have b2 := F1.a2
 clear hb1' F0 A K1
 go_wp2_with fail
 have z0 : w.heap.size < w1.heap.size := by have := F1.size; omega
 have F1d := F1.keep (Below.refl w1.heap.size w1).drew
 have b0d := F1d.a0
 have b1d := F1d.a1
 have b2d := F1d.a2
 have F1n := F1d.alloc (.cells #[.int .i64 0, .int .i64 0, .int .i64 0] 117)
 have b0n := F1n.a0
 have b1n := F1n.a1
 have b2n := F1n.a2
 have KB := k2.keep (agree_of_below F1d.below lo)
 have KN := k2.keep (agree_of_below F1n.below lo)
 go_region_held2 (fun w' => w'.cell? ⟨w.heap.size, 0, none⟩ = some (.slice u0 d.params.length c0) ∧ w'.cell? ⟨w.heap.size, 1, none⟩ = some (.int .i64 d.ret) ∧ w'.cell? ⟨w.heap.size, 2, none⟩ = some (.slice u2 d.blocks.length c2)) (first | with_reducible exact ⟨b0d, b1d, b2d⟩ | with_reducible exact ⟨b0n, b1n, b2n⟩ | with_reducible exact ⟨e0, e1, e2⟩ | with_reducible exact ⟨cell_new z2 e0, cell_new z2 e1, cell_new z2 e2⟩ | with_reducible exact ⟨cell_far z0 (cell_far z0 (cell_far z0 e0)), cell_far z0 (cell_far z0 (cell_far z0 e1)), cell_far z0 (cell_far z0 (cell_far z0 e2))⟩ | go_keep) (first | (go_at_call 72; refine (countI_any lo d u0 c0 u2 c2 _ hs KN).mono ?_; rintro e w2 ⟨rfl, hb2'⟩; have F2 := F1n.keep hb2'; have e0 := F2.a0; have e1 := F2.a1; have e2 := F2.a2; have hr2 := new_room hb2'; have r0 := cell_of_heap (o := 0) hr2; have r1 := cell_of_heap (o := 1) hr2; have r2 := cell_of_heap (o := 2) hr2; have q0 := froz_of_heap (o := 0) hr2; have q1 := froz_of_heap (o := 1) hr2; have q2 := froz_of_heap (o := 2) hr2) | (go_at_call 72; refine (countI_any lo d u0 c0 u2 c2 _ hs KB).mono ?_; rintro e w2 ⟨rfl, hb2'⟩; have F2 := F1d.keep hb2'; have e0 := F2.a0; have e1 := F2.a1; have e2 := F2.a2; have z2 : w.heap.size < w2.heap.size := by have := F2.size; omega))
 ·have RB : RBox w2.heap.size (cntF d) d.blocks.length funcs (w2.alloc (.cells #[.int .i64 (cntF d), .int .i64 d.blocks.length, .int .i64 funcs] 117)) := RBox.of (heap_alloc_last _ _)
  have FB := F2.alloc (.cells #[.int .i64 (cntF d), .int .i64 d.blocks.length, .int .i64 funcs] 117)
  clear e0 e1 e2 z2 hb2' F2
  clear b0 b1 b2 b0d b1d b2d b0n b1n b2n KB KN F1 F1d F1n z0
  have z0 := FB.a0
  have z1 := FB.a1
  have z2 := FB.a2
  go_wp2_with fail
  clear z0 z1 z2
  go_loopw [49] (fun i wr => ∃ j : Nat, j ≤ d.blocks.length ∧ i = .int .i64 j ∧ Hid (∀ k, k < j → blockB (cntF d) d.blocks.length funcs (d.blocks.getD k block0) = true) ∧ RBox w2.heap.size (cntF d) d.blocks.length funcs wr ∧ Below w.heap.size w wr) (fun i _ => d.blocks.length - (intOf i).toNat)
  case atStart => exact ⟨0, by omega, rfl, fun k hk => by omega, RB, FB.below⟩
  case round =>
   obtain ⟨j, hj, rfl, HD, hR, hW⟩ := hrel
   obtain ⟨wp, hwp⟩ : ∃ wp, wp = wr := ⟨_, rfl⟩
   subst hwp
   clear RB FB
   by_cases hjl : j < d.blocks.length
   ·rcases k2.2 with hn | ⟨bb, off, rfl, hlo, hbb, hcell⟩
    ·simp [hn] at hjl
    obtain ⟨⟨p0, q0, h0, m0⟩, ⟨p1, q1, h1, m1⟩, h2, h3, h4, h5⟩ := hcell j hjl
    have hsm := HS.out _ (getD_mem block0 d.blocks j hjl)
    generalize hx : d.blocks.getD j block0 = x at h0 h1 h2 h3 h4 h5 m0 m1 hsm
    have HX : Hid (d.blocks.getD j block0 = x) := hx
    have f0 : wp.cell? ⟨bb, off + j * 6, none⟩ = some (.slice p0 x.phis.length q0) := (cell_block (hW.block bb hbb)).trans h0
    have f1 : wp.cell? ⟨bb, off + j * 6 + 1, none⟩ = some (.slice p1 x.insts.length q1) := (cell_block (hW.block bb hbb)).trans h1
    have f2 : wp.cell? ⟨bb, off + j * 6 + 2, none⟩ = some (.int .i64 x.term.kind) := (cell_block (hW.block bb hbb)).trans h2
    have f3 : wp.cell? ⟨bb, off + j * 6 + 3, none⟩ = some (.int .i64 x.term.a) := (cell_block (hW.block bb hbb)).trans h3
    have f4 : wp.cell? ⟨bb, off + j * 6 + 4, none⟩ = some (.int .i64 x.term.x) := (cell_block (hW.block bb hbb)).trans h4
    have f5 : wp.cell? ⟨bb, off + j * 6 + 5, none⟩ = some (.int .i64 x.term.y) := (cell_block (hW.block bb hbb)).trans h5
    have M0 := (m0.keep (agree_of_below hW lo)).keep (agree_alloc wp (.cells #[.slice p0 x.phis.length q0, .slice p1 x.insts.length q1, .int .i64 x.term.kind, .int .i64 x.term.a, .int .i64 x.term.x, .int .i64 x.term.y] 74) _)
    have M1 := (m1.keep (agree_of_below hW lo)).keep (agree_alloc wp (.cells #[.slice p0 x.phis.length q0, .slice p1 x.insts.length q1, .int .i64 x.term.kind, .int .i64 x.term.a, .int .i64 x.term.x, .int .i64 x.term.y] 74) _)
    have RA := hR.keep ((Below.refl _ _).alloc (Nat.le_refl _) (.cells #[.slice p0 x.phis.length q0, .slice p1 x.insts.length q1, .int .i64 x.term.kind, .int .i64 x.term.a, .int .i64 x.term.x, .int .i64 x.term.y] 74))
    have WA : Below w.heap.size w (wp.alloc (.cells #[.slice p0 x.phis.length q0, .slice p1 x.insts.length q1, .int .i64 x.term.kind, .int .i64 x.term.a, .int .i64 x.term.x, .int .i64 x.term.y] 74)) := hW.alloc hW.size _
    have B : ∀ B, blockB (cntF d) d.blocks.length funcs x = B → Calls Tryz.prog 73 #[.agg #[.slice p0 x.phis.length q0, .slice p1 x.insts.length q1, .int .i64 x.term.kind, .int .i64 x.term.a, .int .i64 x.term.x, .int .i64 x.term.y], .agg #[.int .i64 (cntF d), .int .i64 d.blocks.length, .int .i64 funcs]] (wp.alloc (.cells #[.slice p0 x.phis.length q0, .slice p1 x.insts.length q1, .int .i64 x.term.kind, .int .i64 x.term.a, .int .i64 x.term.x, .int .i64 x.term.y] 74)) fun e w' => e = .returned (.bool B) ∧ Below (wp.alloc (.cells #[.slice p0 x.phis.length q0, .slice p1 x.insts.length q1, .int .i64 x.term.kind, .int .i64 x.term.a, .int .i64 x.term.x, .int .i64 x.term.y] 74)).heap.size (wp.alloc (.cells #[.slice p0 x.phis.length q0, .slice p1 x.insts.length q1, .int .i64 x.term.kind, .int .i64 x.term.a, .int .i64 x.term.x, .int .i64 x.term.y] 74)) w' := fun B h => by
     rw [← h]; exact blockShI lo x p0 q0 p1 q1 (cntF d) d.blocks.length funcs _ hsm M0 M1
    have NO : Hid (blockB (cntF d) d.blocks.length funcs x = false → false = funcB funcs d) := fun h => by
     rw [HE.out]; exact (all_no block0 d.blocks j hjl (by rw [HX.out, h]; decide)).symm
    have YES : Hid (blockB (cntF d) d.blocks.length funcs x = true → ∀ k, k < j + 1 → blockB (cntF d) d.blocks.length funcs (d.blocks.getD k block0) = true) := fun h k hk => by
     by_cases e : k = j
     ·subst e; rw [HX.out]; exact h
     ·exact HD.out k (by omega)
    have t0 := RA.r0
    have t1 := RA.r1
    have t2 := RA.r2
    have HRA : Hid (RBox w2.heap.size (cntF d) d.blocks.length funcs (wp.alloc (.cells #[.slice p0 x.phis.length q0, .slice p1 x.insts.length q1, .int .i64 x.term.kind, .int .i64 x.term.a, .int .i64 x.term.x, .int .i64 x.term.y] 74))) := RA
    have HWA : Hid (Below w.heap.size w (wp.alloc (.cells #[.slice p0 x.phis.length q0, .slice p1 x.insts.length q1, .int .i64 x.term.kind, .int .i64 x.term.a, .int .i64 x.term.x, .int .i64 x.term.y] 74))) := WA
    clear hcell h0 h1 h2 h3 h4 h5 m0 m1 hsm hx hR hW M0 M1 RA WA HD
    cases hb : blockB (cntF d) d.blocks.length funcs x with
    | false =>
     have HF : Hid (false = funcB funcs d) := NO.out hb
     have BB := B _ hb
     clear B
     go_wp2_with (go_at_call 73; refine BB.mono ?_; rintro e w3 ⟨rfl, hb3⟩)
     go_ret
     exact ⟨ret_bool HF.out, HWA.out.trans (hb3.mono HWA.out.size)⟩
    | true =>
     have HF : Hid (blockB (cntF d) d.blocks.length funcs x = true) := hb
     have BB := B _ hb
     clear B
     go_wp2_with (go_at_call 73; refine BB.mono ?_; rintro e w3 ⟨rfl, hb3⟩)
     go_roundw
     case rel => exact ⟨j + 1, by omega, by go_num, YES.out HF.out, HRA.out.keep hb3, HWA.out.trans (hb3.mono HWA.out.size)⟩
     case measure => simp [intOf]; omega
   ·have HF : Hid (true = funcB funcs d) := by
     show _ = _
     rw [HE.out]; exact (all_yes block0 d.blocks (fun k hk => HD.out k (by omega))).symm
    go_wp2_with fail
    go_ret
    exact ⟨ret_bool HF.out, hW⟩
 ·have RB : RBox w1.heap.size (cntF d) d.blocks.length funcs (((w2.setCell ⟨w1.heap.size, 0, none⟩ (.int .i64 (cntF d))).setCell ⟨w1.heap.size, 1, none⟩ (.int .i64 d.blocks.length)).setCell ⟨w1.heap.size, 2, none⟩ (.int .i64 funcs)) := RBox.of (heap_set (heap_set (heap_set hr2)))
  have FB : FBox d u0 c0 u2 c2 w (((w2.setCell ⟨w1.heap.size, 0, none⟩ (.int .i64 (cntF d))).setCell ⟨w1.heap.size, 1, none⟩ (.int .i64 d.blocks.length)).setCell ⟨w1.heap.size, 2, none⟩ (.int .i64 funcs)) :=
   ⟨cell_far z0 (cell_far z0 (cell_far z0 e0)), cell_far z0 (cell_far z0 (cell_far z0 e1)), cell_far z0 (cell_far z0 (cell_far z0 e2)), ((F2.below.setCell (by dsimp only; omega) _).setCell (by dsimp only; omega) _).setCell (by dsimp only; omega) _, by have := F2.size; simp [World.setCell]; omega⟩
  generalize ((w2.setCell ⟨w1.heap.size, 0, none⟩ (.int .i64 (cntF d))).setCell ⟨w1.heap.size, 1, none⟩ (.int .i64 d.blocks.length)).setCell ⟨w1.heap.size, 2, none⟩ (.int .i64 funcs) = wz at RB FB ⊢
  clear e0 e1 e2 hb2' F2 hr2 r0 r1 r2 q0 q1 q2
  clear b0 b1 b2 b0d b1d b2d b0n b1n b2n KB KN F1 F1d F1n z0
  have z0 := FB.a0
  have z1 := FB.a1
  have z2 := FB.a2
  go_wp2_with fail
  clear z0 z1 z2
  go_loopw [49] (fun i wr => ∃ j : Nat, j ≤ d.blocks.length ∧ i = .int .i64 j ∧ Hid (∀ k, k < j → blockB (cntF d) d.blocks.length funcs (d.blocks.getD k block0) = true) ∧ RBox w1.heap.size (cntF d) d.blocks.length funcs wr ∧ Below w.heap.size w wr) (fun i _ => d.blocks.length - (intOf i).toNat)
  case atStart => exact ⟨0, by omega, rfl, fun k hk => by omega, RB, FB.below⟩
  case round =>
   obtain ⟨j, hj, rfl, HD, hR, hW⟩ := hrel
   obtain ⟨wp, hwp⟩ : ∃ wp, wp = wr := ⟨_, rfl⟩
   subst hwp
   clear RB FB
   by_cases hjl : j < d.blocks.length
   ·rcases k2.2 with hn | ⟨bb, off, rfl, hlo, hbb, hcell⟩
    ·simp [hn] at hjl
    obtain ⟨⟨p0, q0, h0, m0⟩, ⟨p1, q1, h1, m1⟩, h2, h3, h4, h5⟩ := hcell j hjl
    have hsm := HS.out _ (getD_mem block0 d.blocks j hjl)
    generalize hx : d.blocks.getD j block0 = x at h0 h1 h2 h3 h4 h5 m0 m1 hsm
    have HX : Hid (d.blocks.getD j block0 = x) := hx
    have f0 : wp.cell? ⟨bb, off + j * 6, none⟩ = some (.slice p0 x.phis.length q0) := (cell_block (hW.block bb hbb)).trans h0
    have f1 : wp.cell? ⟨bb, off + j * 6 + 1, none⟩ = some (.slice p1 x.insts.length q1) := (cell_block (hW.block bb hbb)).trans h1
    have f2 : wp.cell? ⟨bb, off + j * 6 + 2, none⟩ = some (.int .i64 x.term.kind) := (cell_block (hW.block bb hbb)).trans h2
    have f3 : wp.cell? ⟨bb, off + j * 6 + 3, none⟩ = some (.int .i64 x.term.a) := (cell_block (hW.block bb hbb)).trans h3
    have f4 : wp.cell? ⟨bb, off + j * 6 + 4, none⟩ = some (.int .i64 x.term.x) := (cell_block (hW.block bb hbb)).trans h4
    have f5 : wp.cell? ⟨bb, off + j * 6 + 5, none⟩ = some (.int .i64 x.term.y) := (cell_block (hW.block bb hbb)).trans h5
    have M0 := (m0.keep (agree_of_below hW lo)).keep (agree_alloc wp (.cells #[.slice p0 x.phis.length q0, .slice p1 x.insts.length q1, .int .i64 x.term.kind, .int .i64 x.term.a, .int .i64 x.term.x, .int .i64 x.term.y] 74) _)
    have M1 := (m1.keep (agree_of_below hW lo)).keep (agree_alloc wp (.cells #[.slice p0 x.phis.length q0, .slice p1 x.insts.length q1, .int .i64 x.term.kind, .int .i64 x.term.a, .int .i64 x.term.x, .int .i64 x.term.y] 74) _)
    have RA := hR.keep ((Below.refl _ _).alloc (Nat.le_refl _) (.cells #[.slice p0 x.phis.length q0, .slice p1 x.insts.length q1, .int .i64 x.term.kind, .int .i64 x.term.a, .int .i64 x.term.x, .int .i64 x.term.y] 74))
    have WA : Below w.heap.size w (wp.alloc (.cells #[.slice p0 x.phis.length q0, .slice p1 x.insts.length q1, .int .i64 x.term.kind, .int .i64 x.term.a, .int .i64 x.term.x, .int .i64 x.term.y] 74)) := hW.alloc hW.size _
    have B : ∀ B, blockB (cntF d) d.blocks.length funcs x = B → Calls Tryz.prog 73 #[.agg #[.slice p0 x.phis.length q0, .slice p1 x.insts.length q1, .int .i64 x.term.kind, .int .i64 x.term.a, .int .i64 x.term.x, .int .i64 x.term.y], .agg #[.int .i64 (cntF d), .int .i64 d.blocks.length, .int .i64 funcs]] (wp.alloc (.cells #[.slice p0 x.phis.length q0, .slice p1 x.insts.length q1, .int .i64 x.term.kind, .int .i64 x.term.a, .int .i64 x.term.x, .int .i64 x.term.y] 74)) fun e w' => e = .returned (.bool B) ∧ Below (wp.alloc (.cells #[.slice p0 x.phis.length q0, .slice p1 x.insts.length q1, .int .i64 x.term.kind, .int .i64 x.term.a, .int .i64 x.term.x, .int .i64 x.term.y] 74)).heap.size (wp.alloc (.cells #[.slice p0 x.phis.length q0, .slice p1 x.insts.length q1, .int .i64 x.term.kind, .int .i64 x.term.a, .int .i64 x.term.x, .int .i64 x.term.y] 74)) w' := fun B h => by
     rw [← h]; exact blockShI lo x p0 q0 p1 q1 (cntF d) d.blocks.length funcs _ hsm M0 M1
    have NO : Hid (blockB (cntF d) d.blocks.length funcs x = false → false = funcB funcs d) := fun h => by
     rw [HE.out]; exact (all_no block0 d.blocks j hjl (by rw [HX.out, h]; decide)).symm
    have YES : Hid (blockB (cntF d) d.blocks.length funcs x = true → ∀ k, k < j + 1 → blockB (cntF d) d.blocks.length funcs (d.blocks.getD k block0) = true) := fun h k hk => by
     by_cases e : k = j
     ·subst e; rw [HX.out]; exact h
     ·exact HD.out k (by omega)
    have t0 := RA.r0
    have t1 := RA.r1
    have t2 := RA.r2
    have HRA : Hid (RBox w1.heap.size (cntF d) d.blocks.length funcs (wp.alloc (.cells #[.slice p0 x.phis.length q0, .slice p1 x.insts.length q1, .int .i64 x.term.kind, .int .i64 x.term.a, .int .i64 x.term.x, .int .i64 x.term.y] 74))) := RA
    have HWA : Hid (Below w.heap.size w (wp.alloc (.cells #[.slice p0 x.phis.length q0, .slice p1 x.insts.length q1, .int .i64 x.term.kind, .int .i64 x.term.a, .int .i64 x.term.x, .int .i64 x.term.y] 74))) := WA
    clear hcell h0 h1 h2 h3 h4 h5 m0 m1 hsm hx hR hW M0 M1 RA WA HD
    cases hb : blockB (cntF d) d.blocks.length funcs x with
    | false =>
     have HF : Hid (false = funcB funcs d) := NO.out hb
     have BB := B _ hb
     clear B
     go_wp2_with (go_at_call 73; refine BB.mono ?_; rintro e w3 ⟨rfl, hb3⟩)
     go_ret
     exact ⟨ret_bool HF.out, HWA.out.trans (hb3.mono HWA.out.size)⟩
    | true =>
     have HF : Hid (blockB (cntF d) d.blocks.length funcs x = true) := hb
     have BB := B _ hb
     clear B
     go_wp2_with (go_at_call 73; refine BB.mono ?_; rintro e w3 ⟨rfl, hb3⟩)
     go_roundw
     case rel => exact ⟨j + 1, by omega, by go_num, YES.out HF.out, HRA.out.keep hb3, HWA.out.trans (hb3.mono HWA.out.size)⟩
     case measure => simp [intOf]; omega
   ·have HF : Hid (true = funcB funcs d) := by
     show _ = _
     rw [HE.out]; exact (all_yes block0 d.blocks (fun k hk => HD.out k (by omega))).symm
    go_wp2_with fail
    go_ret
    exact ⟨ret_bool HF.out, hW⟩
end Go.Proofs.YtkpmiikafconmaaGreatDoor
namespace Go.Proofs.YtkpmiikafconmaaGreatDoor
open Go.RowKit
def SmMod (l : List FuncD) : Prop := l.length ≤ 1048576 ∧ ∀ d ∈ l, SmFunc d
end Go.Proofs.YtkpmiikafconmaaGreatDoor
