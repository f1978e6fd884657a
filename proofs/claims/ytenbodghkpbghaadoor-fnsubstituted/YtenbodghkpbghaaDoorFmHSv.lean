import Derived.Test.YtenbodghkpbghaaDoorFmCSv
import Derived.Deep.RegionHeld2
import Derived.Test.YtenbodghkpbghaaDoorOps3Sv
import Derived.Laws.CopyOwn
namespace Go.Proofs.YtenbodghkpbghaaDoor
open Go.RowKit
set_option linter.unusedVariables false
structure FBox (d : FuncD) (u0 : Option Addr) (c0 : Nat) (u2 : Option Addr) (c2 : Nat) (w w1 : World) : Prop where
 a0 : w1.cell? ⟨w.heap.size, 0, none⟩ = some (.slice u0 d.params.length c0)
 a1 : w1.cell? ⟨w.heap.size, 1, none⟩ = some (.int .i64 d.ret)
 a2 : w1.cell? ⟨w.heap.size, 2, none⟩ = some (.slice u2 d.blocks.length c2)
 below : Below w.heap.size w w1
 size : w.heap.size + 1 ≤ w1.heap.size
theorem FBox.keep {d : FuncD} {u0 u2 : Option Addr} {c0 c2 : Nat} {w w1 w2 : World} (h : FBox d u0 c0 u2 c2 w w1) (k : Below w1.heap.size w1 w2) : FBox d u0 c0 u2 c2 w w2 := by
 have hz := h.size
 exact ⟨(cell_block (k.block _ (by omega))).trans h.a0, (cell_block (k.block _ (by omega))).trans h.a1, (cell_block (k.block _ (by omega))).trans h.a2, h.below.trans (k.mono (by omega)), Nat.le_trans hz k.size⟩
theorem FBox.start {d : FuncD} {u0 u2 : Option Addr} {c0 c2 : Nat} {w : World} {T : TypeId} : FBox d u0 c0 u2 c2 w (w.alloc (.cells #[.slice u0 d.params.length c0, .int .i64 d.ret, .slice u2 d.blocks.length c2] T)) := by
 have hb := heap_alloc_last w (.cells #[.slice u0 d.params.length c0, .int .i64 d.ret, .slice u2 d.blocks.length c2] T)
 exact ⟨(cell_of_heap hb).trans rfl, (cell_of_heap hb).trans rfl, (cell_of_heap hb).trans rfl, (Below.refl _ _).alloc (Nat.le_refl _) _, by simp⟩
theorem FBox.alloc {d : FuncD} {u0 u2 : Option Addr} {c0 c2 : Nat} {w w1 : World} (h : FBox d u0 c0 u2 c2 w w1) (o : Obj) : FBox d u0 c0 u2 c2 w (w1.alloc o) := h.keep ((Below.refl _ _).alloc (Nat.le_refl _) o)
theorem cell_far {w : World} {g o h p : Nat} {v : Value} {x : Option Value} (hn : h < g) (hx : w.cell? ⟨h, p, none⟩ = x) : (w.setCell ⟨g, o, none⟩ v).cell? ⟨h, p, none⟩ = x := (cell_block (Below.heap_setCell _ _ _ _ (by show h ≠ g; omega))).trans hx
theorem cell_new {w : World} {h p : Nat} {o : Obj} {x : Value} (hn : h < w.heap.size) (hx : w.cell? ⟨h, p, none⟩ = some x) : (w.alloc o).cell? ⟨h, p, none⟩ = some x := (cell_block (Below.heap_alloc w o h hn)).trans hx
theorem new_room {w w2 : World} {a b c : Int} {T : TypeId} (h : Below (w.drew.alloc (.cells #[.int .i64 a, .int .i64 b, .int .i64 c] T)).heap.size (w.drew.alloc (.cells #[.int .i64 a, .int .i64 b, .int .i64 c] T)) w2) :
  w2.heap[w.heap.size]? = some (.cells #[.int .i64 a, .int .i64 b, .int .i64 c] T (0, 0)) := by
 have h2 : (w.drew.alloc (.cells #[.int .i64 a, .int .i64 b, .int .i64 c] T)).heap.size = w.drew.heap.size + 1 := by simp
 have h3 : w.drew.heap.size = w.heap.size := rfl
 exact (h.block w.heap.size (by omega)).trans (heap_alloc_last w.drew _)
structure RBox (R : Nat) (a b c : Int) (w1 : World) : Prop where
 r0 : w1.cell? ⟨R, 0, none⟩ = some (.int .i64 a)
 r1 : w1.cell? ⟨R, 1, none⟩ = some (.int .i64 b)
 r2 : w1.cell? ⟨R, 2, none⟩ = some (.int .i64 c)
 lt : R < w1.heap.size
theorem RBox.keep {R : Nat} {a b c : Int} {w1 w2 : World} (h : RBox R a b c w1) (k : Below w1.heap.size w1 w2) : RBox R a b c w2 :=
 ⟨(cell_block (k.block _ h.lt)).trans h.r0, (cell_block (k.block _ h.lt)).trans h.r1, (cell_block (k.block _ h.lt)).trans h.r2, Nat.lt_of_lt_of_le h.lt k.size⟩
theorem RBox.of {R : Nat} {a b c : Int} {w1 : World} {T : TypeId} (h : w1.heap[R]? = some (.cells #[.int .i64 a, .int .i64 b, .int .i64 c] T (0, 0))) : RBox R a b c w1 :=
 ⟨(cell_of_heap h).trans rfl, (cell_of_heap h).trans rfl, (cell_of_heap h).trans rfl, (Array.getElem?_eq_some_iff.1 h).1⟩
set_option maxHeartbeats 4000000 in
set_option maxRecDepth 100000 in
theorem funcShI_ok (lo : Nat) (d : FuncD) (u0 : Option Addr) (c0 : Nat) (u2 : Option Addr) (c2 : Nat) (funcs : Int) (w : World) (hs : SmFunc d) (k0 : IntsAt w lo u0 d.params) (k2 : BlocksAt w lo u2 d.blocks) (hp : d.params.length ≤ 4) (ha : d.params.all widthB = true) (hr : widthB d.ret = true) (hb1 : 1 ≤ d.blocks.length) (hb2 : d.blocks.length ≤ 10) (hc : cntF d ≤ 60) :
  Calls Tryd.prog 45 #[.agg #[.slice u0 d.params.length c0, .int .i64 d.ret, .slice u2 d.blocks.length c2], .int .i64 funcs] w fun e w' => e = .returned (.bool (funcB funcs d)) ∧ Below w.heap.size w w' := by
 have HS : Hid (∀ p ∈ d.blocks, SmBlock p) := hs.2.2
 have HE : Hid (funcB funcs d = d.blocks.all (blockB (cntF d) d.blocks.length funcs)) := by show _ = _; simp [funcB, hp, ha, hr, hb1, hb2, hc]
 have K1 := (k0.keep (agree_alloc w (.cells #[.slice u0 d.params.length c0, .int .i64 d.ret, .slice u2 d.blocks.length c2] 27) _))
 have F0 := FBox.start (d := d) (u0 := u0) (u2 := u2) (c0 := c0) (c2 := c2) (w := w) (T := 27)
 have i1 : ¬ (4 : Int) < d.params.length := by omega
 have i2 : ¬ (d.blocks.length : Int) < 1 := by omega
 have i3 : ¬ (10 : Int) < d.blocks.length := by omega
 have i4 : ¬ (60 : Int) < cntF d := by omega
 have A := fun w k => allWidthsI lo u0 c0 d.params w k
 simp only [show (fun n => widthB n) = widthB from rfl] at A
 rw [ha] at A
 go_enter Tryd.func45, Tryd.ntmps45
 go_wp2_with (first | (go_at_call 71; refine (A _ K1).mono ?_; rintro e w' ⟨rfl, rfl⟩) | (go_at_call 72; refine (widthI _ _).mono ?_; rintro e w' ⟨rfl, rfl⟩))
 refine (countI_any lo d u0 c0 u2 c2 _ hs (k2.keep (agree_of_below F0.below lo))).mono ?_
 rintro e w1 ⟨rfl, hb1'⟩
 have F1 := F0.keep hb1'
 have b0 := F1.a0
 have b1 := F1.a1
 have b2 := F1.a2
 clear hb1' F0 A K1
 go_wp2_with fail
 have z0 : w.heap.size < w1.heap.size := by have := F1.size; omega
 have F1d := F1.keep (Below.refl w1.heap.size w1).drew
 have b0d := F1d.a0
 have b1d := F1d.a1
 have b2d := F1d.a2
 have F1n := F1d.alloc (.cells #[.int .i64 0, .int .i64 0, .int .i64 0] 131)
 have b0n := F1n.a0
 have b1n := F1n.a1
 have b2n := F1n.a2
 have KB := k2.keep (agree_of_below F1d.below lo)
 have KN := k2.keep (agree_of_below F1n.below lo)
 go_region_held2 (fun w' => w'.cell? ⟨w.heap.size, 0, none⟩ = some (.slice u0 d.params.length c0) ∧ w'.cell? ⟨w.heap.size, 1, none⟩ = some (.int .i64 d.ret) ∧ w'.cell? ⟨w.heap.size, 2, none⟩ = some (.slice u2 d.blocks.length c2)) (first | with_reducible exact ⟨b0d, b1d, b2d⟩ | with_reducible exact ⟨b0n, b1n, b2n⟩ | with_reducible exact ⟨e0, e1, e2⟩ | with_reducible exact ⟨cell_new z2 e0, cell_new z2 e1, cell_new z2 e2⟩ | with_reducible exact ⟨cell_far z0 (cell_far z0 (cell_far z0 e0)), cell_far z0 (cell_far z0 (cell_far z0 e1)), cell_far z0 (cell_far z0 (cell_far z0 e2))⟩ | go_keep) (first | (go_at_call 10; refine (countI_any lo d u0 c0 u2 c2 _ hs KN).mono ?_; rintro e w2 ⟨rfl, hb2'⟩; have F2 := F1n.keep hb2'; have e0 := F2.a0; have e1 := F2.a1; have e2 := F2.a2; have hr2 := new_room hb2'; have r0 := cell_of_heap (o := 0) hr2; have r1 := cell_of_heap (o := 1) hr2; have r2 := cell_of_heap (o := 2) hr2; have q0 := froz_of_heap (o := 0) hr2; have q1 := froz_of_heap (o := 1) hr2; have q2 := froz_of_heap (o := 2) hr2) | (go_at_call 10; refine (countI_any lo d u0 c0 u2 c2 _ hs KB).mono ?_; rintro e w2 ⟨rfl, hb2'⟩; have F2 := F1d.keep hb2'; have e0 := F2.a0; have e1 := F2.a1; have e2 := F2.a2; have z2 : w.heap.size < w2.heap.size := by have := F2.size; omega))
 ·have RB : RBox w2.heap.size (cntF d) d.blocks.length funcs (w2.alloc (.cells #[.int .i64 (cntF d), .int .i64 d.blocks.length, .int .i64 funcs] 131)) := RBox.of (heap_alloc_last _ _)
  have FB := F2.alloc (.cells #[.int .i64 (cntF d), .int .i64 d.blocks.length, .int .i64 funcs] 131)
  clear e0 e1 e2 z2 hb2' F2
  clear b0 b1 b2 b0d b1d b2d b0n b1n b2n KB KN F1 F1d F1n z0
  have z0 := FB.a0
  have z1 := FB.a1
  have z2 := FB.a2
  go_wp2_with fail
  clear z0 z1 z2
  go_loopw [49] (fun i wr => ∃ j : Nat, j ≤ d.blocks.length ∧ i = .int .i64 j ∧ Hid (∀ k, k < j → blockB (cntF d) d.blocks.length funcs (d.blocks.getD k block0) = true) ∧ RBox w2.heap.size (cntF d) d.blocks.length funcs wr ∧ Below w.heap.size w wr) (fun i _ => d.blocks.length - (intOf i).toNat)
  case atStart => exact ⟨0, by omega, rfl, fun k hk => by omega, RB, FB.below⟩
  case round =>
   obtain ⟨j, hj, rfl, HD, hR, hW⟩ := hrel
   obtain ⟨wp, hwp⟩ : ∃ wp, wp = wr := ⟨_, rfl⟩
   subst hwp
   clear RB FB
   by_cases hjl : j < d.blocks.length
   ·rcases k2.2 with hn | ⟨bb, off, rfl, hlo, hbb, hcell⟩
    ·simp [hn] at hjl
    obtain ⟨⟨p0, q0, h0, m0⟩, ⟨p1, q1, h1, m1⟩, h2, h3, h4, h5⟩ := hcell j hjl
    have hsm := HS.out _ (getD_mem block0 d.blocks j hjl)
    generalize hx : d.blocks.getD j block0 = x at h0 h1 h2 h3 h4 h5 m0 m1 hsm
    have HX : Hid (d.blocks.getD j block0 = x) := hx
    have f0 : wp.cell? ⟨bb, off + j * 6, none⟩ = some (.slice p0 x.phis.length q0) := (cell_block (hW.block bb hbb)).trans h0
    have f1 : wp.cell? ⟨bb, off + j * 6 + 1, none⟩ = some (.slice p1 x.insts.length q1) := (cell_block (hW.block bb hbb)).trans h1
    have f2 : wp.cell? ⟨bb, off + j * 6 + 2, none⟩ = some (.int .i64 x.term.kind) := (cell_block (hW.block bb hbb)).trans h2
    have f3 : wp.cell? ⟨bb, off + j * 6 + 3, none⟩ = some (.int .i64 x.term.a) := (cell_block (hW.block bb hbb)).trans h3
    have f4 : wp.cell? ⟨bb, off + j * 6 + 4, none⟩ = some (.int .i64 x.term.x) := (cell_block (hW.block bb hbb)).trans h4
    have f5 : wp.cell? ⟨bb, off + j * 6 + 5, none⟩ = some (.int .i64 x.term.y) := (cell_block (hW.block bb hbb)).trans h5
    have M0 := (m0.keep (agree_of_below hW lo)).keep (agree_alloc wp (.cells #[.slice p0 x.phis.length q0, .slice p1 x.insts.length q1, .int .i64 x.term.kind, .int .i64 x.term.a, .int .i64 x.term.x, .int .i64 x.term.y] 41) _)
    have M1 := (m1.keep (agree_of_below hW lo)).keep (agree_alloc wp (.cells #[.slice p0 x.phis.length q0, .slice p1 x.insts.length q1, .int .i64 x.term.kind, .int .i64 x.term.a, .int .i64 x.term.x, .int .i64 x.term.y] 41) _)
    have RA := hR.keep ((Below.refl _ _).alloc (Nat.le_refl _) (.cells #[.slice p0 x.phis.length q0, .slice p1 x.insts.length q1, .int .i64 x.term.kind, .int .i64 x.term.a, .int .i64 x.term.x, .int .i64 x.term.y] 41))
    have WA : Below w.heap.size w (wp.alloc (.cells #[.slice p0 x.phis.length q0, .slice p1 x.insts.length q1, .int .i64 x.term.kind, .int .i64 x.term.a, .int .i64 x.term.x, .int .i64 x.term.y] 41)) := hW.alloc hW.size _
    have B : ∀ B, blockB (cntF d) d.blocks.length funcs x = B → Calls Tryd.prog 73 #[.agg #[.slice p0 x.phis.length q0, .slice p1 x.insts.length q1, .int .i64 x.term.kind, .int .i64 x.term.a, .int .i64 x.term.x, .int .i64 x.term.y], .agg #[.int .i64 (cntF d), .int .i64 d.blocks.length, .int .i64 funcs]] (wp.alloc (.cells #[.slice p0 x.phis.length q0, .slice p1 x.insts.length q1, .int .i64 x.term.kind, .int .i64 x.term.a, .int .i64 x.term.x, .int .i64 x.term.y] 41)) fun e w' => e = .returned (.bool B) ∧ Below (wp.alloc (.cells #[.slice p0 x.phis.length q0, .slice p1 x.insts.length q1, .int .i64 x.term.kind, .int .i64 x.term.a, .int .i64 x.term.x, .int .i64 x.term.y] 41)).heap.size (wp.alloc (.cells #[.slice p0 x.phis.length q0, .slice p1 x.insts.length q1, .int .i64 x.term.kind, .int .i64 x.term.a, .int .i64 x.term.x, .int .i64 x.term.y] 41)) w' := fun B h => by
     rw [← h]; exact blockShI lo x p0 q0 p1 q1 (cntF d) d.blocks.length funcs _ hsm M0 M1
    have NO : Hid (blockB (cntF d) d.blocks.length funcs x = false → false = funcB funcs d) := fun h => by
     rw [HE.out]; exact (all_no block0 d.blocks j hjl (by rw [HX.out, h]; decide)).symm
    have YES : Hid (blockB (cntF d) d.blocks.length funcs x = true → ∀ k, k < j + 1 → blockB (cntF d) d.blocks.length funcs (d.blocks.getD k block0) = true) := fun h k hk => by
     by_cases e : k = j
     ·subst e; rw [HX.out]; exact h
     ·exact HD.out k (by omega)
    have t0 := RA.r0
    have t1 := RA.r1
    have t2 := RA.r2
    have HRA : Hid (RBox w2.heap.size (cntF d) d.blocks.length funcs (wp.alloc (.cells #[.slice p0 x.phis.length q0, .slice p1 x.insts.length q1, .int .i64 x.term.kind, .int .i64 x.term.a, .int .i64 x.term.x, .int .i64 x.term.y] 41))) := RA
    have HWA : Hid (Below w.heap.size w (wp.alloc (.cells #[.slice p0 x.phis.length q0, .slice p1 x.insts.length q1, .int .i64 x.term.kind, .int .i64 x.term.a, .int .i64 x.term.x, .int .i64 x.term.y] 41))) := WA
    clear hcell h0 h1 h2 h3 h4 h5 m0 m1 hsm hx hR hW M0 M1 RA WA HD
    cases hb : blockB (cntF d) d.blocks.length funcs x with
    | false =>
     have HF : Hid (false = funcB funcs d) := NO.out hb
     have BB := B _ hb
     clear B
     go_wp2_with (go_at_call 73; refine BB.mono ?_; rintro e w3 ⟨rfl, hb3⟩)
     go_ret
     exact ⟨ret_bool HF.out, HWA.out.trans (hb3.mono HWA.out.size)⟩
    | true =>
     have HF : Hid (blockB (cntF d) d.blocks.length funcs x = true) := hb
     have BB := B _ hb
     clear B
     go_wp2_with (go_at_call 73; refine BB.mono ?_; rintro e w3 ⟨rfl, hb3⟩)
     go_roundw
     case rel => exact ⟨j + 1, by omega, by go_num, YES.out HF.out, HRA.out.keep hb3, HWA.out.trans (hb3.mono HWA.out.size)⟩
     case measure => simp [intOf]; omega
   ·have HF : Hid (true = funcB funcs d) := by
     show _ = _
     rw [HE.out]; exact (all_yes block0 d.blocks (fun k hk => HD.out k (by omega))).symm
    go_wp2_with fail
    go_ret
    exact ⟨ret_bool HF.out, hW⟩
 ·have RB : RBox w1.heap.size (cntF d) d.blocks.length funcs (((w2.setCell ⟨w1.heap.size, 0, none⟩ (.int .i64 (cntF d))).setCell ⟨w1.heap.size, 1, none⟩ (.int .i64 d.blocks.length)).setCell ⟨w1.heap.size, 2, none⟩ (.int .i64 funcs)) := RBox.of (heap_set (heap_set (heap_set hr2)))
  have FB : FBox d u0 c0 u2 c2 w (((w2.setCell ⟨w1.heap.size, 0, none⟩ (.int .i64 (cntF d))).setCell ⟨w1.heap.size, 1, none⟩ (.int .i64 d.blocks.length)).setCell ⟨w1.heap.size, 2, none⟩ (.int .i64 funcs)) :=
   ⟨cell_far z0 (cell_far z0 (cell_far z0 e0)), cell_far z0 (cell_far z0 (cell_far z0 e1)), cell_far z0 (cell_far z0 (cell_far z0 e2)), ((F2.below.setCell (by dsimp only; omega) _).setCell (by dsimp only; omega) _).setCell (by dsimp only; omega) _, by have := F2.size; simp [World.setCell]; omega⟩
  generalize ((w2.setCell ⟨w1.heap.size, 0, none⟩ (.int .i64 (cntF d))).setCell ⟨w1.heap.size, 1, none⟩ (.int .i64 d.blocks.length)).setCell ⟨w1.heap.size, 2, none⟩ (.int .i64 funcs) = wz at RB FB ⊢
  clear e0 e1 e2 hb2' F2 hr2 r0 r1 r2 q0 q1 q2
  clear b0 b1 b2 b0d b1d b2d b0n b1n b2n KB KN F1 F1d F1n z0
  have z0 := FB.a0
  have z1 := FB.a1
  have z2 := FB.a2
  go_wp2_with fail
  clear z0 z1 z2
  go_loopw [49] (fun i wr => ∃ j : Nat, j ≤ d.blocks.length ∧ i = .int .i64 j ∧ Hid (∀ k, k < j → blockB (cntF d) d.blocks.length funcs (d.blocks.getD k block0) = true) ∧ RBox w1.heap.size (cntF d) d.blocks.length funcs wr ∧ Below w.heap.size w wr) (fun i _ => d.blocks.length - (intOf i).toNat)
  case atStart => exact ⟨0, by omega, rfl, fun k hk => by omega, RB, FB.below⟩
  case round =>
   obtain ⟨j, hj, rfl, HD, hR, hW⟩ := hrel
   obtain ⟨wp, hwp⟩ : ∃ wp, wp = wr := ⟨_, rfl⟩
   subst hwp
   clear RB FB
   by_cases hjl : j < d.blocks.length
   ·rcases k2.2 with hn | ⟨bb, off, rfl, hlo, hbb, hcell⟩
    ·simp [hn] at hjl
    obtain ⟨⟨p0, q0, h0, m0⟩, ⟨p1, q1, h1, m1⟩, h2, h3, h4, h5⟩ := hcell j hjl
    have hsm := HS.out _ (getD_mem block0 d.blocks j hjl)
    generalize hx : d.blocks.getD j block0 = x at h0 h1 h2 h3 h4 h5 m0 m1 hsm
    have HX : Hid (d.blocks.getD j block0 = x) := hx
    have f0 : wp.cell? ⟨bb, off + j * 6, none⟩ = some (.slice p0 x.phis.length q0) := (cell_block (hW.block bb hbb)).trans h0
    have f1 : wp.cell? ⟨bb, off + j * 6 + 1, none⟩ = some (.slice p1 x.insts.length q1) := (cell_block (hW.block bb hbb)).trans h1
    have f2 : wp.cell? ⟨bb, off + j * 6 + 2, none⟩ = some (.int .i64 x.term.kind) := (cell_block (hW.block bb hbb)).trans h2
    have f3 : wp.cell? ⟨bb, off + j * 6 + 3, none⟩ = some (.int .i64 x.term.a) := (cell_block (hW.block bb hbb)).trans h3
    have f4 : wp.cell? ⟨bb, off + j * 6 + 4, none⟩ = some (.int .i64 x.term.x) := (cell_block (hW.block bb hbb)).trans h4
    have f5 : wp.cell? ⟨bb, off + j * 6 + 5, none⟩ = some (.int .i64 x.term.y) := (cell_block (hW.block bb hbb)).trans h5
    have M0 := (m0.keep (agree_of_below hW lo)).keep (agree_alloc wp (.cells #[.slice p0 x.phis.length q0, .slice p1 x.insts.length q1, .int .i64 x.term.kind, .int .i64 x.term.a, .int .i64 x.term.x, .int .i64 x.term.y] 41) _)
    have M1 := (m1.keep (agree_of_below hW lo)).keep (agree_alloc wp (.cells #[.slice p0 x.phis.length q0, .slice p1 x.insts.length q1, .int .i64 x.term.kind, .int .i64 x.term.a, .int .i64 x.term.x, .int .i64 x.term.y] 41) _)
    have RA := hR.keep ((Below.refl _ _).alloc (Nat.le_refl _) (.cells #[.slice p0 x.phis.length q0, .slice p1 x.insts.length q1, .int .i64 x.term.kind, .int .i64 x.term.a, .int .i64 x.term.x, .int .i64 x.term.y] 41))
    have WA : Below w.heap.size w (wp.alloc (.cells #[.slice p0 x.phis.length q0, .slice p1 x.insts.length q1, .int .i64 x.term.kind, .int .i64 x.term.a, .int .i64 x.term.x, .int .i64 x.term.y] 41)) := hW.alloc hW.size _
    have B : ∀ B, blockB (cntF d) d.blocks.length funcs x = B → Calls Tryd.prog 73 #[.agg #[.slice p0 x.phis.length q0, .slice p1 x.insts.length q1, .int .i64 x.term.kind, .int .i64 x.term.a, .int .i64 x.term.x, .int .i64 x.term.y], .agg #[.int .i64 (cntF d), .int .i64 d.blocks.length, .int .i64 funcs]] (wp.alloc (.cells #[.slice p0 x.phis.length q0, .slice p1 x.insts.length q1, .int .i64 x.term.kind, .int .i64 x.term.a, .int .i64 x.term.x, .int .i64 x.term.y] 41)) fun e w' => e = .returned (.bool B) ∧ Below (wp.alloc (.cells #[.slice p0 x.phis.length q0, .slice p1 x.insts.length q1, .int .i64 x.term.kind, .int .i64 x.term.a, .int .i64 x.term.x, .int .i64 x.term.y] 41)).heap.size (wp.alloc (.cells #[.slice p0 x.phis.length q0, .slice p1 x.insts.length q1, .int .i64 x.term.kind, .int .i64 x.term.a, .int .i64 x.term.x, .int .i64 x.term.y] 41)) w' := fun B h => by
     rw [← h]; exact blockShI lo x p0 q0 p1 q1 (cntF d) d.blocks.length funcs _ hsm M0 M1
    have NO : Hid (blockB (cntF d) d.blocks.length funcs x = false → false = funcB funcs d) := fun h => by
     rw [HE.out]; exact (all_no block0 d.blocks j hjl (by rw [HX.out, h]; decide)).symm
    have YES : Hid (blockB (cntF d) d.blocks.length funcs x = true → ∀ k, k < j + 1 → blockB (cntF d) d.blocks.length funcs (d.blocks.getD k block0) = true) := fun h k hk => by
     by_cases e : k = j
     ·subst e; rw [HX.out]; exact h
     ·exact HD.out k (by omega)
    have t0 := RA.r0
    have t1 := RA.r1
    have t2 := RA.r2
    have HRA : Hid (RBox w1.heap.size (cntF d) d.blocks.length funcs (wp.alloc (.cells #[.slice p0 x.phis.length q0, .slice p1 x.insts.length q1, .int .i64 x.term.kind, .int .i64 x.term.a, .int .i64 x.term.x, .int .i64 x.term.y] 41))) := RA
    have HWA : Hid (Below w.heap.size w (wp.alloc (.cells #[.slice p0 x.phis.length q0, .slice p1 x.insts.length q1, .int .i64 x.term.kind, .int .i64 x.term.a, .int .i64 x.term.x, .int .i64 x.term.y] 41))) := WA
    clear hcell h0 h1 h2 h3 h4 h5 m0 m1 hsm hx hR hW M0 M1 RA WA HD
    cases hb : blockB (cntF d) d.blocks.length funcs x with
    | false =>
     have HF : Hid (false = funcB funcs d) := NO.out hb
     have BB := B _ hb
     clear B
     go_wp2_with (go_at_call 73; refine BB.mono ?_; rintro e w3 ⟨rfl, hb3⟩)
     go_ret
     exact ⟨ret_bool HF.out, HWA.out.trans (hb3.mono HWA.out.size)⟩
    | true =>
     have HF : Hid (blockB (cntF d) d.blocks.length funcs x = true) := hb
     have BB := B _ hb
     clear B
     go_wp2_with (go_at_call 73; refine BB.mono ?_; rintro e w3 ⟨rfl, hb3⟩)
     go_roundw
     case rel => exact ⟨j + 1, by omega, by go_num, YES.out HF.out, HRA.out.keep hb3, HWA.out.trans (hb3.mono HWA.out.size)⟩
     case measure => simp [intOf]; omega
   ·have HF : Hid (true = funcB funcs d) := by
     show _ = _
     rw [HE.out]; exact (all_yes block0 d.blocks (fun k hk => HD.out k (by omega))).symm
    go_wp2_with fail
    go_ret
    exact ⟨ret_bool HF.out, hW⟩
end Go.Proofs.YtenbodghkpbghaaDoor
namespace Go.Proofs.YtenbodghkpbghaaDoor
open Go.RowKit
set_option linter.unusedVariables false
structure ISm (i : InstD) : Prop where
 a : i.a ≤ 9223372036854775807
 b : i.b ≤ 9223372036854775807
 c : i.c ≤ 9223372036854775807
structure FoBox (d : FuncD) (i : InstD) (u0 : Option Addr) (c0 : Nat) (u2 : Option Addr) (c2 : Nat) (ua : Option Addr) (qa : Nat) (w w1 : World) : Prop where
 a0 : w1.cell? ⟨w.heap.size, 0, none⟩ = some (.slice u0 d.params.length c0)
 a1 : w1.cell? ⟨w.heap.size, 1, none⟩ = some (.int .i64 d.ret)
 a2 : w1.cell? ⟨w.heap.size, 2, none⟩ = some (.slice u2 d.blocks.length c2)
 a3 : w1.cell? ⟨w.heap.size, 3, none⟩ = some (.int .i64 i.op)
 a4 : w1.cell? ⟨w.heap.size, 4, none⟩ = some (.int .i64 i.w)
 a5 : w1.cell? ⟨w.heap.size, 5, none⟩ = some (.int .i64 i.a)
 a6 : w1.cell? ⟨w.heap.size, 6, none⟩ = some (.int .i64 i.b)
 a7 : w1.cell? ⟨w.heap.size, 7, none⟩ = some (.int .i64 i.c)
 a8 : w1.cell? ⟨w.heap.size, 8, none⟩ = some (.int .i64 i.imm)
 a9 : w1.cell? ⟨w.heap.size, 9, none⟩ = some (.slice ua i.args.length qa)
 below : Below w.heap.size w w1
 size : w.heap.size + 1 ≤ w1.heap.size
theorem FoBox.keep {d : FuncD} {i : InstD} {u0 u2 ua : Option Addr} {c0 c2 qa : Nat} {w w1 w2 : World} (h : FoBox d i u0 c0 u2 c2 ua qa w w1) (k : Below w1.heap.size w1 w2) : FoBox d i u0 c0 u2 c2 ua qa w w2 := by
 have hz := h.size
 have hb : w2.heap[w.heap.size]? = w1.heap[w.heap.size]? := k.block _ (by omega)
 exact ⟨(cell_block hb).trans h.a0, (cell_block hb).trans h.a1, (cell_block hb).trans h.a2, (cell_block hb).trans h.a3, (cell_block hb).trans h.a4, (cell_block hb).trans h.a5, (cell_block hb).trans h.a6, (cell_block hb).trans h.a7, (cell_block hb).trans h.a8, (cell_block hb).trans h.a9, h.below.trans (k.mono (by omega)), Nat.le_trans hz k.size⟩
theorem FoBox.start {d : FuncD} {i : InstD} {u0 u2 ua : Option Addr} {c0 c2 qa : Nat} {w : World} {T : TypeId} : FoBox d i u0 c0 u2 c2 ua qa w (w.alloc (.cells #[.slice u0 d.params.length c0, .int .i64 d.ret, .slice u2 d.blocks.length c2, .int .i64 i.op, .int .i64 i.w, .int .i64 i.a, .int .i64 i.b, .int .i64 i.c, .int .i64 i.imm, .slice ua i.args.length qa] T)) := by
 have hb := heap_alloc_last w (.cells #[.slice u0 d.params.length c0, .int .i64 d.ret, .slice u2 d.blocks.length c2, .int .i64 i.op, .int .i64 i.w, .int .i64 i.a, .int .i64 i.b, .int .i64 i.c, .int .i64 i.imm, .slice ua i.args.length qa] T)
 exact ⟨(cell_of_heap hb).trans rfl, (cell_of_heap hb).trans rfl, (cell_of_heap hb).trans rfl, (cell_of_heap hb).trans rfl, (cell_of_heap hb).trans rfl, (cell_of_heap hb).trans rfl, (cell_of_heap hb).trans rfl, (cell_of_heap hb).trans rfl, (cell_of_heap hb).trans rfl, (cell_of_heap hb).trans rfl, (Below.refl _ _).alloc (Nat.le_refl _) _, by simp⟩
theorem heap_two2 (w : World) (o p : Obj) : ((w.alloc o).alloc p).heap[w.heap.size + 1]? = some p := by
 have h := heap_alloc_last (w.alloc o) p
 have e : (w.alloc o).heap.size = w.heap.size + 1 := by simp
 rw [e] at h
 exact h
structure Fo2 (d : FuncD) (i : InstD) (u0 : Option Addr) (c0 : Nat) (u2 : Option Addr) (c2 : Nat) (ua : Option Addr) (qa : Nat) (w w1 : World) : Prop where
 f : FoBox d i u0 c0 u2 c2 ua qa w w1
 r : w1.heap[w.heap.size + 1]? = some (.cells #[.int .i64 0, .int .i64 0, .int .i64 0, .int .i64 0, .int .i64 0, .int .i64 0, .slice none 0 0] 44 (0, 0))
theorem Fo2.keep {d : FuncD} {i : InstD} {u0 u2 ua : Option Addr} {c0 c2 qa : Nat} {w w1 w2 : World} (h : Fo2 d i u0 c0 u2 c2 ua qa w w1) (k : Below w1.heap.size w1 w2) : Fo2 d i u0 c0 u2 c2 ua qa w w2 :=
 ⟨h.f.keep k, (k.block _ (Array.getElem?_eq_some_iff.1 h.r).1).trans h.r⟩
theorem Fo2.cell {d : FuncD} {i : InstD} {u0 u2 ua : Option Addr} {c0 c2 qa : Nat} {w w1 : World} (h : Fo2 d i u0 c0 u2 c2 ua qa w w1) :
  w1.cell? ⟨w.heap.size + 1, 0, none⟩ = some (.int .i64 0) ∧ w1.cell? ⟨w.heap.size + 1, 1, none⟩ = some (.int .i64 0) ∧ w1.cell? ⟨w.heap.size + 1, 2, none⟩ = some (.int .i64 0) ∧ w1.cell? ⟨w.heap.size + 1, 3, none⟩ = some (.int .i64 0) ∧ w1.cell? ⟨w.heap.size + 1, 4, none⟩ = some (.int .i64 0) ∧ w1.cell? ⟨w.heap.size + 1, 5, none⟩ = some (.int .i64 0) ∧ w1.cell? ⟨w.heap.size + 1, 6, none⟩ = some (.slice none 0 0) :=
 ⟨(cell_of_heap h.r).trans rfl, (cell_of_heap h.r).trans rfl, (cell_of_heap h.r).trans rfl, (cell_of_heap h.r).trans rfl, (cell_of_heap h.r).trans rfl, (cell_of_heap h.r).trans rfl, (cell_of_heap h.r).trans rfl⟩
theorem ints_none (w : World) (lo : Nat) : IntsAt w lo none [] := ⟨by simp, .inl rfl⟩
end Go.Proofs.YtenbodghkpbghaaDoor
namespace Go.Proofs.YtenbodghkpbghaaDoor
open Go.RowKit
set_option linter.unusedVariables false
def mkD (op w imm : Int) (l : List Int) : InstD := if op = 26 then ⟨op, w, 0, 0, 0, imm, l⟩ else ⟨op, w, l.getD 0 0, l.getD 1 0, l.getD 2 0, imm, []⟩
theorem size64F : (Tryd.prog.info? 2).map (·.size) = some 1 := by kernel_rfl
theorem src_ofF {w2 : World} {la : Nat} {ul : Option Addr} {l : List Int} {o : Obj} (kl : IntsAt w2 la ul l) : 0 < (l.map (Value.int .i64)).length → ∃ ad, ul = some ad ∧ ∀ j v, (l.map (Value.int .i64))[j]? = some v → (w2.alloc o).cell? (ad.add j) = some v := fun hp => by
 rcases kl.2 with hn | ⟨g, off, rfl, _, hg, hcl⟩
 ·rw [hn] at hp; simp at hp
 ·refine ⟨_, rfl, fun j v hj => ?_⟩
  rw [List.getElem?_map] at hj
  have hjl : j < l.length := by
   rcases Nat.lt_or_ge j l.length with h | h
   ·exact h
   ·rw [List.getElem?_eq_none h] at hj; cases hj
  have hadd : (⟨g, off, none⟩ : Addr).add j = ⟨g, off + j, none⟩ := by unfold Addr.add; split <;> simp_all
  rw [hadd]
  refine (cell_block (((Below.refl w2.heap.size w2).alloc (Nat.le_refl _) o).block g hg)).trans ((hcl j hjl).trans ?_)
  rw [← hj]
  simp [List.getD, hjl]
theorem three_row {l : List Int} (hl : l.length ≤ 3) : splice [Value.int .i64 0, .int .i64 0, .int .i64 0] 0 (l.map (Value.int .i64)) = [.int .i64 (l.getD 0 0), .int .i64 (l.getD 1 0), .int .i64 (l.getD 2 0)] := by
 match l, hl with
 | [], _ => rfl
 | [a], _ => rfl
 | [a, b], _ => rfl
 | [a, b, c], _ => rfl
 | _ :: _ :: _ :: _ :: _, h => simp at h
set_option maxRecDepth 100000 in
theorem run_copy3 {w2 : World} {la cl g : Nat} {ul : Option Addr} {l : List Int} (kl : IntsAt w2 la ul l) (hl : l.length ≤ 3) (hg2 : w2.heap.size = g) :
  ∃ w3, (Builtin.copy_ #[24, 24] 3 #[.slice (some ⟨g, 0, none⟩) 3 3, .slice ul l.length cl]).run Tryd.prog (w2.alloc (.cells #[.int .i64 0, .int .i64 0, .int .i64 0] 160)) = .ok (goInt l.length) w3 ∧
   Hid (w3.heap[g]? = some (.cells #[.int .i64 (l.getD 0 0), .int .i64 (l.getD 1 0), .int .i64 (l.getD 2 0)] 160 (0, 0))) ∧ Below w2.heap.size w2 w3 := by
 subst hg2
 have hg := heap_alloc_last w2 (.cells #[.int .i64 0, .int .i64 0, .int .i64 0] 160)
 have b1 : Below w2.heap.size w2 (w2.alloc (.cells #[.int .i64 0, .int .i64 0, .int .i64 0] 160)) := (Below.refl _ _).alloc (Nat.le_refl _) _
 by_cases h0 : l.length = 0
 ·have hn : l = [] := List.length_eq_zero_iff.1 h0
  subst hn
  exact ⟨_, run_copy_none _ _ _ _ 2 _ _ _ _ _ _ Tryd.underlying24 size64F (by simp), hg, b1⟩
 ·obtain ⟨ad, rfl, hs⟩ := src_ofF (o := .cells #[.int .i64 0, .int .i64 0, .int .i64 0] 160) kl (by simp; omega)
  have hr := run_copy_row (P := Tryd.prog) _ 24 24 3 2 w2.heap.size 0 3 3 ad l.length cl _ _ (l.map (Value.int .i64)) Tryd.underlying24 size64F hg (by simp only [List.length_map, Nat.min_def]; split <;> omega) hs (by simp; omega) (by intro v hv; obtain ⟨x, _, rfl⟩ := List.mem_map.1 hv; rfl)
  rw [List.length_map] at hr
  refine ⟨_, hr, ?_, b1.trans ⟨rfl, rfl, rfl, by simp, fun b hb => setRow_other _ _ _ _ (by omega)⟩⟩
  have h2 := setRow_heap _ w2.heap.size _ ((#[Value.int .i64 0, .int .i64 0, .int .i64 0] : Array Value).toList.take 0 ++ l.map (Value.int .i64) ++ (#[Value.int .i64 0, .int .i64 0, .int .i64 0] : Array Value).toList.drop (0 + l.length)).toArray 160 (0, 0) hg
  show _ = _
  rw [h2]
  have h3 := three_row hl
  unfold splice at h3
  rw [List.length_map] at h3
  congr 2
  rw [List.append_assoc]
  show (List.take 0 [Value.int .i64 0, .int .i64 0, .int .i64 0] ++ (l.map (Value.int .i64) ++ List.drop (0 + l.length) [Value.int .i64 0, .int .i64 0, .int .i64 0])).toArray = _
  rw [h3]
set_option maxHeartbeats 4000000 in
set_option maxRecDepth 100000 in
theorem instOf26 (w0 imm : Int) (u : Option Addr) (q : Nat) (l : List Int) (w : World) :
  Calls Tryd.prog 100 #[.int .i64 26, .int .i64 w0, .int .i64 imm, .slice u l.length q] w fun e w' => e = .returned (.agg #[.int .i64 26, .int .i64 w0, .int .i64 0, .int .i64 0, .int .i64 0, .int .i64 imm, .slice u l.length q]) ∧ Below w.heap.size w w' := by
 go_enter Tryd.func100, Tryd.ntmps100
 go_wp2_with fail
 have hr : ((w.alloc (.cells #[.int .i64 26, .int .i64 w0, .int .i64 0, .int .i64 0, .int .i64 0, .int .i64 imm, .slice u l.length q] 44)).alloc (.cells #[.int .i64 26, .int .i64 w0, .int .i64 0, .int .i64 0, .int .i64 0, .int .i64 imm, .slice u l.length q] 44)).heap[w.heap.size]? = some (.cells #[.int .i64 26, .int .i64 w0, .int .i64 0, .int .i64 0, .int .i64 0, .int .i64 imm, .slice u l.length q] 44 (0, 0)) := (Below.heap_alloc _ _ _ (by simp)).trans (heap_alloc_last _ _)
 refine bodyPost_ret (v := .agg #[.int .i64 26, .int .i64 w0, .int .i64 0, .int .i64 0, .int .i64 0, .int .i64 imm, .slice u l.length q]) ((results_cell_row Tryd.results100 _ _ w.heap.size 44 _ (0, 0) _ rfl hr Tryd.underlying44 rfl (by kernel_rfl)).trans (by rfl)) rfl ⟨rfl, ?_⟩
 exact ((Below.refl _ _).alloc (Nat.le_refl _) _).alloc (by simp) _
set_option maxHeartbeats 4000000 in
set_option maxRecDepth 100000 in
theorem instOfX (op w0 imm : Int) (lo : Nat) (u : Option Addr) (q : Nat) (l : List Int) (w : World) (ho : ¬ op = 26) (hl : l.length ≤ 3) (hv : IntsAt w lo u l) (hops : opsD (mkD op w0 imm l) = l) :
  Calls Tryd.prog 100 #[.int .i64 op, .int .i64 w0, .int .i64 imm, .slice u l.length q] w fun e w' => e = .returned (.agg #[.int .i64 op, .int .i64 w0, .int .i64 (l.getD 0 0), .int .i64 (l.getD 1 0), .int .i64 (l.getD 2 0), .int .i64 imm, .slice none 0 0]) ∧ Below w.heap.size w w' := by
 have qo : (op == 26) = false := by simpa using ho
 have b2 : Below w.heap.size w ((w.alloc (.cells #[.int .i64 0, .int .i64 0, .int .i64 0, .int .i64 0, .int .i64 0, .int .i64 0, .slice none 0 0] 44)).alloc (.cells #[.int .i64 op, .int .i64 w0, .int .i64 0, .int .i64 0, .int .i64 0, .int .i64 imm, .slice none 0 0] 44)) := ((Below.refl _ _).alloc (Nat.le_refl _) _).alloc (by simp) _
 have HB2 : Hid (Below w.heap.size w _) := b2
 have hi2 : ((w.alloc (.cells #[.int .i64 0, .int .i64 0, .int .i64 0, .int .i64 0, .int .i64 0, .int .i64 0, .slice none 0 0] 44)).alloc (.cells #[.int .i64 op, .int .i64 w0, .int .i64 0, .int .i64 0, .int .i64 0, .int .i64 imm, .slice none 0 0] 44)).heap[w.heap.size + 1]? = some (.cells #[.int .i64 op, .int .i64 w0, .int .i64 0, .int .i64 0, .int .i64 0, .int .i64 imm, .slice none 0 0] 44 (0, 0)) := heap_two2 _ _ _
 have hr2 : ((w.alloc (.cells #[.int .i64 0, .int .i64 0, .int .i64 0, .int .i64 0, .int .i64 0, .int .i64 0, .slice none 0 0] 44)).alloc (.cells #[.int .i64 op, .int .i64 w0, .int .i64 0, .int .i64 0, .int .i64 0, .int .i64 imm, .slice none 0 0] 44)).heap[w.heap.size]? = some (.cells #[.int .i64 0, .int .i64 0, .int .i64 0, .int .i64 0, .int .i64 0, .int .i64 0, .slice none 0 0] 44 (0, 0)) := (Below.heap_alloc _ _ _ (by simp)).trans (heap_alloc_last _ _)
 obtain ⟨w3, hcp, HC3, b3⟩ := run_copy3 (g := w.heap.size + 1 + 1) (cl := q) (hv.keep (agree_of_below b2 lo)) hl (by simp)
 have hz2 : ((w.alloc (.cells #[.int .i64 0, .int .i64 0, .int .i64 0, .int .i64 0, .int .i64 0, .int .i64 0, .slice none 0 0] 44)).alloc (.cells #[.int .i64 op, .int .i64 w0, .int .i64 0, .int .i64 0, .int .i64 0, .int .i64 imm, .slice none 0 0] 44)).heap.size = w.heap.size + 2 := by simp
 rw [hz2] at b3
 have hi3 := (b3.block (w.heap.size + 1) (by omega)).trans hi2
 have hr3 := (b3.block w.heap.size (by omega)).trans hr2
 have HB3 : Hid (Below w.heap.size w w3) := b2.trans (b3.mono (by omega))
 have MK : Hid (mkD op w0 imm l = ⟨op, w0, l.getD 0 0, l.getD 1 0, l.getD 2 0, imm, []⟩) := by show _ = _; unfold mkD; rw [if_neg ho]
 have HOPS : Hid (opsD (mkD op w0 imm l) = l) := hops
 have HV : Hid (IntsAt w lo u l) := hv
 clear b2 b3 hi2 hr2 hz2 hops hv ho
 go_enter Tryd.func100, Tryd.ntmps100
 go_wp2_with fail
 clear hcp
 have f0 : w3.cell? ⟨w.heap.size + 1 + 1, 0, none⟩ = some (.int .i64 (l.getD 0 0)) := (cell_of_heap HC3.out).trans rfl
 have f1 : w3.cell? ⟨w.heap.size + 1 + 1, 1, none⟩ = some (.int .i64 (l.getD 1 0)) := (cell_of_heap HC3.out).trans rfl
 have f2 : w3.cell? ⟨w.heap.size + 1 + 1, 2, none⟩ = some (.int .i64 (l.getD 2 0)) := (cell_of_heap HC3.out).trans rfl
 have i0 : w3.cell? ⟨w.heap.size + 1, 0, none⟩ = some (.int .i64 op) := (cell_of_heap hi3).trans rfl
 have i1 : w3.cell? ⟨w.heap.size + 1, 1, none⟩ = some (.int .i64 w0) := (cell_of_heap hi3).trans rfl
 have i2 : w3.cell? ⟨w.heap.size + 1, 2, none⟩ = some (.int .i64 0) := (cell_of_heap hi3).trans rfl
 have i3 : w3.cell? ⟨w.heap.size + 1, 3, none⟩ = some (.int .i64 0) := (cell_of_heap hi3).trans rfl
 have i4 : w3.cell? ⟨w.heap.size + 1, 4, none⟩ = some (.int .i64 0) := (cell_of_heap hi3).trans rfl
 have i5 : w3.cell? ⟨w.heap.size + 1, 5, none⟩ = some (.int .i64 imm) := (cell_of_heap hi3).trans rfl
 have i6 : w3.cell? ⟨w.heap.size + 1, 6, none⟩ = some (.slice none 0 0) := (cell_of_heap hi3).trans rfl
 have fi : ∀ o, w3.frozen? ⟨w.heap.size + 1, o, none⟩ = false := fun o => froz_of_heap hi3
 generalize hx0 : l.getD 0 0 = x0 at *
 have HX0 : Hid (l.getD 0 0 = x0) := hx0
 clear hx0
 generalize hx1 : l.getD 1 0 = x1 at *
 have HX1 : Hid (l.getD 1 0 = x1) := hx1
 clear hx1
 generalize hx2 : l.getD 2 0 = x2 at *
 have HX2 : Hid (l.getD 2 0 = x2) := hx2
 clear hx2
 go_region
 have hi4 : (((w3.setCell ⟨w.heap.size + 1, 2, none⟩ (.int .i64 x0)).setCell ⟨w.heap.size + 1, 3, none⟩ (.int .i64 x1)).setCell ⟨w.heap.size + 1, 4, none⟩ (.int .i64 x2)).drew.heap[w.heap.size + 1]? = some (.cells #[.int .i64 op, .int .i64 w0, .int .i64 x0, .int .i64 x1, .int .i64 x2, .int .i64 imm, .slice none 0 0] 44 (0, 0)) := by
  have k := heap_set (o := 4) (v := .int .i64 x2) (heap_set (o := 3) (v := .int .i64 x1) (heap_set (o := 2) (v := .int .i64 x0) hi3))
  rw [drew_heap]
  simpa using k
 have hr4 : (((w3.setCell ⟨w.heap.size + 1, 2, none⟩ (.int .i64 x0)).setCell ⟨w.heap.size + 1, 3, none⟩ (.int .i64 x1)).setCell ⟨w.heap.size + 1, 4, none⟩ (.int .i64 x2)).drew.heap[w.heap.size]? = some (.cells #[.int .i64 0, .int .i64 0, .int .i64 0, .int .i64 0, .int .i64 0, .int .i64 0, .slice none 0 0] 44 (0, 0)) :=
  (Below.heap_setCell _ _ _ _ (by show w.heap.size ≠ w.heap.size + 1; omega)).trans ((Below.heap_setCell _ _ _ _ (by show w.heap.size ≠ w.heap.size + 1; omega)).trans ((Below.heap_setCell _ _ _ _ (by show w.heap.size ≠ w.heap.size + 1; omega)).trans hr3))
 have HB4 : Hid (Below w.heap.size w (((w3.setCell ⟨w.heap.size + 1, 2, none⟩ (.int .i64 x0)).setCell ⟨w.heap.size + 1, 3, none⟩ (.int .i64 x1)).setCell ⟨w.heap.size + 1, 4, none⟩ (.int .i64 x2)).drew) := (((HB3.out.setCell (by dsimp only; omega) _).setCell (by dsimp only; omega) _).setCell (by dsimp only; omega) _).drew
 clear hi3 hr3 HC3 HB3 f0 f1 f2 i0 i1 i2 i3 i4 i5 i6 fi HB2
 generalize (((w3.setCell ⟨w.heap.size + 1, 2, none⟩ (.int .i64 x0)).setCell ⟨w.heap.size + 1, 3, none⟩ (.int .i64 x1)).setCell ⟨w.heap.size + 1, 4, none⟩ (.int .i64 x2)).drew = W4 at *
 have j0 : W4.cell? ⟨w.heap.size + 1, 0, none⟩ = some (.int .i64 op) := (cell_of_heap hi4).trans rfl
 have j1 : W4.cell? ⟨w.heap.size + 1, 1, none⟩ = some (.int .i64 w0) := (cell_of_heap hi4).trans rfl
 have j2 : W4.cell? ⟨w.heap.size + 1, 2, none⟩ = some (.int .i64 x0) := (cell_of_heap hi4).trans rfl
 have j3 : W4.cell? ⟨w.heap.size + 1, 3, none⟩ = some (.int .i64 x1) := (cell_of_heap hi4).trans rfl
 have j4 : W4.cell? ⟨w.heap.size + 1, 4, none⟩ = some (.int .i64 x2) := (cell_of_heap hi4).trans rfl
 have j5 : W4.cell? ⟨w.heap.size + 1, 5, none⟩ = some (.int .i64 imm) := (cell_of_heap hi4).trans rfl
 have j6 : W4.cell? ⟨w.heap.size + 1, 6, none⟩ = some (.slice none 0 0) := (cell_of_heap hi4).trans rfl
 have HO : opsD ⟨op, w0, x0, x1, x2, imm, []⟩ = l := by rw [← MK.out]; exact HOPS.out
 have P := operI 0 ⟨op, w0, x0, x1, x2, imm, []⟩ none 0 W4 (by simp) (ints_none _ _)
 rw [HO] at P
 clear HO MK HOPS
 go_wp2_with fail
 refine P.mono ?_
 rintro e w5 ⟨v5, q5, rfl, o5, b5⟩
 have HB5 : Hid (Below w.heap.size w w5) := HB4.out.trans (b5.mono HB4.out.size)
 have E := equalI _ lo v5 u q5 q l w5 o5.ints (HV.out.keep (agree_of_below HB5.out lo)) (by omega)
 have hi5 := (b5.block _ (Array.getElem?_eq_some_iff.1 hi4).1).trans hi4
 have hr5 := (b5.block _ (Array.getElem?_eq_some_iff.1 hr4).1).trans hr4
 clear P o5 b5 hi4 hr4 j0 j1 j2 j3 j4 j5 j6
 go_wp2_with fail
 refine E.mono ?_
 rintro e w6 ⟨rfl, b6⟩
 have HB6 : Hid (Below w.heap.size w w6) := HB5.out.trans (b6.mono HB5.out.size)
 have hi6 := (b6.block _ (Array.getElem?_eq_some_iff.1 hi5).1).trans hi5
 have hr6 := (b6.block _ (Array.getElem?_eq_some_iff.1 hr5).1).trans hr5
 clear E b6 hi5 hr5
 go_wp2_with fail
 refine (wantI w6).mono ?_
 rintro e w7 ⟨rfl, hw7⟩
 rw [hw7]
 clear hw7
 have j0 : w6.cell? ⟨w.heap.size + 1, 0, none⟩ = some (.int .i64 op) := (cell_of_heap hi6).trans rfl
 have j1 : w6.cell? ⟨w.heap.size + 1, 1, none⟩ = some (.int .i64 w0) := (cell_of_heap hi6).trans rfl
 have j2 : w6.cell? ⟨w.heap.size + 1, 2, none⟩ = some (.int .i64 x0) := (cell_of_heap hi6).trans rfl
 have j3 : w6.cell? ⟨w.heap.size + 1, 3, none⟩ = some (.int .i64 x1) := (cell_of_heap hi6).trans rfl
 have j4 : w6.cell? ⟨w.heap.size + 1, 4, none⟩ = some (.int .i64 x2) := (cell_of_heap hi6).trans rfl
 have j5 : w6.cell? ⟨w.heap.size + 1, 5, none⟩ = some (.int .i64 imm) := (cell_of_heap hi6).trans rfl
 have j6 : w6.cell? ⟨w.heap.size + 1, 6, none⟩ = some (.slice none 0 0) := (cell_of_heap hi6).trans rfl
 have r0 : w6.cell? ⟨w.heap.size, 0, none⟩ = some (.int .i64 0) := (cell_of_heap hr6).trans rfl
 have r1 : w6.cell? ⟨w.heap.size, 1, none⟩ = some (.int .i64 0) := (cell_of_heap hr6).trans rfl
 have r2 : w6.cell? ⟨w.heap.size, 2, none⟩ = some (.int .i64 0) := (cell_of_heap hr6).trans rfl
 have r3 : w6.cell? ⟨w.heap.size, 3, none⟩ = some (.int .i64 0) := (cell_of_heap hr6).trans rfl
 have r4 : w6.cell? ⟨w.heap.size, 4, none⟩ = some (.int .i64 0) := (cell_of_heap hr6).trans rfl
 have r5 : w6.cell? ⟨w.heap.size, 5, none⟩ = some (.int .i64 0) := (cell_of_heap hr6).trans rfl
 have r6 : w6.cell? ⟨w.heap.size, 6, none⟩ = some (.slice none 0 0) := (cell_of_heap hr6).trans rfl
 have rf : ∀ o, w6.frozen? ⟨w.heap.size, o, none⟩ = false := fun o => froz_of_heap hr6
 go_wp2_with fail
 have hr := (heap_set (o := 6) (v := .slice none 0 0) (heap_set (o := 5) (v := .int .i64 imm) (heap_set (o := 4) (v := .int .i64 x2) (heap_set (o := 3) (v := .int .i64 x1) (heap_set (o := 2) (v := .int .i64 x0) (heap_set (o := 1) (v := .int .i64 w0) (heap_set (o := 0) (v := .int .i64 op) hr6)))))))
 refine bodyPost_ret (v := .agg #[.int .i64 op, .int .i64 w0, .int .i64 x0, .int .i64 x1, .int .i64 x2, .int .i64 imm, .slice none 0 0]) ((results_cell_row Tryd.results100 _ _ w.heap.size 44 _ (0, 0) _ rfl hr Tryd.underlying44 rfl (by kernel_rfl)).trans (by rfl)) rfl ⟨by rw [HX0.out, HX1.out, HX2.out], ?_⟩
 exact (by repeat (first | refine Below.setCell ?_ (by dsimp only; omega) _ | exact HB6.out))
end Go.Proofs.YtenbodghkpbghaaDoor
namespace Go.Proofs.YtenbodghkpbghaaDoor
open Go.RowKit
set_option linter.unusedVariables false
theorem instOfI (op w0 imm : Int) (lo : Nat) (u : Option Addr) (q : Nat) (l : List Int) (w : World) (hl : op = 26 ∨ (l.length ≤ 3 ∧ opsD (mkD op w0 imm l) = l)) (hv : IntsAt w lo u l) :
  Calls Tryd.prog 100 #[.int .i64 op, .int .i64 w0, .int .i64 imm, .slice u l.length q] w fun e w' => ∃ (r : InstD) (ru : Option Addr) (rq : Nat), e = .returned (.agg #[.int .i64 r.op, .int .i64 r.w, .int .i64 r.a, .int .i64 r.b, .int .i64 r.c, .int .i64 r.imm, .slice ru r.args.length rq]) ∧ r = mkD op w0 imm l ∧ ((op = 26 ∧ ru = u ∧ rq = q) ∨ (¬ op = 26 ∧ ru = none ∧ rq = 0)) ∧ Below w.heap.size w w' := by
 by_cases ho : op = 26
 ·subst ho
  refine (instOf26 w0 imm u q l w).mono ?_
  rintro e w1 ⟨rfl, b1⟩
  exact ⟨⟨26, w0, 0, 0, 0, imm, l⟩, u, q, rfl, rfl, .inl ⟨rfl, rfl, rfl⟩, b1⟩
 ·obtain ⟨h1, h2⟩ := hl.resolve_left ho
  refine (instOfX op w0 imm lo u q l w ho h1 hv h2).mono ?_
  rintro e w1 ⟨rfl, b1⟩
  exact ⟨⟨op, w0, l.getD 0 0, l.getD 1 0, l.getD 2 0, imm, []⟩, none, 0, rfl, by unfold mkD; rw [if_neg ho], .inr ⟨ho, rfl, rfl⟩, b1⟩
theorem row7 {w : World} {g : Nat} {T : TypeId} {v0 v1 v2 v3 v4 v5 v6 : Value} (h : w.heap[g]? = some (.cells #[v0, v1, v2, v3, v4, v5, v6] T (0, 0))) : w.cell? ⟨g, 0, none⟩ = some v0 ∧ w.cell? ⟨g, 1, none⟩ = some v1 ∧ w.cell? ⟨g, 2, none⟩ = some v2 ∧ w.cell? ⟨g, 3, none⟩ = some v3 ∧ w.cell? ⟨g, 4, none⟩ = some v4 ∧ w.cell? ⟨g, 5, none⟩ = some v5 ∧ w.cell? ⟨g, 6, none⟩ = some v6 :=
 ⟨(cell_of_heap h).trans rfl, (cell_of_heap h).trans rfl, (cell_of_heap h).trans rfl, (cell_of_heap h).trans rfl, (cell_of_heap h).trans rfl, (cell_of_heap h).trans rfl, (cell_of_heap h).trans rfl⟩
def InstNew (w : World) (base : Nat) (r : InstD) (e : Ending) : Prop := ∃ (ru : Option Addr) (rq : Nat), e = .returned (.agg #[.int .i64 r.op, .int .i64 r.w, .int .i64 r.a, .int .i64 r.b, .int .i64 r.c, .int .i64 r.imm, .slice ru r.args.length rq]) ∧ Row w base (.slice ru r.args.length rq) r.args
theorem mk_args {op w imm : Int} {l : List Int} : (op = 26 → (mkD op w imm l).args = l) ∧ (¬ op = 26 → (mkD op w imm l).args = []) := by
 refine ⟨fun h => ?_, fun h => ?_⟩
 ·unfold mkD; rw [if_pos h]
 ·unfold mkD; rw [if_neg h]
set_option maxHeartbeats 8000000 in
set_option maxRecDepth 100000 in
theorem ofInstI (B lo : Nat) (ρ : Int → Int) (i : InstD) (ua : Option Addr) (qa : Nat) (w : World) (hR : RenAt w B ρ) (ku : IntsAt w lo ua i.args) (hA : i.args.length ≤ 1000) (hn : (opsD i).length ≤ 1000) (hr : ∀ x ∈ opsD i, 0 ≤ x ∧ x ≤ 100000) (hl : i.op = 26 ∨ (((opsD i).map ρ).length ≤ 3 ∧ opsD (mkD i.op i.w i.imm ((opsD i).map ρ)) = (opsD i).map ρ)) :
  Calls Tryd.prog 76 #[.map (some B), .agg #[.int .i64 i.op, .int .i64 i.w, .int .i64 i.a, .int .i64 i.b, .int .i64 i.c, .int .i64 i.imm, .slice ua i.args.length qa]] w fun e w' => InstNew w' w.heap.size (mkD i.op i.w i.imm ((opsD i).map ρ)) e ∧ Below w.heap.size w w' := by
 have hb0 : ((w.alloc (.cells #[.int .i64 i.op, .int .i64 i.w, .int .i64 i.a, .int .i64 i.b, .int .i64 i.c, .int .i64 i.imm, .slice ua i.args.length qa] 44)).alloc (.cells #[.int .i64 0, .int .i64 0, .int .i64 0, .int .i64 0, .int .i64 0, .int .i64 0, .slice none 0 0] 44)).heap[w.heap.size]? = some (.cells #[.int .i64 i.op, .int .i64 i.w, .int .i64 i.a, .int .i64 i.b, .int .i64 i.c, .int .i64 i.imm, .slice ua i.args.length qa] 44 (0, 0)) := (Below.heap_alloc _ _ _ (by simp)).trans (heap_alloc_last _ _)
 have hz0 : ((w.alloc (.cells #[.int .i64 i.op, .int .i64 i.w, .int .i64 i.a, .int .i64 i.b, .int .i64 i.c, .int .i64 i.imm, .slice ua i.args.length qa] 44)).alloc (.cells #[.int .i64 0, .int .i64 0, .int .i64 0, .int .i64 0, .int .i64 0, .int .i64 0, .slice none 0 0] 44)).heap[w.heap.size + 1]? = some (.cells #[.int .i64 0, .int .i64 0, .int .i64 0, .int .i64 0, .int .i64 0, .int .i64 0, .slice none 0 0] 44 (0, 0)) := heap_two2 _ _ _
 have bb0 : Below w.heap.size w ((w.alloc (.cells #[.int .i64 i.op, .int .i64 i.w, .int .i64 i.a, .int .i64 i.b, .int .i64 i.c, .int .i64 i.imm, .slice ua i.args.length qa] 44)).alloc (.cells #[.int .i64 0, .int .i64 0, .int .i64 0, .int .i64 0, .int .i64 0, .int .i64 0, .slice none 0 0] 44)) := ((Below.refl _ _).alloc (Nat.le_refl _) _).alloc (by simp) _
 have HB0 : Hid (Below w.heap.size w _) := bb0
 have HZ0 : Hid (_ = _) := hz0
 have HI0 : Hid (_ = _) := hb0
 have OP := fun W (k : Below w.heap.size w W) => operI lo i ua qa W (by omega) (ku.keep (agree_of_below k lo))
 have HR : Hid (RenAt w B ρ) := hR
 have HX : Hid (∀ x ∈ opsD i, 0 ≤ x ∧ x ≤ 100000) := hr
 obtain ⟨L, hLL⟩ : ∃ L, (opsD i).map ρ = L := ⟨_, rfl⟩
 have hLl : L.length ≤ 1000 := by rw [← hLL, List.length_map]; exact hn
 have HLL : Hid ((opsD i).map ρ = L) := hLL
 have HL : Hid (i.op = 26 ∨ (L.length ≤ 3 ∧ opsD (mkD i.op i.w i.imm L) = L)) := by rw [hLL] at hl; exact hl
 clear hLL
 clear hb0 hz0 bb0 hR ku hr hl
 go_enter Tryd.func76, Tryd.ntmps76
 go_wp2_with fail
 refine wp_region_held_drew (S := fun w' => w'.heap[w.heap.size]? = some (.cells #[.int .i64 i.op, .int .i64 i.w, .int .i64 i.a, .int .i64 i.b, .int .i64 i.c, .int .i64 i.imm, .slice ua i.args.length qa] 44 (0, 0))) (by kernel_rfl) (show _ = _ from HI0.out) (fun hHeld => ?_)
 refine wpAnyH_take (i := 0) (v := ?_) rfl (by kernel_rfl) (by kernel_rfl) (by kernel_rfl) (fun _ _ _ h => h) (Or.inl ⟨by rfl, ?_⟩) hHeld ?_
 rotate_left
 ·intro w9 hS9
  go_simp
  try with_reducible rfl
 show wpAnyH _ _ _ _ _ _ _ (Act.put _ (some _) _) _
 simp only [Act.put, List.setIfInBounds_toArray, List.set_cons_zero, List.set_cons_succ]
 refine wpAnyH_take (i := 1) (v := ?_) rfl (by kernel_rfl) (by kernel_rfl) (by kernel_rfl) (fun _ _ _ h => h) (Or.inl ⟨by rfl, ?_⟩) hHeld ?_
 rotate_left
 ·intro w9 hS9
  have g0 := (row7 hS9).1
  go_simp
  try with_reducible rfl
 show wpAnyH _ _ _ _ _ _ _ (Act.put _ (some _) _) _
 simp only [Act.put, List.setIfInBounds_toArray, List.set_cons_zero, List.set_cons_succ]
 refine wpAnyH_take (i := 2) (v := ?_) rfl (by kernel_rfl) (by kernel_rfl) (by kernel_rfl) (fun _ _ _ h => h) (Or.inl ⟨by rfl, ?_⟩) hHeld ?_
 rotate_left
 ·intro w9 hS9
  go_simp
  try with_reducible rfl
 show wpAnyH _ _ _ _ _ _ _ (Act.put _ (some _) _) _
 simp only [Act.put, List.setIfInBounds_toArray, List.set_cons_zero, List.set_cons_succ]
 refine wpAnyH_take (i := 3) (v := ?_) rfl (by kernel_rfl) (by kernel_rfl) (by kernel_rfl) (fun _ _ _ h => h) (Or.inl ⟨by rfl, ?_⟩) hHeld ?_
 rotate_left
 ·intro w9 hS9
  have g0 := (row7 hS9).2.1
  go_simp
  try with_reducible rfl
 show wpAnyH _ _ _ _ _ _ _ (Act.put _ (some _) _) _
 simp only [Act.put, List.setIfInBounds_toArray, List.set_cons_zero, List.set_cons_succ]
 refine wpAnyH_take (i := 4) (v := ?_) rfl (by kernel_rfl) (by kernel_rfl) (by kernel_rfl) (fun _ _ _ h => h) (Or.inl ⟨by rfl, ?_⟩) hHeld ?_
 rotate_left
 ·intro w9 hS9
  go_simp
  try with_reducible rfl
 show wpAnyH _ _ _ _ _ _ _ (Act.put _ (some _) _) _
 simp only [Act.put, List.setIfInBounds_toArray, List.set_cons_zero, List.set_cons_succ]
 refine wpAnyH_take (i := 5) (v := ?_) rfl (by kernel_rfl) (by kernel_rfl) (by kernel_rfl) (fun _ _ _ h => h) (Or.inl ⟨by rfl, ?_⟩) hHeld ?_
 rotate_left
 ·intro w9 hS9
  have g0 := (row7 hS9).2.2.2.2.2.1
  go_simp
  try with_reducible rfl
 show wpAnyH _ _ _ _ _ _ _ (Act.put _ (some _) _) _
 simp only [Act.put, List.setIfInBounds_toArray, List.set_cons_zero, List.set_cons_succ]
 refine wpAnyH_take (i := 6) (v := ?_) rfl (by kernel_rfl) (by kernel_rfl) (by kernel_rfl) (fun _ _ _ h => h) (Or.inl ⟨by rfl, ?_⟩) hHeld ?_
 rotate_left
 ·intro w9 hS9
  go_simp
  try with_reducible rfl
 show wpAnyH _ _ _ _ _ _ _ (Act.put _ (some _) _) _
 simp only [Act.put, List.setIfInBounds_toArray, List.set_cons_zero, List.set_cons_succ]
 refine wpAnyH_take (i := 7) (v := ?_) rfl (by kernel_rfl) (by kernel_rfl) (by kernel_rfl) (fun _ _ _ h => h) (Or.inl ⟨by rfl, ?_⟩) hHeld ?_
 rotate_left
 ·intro w9 hS9
  have g0 := (row7 hS9).1
  have g1 := (row7 hS9).2.1
  have g2 := (row7 hS9).2.2.1
  have g3 := (row7 hS9).2.2.2.1
  have g4 := (row7 hS9).2.2.2.2.1
  have g5 := (row7 hS9).2.2.2.2.2.1
  have g6 := (row7 hS9).2.2.2.2.2.2
  go_simp
  try with_reducible rfl
 show wpAnyH _ _ _ _ _ _ _ (Act.put _ (some _) _) _
 simp only [Act.put, List.setIfInBounds_toArray, List.set_cons_zero, List.set_cons_succ]
 refine wpAnyH_ready (rs := [8]) (by kernel_rfl) (by simp) ?_
 refine AllReadyH.cons rfl (fun K hK => ?_) AllReadyH.nil
 go_simp
 go_wp2_with (go_at_call 12; refine (OP _ (by exact HB0.out.drew)).mono ?_; rintro e w3 ⟨v3, q3, rfl, o3, b3⟩)
 refine hK.out _ _ ?_ (fun hHeld2 => ?_)
 ·exact (b3.block _ (Array.getElem?_eq_some_iff.1 hHeld).1).trans hHeld
 clear hK K hHeld
 have hHeld := hHeld2
 clear hHeld2
 try simp only [Act.put, List.setIfInBounds_toArray, List.set_cons_zero, List.set_cons_succ]
 have HB3 : Hid (Below w.heap.size w w3) := (HB0.out.drew).trans (b3.mono HB0.out.size)
 have HZ3 : Hid (w3.heap[w.heap.size + 1]? = some (.cells #[.int .i64 0, .int .i64 0, .int .i64 0, .int .i64 0, .int .i64 0, .int .i64 0, .slice none 0 0] 44 (0, 0))) := (b3.block _ (Array.getElem?_eq_some_iff.1 HZ0.out).1).trans HZ0.out
 have OF := ofIdsI B _ ρ v3 q3 (opsD i) w3 (HR.out.below HB3.out) o3.ints hn HX.out
 rw [HLL.out] at OF
 clear b3 o3 HB0 HZ0 HI0
 refine wpAnyH_ready (rs := [9]) (by kernel_rfl) (by simp) ?_
 refine AllReadyH.cons rfl (fun K hK => ?_) AllReadyH.nil
 go_simp
 go_wp2_with (go_at_call 75; refine (OF).mono ?_; rintro e w4 ⟨v4, rfl, r4, b4⟩; obtain ⟨u4, q4, he4⟩ := r4.slice; subst he4)
 refine hK.out _ _ ?_ (fun hHeld2 => ?_)
 ·exact (b4.block _ (Array.getElem?_eq_some_iff.1 hHeld).1).trans hHeld
 clear hK K hHeld
 have hHeld := hHeld2
 clear hHeld2
 try simp only [Act.put, List.setIfInBounds_toArray, List.set_cons_zero, List.set_cons_succ]
 have HB4 : Hid (Below w.heap.size w w4) := HB3.out.trans (b4.mono HB3.out.size)
 have HZ4 : Hid (w4.heap[w.heap.size + 1]? = some (.cells #[.int .i64 0, .int .i64 0, .int .i64 0, .int .i64 0, .int .i64 0, .int .i64 0, .slice none 0 0] 44 (0, 0))) := (b4.block _ (Array.getElem?_eq_some_iff.1 HZ3.out).1).trans HZ3.out
 have HW4 : Hid (Row w4 w3.heap.size (.slice u4 L.length q4) L) := r4
 have hz3 := HB3.out.size
 obtain ⟨ui, ci, hvi, iv4⟩ := r4.ints (by omega)
 have hui : ui = u4 := by injection hvi with e1 _ _; exact e1.symm
 subst hui
 have IO := instOfI i.op i.w i.imm w3.heap.size ui q4 L w4 HL.out iv4
 clear b4 r4 OF hvi iv4
 refine wpAnyH_ready (rs := [10]) (by kernel_rfl) (by simp) ?_
 refine AllReadyH.cons rfl (fun K hK => ?_) AllReadyH.nil
 go_simp
 go_wp2_with (go_at_call 100; refine (IO).mono ?_; rintro e w5 ⟨r, ru, rq, rfl, hrr, hru, b5⟩; have HRR : Hid (r = _) := hrr; have HRU : Hid _ := hru; clear hrr hru)
 refine hK.out _ _ ?_ (fun hHeld2 => ?_)
 ·exact (b5.block _ (Array.getElem?_eq_some_iff.1 hHeld).1).trans hHeld
 clear hK K hHeld
 have hHeld := hHeld2
 clear hHeld2
 try simp only [Act.put, List.setIfInBounds_toArray, List.set_cons_zero, List.set_cons_succ]
 have HB5 : Hid (Below w.heap.size w w5) := HB4.out.trans (b5.mono HB4.out.size)
 have HZ5 : Hid (w5.heap[w.heap.size + 1]? = some (.cells #[.int .i64 0, .int .i64 0, .int .i64 0, .int .i64 0, .int .i64 0, .int .i64 0, .slice none 0 0] 44 (0, 0))) := (b5.block _ (Array.getElem?_eq_some_iff.1 HZ4.out).1).trans HZ4.out
 have HW5 : Hid (Row w5 w3.heap.size (.slice ui L.length q4) L) := HW4.out.keep b5
 obtain ⟨r0, r1, r2, r3, r4, r5, r6⟩ := row7 HZ5.out
 have rf : ∀ o, w5.frozen? ⟨w.heap.size + 1, o, none⟩ = false := fun o => froz_of_heap HZ5.out
 clear b5 IO
 refine wpAnyH_ready (rs := [11]) (by kernel_rfl) (by simp) ?_
 refine AllReadyH.cons rfl (fun K hK => ?_) AllReadyH.nil
 go_simp
 go_wp2_with fail
 refine hK.out _ _ ?_ (fun hHeld2 => ?_)
 ·exact (by repeat (first | refine (Below.heap_setCell _ _ _ _ (by show w.heap.size ≠ w.heap.size + 1; omega)).trans ?_ | exact hHeld))
 clear hK K hHeld
 have hHeld := hHeld2
 clear hHeld2
 try simp only [Act.put, List.setIfInBounds_toArray, List.set_cons_zero, List.set_cons_succ]
 refine wpAnyH_done (by kernel_rfl) ?_ _
 go_wp2_with fail
 have hr := (heap_set (o := 6) (v := .slice ru r.args.length rq) (heap_set (o := 5) (v := .int .i64 r.imm) (heap_set (o := 4) (v := .int .i64 r.c) (heap_set (o := 3) (v := .int .i64 r.b) (heap_set (o := 2) (v := .int .i64 r.a) (heap_set (o := 1) (v := .int .i64 r.w) (heap_set (o := 0) (v := .int .i64 r.op) HZ5.out)))))))
 refine bodyPost_ret (v := .agg #[.int .i64 r.op, .int .i64 r.w, .int .i64 r.a, .int .i64 r.b, .int .i64 r.c, .int .i64 r.imm, .slice ru r.args.length rq]) ((results_cell_row Tryd.results76 _ _ (w.heap.size + 1) 44 _ (0, 0) _ rfl hr Tryd.underlying44 rfl (by kernel_rfl)).trans (by rfl)) rfl ⟨?_, ?_⟩
 ·have hr2 := HRR.out
  rw [HLL.out, ← hr2]
  refine ⟨ru, rq, rfl, ?_⟩
  rcases HRU.out with ⟨h1, h2, h3⟩ | ⟨h1, h2, h3⟩
  ·have ha : r.args = L := by rw [hr2]; exact mk_args.1 h1
   rw [ha, h2, h3]
   refine (HW5.out.low hz3).block ?_
   intro g hg hgl
   have hge := HW5.out.ge hg
   have hne : g ≠ w.heap.size + 1 := by
    have := (Array.getElem?_eq_some_iff.1 HZ3.out).1
    omega
   exact (by repeat (first | refine (Below.heap_setCell _ _ _ _ (by show g ≠ w.heap.size + 1; exact hne)).trans ?_ | rfl))
  ·have ha : r.args = [] := by rw [hr2]; exact mk_args.2 h1
   rw [ha, h2, h3]
   exact Row.nil _ _
 ·exact (by repeat (first | refine Below.setCell ?_ (by dsimp only; omega) _ | exact HB5.out))
end Go.Proofs.YtenbodghkpbghaaDoor
