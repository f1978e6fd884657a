import Derived.Test.YtenbodghkpbghaaDoorSzQ
import Derived.Test.YtenbodghkpbghaaDoorOps2Q
import Derived.Test.YtenbodghkpbghaaDoorMemQ
import Derived.Laws.ResultCell
import Derived.Deep.DeepCutAuto
import Derived.BigRegion
import Derived.Deep.RegionHeld2
import Derived.Laws.Rows
import Derived.Maps.OwnSet
import Derived.Maps.OwnOps
namespace Go.Proofs.YtenbodghkpbghaaDoor
open Go.RowKit
set_option maxHeartbeats 2000000 in
theorem toBlock_any (lo : Nat) (d : BlockD) (u0 : Option Addr) (c0 : Nat) (u1 : Option Addr) (c1 : Nat) (w : World) (hs : SmBlock d) (k0 : PhisAt w lo u0 d.phis) (k1 : InstsAt w lo u1 d.insts) :
  Calls Tryd.prog 57 #[.agg #[.slice u0 d.phis.length c0, .slice u1 d.insts.length c1, .int .i64 d.term.kind, .int .i64 d.term.a, .int .i64 d.term.x, .int .i64 d.term.y]] w fun e w' => ∃ v0 q0 v1 q1, e = .returned (.agg #[.slice v0 d.phis.length q0, .slice v1 d.insts.length q1, .int .i64 d.term.kind, .int .i64 d.term.a, .int .i64 d.term.x, .int .i64 d.term.y]) ∧ PhisAt w' w.heap.size v0 d.phis ∧ InstsAt w' w.heap.size v1 d.insts ∧ Below w.heap.size w w' := by
 go_enter Tryd.func57, Tryd.ntmps57
 go_wp2_with (first | (go_at_call 84; refine (toPhiS_any lo _ _ _ _ hs.1.1 hs.1.2 (k0.keep (((agree_alloc _ _ _).trans (agree_alloc _ _ _)).trans (agree_alloc _ _ _)))).mono ?_; rintro e w1 ⟨v0, q0, rfl, n0, hb1⟩; have hcc1 := bcell hb1; have hff1 := bfroz hb1; have z1a : w.heap.size < w1.heap.size := (by have := hb1.size; simp at this; omega); have z1b : w.heap.size + 1 < w1.heap.size := (by have := hb1.size; simp at this; omega); have z1c : w.heap.size + 1 + 1 < w1.heap.size := (by have := hb1.size; simp at this; omega); have hB1 : Below w.heap.size w w1 := ((((Below.refl w.heap.size w).alloc (Nat.le_refl _) _).alloc (by first | (simp; done) | (simp; omega)) _).alloc (by first | (simp; done) | (simp; omega)) _).trans (hb1.mono (by first | (simp; done) | (simp; omega)))) | (go_at_call 85; refine (toInstS_any lo _ _ _ _ hs.2.1 hs.2.2 (k1.keep (agree_of_below (by repeat (first | refine Below.setCell ?_ (by dsimp only; omega) _ | exact hB1)) lo))).mono ?_; rintro e w2 ⟨v1, q1, rfl, n1, hb2⟩; have hcc2 := bcell hb2; have hff2 := bfroz hb2; have z2a : w.heap.size < w2.heap.size := (by have := hb2.size; simp at this; omega); have z2b : w.heap.size + 1 < w2.heap.size := (by have := hb2.size; simp at this; omega); have z2c : w.heap.size + 1 + 1 < w2.heap.size := (by have := hb2.size; simp at this; omega); have hB2 : Below w.heap.size w w2 := Below.trans (b := _) (by repeat (first | refine Below.setCell ?_ (by dsimp only; omega) _ | exact hB1)) (hb2.mono (by first | (simp; omega) | (simp; done)))) | (go_at_call 86; refine (toTerm_any _ _ _ _ _).mono ?_; rintro e w3 ⟨rfl, hb3⟩; have hcc3 := bcell hb3; have hff3 := bfroz hb3; have z3a : w.heap.size < w3.heap.size := (by have := hb3.size; simp at this; omega); have z3b : w.heap.size + 1 < w3.heap.size := (by have := hb3.size; simp at this; omega); have z3c : w.heap.size + 1 + 1 < w3.heap.size := (by have := hb3.size; simp at this; omega); have hB3 : Below w.heap.size w w3 := Below.trans (b := _) (by repeat (first | refine Below.setCell ?_ (by dsimp only; omega) _ | exact hB2)) (hb3.mono (by first | (simp; omega) | (simp; done)))))
 have hr := (heap_set (o := 5) (v := .int .i64 d.term.y) (heap_set (o := 4) (v := .int .i64 d.term.x) (heap_set (o := 3) (v := .int .i64 d.term.a) (heap_set (o := 2) (v := .int .i64 d.term.kind) (heap_set (o := 1) (v := .slice v1 d.insts.length q1) (heap_set (o := 0) (v := .slice v0 d.phis.length q0) (heap_other (g := w.heap.size + 1) (p := ⟨w.heap.size + 1 + 1, 5, none⟩) (v := .int .i64 d.term.y) (by simp) (heap_other (g := w.heap.size + 1) (p := ⟨w.heap.size + 1 + 1, 4, none⟩) (v := .int .i64 d.term.x) (by simp) (heap_other (g := w.heap.size + 1) (p := ⟨w.heap.size + 1 + 1, 3, none⟩) (v := .int .i64 d.term.a) (by simp) (heap_other (g := w.heap.size + 1) (p := ⟨w.heap.size + 1 + 1, 2, none⟩) (v := .int .i64 d.term.kind) (by simp) ((hb3.block (w.heap.size + 1) (by first | (simp; done) | (simp; omega))).trans (heap_other (g := w.heap.size + 1) (p := ⟨w.heap.size + 1 + 1, 1, none⟩) (v := .slice v1 d.insts.length q1) (by simp) ((hb2.block (w.heap.size + 1) (by first | (simp; done) | (simp; omega))).trans (heap_other (g := w.heap.size + 1) (p := ⟨w.heap.size + 1 + 1, 0, none⟩) (v := .slice v0 d.phis.length q0) (by simp) ((hb1.block (w.heap.size + 1) (by first | (simp; done) | (simp; omega))).trans (heap_mid _ _ _ _))))))))))))))))
 refine bodyPost_ret (v := .agg #[.slice v0 d.phis.length q0, .slice v1 d.insts.length q1, .int .i64 d.term.kind, .int .i64 d.term.a, .int .i64 d.term.x, .int .i64 d.term.y]) ((results_cell_row Tryd.results57 _ _ (w.heap.size + 1) 41 _ (0, 0) _ rfl hr Tryd.underlying41 rfl (by kernel_rfl)).trans (by rfl)) rfl ⟨v0, q0, v1, q1, rfl, ?_, ?_, ?_⟩
 ·exact ((n0.low (lo' := w.heap.size + 3) (by first | (simp; done) | (simp; omega))).keep (by repeat (first | refine Agree.trans ?_ (agree_setCell _ _ _ _ _ (by omega)) | refine Agree.trans ?_ (agree_of_below hb3 _) | refine Agree.trans ?_ (agree_of_below hb2 _) | exact Agree.refl _ _))).low (by omega)
 ·exact ((n1.low (lo' := w.heap.size + 3) (by first | (simp; omega) | (simp; done))).keep (by repeat (first | refine Agree.trans ?_ (agree_setCell _ _ _ _ _ (by omega)) | refine Agree.trans ?_ (agree_of_below hb3 _) | exact Agree.refl _ _))).low (by omega)
 ·repeat (first | refine Below.setCell ?_ (by dsimp only; omega) _ | exact hB3)
theorem infoBlock : (Tryd.prog.info? 41).map (fun i => (i.zero, i.size, i.bytes)) = some (some (.agg #[.slice none 0 0, .slice none 0 0, .int .i64 0, .int .i64 0, .int .i64 0, .int .i64 0]), 6, 80) := by kernel_rfl
set_option maxHeartbeats 2000000 in
theorem toBlockS_any (lo : Nat) (a : Option Addr) (cap : Nat) (l : List BlockD) (w : World) (hl : l.length ≤ 1048576) (hs : ∀ d ∈ l, SmBlock d) (hv : BlocksAt w lo a l) :
  Calls Tryd.prog 37 #[.slice a l.length cap] w fun e w' => ∃ u c, e = .returned (.slice u l.length c) ∧ BlocksAt w' w.heap.size u l ∧ Below w.heap.size w w' := by
 obtain ⟨i0, hi, hz0, hz1, hz2⟩ := info_parts infoBlock
 have hmk := mk_any (t := 25) l.length Tryd.underlying25 hi hz0 hz1 hz2 (by omega) hl
 clear hi hz0 hz1 hz2
 have hm := hv.1
 go_enter Tryd.func37, Tryd.ntmps37
 go_wp2_with fail
 go_loopw [4] (fun i wr => ∃ (k : Nat) (cur : Array Value), k ≤ l.length ∧ i = .int .i64 k ∧ cur.size = l.length * 6 ∧ wr.heap[w.heap.size]? = some (.cells cur 41 (0, 0)) ∧ (∀ j, j < k → (∃ u c, cur[j * 6]? = some (.slice u (l.getD j block0).phis.length c) ∧ PhisAt wr (w.heap.size + 1) u (l.getD j block0).phis) ∧ (∃ u c, cur[j * 6 + 1]? = some (.slice u (l.getD j block0).insts.length c) ∧ InstsAt wr (w.heap.size + 1) u (l.getD j block0).insts) ∧ cur[j * 6 + 2]? = some (.int .i64 (l.getD j block0).term.kind) ∧ cur[j * 6 + 3]? = some (.int .i64 (l.getD j block0).term.a) ∧ cur[j * 6 + 4]? = some (.int .i64 (l.getD j block0).term.x) ∧ cur[j * 6 + 5]? = some (.int .i64 (l.getD j block0).term.y)) ∧ Below w.heap.size w wr) (fun i _ => l.length - (intOf i).toNat)
 case atStart => exact ⟨0, _, by omega, rfl, by simp [size_madeCells], heap_alloc_at _ _, fun j hj => by omega, (Below.refl _ _).alloc (Nat.le_refl _) _⟩
 case round =>
  obtain ⟨k, cur, hk, rfl, hcs, hblk, hdone, hB⟩ := hrel
  by_cases hlt : k < l.length
  ·rcases hv.2 with rfl | ⟨b, off, rfl, hlo, hb, hcell⟩
   ·simp at hlt
   obtain ⟨⟨u0, c0, h0, k0⟩, ⟨u1, c1, h1, k1⟩, h2, h3, h4, h5⟩ := hcell k hlt
   have hsd := hs _ (getD_mem block0 l k hlt)
   generalize hd : l.getD k block0 = d at h0 h1 h2 h3 h4 h5 k0 k1 hsd
   have e0 : wr.cell? ⟨b, off + k * 6, none⟩ = some (.slice u0 d.phis.length c0) := (cell_block (hB.block b hb)).trans h0
   have m0 := k0.keep (agree_of_below hB _)
   have e1 : wr.cell? ⟨b, off + k * 6 + 1, none⟩ = some (.slice u1 d.insts.length c1) := (cell_block (hB.block b hb)).trans h1
   have m1 := k1.keep (agree_of_below hB _)
   have e2 : wr.cell? ⟨b, off + k * 6 + 2, none⟩ = some (.int .i64 d.term.kind) := (cell_block (hB.block b hb)).trans h2
   have e3 : wr.cell? ⟨b, off + k * 6 + 3, none⟩ = some (.int .i64 d.term.a) := (cell_block (hB.block b hb)).trans h3
   have e4 : wr.cell? ⟨b, off + k * 6 + 4, none⟩ = some (.int .i64 d.term.x) := (cell_block (hB.block b hb)).trans h4
   have e5 : wr.cell? ⟨b, off + k * 6 + 5, none⟩ = some (.int .i64 d.term.y) := (cell_block (hB.block b hb)).trans h5
   have HD : Hid (l.getD k block0 = d) := hd
   have HDN : Hid (∀ j, j < k → (∃ u c, cur[j * 6]? = some (.slice u (l.getD j block0).phis.length c) ∧ PhisAt wr (w.heap.size + 1) u (l.getD j block0).phis) ∧ (∃ u c, cur[j * 6 + 1]? = some (.slice u (l.getD j block0).insts.length c) ∧ InstsAt wr (w.heap.size + 1) u (l.getD j block0).insts) ∧ cur[j * 6 + 2]? = some (.int .i64 (l.getD j block0).term.kind) ∧ cur[j * 6 + 3]? = some (.int .i64 (l.getD j block0).term.a) ∧ cur[j * 6 + 4]? = some (.int .i64 (l.getD j block0).term.x) ∧ cur[j * 6 + 5]? = some (.int .i64 (l.getD j block0).term.y)) := hdone
   have HBK : Hid (wr.heap[w.heap.size]? = some (.cells cur 41 (0, 0))) := hblk
   have HB : Hid (Below w.heap.size w wr) := hB
   have hgl : w.heap.size < wr.heap.size := (Array.getElem?_eq_some_iff.1 hblk).1
   clear hcell hmk hdone hblk hB hd h0 h1 h2 h3 h4 h5
   go_wp2_with (go_at_call 57; refine (toBlock_any lo d _ _ _ _ _ hsd m0 m1).mono ?_; rintro e w1 ⟨v0, q0, v1, q1, rfl, n0, n1, hb1⟩; have hblk1 := (hb1.block w.heap.size hgl).trans HBK.out; have g0 : w1.cell? ⟨w.heap.size, k * 6, none⟩ = some (cur[k * 6]'(by omega)) := (by rw [cell_of_heap hblk1]; simp [show k * 6 < cur.size by omega]); have f0 : w1.frozen? ⟨w.heap.size, k * 6, none⟩ = false := froz_of_heap hblk1; have g1 : w1.cell? ⟨w.heap.size, k * 6 + 1, none⟩ = some (cur[k * 6 + 1]'(by omega)) := (by rw [cell_of_heap hblk1]; simp [show k * 6 + 1 < cur.size by omega]); have f1 : w1.frozen? ⟨w.heap.size, k * 6 + 1, none⟩ = false := froz_of_heap hblk1; have g2 : w1.cell? ⟨w.heap.size, k * 6 + 2, none⟩ = some (cur[k * 6 + 2]'(by omega)) := (by rw [cell_of_heap hblk1]; simp [show k * 6 + 2 < cur.size by omega]); have f2 : w1.frozen? ⟨w.heap.size, k * 6 + 2, none⟩ = false := froz_of_heap hblk1; have g3 : w1.cell? ⟨w.heap.size, k * 6 + 3, none⟩ = some (cur[k * 6 + 3]'(by omega)) := (by rw [cell_of_heap hblk1]; simp [show k * 6 + 3 < cur.size by omega]); have f3 : w1.frozen? ⟨w.heap.size, k * 6 + 3, none⟩ = false := froz_of_heap hblk1; have g4 : w1.cell? ⟨w.heap.size, k * 6 + 4, none⟩ = some (cur[k * 6 + 4]'(by omega)) := (by rw [cell_of_heap hblk1]; simp [show k * 6 + 4 < cur.size by omega]); have f4 : w1.frozen? ⟨w.heap.size, k * 6 + 4, none⟩ = false := froz_of_heap hblk1; have g5 : w1.cell? ⟨w.heap.size, k * 6 + 5, none⟩ = some (cur[k * 6 + 5]'(by omega)) := (by rw [cell_of_heap hblk1]; simp [show k * 6 + 5 < cur.size by omega]); have f5 : w1.frozen? ⟨w.heap.size, k * 6 + 5, none⟩ = false := froz_of_heap hblk1; have HBK1 : Hid (w1.heap[w.heap.size]? = some (.cells cur 41 (0, 0))) := hblk1; clear hblk1)
   go_roundw
   case rel =>
    have hblk1 := HBK1.out
    have hB := HB.out
    have hd := HD.out
    have hag : Agree (w.heap.size + 1) wr ((((((w1.setCell ⟨w.heap.size, k * 6, none⟩ (.slice v0 d.phis.length q0)).setCell ⟨w.heap.size, k * 6 + 1, none⟩ (.slice v1 d.insts.length q1)).setCell ⟨w.heap.size, k * 6 + 2, none⟩ (.int .i64 d.term.kind)).setCell ⟨w.heap.size, k * 6 + 3, none⟩ (.int .i64 d.term.a)).setCell ⟨w.heap.size, k * 6 + 4, none⟩ (.int .i64 d.term.x)).setCell ⟨w.heap.size, k * 6 + 5, none⟩ (.int .i64 d.term.y)) := (agree_of_below hb1 _).trans (by repeat (first | refine Agree.trans ?_ (agree_setCell _ _ _ _ _ (by omega)) | exact Agree.refl _ _))
    have hag1 : Agree (w.heap.size + 1) w1 ((((((w1.setCell ⟨w.heap.size, k * 6, none⟩ (.slice v0 d.phis.length q0)).setCell ⟨w.heap.size, k * 6 + 1, none⟩ (.slice v1 d.insts.length q1)).setCell ⟨w.heap.size, k * 6 + 2, none⟩ (.int .i64 d.term.kind)).setCell ⟨w.heap.size, k * 6 + 3, none⟩ (.int .i64 d.term.a)).setCell ⟨w.heap.size, k * 6 + 4, none⟩ (.int .i64 d.term.x)).setCell ⟨w.heap.size, k * 6 + 5, none⟩ (.int .i64 d.term.y)) := (by repeat (first | refine Agree.trans ?_ (agree_setCell _ _ _ _ _ (by omega)) | exact Agree.refl _ _))
    refine ⟨k + 1, ((((((cur.setIfInBounds (k * 6) (.slice v0 d.phis.length q0)).setIfInBounds (k * 6 + 1) (.slice v1 d.insts.length q1)).setIfInBounds (k * 6 + 2) (.int .i64 d.term.kind)).setIfInBounds (k * 6 + 3) (.int .i64 d.term.a)).setIfInBounds (k * 6 + 4) (.int .i64 d.term.x)).setIfInBounds (k * 6 + 5) (.int .i64 d.term.y)), by omega, by go_num, by simpa using hcs, (heap_set (heap_set (heap_set (heap_set (heap_set (heap_set hblk1)))))), fun j hj => ?_, ?_⟩
    ·by_cases hjk : j = k
     ·subst hjk
      rw [hd]
      refine ⟨⟨v0, q0, ?_, (n0.low (by omega)).keep hag1⟩, ⟨v1, q1, ?_, (n1.low (by omega)).keep hag1⟩, ?_, ?_, ?_, ?_⟩
      all_goals (repeat rw [Array.getElem?_setIfInBounds_ne (by omega)])
      all_goals (rw [Array.getElem?_setIfInBounds_self]; simp; omega)
     ·obtain ⟨⟨z0, y0, p0, x0⟩, ⟨z1, y1, p1, x1⟩, p2, p3, p4, p5⟩ := HDN.out j (by omega)
      refine ⟨⟨z0, y0, ?_, x0.keep hag⟩, ⟨z1, y1, ?_, x1.keep hag⟩, ?_, ?_, ?_, ?_⟩
      all_goals (repeat rw [Array.getElem?_setIfInBounds_ne (by omega)])
      all_goals assumption
    ·have hB1 := hB.trans (hb1.mono hB.size)
     repeat (first | refine Below.setCell ?_ (by first | (dsimp only; omega) | exact Nat.le_refl _) _ | exact hB1)
   case measure => simp [intOf]; omega
  ·have hke : k = l.length := by omega
   have HH : Hid (wr.heap[w.heap.size]? = some (.cells cur 41 (0, 0))) := hblk
   have HDN : Hid (∀ j, j < k → (∃ u c, cur[j * 6]? = some (.slice u (l.getD j block0).phis.length c) ∧ PhisAt wr (w.heap.size + 1) u (l.getD j block0).phis) ∧ (∃ u c, cur[j * 6 + 1]? = some (.slice u (l.getD j block0).insts.length c) ∧ InstsAt wr (w.heap.size + 1) u (l.getD j block0).insts) ∧ cur[j * 6 + 2]? = some (.int .i64 (l.getD j block0).term.kind) ∧ cur[j * 6 + 3]? = some (.int .i64 (l.getD j block0).term.a) ∧ cur[j * 6 + 4]? = some (.int .i64 (l.getD j block0).term.x) ∧ cur[j * 6 + 5]? = some (.int .i64 (l.getD j block0).term.y)) := hdone
   clear hmk hblk hdone
   go_wp2_with fail
   go_ret
   refine ⟨_, _, rfl, ⟨hm, .inr ⟨w.heap.size, 0, rfl, Nat.le_refl _, ?_, fun i hi => ?_⟩⟩, hB⟩
   ·exact (Array.getElem?_eq_some_iff.1 HH.out).1
   ·obtain ⟨⟨z0, y0, p0, x0⟩, ⟨z1, y1, p1, x1⟩, p2, p3, p4, p5⟩ := HDN.out i (by omega)
    simp only [Nat.zero_add, cell_of_heap HH.out]
    exact ⟨⟨z0, y0, p0, x0.low (by omega)⟩, ⟨z1, y1, p1, x1.low (by omega)⟩, p2, p3, p4, p5⟩
set_option maxHeartbeats 2000000 in
theorem toFunc_any (lo : Nat) (d : FuncD) (u0 : Option Addr) (c0 : Nat) (u2 : Option Addr) (c2 : Nat) (w : World) (hs : SmFunc d) (k0 : IntsAt w lo u0 d.params) (k2 : BlocksAt w lo u2 d.blocks) :
  Calls Tryd.prog 14 #[.agg #[.slice u0 d.params.length c0, .int .i64 d.ret, .slice u2 d.blocks.length c2]] w fun e w' => ∃ v0 q0 v2 q2, e = .returned (.agg #[.slice v0 d.params.length q0, .int .i64 d.ret, .slice v2 d.blocks.length q2]) ∧ IntsAt w' w.heap.size v0 d.params ∧ BlocksAt w' w.heap.size v2 d.blocks ∧ Below w.heap.size w w' := by
 go_enter Tryd.func14, Tryd.ntmps14
 go_wp2_with (first | (go_at_call 15; refine (toInts_any lo _ _ _ _ hs.1 (k0.keep (((agree_alloc _ _ _).trans (agree_alloc _ _ _)).trans (agree_alloc _ _ _)))).mono ?_; rintro e w1 ⟨v0, q0, rfl, n0, hb1⟩; have hcc1 := bcell hb1; have hff1 := bfroz hb1; have z1a : w.heap.size < w1.heap.size := (by have := hb1.size; simp at this; omega); have z1b : w.heap.size + 1 < w1.heap.size := (by have := hb1.size; simp at this; omega); have z1c : w.heap.size + 1 + 1 < w1.heap.size := (by have := hb1.size; simp at this; omega); have hB1 : Below w.heap.size w w1 := ((((Below.refl w.heap.size w).alloc (Nat.le_refl _) _).alloc (by first | (simp; done) | (simp; omega)) _).alloc (by first | (simp; done) | (simp; omega)) _).trans (hb1.mono (by first | (simp; done) | (simp; omega)))) | (go_at_call 37; refine (toBlockS_any lo _ _ _ _ hs.2.1 hs.2.2 (k2.keep (agree_of_below (by repeat (first | refine Below.setCell ?_ (by dsimp only; omega) _ | exact hB1)) lo))).mono ?_; rintro e w2 ⟨v2, q2, rfl, n2, hb2⟩; have hcc2 := bcell hb2; have hff2 := bfroz hb2; have z2a : w.heap.size < w2.heap.size := (by have := hb2.size; simp at this; omega); have z2b : w.heap.size + 1 < w2.heap.size := (by have := hb2.size; simp at this; omega); have z2c : w.heap.size + 1 + 1 < w2.heap.size := (by have := hb2.size; simp at this; omega); have hB2 : Below w.heap.size w w2 := Below.trans (b := _) (by repeat (first | refine Below.setCell ?_ (by dsimp only; omega) _ | exact hB1)) (hb2.mono (by first | (simp; omega) | (simp; done)))))
 have hr := (heap_set (o := 2) (v := .slice v2 d.blocks.length q2) (heap_set (o := 1) (v := .int .i64 d.ret) (heap_set (o := 0) (v := .slice v0 d.params.length q0) (heap_other (g := w.heap.size + 1) (p := ⟨w.heap.size + 1 + 1, 2, none⟩) (v := .slice v2 d.blocks.length q2) (by simp) ((hb2.block (w.heap.size + 1) (by first | (simp; done) | (simp; omega))).trans (heap_other (g := w.heap.size + 1) (p := ⟨w.heap.size + 1 + 1, 1, none⟩) (v := .int .i64 d.ret) (by simp) (heap_other (g := w.heap.size + 1) (p := ⟨w.heap.size + 1 + 1, 0, none⟩) (v := .slice v0 d.params.length q0) (by simp) ((hb1.block (w.heap.size + 1) (by first | (simp; done) | (simp; omega))).trans (heap_mid _ _ _ _)))))))))
 refine bodyPost_ret (v := .agg #[.slice v0 d.params.length q0, .int .i64 d.ret, .slice v2 d.blocks.length q2]) ((results_cell_row Tryd.results14 _ _ (w.heap.size + 1) 27 _ (0, 0) _ rfl hr Tryd.underlying27 rfl (by kernel_rfl)).trans (by rfl)) rfl ⟨v0, q0, v2, q2, rfl, ?_, ?_, ?_⟩
 ·exact ((n0.low (lo' := w.heap.size + 3) (by first | (simp; done) | (simp; omega))).keep (by repeat (first | refine Agree.trans ?_ (agree_setCell _ _ _ _ _ (by omega)) | refine Agree.trans ?_ (agree_of_below hb2 _) | exact Agree.refl _ _))).low (by omega)
 ·exact ((n2.low (lo' := w.heap.size + 3) (by first | (simp; omega) | (simp; done))).keep (by repeat (first | refine Agree.trans ?_ (agree_setCell _ _ _ _ _ (by omega)) | exact Agree.refl _ _))).low (by omega)
 ·repeat (first | refine Below.setCell ?_ (by dsimp only; omega) _ | exact hB2)
end Go.Proofs.YtenbodghkpbghaaDoor
namespace Go.Proofs.YtenbodghkpbghaaDoor
open Go.RowKit
def cntB (d : BlockD) : Nat := d.phis.length + d.insts.length
def cntL : List BlockD → Nat
 | [] => 0
 | d :: r => cntB d + cntL r
def cntF (d : FuncD) : Nat := d.params.length + cntL d.blocks
theorem cntL_append (a b : List BlockD) : cntL (a ++ b) = cntL a + cntL b := by
 induction a with
 | nil => simp [cntL]
 | cons d r ih => simp [cntL, ih]; omega
theorem cntL_take (l : List BlockD) (k : Nat) (h : k < l.length) : cntL (l.take (k + 1)) = cntL (l.take k) + cntB (l.getD k block0) := by
 rw [List.take_succ_eq_append_getElem h, cntL_append]
 simp [cntL, List.getD, h]
theorem cntL_le (l : List BlockD) (hs : ∀ d ∈ l, SmBlock d) : cntL l ≤ l.length * 2097152 := by
 induction l with
 | nil => simp [cntL]
 | cons d r ih =>
  have h1 := ih fun x hx => hs x (List.mem_cons_of_mem _ hx)
  have h2 := hs d (List.mem_cons_self ..)
  have h3 := h2.1.1
  have h4 := h2.2.1
  simp only [cntL, cntB, List.length_cons]; omega
theorem cnt_take_le (l : List BlockD) (k : Nat) (hl : l.length ≤ 1048576) (hs : ∀ d ∈ l, SmBlock d) : cntL (l.take k) ≤ 2199023255552 := by
 have h := cntL_le (l.take k) fun d hd => hs d (List.mem_of_mem_take hd)
 have : (l.take k).length ≤ 1048576 := by simp; omega
 omega
set_option maxHeartbeats 2000000 in
theorem countS_any (lo : Nat) (d : FuncD) (u0 : Option Addr) (c0 : Nat) (u2 : Option Addr) (c2 : Nat) (w : World) (hs : SmFunc d) (k2 : BlocksAt w lo u2 d.blocks) :
  Calls Tryd.prog 23 #[.agg #[.slice u0 d.params.length c0, .int .i64 d.ret, .slice u2 d.blocks.length c2]] w fun e w' => e = .returned (.int .i64 (cntF d)) ∧ Below w.heap.size w w' := by
 have hp := hs.1
 have hbl := hs.2.1
 have HS : Hid (∀ p ∈ d.blocks, SmBlock p) := hs.2.2
 clear hs
 go_enter Tryd.func23, Tryd.ntmps23
 go_wp2_with fail
 go_loopw [3, 4] (fun n i wr => ∃ k : Nat, k ≤ d.blocks.length ∧ i = .int .i64 k ∧ n = .int .i64 ((d.params.length : Int) + (cntL (d.blocks.take k) : Int)) ∧ Below (w.heap.size + 1) (w.alloc (.cells #[.slice u0 d.params.length c0, .int .i64 d.ret, .slice u2 d.blocks.length c2] 27)) wr) (fun _ i _ => d.blocks.length - (intOf i).toNat)
 case atStart => exact ⟨0, by omega, rfl, by simp [cntL], Below.refl _ _⟩
 case round =>
  obtain ⟨k, hk, rfl, rfl, hB⟩ := hrel
  have b2 : wr.cell? ⟨w.heap.size, 2, none⟩ = some (.slice u2 d.blocks.length c2) := (cell_block (hB.block w.heap.size (by omega))).trans (by simp)
  have hW : Below w.heap.size w wr := ((Below.refl w.heap.size w).alloc (Nat.le_refl _) _).trans (hB.mono (by omega))
  have hct := cnt_take_le d.blocks k hbl HS.out
  by_cases hlt : k < d.blocks.length
  ·rcases k2.2 with hn | ⟨b, off, rfl, hlo, hb, hcell⟩
   ·simp [hn] at hlt
   obtain ⟨⟨v0, q0, h0, _⟩, ⟨v1, q1, h1, _⟩, _⟩ := hcell k hlt
   have htk := cntL_take d.blocks k hlt
   have hsm := HS.out _ (getD_mem block0 d.blocks k hlt)
   generalize d.blocks.getD k block0 = x at h0 h1 htk hsm
   have e0 : wr.cell? ⟨b, off + k * 6, none⟩ = some (.slice v0 x.phis.length q0) := (cell_block (hW.block b hb)).trans h0
   have e1 : wr.cell? ⟨b, off + k * 6 + 1, none⟩ = some (.slice v1 x.insts.length q1) := (cell_block (hW.block b hb)).trans h1
   have s0 := hsm.1.1
   have s1 := hsm.2.1
   have HT : Hid (cntL (d.blocks.take (k + 1)) = cntL (d.blocks.take k) + cntB x) := htk
   have HB : Hid (Below (w.heap.size + 1) (w.alloc (.cells #[.slice u0 d.params.length c0, .int .i64 d.ret, .slice (some ⟨b, off, none⟩) d.blocks.length c2] 27)) wr) := hB
   clear hcell h0 h1 htk hsm hB hW k2
   go_wp2_with fail
   go_quiet (fail)
   go_wp2_with fail
   go_roundw
   case rel => exact ⟨k + 1, by omega, by go_num, congrArg (Value.int .i64) (by rw [HT.out]; unfold cntB; omega), below_drewN HB.out _⟩
   case measure => simp [intOf]; omega
  ·have hke : k = d.blocks.length := by omega
   clear hB
   go_wp2_with fail
   go_ret
   exact ⟨ret_i (by rw [hke, List.take_length]; unfold cntF; omega), hW⟩
set_option maxHeartbeats 2000000 in
theorem countI_any (lo : Nat) (d : FuncD) (u0 : Option Addr) (c0 : Nat) (u2 : Option Addr) (c2 : Nat) (w : World) (hs : SmFunc d) (k2 : BlocksAt w lo u2 d.blocks) :
  Calls Tryd.prog 10 #[.agg #[.slice u0 d.params.length c0, .int .i64 d.ret, .slice u2 d.blocks.length c2]] w fun e w' => e = .returned (.int .i64 (cntF d)) ∧ Below w.heap.size w w' := by
 have hp := hs.1
 have hbl := hs.2.1
 have HS : Hid (∀ p ∈ d.blocks, SmBlock p) := hs.2.2
 clear hs
 go_enter Tryd.func10, Tryd.ntmps10
 go_wp2_with fail
 go_loopw [3, 12] (fun n i wr => ∃ k : Nat, k ≤ d.blocks.length ∧ i = .int .i64 k ∧ n = .int .i64 ((d.params.length : Int) + (cntL (d.blocks.take k) : Int)) ∧ Below w.heap.size w wr) (fun _ i _ => d.blocks.length - (intOf i).toNat)
 case atStart => exact ⟨0, by omega, rfl, by simp [cntL], (Below.refl _ _).alloc (Nat.le_refl _) _⟩
 case round =>
  obtain ⟨k, hk, rfl, rfl, hW⟩ := hrel
  have hct := cnt_take_le d.blocks k hbl HS.out
  by_cases hlt : k < d.blocks.length
  ·rcases k2.2 with hn | ⟨b, off, rfl, hlo, hb, hcell⟩
   ·simp [hn] at hlt
   obtain ⟨⟨v0, q0, h0, _⟩, ⟨v1, q1, h1, _⟩, h2, h3, h4, h5⟩ := hcell k hlt
   have htk := cntL_take d.blocks k hlt
   have hsm := HS.out _ (getD_mem block0 d.blocks k hlt)
   generalize d.blocks.getD k block0 = x at h0 h1 h2 h3 h4 h5 htk hsm
   have e0 : wr.cell? ⟨b, off + k * 6, none⟩ = some (.slice v0 x.phis.length q0) := (cell_block (hW.block b hb)).trans h0
   have e1 : wr.cell? ⟨b, off + k * 6 + 1, none⟩ = some (.slice v1 x.insts.length q1) := (cell_block (hW.block b hb)).trans h1
   have e2 : wr.cell? ⟨b, off + k * 6 + 2, none⟩ = some (.int .i64 x.term.kind) := (cell_block (hW.block b hb)).trans h2
   have e3 : wr.cell? ⟨b, off + k * 6 + 3, none⟩ = some (.int .i64 x.term.a) := (cell_block (hW.block b hb)).trans h3
   have e4 : wr.cell? ⟨b, off + k * 6 + 4, none⟩ = some (.int .i64 x.term.x) := (cell_block (hW.block b hb)).trans h4
   have e5 : wr.cell? ⟨b, off + k * 6 + 5, none⟩ = some (.int .i64 x.term.y) := (cell_block (hW.block b hb)).trans h5
   have s0 := hsm.1.1
   have s1 := hsm.2.1
   have HT : Hid (cntL (d.blocks.take (k + 1)) = cntL (d.blocks.take k) + cntB x) := htk
   have HB : Hid (Below w.heap.size w wr) := hW
   clear hcell h0 h1 h2 h3 h4 h5 htk hsm hW k2
   go_wp2_with fail
   go_roundw
   case rel => exact ⟨k + 1, by omega, by go_num, congrArg (Value.int .i64) (by rw [HT.out]; unfold cntB; omega), HB.out.alloc HB.out.size _⟩
   case measure => simp [intOf]; omega
  ·have hke : k = d.blocks.length := by omega
   go_wp2_with fail
   go_ret
   exact ⟨ret_i (by rw [hke, List.take_length]; unfold cntF; omega), hW⟩
end Go.Proofs.YtenbodghkpbghaaDoor
namespace Go.Proofs.YtenbodghkpbghaaDoor
open Go.RowKit
end Go.Proofs.YtenbodghkpbghaaDoor
namespace Go.Proofs.YtenbodghkpbghaaDoor
open Go.RowKit
end Go.Proofs.YtenbodghkpbghaaDoor
namespace Go.Proofs.YtenbodghkpbghaaDoor
open Go.RowKit
end Go.Proofs.YtenbodghkpbghaaDoor
namespace Go.Proofs.YtenbodghkpbghaaDoor
open Go.RowKit
end Go.Proofs.YtenbodghkpbghaaDoor
namespace Go.Proofs.YtenbodghkpbghaaDoor
open Go.RowKit
theorem results_cell_row_tmp {P : Program} {fn : Func} {p u : Tmp} {ty : TypeId} (h : fn.results = #[.cell p ty, .tmp u]) (tmps : Array Value) (w : World) (g : Nat) (cs : Array Value)
  (hp : tmps.getD p undef = .pointer (some ⟨g, 0, none⟩)) (hl : (loadVar ty ⟨g, 0, none⟩).run P w = .ok (.agg cs) w) :
  (results fn tmps).run P w = .ok (.tuple #[.agg cs, tmps.getD u undef]) w := by
 have hp' : tmps[p]?.getD undef = .pointer (some ⟨g, 0, none⟩) := by simpa using hp
 rw [results_cell_tmp h]
 simp [hp', asAddr, hl, Result.andThen]
theorem drew_heap (w : World) (i : Nat) : w.drew.heap[i]? = w.heap[i]? := rfl
end Go.Proofs.YtenbodghkpbghaaDoor
namespace Go.Proofs.YtenbodghkpbghaaDoor
open Go.RowKit
end Go.Proofs.YtenbodghkpbghaaDoor
namespace Go.Proofs.YtenbodghkpbghaaDoor
open Go.RowKit
end Go.Proofs.YtenbodghkpbghaaDoor
namespace Go.Proofs.YtenbodghkpbghaaDoor
open Go.RowKit
end Go.Proofs.YtenbodghkpbghaaDoor
namespace Go.Proofs.YtenbodghkpbghaaDoor
open Go.RowKit
set_option linter.unusedVariables false
def belowB (n c : Int) : Bool := decide (0 ≤ n) && decide (n < c)
def termB (t : TermD) (ids blocks : Int) : Bool :=
 if t.kind = 1 then belowB t.a ids && t.x == 0 && t.y == 0
 else if t.kind = 2 then belowB t.x blocks && t.a == 0 && t.y == 0
 else if t.kind = 3 then belowB t.a ids && belowB t.x blocks && belowB t.y blocks && t.x != t.y
 else t.kind == 4 && t.a == 0 && t.x == 0 && t.y == 0
theorem in_below (n c : Int) : (decide (0 ≤ n) && decide (n ≤ c - 1)) = belowB n c := by
 unfold belowB
 by_cases h : n < c
 ·rw [decide_eq_true h, decide_eq_true (show n ≤ c - 1 by omega)]
 ·rw [decide_eq_false h, decide_eq_false (show ¬ n ≤ c - 1 by omega)]
theorem inB (n c : Int) (w : World) : Calls Tryd.prog 30 #[.int .i64 n, .int .i64 0, .int .i64 (c - 1)] w fun e w' => e = .returned (.bool (belowB n c)) ∧ w' = w := by
 have h := inS n 0 (c - 1) w
 rw [in_below] at h
 exact h
theorem belowFI (n c : Int) (w : World) : Calls Tryd.prog 46 #[.int .i64 n, .int .i64 c] w fun e w' => e = .returned (.bool (belowB n c)) ∧ w' = w := by
 by_cases h0 : 0 ≤ n
 ·by_cases h1 : n < c
  ·have E : Hid (true = belowB n c) := by show _ = _; rw [belowB, decide_eq_true h0, decide_eq_true h1]; rfl
   go_enter Tryd.func46, Tryd.ntmps46
   go_wp2_with fail
   go_ret
   exact ⟨ret_bool (by simpa [h0, h1] using E.out), rfl⟩
  ·have E : Hid (false = belowB n c) := by show _ = _; rw [belowB, decide_eq_true h0, decide_eq_false h1]; rfl
   go_enter Tryd.func46, Tryd.ntmps46
   go_wp2_with fail
   go_ret
   exact ⟨ret_bool (by simpa [h0, h1] using E.out), rfl⟩
 ·have E : Hid (false = belowB n c) := by show _ = _; rw [belowB, decide_eq_false h0]; rfl
  go_enter Tryd.func46, Tryd.ntmps46
  go_wp2_with fail
  go_ret
  exact ⟨ret_bool (by simpa [h0] using E.out), rfl⟩
theorem all_no {α : Type} (z : α) {f : α → Bool} (l : List α) (k : Nat) (h : k < l.length) (hn : ¬ f (l.getD k z) = true) : l.all f = false := by
 rw [List.all_eq_false]
 exact ⟨_, getD_mem z l k h, hn⟩
theorem all_yes {α : Type} (z : α) {f : α → Bool} (l : List α) (h : ∀ j, j < l.length → f (l.getD j z) = true) : l.all f = true := by
 rw [List.all_eq_true]
 intro x hx
 obtain ⟨j, hj, e⟩ := List.getElem_of_mem hx
 have := h j hj
 simp [List.getD, hj] at this
 rw [← e]; exact this
set_option maxHeartbeats 1000000 in
theorem allBelowI (lo : Nat) (a : Option Addr) (cap : Nat) (l : List Int) (c : Int) (w : World) (hv : IntsAt w lo a l) :
  Calls Tryd.prog 27 #[.slice a l.length cap, .int .i64 c] w fun e w' => e = .returned (.bool (l.all fun n => belowB n c)) ∧ w' = w := by
 have hm := hv.1
 go_enter Tryd.func27, Tryd.ntmps27
 go_wp2_with fail
 go_loop [9] (fun i => ∃ k : Nat, k ≤ l.length ∧ i = .int .i64 k ∧ Hid (∀ j, j < k → (fun n => belowB n c) (l.getD j 0) = true)) (fun i => l.length - (intOf i).toNat)
 case atStart => exact ⟨0, by omega, rfl, fun j hj => by omega⟩
 case round =>
  obtain ⟨k, hk, rfl, HD⟩ := hrel
  by_cases hlt : k < l.length
  ·rcases hv.2 with rfl | ⟨b, off, rfl, hlo, hb, hcell⟩
   ·simp at hlt
   have e0 := hcell k hlt
   generalize hx : l.getD k 0 = x at e0
   have HX : Hid (l.getD k 0 = x) := hx
   clear hcell hx hv
   by_cases hp : (fun n => belowB n c) x = true
   ·have HP : Hid ((fun n => belowB n c) x = true) := hp
    dsimp only at hp
    go_wp2_with (go_at_call 46; refine (belowFI _ _ _).mono ?_; rintro e w' ⟨rfl, rfl⟩)
    exact ⟨⟨k + 1, by omega, by go_num, fun j hj => by
     by_cases e : j = k
     ·subst e; rw [HX.out]; exact HP.out
     ·exact HD.out j (by omega)⟩, by simp only [intOf]; omega⟩
   ·have HP : Hid (¬ (fun n => belowB n c) x = true) := hp
    dsimp only at hp
    have hp2 := Bool.eq_false_iff.2 hp
    clear hp
    go_wp2_with (go_at_call 46; refine (belowFI _ _ _).mono ?_; rintro e w' ⟨rfl, rfl⟩)
    go_ret
    refine ⟨ret_bool ?_, rfl⟩
    exact (all_no 0 l k hlt (by rw [HX.out]; exact HP.out)).symm
  ·have hke : k = l.length := by omega
   go_wp2_with fail
   go_ret
   exact ⟨ret_bool (all_yes 0 l (fun j hj => HD.out j (by omega))).symm, rfl⟩
set_option maxHeartbeats 1000000 in
theorem allWidthsI (lo : Nat) (a : Option Addr) (cap : Nat) (l : List Int) (w : World) (hv : IntsAt w lo a l) :
  Calls Tryd.prog 71 #[.slice a l.length cap] w fun e w' => e = .returned (.bool (l.all fun n => widthB n)) ∧ w' = w := by
 have hm := hv.1
 go_enter Tryd.func71, Tryd.ntmps71
 go_wp2_with fail
 go_loop [7] (fun i => ∃ k : Nat, k ≤ l.length ∧ i = .int .i64 k ∧ Hid (∀ j, j < k → (fun n => widthB n) (l.getD j 0) = true)) (fun i => l.length - (intOf i).toNat)
 case atStart => exact ⟨0, by omega, rfl, fun j hj => by omega⟩
 case round =>
  obtain ⟨k, hk, rfl, HD⟩ := hrel
  by_cases hlt : k < l.length
  ·rcases hv.2 with rfl | ⟨b, off, rfl, hlo, hb, hcell⟩
   ·simp at hlt
   have e0 := hcell k hlt
   generalize hx : l.getD k 0 = x at e0
   have HX : Hid (l.getD k 0 = x) := hx
   clear hcell hx hv
   by_cases hp : (fun n => widthB n) x = true
   ·have HP : Hid ((fun n => widthB n) x = true) := hp
    dsimp only at hp
    go_wp2_with (go_at_call 72; refine (widthI _ _).mono ?_; rintro e w' ⟨rfl, rfl⟩)
    exact ⟨⟨k + 1, by omega, by go_num, fun j hj => by
     by_cases e : j = k
     ·subst e; rw [HX.out]; exact HP.out
     ·exact HD.out j (by omega)⟩, by simp only [intOf]; omega⟩
   ·have HP : Hid (¬ (fun n => widthB n) x = true) := hp
    dsimp only at hp
    have hp2 := Bool.eq_false_iff.2 hp
    clear hp
    go_wp2_with (go_at_call 72; refine (widthI _ _).mono ?_; rintro e w' ⟨rfl, rfl⟩)
    go_ret
    refine ⟨ret_bool ?_, rfl⟩
    exact (all_no 0 l k hlt (by rw [HX.out]; exact HP.out)).symm
  ·have hke : k = l.length := by omega
   go_wp2_with fail
   go_ret
   exact ⟨ret_bool (all_yes 0 l (fun j hj => HD.out j (by omega))).symm, rfl⟩
set_option maxHeartbeats 1000000 in
theorem termShI1 (a x y ids blocks funcs : Int) (w : World) :
  Calls Tryd.prog 97 #[.agg #[.int .i64 1, .int .i64 a, .int .i64 x, .int .i64 y], .agg #[.int .i64 ids, .int .i64 blocks, .int .i64 funcs]] w fun e w' => e = .returned (.bool (termB ⟨1, a, x, y⟩ ids blocks)) ∧ Below w.heap.size w w' := by
 go_enter Tryd.func97, Tryd.ntmps97
 go_wp2_with (go_at_call 46; refine (belowFI _ _ _).mono ?_; rintro e w' ⟨rfl, rfl⟩)
 all_goals
  go_ret
  refine ⟨ret_bool ?_, ((Below.refl _ _).alloc (Nat.le_refl _) _).alloc (by simp) _⟩
  simp_all [termB]
set_option maxHeartbeats 1000000 in
theorem termShS1 (a x y ids blocks : Int) (w : World) (g0 : 0 ≤ ids) (g1 : ids ≤ 4611686018427387904) (g2 : 0 ≤ blocks) (g3 : blocks ≤ 4611686018427387904) :
  Calls Tryd.prog 50 #[.agg #[.int .i64 1, .int .i64 a, .int .i64 x, .int .i64 y], .int .i64 ids, .int .i64 blocks] w fun e w' => e = .returned (.bool (termB ⟨1, a, x, y⟩ ids blocks)) ∧ Below w.heap.size w w' := by
 go_enter Tryd.func50, Tryd.ntmps50
 go_wp2_with (go_at_call 30; refine (inB _ _ _).mono ?_; rintro e w' ⟨rfl, rfl⟩)
 all_goals
  go_ret
  refine ⟨ret_bool ?_, (Below.refl _ _).alloc (Nat.le_refl _) _⟩
  simp_all [termB]
set_option maxHeartbeats 1000000 in
theorem termShI2 (a x y ids blocks funcs : Int) (w : World) :
  Calls Tryd.prog 97 #[.agg #[.int .i64 2, .int .i64 a, .int .i64 x, .int .i64 y], .agg #[.int .i64 ids, .int .i64 blocks, .int .i64 funcs]] w fun e w' => e = .returned (.bool (termB ⟨2, a, x, y⟩ ids blocks)) ∧ Below w.heap.size w w' := by
 go_enter Tryd.func97, Tryd.ntmps97
 go_wp2_with (go_at_call 46; refine (belowFI _ _ _).mono ?_; rintro e w' ⟨rfl, rfl⟩)
 all_goals
  go_ret
  refine ⟨ret_bool ?_, ((Below.refl _ _).alloc (Nat.le_refl _) _).alloc (by simp) _⟩
  simp_all [termB]
set_option maxHeartbeats 1000000 in
theorem termShS2 (a x y ids blocks : Int) (w : World) (g0 : 0 ≤ ids) (g1 : ids ≤ 4611686018427387904) (g2 : 0 ≤ blocks) (g3 : blocks ≤ 4611686018427387904) :
  Calls Tryd.prog 50 #[.agg #[.int .i64 2, .int .i64 a, .int .i64 x, .int .i64 y], .int .i64 ids, .int .i64 blocks] w fun e w' => e = .returned (.bool (termB ⟨2, a, x, y⟩ ids blocks)) ∧ Below w.heap.size w w' := by
 go_enter Tryd.func50, Tryd.ntmps50
 go_wp2_with (go_at_call 30; refine (inB _ _ _).mono ?_; rintro e w' ⟨rfl, rfl⟩)
 all_goals
  go_ret
  refine ⟨ret_bool ?_, (Below.refl _ _).alloc (Nat.le_refl _) _⟩
  simp_all [termB]
set_option maxHeartbeats 1000000 in
theorem termShI3 (a x y ids blocks funcs : Int) (w : World) :
  Calls Tryd.prog 97 #[.agg #[.int .i64 3, .int .i64 a, .int .i64 x, .int .i64 y], .agg #[.int .i64 ids, .int .i64 blocks, .int .i64 funcs]] w fun e w' => e = .returned (.bool (termB ⟨3, a, x, y⟩ ids blocks)) ∧ Below w.heap.size w w' := by
 go_enter Tryd.func97, Tryd.ntmps97
 go_wp2_with (go_at_call 46; refine (belowFI _ _ _).mono ?_; rintro e w' ⟨rfl, rfl⟩)
 all_goals
  go_ret
  refine ⟨ret_bool ?_, ((Below.refl _ _).alloc (Nat.le_refl _) _).alloc (by simp) _⟩
  simp_all [termB]
set_option maxHeartbeats 1000000 in
theorem termShS3 (a x y ids blocks : Int) (w : World) (g0 : 0 ≤ ids) (g1 : ids ≤ 4611686018427387904) (g2 : 0 ≤ blocks) (g3 : blocks ≤ 4611686018427387904) :
  Calls Tryd.prog 50 #[.agg #[.int .i64 3, .int .i64 a, .int .i64 x, .int .i64 y], .int .i64 ids, .int .i64 blocks] w fun e w' => e = .returned (.bool (termB ⟨3, a, x, y⟩ ids blocks)) ∧ Below w.heap.size w w' := by
 go_enter Tryd.func50, Tryd.ntmps50
 go_wp2_with (go_at_call 30; refine (inB _ _ _).mono ?_; rintro e w' ⟨rfl, rfl⟩)
 all_goals
  go_ret
  refine ⟨ret_bool ?_, (Below.refl _ _).alloc (Nat.le_refl _) _⟩
  simp_all [termB]
set_option maxHeartbeats 1000000 in
theorem termShI4 (a x y ids blocks funcs : Int) (w : World) :
  Calls Tryd.prog 97 #[.agg #[.int .i64 4, .int .i64 a, .int .i64 x, .int .i64 y], .agg #[.int .i64 ids, .int .i64 blocks, .int .i64 funcs]] w fun e w' => e = .returned (.bool (termB ⟨4, a, x, y⟩ ids blocks)) ∧ Below w.heap.size w w' := by
 go_enter Tryd.func97, Tryd.ntmps97
 go_wp2_with (go_at_call 46; refine (belowFI _ _ _).mono ?_; rintro e w' ⟨rfl, rfl⟩)
 all_goals
  go_ret
  refine ⟨ret_bool ?_, ((Below.refl _ _).alloc (Nat.le_refl _) _).alloc (by simp) _⟩
  simp_all [termB]
set_option maxHeartbeats 1000000 in
theorem termShS4 (a x y ids blocks : Int) (w : World) (g0 : 0 ≤ ids) (g1 : ids ≤ 4611686018427387904) (g2 : 0 ≤ blocks) (g3 : blocks ≤ 4611686018427387904) :
  Calls Tryd.prog 50 #[.agg #[.int .i64 4, .int .i64 a, .int .i64 x, .int .i64 y], .int .i64 ids, .int .i64 blocks] w fun e w' => e = .returned (.bool (termB ⟨4, a, x, y⟩ ids blocks)) ∧ Below w.heap.size w w' := by
 go_enter Tryd.func50, Tryd.ntmps50
 go_wp2_with (go_at_call 30; refine (inB _ _ _).mono ?_; rintro e w' ⟨rfl, rfl⟩)
 all_goals
  go_ret
  refine ⟨ret_bool ?_, (Below.refl _ _).alloc (Nat.le_refl _) _⟩
  simp_all [termB]
set_option maxHeartbeats 1000000 in
theorem termShI0 (k a x y ids blocks funcs : Int) (w : World) (h1 : ¬ k = 1) (h2 : ¬ k = 2) (h3 : ¬ k = 3) (h4 : ¬ k = 4) :
  Calls Tryd.prog 97 #[.agg #[.int .i64 k, .int .i64 a, .int .i64 x, .int .i64 y], .agg #[.int .i64 ids, .int .i64 blocks, .int .i64 funcs]] w fun e w' => e = .returned (.bool (termB ⟨k, a, x, y⟩ ids blocks)) ∧ Below w.heap.size w w' := by
 go_enter Tryd.func97, Tryd.ntmps97
 go_wp2_with (go_at_call 46; refine (belowFI _ _ _).mono ?_; rintro e w' ⟨rfl, rfl⟩)
 go_ret
 refine ⟨ret_bool ?_, ((Below.refl _ _).alloc (Nat.le_refl _) _).alloc (by simp) _⟩
 simp [termB, h1, h2, h3, h4]
set_option maxHeartbeats 1000000 in
theorem termShS0 (k a x y ids blocks : Int) (w : World) (g0 : 0 ≤ ids) (g1 : ids ≤ 4611686018427387904) (g2 : 0 ≤ blocks) (g3 : blocks ≤ 4611686018427387904) (h1 : ¬ k = 1) (h2 : ¬ k = 2) (h3 : ¬ k = 3) (h4 : ¬ k = 4) :
  Calls Tryd.prog 50 #[.agg #[.int .i64 k, .int .i64 a, .int .i64 x, .int .i64 y], .int .i64 ids, .int .i64 blocks] w fun e w' => e = .returned (.bool (termB ⟨k, a, x, y⟩ ids blocks)) ∧ Below w.heap.size w w' := by
 have g4 : (k == 4) = false := by simpa using h4
 go_enter Tryd.func50, Tryd.ntmps50
 go_wp2_with (go_at_call 30; refine (inB _ _ _).mono ?_; rintro e w' ⟨rfl, rfl⟩)
 all_goals
  go_ret
  refine ⟨ret_bool ?_, (Below.refl _ _).alloc (Nat.le_refl _) _⟩
  simp_all [termB]
theorem termShI (t : TermD) (ids blocks funcs : Int) (w : World) :
  Calls Tryd.prog 97 #[.agg #[.int .i64 t.kind, .int .i64 t.a, .int .i64 t.x, .int .i64 t.y], .agg #[.int .i64 ids, .int .i64 blocks, .int .i64 funcs]] w fun e w' => e = .returned (.bool (termB t ids blocks)) ∧ Below w.heap.size w w' := by
 obtain ⟨k, a, x, y⟩ := t
 by_cases h1 : k = 1
 ·subst h1; exact termShI1 a x y ids blocks funcs w
 by_cases h2 : k = 2
 ·subst h2; exact termShI2 a x y ids blocks funcs w
 by_cases h3 : k = 3
 ·subst h3; exact termShI3 a x y ids blocks funcs w
 by_cases h4 : k = 4
 ·subst h4; exact termShI4 a x y ids blocks funcs w
 exact termShI0 k a x y ids blocks funcs w h1 h2 h3 h4
theorem termShS (t : TermD) (ids blocks : Int) (w : World) (g0 : 0 ≤ ids) (g1 : ids ≤ 4611686018427387904) (g2 : 0 ≤ blocks) (g3 : blocks ≤ 4611686018427387904) :
  Calls Tryd.prog 50 #[.agg #[.int .i64 t.kind, .int .i64 t.a, .int .i64 t.x, .int .i64 t.y], .int .i64 ids, .int .i64 blocks] w fun e w' => e = .returned (.bool (termB t ids blocks)) ∧ Below w.heap.size w w' := by
 obtain ⟨k, a, x, y⟩ := t
 by_cases h1 : k = 1
 ·subst h1; exact termShS1 a x y ids blocks w g0 g1 g2 g3
 by_cases h2 : k = 2
 ·subst h2; exact termShS2 a x y ids blocks w g0 g1 g2 g3
 by_cases h3 : k = 3
 ·subst h3; exact termShS3 a x y ids blocks w g0 g1 g2 g3
 by_cases h4 : k = 4
 ·subst h4; exact termShS4 a x y ids blocks w g0 g1 g2 g3
 exact termShS0 k a x y ids blocks w g0 g1 g2 g3 h1 h2 h3 h4
end Go.Proofs.YtenbodghkpbghaaDoor
namespace Go.Proofs.YtenbodghkpbghaaDoor
open Go.RowKit
set_option linter.unusedVariables false
def wB (d : InstD) : Bool := if d.op < 1 ∨ 27 < d.op then false else if d.op = 24 ∨ d.op = 25 then d.w == 0 else if d.op = 23 then d.w == 8 else widthB d.w
def iB (d : InstD) (funcs : Int) : Bool := if d.op = 21 then valueB d.w d.imm else if d.op = 26 then belowB d.imm funcs else d.imm == 0
def fB (d : InstD) : Bool :=
 if d.op = 26 then decide (d.args.length ≤ 4) && d.a == 0 && d.b == 0 && d.c == 0
 else decide (d.args.length = 0) && (decide (1 ≤ (opsD d).length) || d.a == 0) && (decide (2 ≤ (opsD d).length) || d.b == 0) && (decide (3 ≤ (opsD d).length) || d.c == 0)
def instB (d : InstD) (ids funcs : Int) : Bool := wB d && iB d funcs && fB d && (opsD d).all fun n => belowB n ids
set_option maxRecDepth 100000 in
theorem wI_no (d : InstD) (u : Option Addr) (q : Nat) (w : World) (ho : opB d.op = false) (h : d.op < 1 ∨ 27 < d.op) : Calls Tryd.prog 109 #[.agg #[.int .i64 d.op, .int .i64 d.w, .int .i64 d.a, .int .i64 d.b, .int .i64 d.c, .int .i64 d.imm, .slice u d.args.length q], kindV d u q] w fun e w' => e = .returned (.bool (wB d)) ∧ Below w.heap.size w w' := by
 rw [kv_no ho h]
 have E : Hid (false = wB d) := by show _ = _; rw [wB, if_pos h]
 have A := as_strangeKind_strangeKind
 go_enter Tryd.func109, Tryd.ntmps109
 go_wp2_with (go_at_call 72; refine (widthI _ _).mono ?_; rintro e w' ⟨rfl, rfl⟩)
 go_ret
 exact ⟨ret_bool E.out, (Below.refl _ _).alloc (Nat.le_refl _) _⟩
set_option maxRecDepth 100000 in
theorem wI_24 (d : InstD) (u : Option Addr) (q : Nat) (w : World) (h : d.op = 24) : Calls Tryd.prog 109 #[.agg #[.int .i64 d.op, .int .i64 d.w, .int .i64 d.a, .int .i64 d.b, .int .i64 d.c, .int .i64 d.imm, .slice u d.args.length q], kindV d u q] w fun e w' => e = .returned (.bool (wB d)) ∧ Below w.heap.size w w' := by
 rw [kv_24 h]
 have E : Hid ((d.w == 0) = wB d) := by show _ = _; rw [wB, h]; rfl
 have A_strange := as_storeKind_strangeKind
 have A_store := as_storeKind_storeKind
 have A_print := as_storeKind_printKind
 have A_load := as_storeKind_loadKind
 go_enter Tryd.func109, Tryd.ntmps109
 go_wp2_with (go_at_call 72; refine (widthI _ _).mono ?_; rintro e w' ⟨rfl, rfl⟩)
 go_ret
 exact ⟨ret_bool E.out, (Below.refl _ _).alloc (Nat.le_refl _) _⟩
set_option maxRecDepth 100000 in
theorem wI_25 (d : InstD) (u : Option Addr) (q : Nat) (w : World) (h : d.op = 25) : Calls Tryd.prog 109 #[.agg #[.int .i64 d.op, .int .i64 d.w, .int .i64 d.a, .int .i64 d.b, .int .i64 d.c, .int .i64 d.imm, .slice u d.args.length q], kindV d u q] w fun e w' => e = .returned (.bool (wB d)) ∧ Below w.heap.size w w' := by
 rw [kv_25 h]
 have E : Hid ((d.w == 0) = wB d) := by show _ = _; rw [wB, h]; rfl
 have A_strange := as_printKind_strangeKind
 have A_store := as_printKind_storeKind
 have A_print := as_printKind_printKind
 have A_load := as_printKind_loadKind
 go_enter Tryd.func109, Tryd.ntmps109
 go_wp2_with (go_at_call 72; refine (widthI _ _).mono ?_; rintro e w' ⟨rfl, rfl⟩)
 go_ret
 exact ⟨ret_bool E.out, (Below.refl _ _).alloc (Nat.le_refl _) _⟩
set_option maxRecDepth 100000 in
theorem wI_23 (d : InstD) (u : Option Addr) (q : Nat) (w : World) (h : d.op = 23) : Calls Tryd.prog 109 #[.agg #[.int .i64 d.op, .int .i64 d.w, .int .i64 d.a, .int .i64 d.b, .int .i64 d.c, .int .i64 d.imm, .slice u d.args.length q], kindV d u q] w fun e w' => e = .returned (.bool (wB d)) ∧ Below w.heap.size w w' := by
 rw [kv_23 h]
 have E : Hid ((d.w == 8) = wB d) := by show _ = _; rw [wB, h]; rfl
 have A_strange := as_loadKind_strangeKind
 have A_store := as_loadKind_storeKind
 have A_print := as_loadKind_printKind
 have A_load := as_loadKind_loadKind
 go_enter Tryd.func109, Tryd.ntmps109
 go_wp2_with (go_at_call 72; refine (widthI _ _).mono ?_; rintro e w' ⟨rfl, rfl⟩)
 go_ret
 exact ⟨ret_bool E.out, (Below.refl _ _).alloc (Nat.le_refl _) _⟩
set_option maxRecDepth 100000 in
theorem wI_more (d : InstD) (u : Option Addr) (q : Nat) (w : World) (h1 : 1 ≤ d.op ∧ d.op ≤ 27) (h4 : ¬ d.op = 24) (h5 : ¬ d.op = 25) (h3 : ¬ d.op = 23) : Calls Tryd.prog 109 #[.agg #[.int .i64 d.op, .int .i64 d.w, .int .i64 d.a, .int .i64 d.b, .int .i64 d.c, .int .i64 d.imm, .slice u d.args.length q], kindV d u q] w fun e w' => e = .returned (.bool (wB d)) ∧ Below w.heap.size w w' := by
 obtain ⟨T, v, f, D⟩ := disp d u q
 rw [D.kv]
 have E : Hid (widthB d.w = wB d) := by show _ = _; rw [wB, if_neg (by omega), if_neg (by omega), if_neg h3]
 have A1 := D.as_strange h1
 have A2 := D.as_store h4
 have A3 := D.as_print h5
 have A4 := D.as_load h3
 clear D h1 h4 h5 h3
 go_enter Tryd.func109, Tryd.ntmps109
 go_wp2_with (go_at_call 72; refine (widthI _ _).mono ?_; rintro e w' ⟨rfl, rfl⟩)
 go_ret
 exact ⟨ret_bool E.out, (Below.refl _ _).alloc (Nat.le_refl _) _⟩
theorem wI (d : InstD) (u : Option Addr) (q : Nat) (w : World) : Calls Tryd.prog 109 #[.agg #[.int .i64 d.op, .int .i64 d.w, .int .i64 d.a, .int .i64 d.b, .int .i64 d.c, .int .i64 d.imm, .slice u d.args.length q], kindV d u q] w fun e w' => e = .returned (.bool (wB d)) ∧ Below w.heap.size w w' := by
 by_cases h : d.op < 1 ∨ 27 < d.op
 ·exact wI_no d u q w (by simp [opB]; omega) h
 by_cases h4 : d.op = 24
 ·exact wI_24 d u q w h4
 by_cases h5 : d.op = 25
 ·exact wI_25 d u q w h5
 by_cases h3 : d.op = 23
 ·exact wI_23 d u q w h3
 exact wI_more d u q w (by omega) h4 h5 h3
set_option maxRecDepth 100000 in
theorem immI_21 (d : InstD) (u : Option Addr) (q : Nat) (ids blocks funcs : Int) (w : World) (h : d.op = 21) : Calls Tryd.prog 110 #[.agg #[.int .i64 d.op, .int .i64 d.w, .int .i64 d.a, .int .i64 d.b, .int .i64 d.c, .int .i64 d.imm, .slice u d.args.length q], kindV d u q, .agg #[.int .i64 ids, .int .i64 blocks, .int .i64 funcs]] w fun e w' => e = .returned (.bool (iB d funcs)) ∧ Below w.heap.size w w' := by
 rw [kv_21 h]
 have E : Hid (valueB d.w d.imm = iB d funcs) := by show _ = _; rw [iB, if_pos h]
 have A := as_constKind_constKind
 go_enter Tryd.func110, Tryd.ntmps110
 go_wp2_with (go_at_call 115; refine (valueI _ _ _).mono ?_; rintro e w' ⟨rfl, rfl⟩)
 go_ret
 exact ⟨ret_bool E.out, by first | exact ((Below.refl _ _).alloc (Nat.le_refl _) _).alloc (by simp) _ | exact (((Below.refl _ _).alloc (Nat.le_refl _) _).alloc (by simp) _).alloc (by simp; omega) _ | exact (Below.refl _ _).alloc (Nat.le_refl _) _⟩
set_option maxRecDepth 100000 in
theorem immI_26 (d : InstD) (u : Option Addr) (q : Nat) (ids blocks funcs : Int) (w : World) (h : d.op = 26) : Calls Tryd.prog 110 #[.agg #[.int .i64 d.op, .int .i64 d.w, .int .i64 d.a, .int .i64 d.b, .int .i64 d.c, .int .i64 d.imm, .slice u d.args.length q], kindV d u q, .agg #[.int .i64 ids, .int .i64 blocks, .int .i64 funcs]] w fun e w' => e = .returned (.bool (iB d funcs)) ∧ Below w.heap.size w w' := by
 rw [kv_26 h]
 have E : Hid (belowB d.imm funcs = iB d funcs) := by show _ = _; rw [iB, h]; rfl
 have A := as_callKind_constKind
 have A2 := as_callKind_callKind
 go_enter Tryd.func110, Tryd.ntmps110
 go_wp2_with (go_at_call 46; refine (belowFI _ _ _).mono ?_; rintro e w' ⟨rfl, rfl⟩)
 go_ret
 exact ⟨ret_bool E.out, by first | exact ((Below.refl _ _).alloc (Nat.le_refl _) _).alloc (by simp) _ | exact (((Below.refl _ _).alloc (Nat.le_refl _) _).alloc (by simp) _).alloc (by simp; omega) _ | exact (Below.refl _ _).alloc (Nat.le_refl _) _⟩
set_option maxRecDepth 100000 in
theorem immI_more (d : InstD) (u : Option Addr) (q : Nat) (ids blocks funcs : Int) (w : World) (h1 : ¬ d.op = 21) (h6 : ¬ d.op = 26) : Calls Tryd.prog 110 #[.agg #[.int .i64 d.op, .int .i64 d.w, .int .i64 d.a, .int .i64 d.b, .int .i64 d.c, .int .i64 d.imm, .slice u d.args.length q], kindV d u q, .agg #[.int .i64 ids, .int .i64 blocks, .int .i64 funcs]] w fun e w' => e = .returned (.bool (iB d funcs)) ∧ Below w.heap.size w w' := by
 obtain ⟨T, v, f, D⟩ := disp d u q
 rw [D.kv]
 have E : Hid ((d.imm == 0) = iB d funcs) := by show _ = _; rw [iB, if_neg h1, if_neg h6]
 have A1 := D.as_const h1
 have A2 := D.as_call h6
 clear D h1 h6
 go_enter Tryd.func110, Tryd.ntmps110
 go_wp2_with fail
 go_ret
 exact ⟨ret_bool E.out, by first | exact ((Below.refl _ _).alloc (Nat.le_refl _) _).alloc (by simp) _ | exact (((Below.refl _ _).alloc (Nat.le_refl _) _).alloc (by simp) _).alloc (by simp; omega) _ | exact (Below.refl _ _).alloc (Nat.le_refl _) _⟩
theorem immI (d : InstD) (u : Option Addr) (q : Nat) (ids blocks funcs : Int) (w : World) : Calls Tryd.prog 110 #[.agg #[.int .i64 d.op, .int .i64 d.w, .int .i64 d.a, .int .i64 d.b, .int .i64 d.c, .int .i64 d.imm, .slice u d.args.length q], kindV d u q, .agg #[.int .i64 ids, .int .i64 blocks, .int .i64 funcs]] w fun e w' => e = .returned (.bool (iB d funcs)) ∧ Below w.heap.size w w' := by
 by_cases h1 : d.op = 21
 ·exact immI_21 d u q ids blocks funcs w h1
 by_cases h6 : d.op = 26
 ·exact immI_26 d u q ids blocks funcs w h6
 exact immI_more d u q ids blocks funcs w h1 h6
end Go.Proofs.YtenbodghkpbghaaDoor
namespace Go.Proofs.YtenbodghkpbghaaDoor
open Go.RowKit
set_option linter.unusedVariables false
end Go.Proofs.YtenbodghkpbghaaDoor
namespace Go.Proofs.YtenbodghkpbghaaDoor
open Go.RowKit Go.Maps
set_option linter.unusedVariables false
theorem lawR : Keyed Tryd.prog 2 := int_keyed Tryd.underlying2
theorem zeroR (w : World) : (zeroValue 2).run Tryd.prog w = .ok (.int .i64 0) w := by kernel_rfl
def RenAt (w : World) (B : Nat) (ρ : Int → Int) : Prop := ∃ (n : Nat) (D : DataW Unit), w.ownsMap Tryd.prog 2 (plainElem Tryd.prog 2) B n D ∧ ∀ id c : Int, D.atKey (.int .i64 id) (.lit (.int .i64 0)) = .lit (.int .i64 c) → (if Maps.has D (.int .i64 id) = true then c else id) = ρ id
theorem RenAt.lt {w : World} {B : Nat} {ρ : Int → Int} (h : RenAt w B ρ) : B < w.heap.size := by
 obtain ⟨n, D, h1, _⟩ := h
 exact h1.lt
theorem RenAt.keep {w w' : World} {B : Nat} {ρ : Int → Int} (h : RenAt w B ρ) (k : w'.heap[B]? = w.heap[B]?) : RenAt w' B ρ := by
 obtain ⟨n, D, ⟨es, clock, hb, F, hs, hD⟩, h2⟩ := h
 exact ⟨n, D, ⟨es, clock, k.trans hb, F, hs, hD⟩, h2⟩
theorem RenAt.below {w w' : World} {B : Nat} {ρ : Int → Int} (h : RenAt w B ρ) (k : Below w.heap.size w w') : RenAt w' B ρ := h.keep (k.block B h.lt)
theorem RenAt.made (w : World) : RenAt (w.alloc (.map #[] 0)) w.heap.size (fun id => id) := ⟨0, .map [], World.ownsMap_made _ _ _ _, fun id c _ => rfl⟩
set_option maxHeartbeats 2000000 in
set_option maxRecDepth 100000 in
theorem ofIdI (B : Nat) (ρ : Int → Int) (id : Int) (w : World) (h : RenAt w B ρ) (h0 : 0 ≤ id) (h1 : id ≤ 100000) :
  Calls Tryd.prog 99 #[.map (some B), .int .i64 id] w fun e w' => e = .returned (.int .i64 (ρ id)) ∧ w' = w := by
 obtain ⟨n, D, hown, hρ⟩ := h
 have hkey := keyOf_int_mk (P := Tryd.prog) (q := .i64) Tryd.underlying2 (a := id) (WalkArith.wf_i64 (by omega))
 have HR : Hid (∀ c : Int, D.atKey (.int .i64 id) (.lit (.int .i64 0)) = .lit (.int .i64 c) → (if Maps.has D (.int .i64 id) = true then c else id) = ρ id) := fun c hc => hρ id c hc
 clear hρ
 cases hh : Maps.has D (.int .i64 id) with
 | true =>
  go_enter Tryd.func99, Tryd.ntmps99
  go_wp2_with (first | (at_lookup; refine wpList_lookup_own_ok_int _ rfl _ _ 66 rfl 2 2 .i64 lawR Tryd.underlying66 Tryd.underlying2 (zeroR _) B n D rfl hown _ _ rfl hkey ?_; intro c hat hwc; have HC : Hid ((if Maps.has D (.int .i64 id) = true then c else id) = ρ id) := HR.out c hat; clear hat) | fail)
  go_ret
  have k := HC.out
  rw [hh, if_pos rfl] at k
  exact ⟨ret_int k, rfl⟩
 | false =>
  go_enter Tryd.func99, Tryd.ntmps99
  go_wp2_with (first | (at_lookup; refine wpList_lookup_own_ok_int _ rfl _ _ 66 rfl 2 2 .i64 lawR Tryd.underlying66 Tryd.underlying2 (zeroR _) B n D rfl hown _ _ rfl hkey ?_; intro c hat hwc; have HC : Hid ((if Maps.has D (.int .i64 id) = true then c else id) = ρ id) := HR.out c hat; clear hat) | fail)
  go_ret
  have k := HC.out
  rw [hh, if_neg (by simp)] at k
  exact ⟨ret_int k, rfl⟩
set_option maxHeartbeats 4000000 in
set_option maxRecDepth 100000 in
theorem ofIdsI (B lo : Nat) (ρ : Int → Int) (u : Option Addr) (q : Nat) (ids : List Int) (w : World) (h : RenAt w B ρ) (hv : IntsAt w lo u ids) (hl : ids.length ≤ 1000) (hr : ∀ x ∈ ids, 0 ≤ x ∧ x ≤ 100000) :
  Calls Tryd.prog 75 #[.map (some B), .slice u ids.length q] w fun e w' => ∃ v, e = .returned v ∧ Row w' w.heap.size v (ids.map ρ) ∧ Below w.heap.size w w' := by
 have HK : Hid (IntsAt w lo u ids) := hv
 have HRN : Hid (RenAt w B ρ) := h
 have HRG : Hid (∀ x ∈ ids, 0 ≤ x ∧ x ≤ 100000) := hr
 clear hv h hr
 go_enter Tryd.func75, Tryd.ntmps75
 go_wp2_with fail
 go_loopw [5, 10] (fun st i wr => ∃ k : Nat, k ≤ ids.length ∧ i = .int .i64 k ∧ Hid (Row wr w.heap.size st ((ids.take k).map ρ)) ∧ Hid (Below w.heap.size w wr)) (fun _ i _ => ids.length - (intOf i).toNat)
 case atStart => exact ⟨0, by omega, rfl, Row.nil _ _, Below.refl _ _⟩
 case round =>
  obtain ⟨k, hk, rfl, HX, HB⟩ := hrel
  obtain ⟨wo, hwo⟩ : ∃ wo, wo = wr := ⟨_, rfl⟩
  subst hwo
  by_cases hlt : k < ids.length
  ·obtain ⟨ga, off, rfl, e1⟩ : ∃ ga off, u = some ⟨ga, off, none⟩ ∧ wo.cell? ⟨ga, off + k, none⟩ = some (.int .i64 (ids.getD k 0)) := by
    rcases (HK.out.keep (agree_of_below HB.out lo)).2 with h | ⟨ga, off, ha, _, _, hc⟩
    ·rw [h] at hlt; simp at hlt
    ·exact ⟨ga, off, ha, hc k hlt⟩
   have hm := HRG.out _ (getD_mem 0 ids k hlt)
   have HN : Hid ((ids.take (k + 1)).map ρ = (ids.take k).map ρ ++ [ρ (ids.getD k 0)]) := by
    show _ = _
    rw [List.take_succ_eq_append_getElem hlt, List.map_append]
    simp [List.getD, hlt]
   have P := ofIdI B ρ (ids.getD k 0) wo (HRN.out.below HB.out) hm.1 hm.2
   have hz := HB.out.size
   have hll : ((ids.take k).map ρ).length ≤ 1000 := by rw [List.length_map, List.length_take]; omega
   generalize ids.getD k 0 = x at e1 HN P
   generalize (ids.take k).map ρ = L at *
   generalize hρx : ρ x = y at *
   clear hρx hm
   go_wp2_with fail
   refine P.mono ?_
   rintro e w2 ⟨rfl, hw2⟩
   rw [hw2]
   clear hw2 P
   go_wp2_with (at_builtin; refine push_int rfl _ _ rfl w.heap.size u5 L rfl (HX.out.alloc _) y _ 1 rfl (by exact one_cell_at rfl) (by omega) (by simp; omega) ?_; intro v3 w3 ho3 hg3)
   have HX3 : Hid (Row w3 w.heap.size v3 ((ids.take (k + 1)).map ρ)) := by show Row _ _ _ _; rw [HN.out]; exact ho3
   have HB3 : Hid (Below w.heap.size w w3) := (HB.out.alloc hz _).grown hg3 (by simp; omega) (fun q hq => (HX.out.ge hq).1)
   clear ho3 hg3
   go_wp2_with fail
   go_roundw
   case rel => exact ⟨k + 1, by omega, by go_num, HX3, HB3⟩
   case measure => simp [intOf]; omega
  ·have hkl : ids.take k = ids := List.take_of_length_le (by omega)
   have HX2 : Hid (Row wo w.heap.size u5 (ids.map ρ)) := by show Row _ _ _ _; rw [← hkl]; exact HX.out
   go_wp2_with fail
   go_ret
   exact ⟨_, rfl, HX2.out, HB.out⟩
set_option maxHeartbeats 2000000 in
theorem wantI (w : World) : Calls Tryd.prog 112 #[.bool true] w fun e w' => e = .returned (.tuple #[]) ∧ w' = w := by
 go_enter Tryd.func112, Tryd.ntmps112
 go_wp2_with fail
 exact bodyPost_end (results_none Tryd.results112 _ _ _) rfl ⟨rfl, rfl⟩
set_option maxHeartbeats 4000000 in
set_option maxRecDepth 100000 in
theorem equalI (la lb : Nat) (a b : Option Addr) (ca cb : Nat) (l : List Int) (w : World) (ha : IntsAt w la a l) (hb : IntsAt w lb b l) (hl : l.length ≤ 1000) :
  Calls Tryd.prog 113 #[.slice a l.length ca, .slice b l.length cb] w fun e w' => e = .returned (.bool true) ∧ Below w.heap.size w w' := by
 have HA : Hid (IntsAt w la a l) := ha
 have HB : Hid (IntsAt w lb b l) := hb
 clear ha hb
 go_enter Tryd.func113, Tryd.ntmps113
 go_wp2_with fail
 go_loopw [13] (fun i wr => ∃ k : Nat, k ≤ l.length ∧ i = .int .i64 k ∧ Hid (Below w.heap.size w wr)) (fun i _ => l.length - (intOf i).toNat)
 case atStart => exact ⟨0, by omega, rfl, Below.refl _ _⟩
 case round =>
  obtain ⟨k, hk, rfl, HW⟩ := hrel
  by_cases hlt : k < l.length
  ·obtain ⟨ga, oa, rfl, ea⟩ : ∃ ga off, a = some ⟨ga, off, none⟩ ∧ wr.cell? ⟨ga, off + k, none⟩ = some (.int .i64 (l.getD k 0)) := by
    rcases (HA.out.keep (agree_of_below HW.out la)).2 with h | ⟨ga, off, ha, _, _, hc⟩
    ·rw [h] at hlt; simp at hlt
    ·exact ⟨ga, off, ha, hc k hlt⟩
   obtain ⟨gb, ob, rfl, eb⟩ : ∃ gb off, b = some ⟨gb, off, none⟩ ∧ wr.cell? ⟨gb, off + k, none⟩ = some (.int .i64 (l.getD k 0)) := by
    rcases (HB.out.keep (agree_of_below HW.out lb)).2 with h | ⟨ga, off, ha, _, _, hc⟩
    ·rw [h] at hlt; simp at hlt
    ·exact ⟨ga, off, ha, hc k hlt⟩
   have hltI : (k : Int) < l.length := by omega
   generalize l.getD k 0 = x at ea eb
   go_wp2_with fail
   go_quiet (fail)
   go_wp2_with fail
   go_roundw
   case rel => exact ⟨k + 1, by omega, by go_num, below_drewN HW.out _⟩
   case measure => simp [intOf]; omega
  ·have e : k = l.length := by omega
   subst e
   go_wp2_with fail
   go_ret
   exact ⟨rfl, HW.out⟩
end Go.Proofs.YtenbodghkpbghaaDoor
