/- The contracts of the copying functions of blocks, functions and modules. -/
import Derived.Test.YtjpiiemhklphlaaGreatDoorTo1
namespace Go.Proofs.YtjpiiemhklphlaaGreatDoor
open Go.RowKit

set_option maxHeartbeats 2000000 in
theorem toBlock_any (lo : Nat) (d : BlockD) (u0 : Option Addr) (c0 : Nat) (u1 : Option Addr) (c1 : Nat) (w : World) (hs : SmBlock d) (k0 : PhisAt w lo u0 d.phis) (k1 : InstsAt w lo u1 d.insts) :
    Calls Tryz.prog 56 #[.agg #[.slice u0 d.phis.length c0, .slice u1 d.insts.length c1, .int .i64 d.term.kind, .int .i64 d.term.a, .int .i64 d.term.x, .int .i64 d.term.y]] w fun e w' => ∃ v0 q0 v1 q1, e = .returned (.agg #[.slice v0 d.phis.length q0, .slice v1 d.insts.length q1, .int .i64 d.term.kind, .int .i64 d.term.a, .int .i64 d.term.x, .int .i64 d.term.y]) ∧ PhisAt w' w.heap.size v0 d.phis ∧ InstsAt w' w.heap.size v1 d.insts ∧ Below w.heap.size w w' := by
  go_enter Tryz.func56, Tryz.ntmps56
  go_wp2_with (first | (go_at_call 70; refine (toPhiS_any lo _ _ _ _ hs.1.1 hs.1.2 (k0.keep (((agree_alloc _ _ _).trans (agree_alloc _ _ _)).trans (agree_alloc _ _ _)))).mono ?_; rintro e w1 ⟨v0, q0, rfl, n0, hb1⟩; have hcc1 := bcell hb1; have hff1 := bfroz hb1; have z1a : w.heap.size < w1.heap.size := (by have := hb1.size; simp at this; omega); have z1b : w.heap.size + 1 < w1.heap.size := (by have := hb1.size; simp at this; omega); have z1c : w.heap.size + 1 + 1 < w1.heap.size := (by have := hb1.size; simp at this; omega); have hB1 : Below w.heap.size w w1 := ((((Below.refl w.heap.size w).alloc (Nat.le_refl _) _).alloc (by first | (simp; done) | (simp; omega)) _).alloc (by first | (simp; done) | (simp; omega)) _).trans (hb1.mono (by first | (simp; done) | (simp; omega)))) | (go_at_call 71; refine (toInstS_any lo _ _ _ _ hs.2.1 hs.2.2 (k1.keep (agree_of_below (by repeat (first | refine Below.setCell ?_ (by dsimp only; omega) _ | exact hB1)) lo))).mono ?_; rintro e w2 ⟨v1, q1, rfl, n1, hb2⟩; have hcc2 := bcell hb2; have hff2 := bfroz hb2; have z2a : w.heap.size < w2.heap.size := (by have := hb2.size; simp at this; omega); have z2b : w.heap.size + 1 < w2.heap.size := (by have := hb2.size; simp at this; omega); have z2c : w.heap.size + 1 + 1 < w2.heap.size := (by have := hb2.size; simp at this; omega); have hB2 : Below w.heap.size w w2 := Below.trans (b := _) (by repeat (first | refine Below.setCell ?_ (by dsimp only; omega) _ | exact hB1)) (hb2.mono (by first | (simp; omega) | (simp; done)))) | (go_at_call 72; refine (toTerm_any _ _ _ _ _).mono ?_; rintro e w3 ⟨rfl, hb3⟩; have hcc3 := bcell hb3; have hff3 := bfroz hb3; have z3a : w.heap.size < w3.heap.size := (by have := hb3.size; simp at this; omega); have z3b : w.heap.size + 1 < w3.heap.size := (by have := hb3.size; simp at this; omega); have z3c : w.heap.size + 1 + 1 < w3.heap.size := (by have := hb3.size; simp at this; omega); have hB3 : Below w.heap.size w w3 := Below.trans (b := _) (by repeat (first | refine Below.setCell ?_ (by dsimp only; omega) _ | exact hB2)) (hb3.mono (by first | (simp; omega) | (simp; done)))))
  have hr := (heap_set (o := 5) (v := .int .i64 d.term.y) (heap_set (o := 4) (v := .int .i64 d.term.x) (heap_set (o := 3) (v := .int .i64 d.term.a) (heap_set (o := 2) (v := .int .i64 d.term.kind) (heap_set (o := 1) (v := .slice v1 d.insts.length q1) (heap_set (o := 0) (v := .slice v0 d.phis.length q0) (heap_other (g := w.heap.size + 1) (p := ⟨w.heap.size + 1 + 1, 5, none⟩) (v := .int .i64 d.term.y) (by simp) (heap_other (g := w.heap.size + 1) (p := ⟨w.heap.size + 1 + 1, 4, none⟩) (v := .int .i64 d.term.x) (by simp) (heap_other (g := w.heap.size + 1) (p := ⟨w.heap.size + 1 + 1, 3, none⟩) (v := .int .i64 d.term.a) (by simp) (heap_other (g := w.heap.size + 1) (p := ⟨w.heap.size + 1 + 1, 2, none⟩) (v := .int .i64 d.term.kind) (by simp) ((hb3.block (w.heap.size + 1) (by first | (simp; done) | (simp; omega))).trans (heap_other (g := w.heap.size + 1) (p := ⟨w.heap.size + 1 + 1, 1, none⟩) (v := .slice v1 d.insts.length q1) (by simp) ((hb2.block (w.heap.size + 1) (by first | (simp; done) | (simp; omega))).trans (heap_other (g := w.heap.size + 1) (p := ⟨w.heap.size + 1 + 1, 0, none⟩) (v := .slice v0 d.phis.length q0) (by simp) ((hb1.block (w.heap.size + 1) (by first | (simp; done) | (simp; omega))).trans (heap_mid _ _ _ _))))))))))))))))
  refine bodyPost_ret (v := .agg #[.slice v0 d.phis.length q0, .slice v1 d.insts.length q1, .int .i64 d.term.kind, .int .i64 d.term.a, .int .i64 d.term.x, .int .i64 d.term.y]) ((results_cell_row Tryz.results56 _ _ (w.heap.size + 1) 67 _ (0, 0) _ rfl hr Tryz.underlying67 rfl (by kernel_rfl)).trans (by rfl)) rfl ⟨v0, q0, v1, q1, rfl, ?_, ?_, ?_⟩
  · exact ((n0.low (lo' := w.heap.size + 3) (by first | (simp; done) | (simp; omega))).keep (by repeat (first | refine Agree.trans ?_ (agree_setCell _ _ _ _ _ (by omega)) | refine Agree.trans ?_ (agree_of_below hb3 _) | refine Agree.trans ?_ (agree_of_below hb2 _) | exact Agree.refl _ _))).low (by omega)
  · exact ((n1.low (lo' := w.heap.size + 3) (by first | (simp; omega) | (simp; done))).keep (by repeat (first | refine Agree.trans ?_ (agree_setCell _ _ _ _ _ (by omega)) | refine Agree.trans ?_ (agree_of_below hb3 _) | exact Agree.refl _ _))).low (by omega)
  · repeat (first | refine Below.setCell ?_ (by dsimp only; omega) _ | exact hB3)
theorem infoBlock : (Tryz.prog.info? 67).map (fun i => (i.zero, i.size, i.bytes)) = some (some (.agg #[.slice none 0 0, .slice none 0 0, .int .i64 0, .int .i64 0, .int .i64 0, .int .i64 0]), 6, 80) := by kernel_rfl
set_option maxHeartbeats 2000000 in
theorem toBlockS_any (lo : Nat) (a : Option Addr) (cap : Nat) (l : List BlockD) (w : World) (hl : l.length ≤ 1048576) (hs : ∀ d ∈ l, SmBlock d) (hv : BlocksAt w lo a l) :
    Calls Tryz.prog 42 #[.slice a l.length cap] w fun e w' => ∃ u c, e = .returned (.slice u l.length c) ∧ BlocksAt w' w.heap.size u l ∧ Below w.heap.size w w' := by
  obtain ⟨i0, hi, hz0, hz1, hz2⟩ := info_parts infoBlock
  have hmk := mk_any (t := 57) l.length Tryz.underlying57 hi hz0 hz1 hz2 (by omega) hl
  clear hi hz0 hz1 hz2
  have hm := hv.1
  go_enter Tryz.func42, Tryz.ntmps42
  go_wp2_with fail
  go_loopw [4] (fun i wr => ∃ (k : Nat) (cur : Array Value), k ≤ l.length ∧ i = .int .i64 k ∧ cur.size = l.length * 6 ∧ wr.heap[w.heap.size]? = some (.cells cur 67 (0, 0)) ∧ (∀ j, j < k → (∃ u c, cur[j * 6]? = some (.slice u (l.getD j block0).phis.length c) ∧ PhisAt wr (w.heap.size + 1) u (l.getD j block0).phis) ∧ (∃ u c, cur[j * 6 + 1]? = some (.slice u (l.getD j block0).insts.length c) ∧ InstsAt wr (w.heap.size + 1) u (l.getD j block0).insts) ∧ cur[j * 6 + 2]? = some (.int .i64 (l.getD j block0).term.kind) ∧ cur[j * 6 + 3]? = some (.int .i64 (l.getD j block0).term.a) ∧ cur[j * 6 + 4]? = some (.int .i64 (l.getD j block0).term.x) ∧ cur[j * 6 + 5]? = some (.int .i64 (l.getD j block0).term.y)) ∧ Below w.heap.size w wr) (fun i _ => l.length - (intOf i).toNat)
  case atStart => exact ⟨0, _, by omega, rfl, by simp [size_madeCells], heap_alloc_at _ _, fun j hj => by omega, (Below.refl _ _).alloc (Nat.le_refl _) _⟩
  case round =>
    obtain ⟨k, cur, hk, rfl, hcs, hblk, hdone, hB⟩ := hrel
    by_cases hlt : k < l.length
    · rcases hv.2 with rfl | ⟨b, off, rfl, hlo, hb, hcell⟩
      · simp at hlt
      obtain ⟨⟨u0, c0, h0, k0⟩, ⟨u1, c1, h1, k1⟩, h2, h3, h4, h5⟩ := hcell k hlt
      have hsd := hs _ (getD_mem block0 l k hlt)
      generalize hd : l.getD k block0 = d at h0 h1 h2 h3 h4 h5 k0 k1 hsd
      have e0 : wr.cell? ⟨b, off + k * 6, none⟩ = some (.slice u0 d.phis.length c0) := (cell_block (hB.block b hb)).trans h0
      have m0 := k0.keep (agree_of_below hB _)
      have e1 : wr.cell? ⟨b, off + k * 6 + 1, none⟩ = some (.slice u1 d.insts.length c1) := (cell_block (hB.block b hb)).trans h1
      have m1 := k1.keep (agree_of_below hB _)
      have e2 : wr.cell? ⟨b, off + k * 6 + 2, none⟩ = some (.int .i64 d.term.kind) := (cell_block (hB.block b hb)).trans h2
      have e3 : wr.cell? ⟨b, off + k * 6 + 3, none⟩ = some (.int .i64 d.term.a) := (cell_block (hB.block b hb)).trans h3
      have e4 : wr.cell? ⟨b, off + k * 6 + 4, none⟩ = some (.int .i64 d.term.x) := (cell_block (hB.block b hb)).trans h4
      have e5 : wr.cell? ⟨b, off + k * 6 + 5, none⟩ = some (.int .i64 d.term.y) := (cell_block (hB.block b hb)).trans h5
      have HD : Hid (l.getD k block0 = d) := hd
      have HDN : Hid (∀ j, j < k → (∃ u c, cur[j * 6]? = some (.slice u (l.getD j block0).phis.length c) ∧ PhisAt wr (w.heap.size + 1) u (l.getD j block0).phis) ∧ (∃ u c, cur[j * 6 + 1]? = some (.slice u (l.getD j block0).insts.length c) ∧ InstsAt wr (w.heap.size + 1) u (l.getD j block0).insts) ∧ cur[j * 6 + 2]? = some (.int .i64 (l.getD j block0).term.kind) ∧ cur[j * 6 + 3]? = some (.int .i64 (l.getD j block0).term.a) ∧ cur[j * 6 + 4]? = some (.int .i64 (l.getD j block0).term.x) ∧ cur[j * 6 + 5]? = some (.int .i64 (l.getD j block0).term.y)) := hdone
      have HBK : Hid (wr.heap[w.heap.size]? = some (.cells cur 67 (0, 0))) := hblk
      have HB : Hid (Below w.heap.size w wr) := hB
      have hgl : w.heap.size < wr.heap.size := (Array.getElem?_eq_some_iff.1 hblk).1
      clear hcell hmk hdone hblk hB hd h0 h1 h2 h3 h4 h5
      go_wp2_with (go_at_call 56; refine (toBlock_any lo d _ _ _ _ _ hsd m0 m1).mono ?_; rintro e w1 ⟨v0, q0, v1, q1, rfl, n0, n1, hb1⟩; have hblk1 := (hb1.block w.heap.size hgl).trans HBK.out; have g0 : w1.cell? ⟨w.heap.size, k * 6, none⟩ = some (cur[k * 6]'(by omega)) := (by rw [cell_of_heap hblk1]; simp [show k * 6 < cur.size by omega]); have f0 : w1.frozen? ⟨w.heap.size, k * 6, none⟩ = false := froz_of_heap hblk1; have g1 : w1.cell? ⟨w.heap.size, k * 6 + 1, none⟩ = some (cur[k * 6 + 1]'(by omega)) := (by rw [cell_of_heap hblk1]; simp [show k * 6 + 1 < cur.size by omega]); have f1 : w1.frozen? ⟨w.heap.size, k * 6 + 1, none⟩ = false := froz_of_heap hblk1; have g2 : w1.cell? ⟨w.heap.size, k * 6 + 2, none⟩ = some (cur[k * 6 + 2]'(by omega)) := (by rw [cell_of_heap hblk1]; simp [show k * 6 + 2 < cur.size by omega]); have f2 : w1.frozen? ⟨w.heap.size, k * 6 + 2, none⟩ = false := froz_of_heap hblk1; have g3 : w1.cell? ⟨w.heap.size, k * 6 + 3, none⟩ = some (cur[k * 6 + 3]'(by omega)) := (by rw [cell_of_heap hblk1]; simp [show k * 6 + 3 < cur.size by omega]); have f3 : w1.frozen? ⟨w.heap.size, k * 6 + 3, none⟩ = false := froz_of_heap hblk1; have g4 : w1.cell? ⟨w.heap.size, k * 6 + 4, none⟩ = some (cur[k * 6 + 4]'(by omega)) := (by rw [cell_of_heap hblk1]; simp [show k * 6 + 4 < cur.size by omega]); have f4 : w1.frozen? ⟨w.heap.size, k * 6 + 4, none⟩ = false := froz_of_heap hblk1; have g5 : w1.cell? ⟨w.heap.size, k * 6 + 5, none⟩ = some (cur[k * 6 + 5]'(by omega)) := (by rw [cell_of_heap hblk1]; simp [show k * 6 + 5 < cur.size by omega]); have f5 : w1.frozen? ⟨w.heap.size, k * 6 + 5, none⟩ = false := froz_of_heap hblk1; have HBK1 : Hid (w1.heap[w.heap.size]? = some (.cells cur 67 (0, 0))) := hblk1; clear hblk1)
      go_roundw
      case rel =>
        have hblk1 := HBK1.out
        have hB := HB.out
        have hd := HD.out
        have hag : Agree (w.heap.size + 1) wr ((((((w1.setCell ⟨w.heap.size, k * 6, none⟩ (.slice v0 d.phis.length q0)).setCell ⟨w.heap.size, k * 6 + 1, none⟩ (.slice v1 d.insts.length q1)).setCell ⟨w.heap.size, k * 6 + 2, none⟩ (.int .i64 d.term.kind)).setCell ⟨w.heap.size, k * 6 + 3, none⟩ (.int .i64 d.term.a)).setCell ⟨w.heap.size, k * 6 + 4, none⟩ (.int .i64 d.term.x)).setCell ⟨w.heap.size, k * 6 + 5, none⟩ (.int .i64 d.term.y)) := (agree_of_below hb1 _).trans (by repeat (first | refine Agree.trans ?_ (agree_setCell _ _ _ _ _ (by omega)) | exact Agree.refl _ _))
        have hag1 : Agree (w.heap.size + 1) w1 ((((((w1.setCell ⟨w.heap.size, k * 6, none⟩ (.slice v0 d.phis.length q0)).setCell ⟨w.heap.size, k * 6 + 1, none⟩ (.slice v1 d.insts.length q1)).setCell ⟨w.heap.size, k * 6 + 2, none⟩ (.int .i64 d.term.kind)).setCell ⟨w.heap.size, k * 6 + 3, none⟩ (.int .i64 d.term.a)).setCell ⟨w.heap.size, k * 6 + 4, none⟩ (.int .i64 d.term.x)).setCell ⟨w.heap.size, k * 6 + 5, none⟩ (.int .i64 d.term.y)) := (by repeat (first | refine Agree.trans ?_ (agree_setCell _ _ _ _ _ (by omega)) | exact Agree.refl _ _))
        refine ⟨k + 1, ((((((cur.setIfInBounds (k * 6) (.slice v0 d.phis.length q0)).setIfInBounds (k * 6 + 1) (.slice v1 d.insts.length q1)).setIfInBounds (k * 6 + 2) (.int .i64 d.term.kind)).setIfInBounds (k * 6 + 3) (.int .i64 d.term.a)).setIfInBounds (k * 6 + 4) (.int .i64 d.term.x)).setIfInBounds (k * 6 + 5) (.int .i64 d.term.y)), by omega, by go_num, by simpa using hcs, (heap_set (heap_set (heap_set (heap_set (heap_set (heap_set hblk1)))))), fun j hj => ?_, ?_⟩
        · by_cases hjk : j = k
          · subst hjk
            rw [hd]
            refine ⟨⟨v0, q0, ?_, (n0.low (by omega)).keep hag1⟩, ⟨v1, q1, ?_, (n1.low (by omega)).keep hag1⟩, ?_, ?_, ?_, ?_⟩
            all_goals (repeat rw [Array.getElem?_setIfInBounds_ne (by omega)])
            all_goals (rw [Array.getElem?_setIfInBounds_self]; simp; omega)
          · obtain ⟨⟨z0, y0, p0, x0⟩, ⟨z1, y1, p1, x1⟩, p2, p3, p4, p5⟩ := HDN.out j (by omega)
            refine ⟨⟨z0, y0, ?_, x0.keep hag⟩, ⟨z1, y1, ?_, x1.keep hag⟩, ?_, ?_, ?_, ?_⟩
            all_goals (repeat rw [Array.getElem?_setIfInBounds_ne (by omega)])
            all_goals assumption
        · have hB1 := hB.trans (hb1.mono hB.size)
          repeat (first | refine Below.setCell ?_ (by first | (dsimp only; omega) | exact Nat.le_refl _) _ | exact hB1)
      case measure => simp [intOf]; omega
    · have hke : k = l.length := by omega
      have HH : Hid (wr.heap[w.heap.size]? = some (.cells cur 67 (0, 0))) := hblk
      have HDN : Hid (∀ j, j < k → (∃ u c, cur[j * 6]? = some (.slice u (l.getD j block0).phis.length c) ∧ PhisAt wr (w.heap.size + 1) u (l.getD j block0).phis) ∧ (∃ u c, cur[j * 6 + 1]? = some (.slice u (l.getD j block0).insts.length c) ∧ InstsAt wr (w.heap.size + 1) u (l.getD j block0).insts) ∧ cur[j * 6 + 2]? = some (.int .i64 (l.getD j block0).term.kind) ∧ cur[j * 6 + 3]? = some (.int .i64 (l.getD j block0).term.a) ∧ cur[j * 6 + 4]? = some (.int .i64 (l.getD j block0).term.x) ∧ cur[j * 6 + 5]? = some (.int .i64 (l.getD j block0).term.y)) := hdone
      clear hmk hblk hdone
      go_wp2_with fail
      go_ret
      refine ⟨_, _, rfl, ⟨hm, .inr ⟨w.heap.size, 0, rfl, Nat.le_refl _, ?_, fun i hi => ?_⟩⟩, hB⟩
      · exact (Array.getElem?_eq_some_iff.1 HH.out).1
      · obtain ⟨⟨z0, y0, p0, x0⟩, ⟨z1, y1, p1, x1⟩, p2, p3, p4, p5⟩ := HDN.out i (by omega)
        simp only [Nat.zero_add, cell_of_heap HH.out]
        exact ⟨⟨z0, y0, p0, x0.low (by omega)⟩, ⟨z1, y1, p1, x1.low (by omega)⟩, p2, p3, p4, p5⟩
set_option maxHeartbeats 2000000 in
theorem toFunc_any (lo : Nat) (d : FuncD) (u0 : Option Addr) (c0 : Nat) (u2 : Option Addr) (c2 : Nat) (w : World) (hs : SmFunc d) (k0 : IntsAt w lo u0 d.params) (k2 : BlocksAt w lo u2 d.blocks) :
    Calls Tryz.prog 26 #[.agg #[.slice u0 d.params.length c0, .int .i64 d.ret, .slice u2 d.blocks.length c2]] w fun e w' => ∃ v0 q0 v2 q2, e = .returned (.agg #[.slice v0 d.params.length q0, .int .i64 d.ret, .slice v2 d.blocks.length q2]) ∧ IntsAt w' w.heap.size v0 d.params ∧ BlocksAt w' w.heap.size v2 d.blocks ∧ Below w.heap.size w w' := by
  go_enter Tryz.func26, Tryz.ntmps26
  go_wp2_with (first | (go_at_call 41; refine (toInts_any lo _ _ _ _ hs.1 (k0.keep (((agree_alloc _ _ _).trans (agree_alloc _ _ _)).trans (agree_alloc _ _ _)))).mono ?_; rintro e w1 ⟨v0, q0, rfl, n0, hb1⟩; have hcc1 := bcell hb1; have hff1 := bfroz hb1; have z1a : w.heap.size < w1.heap.size := (by have := hb1.size; simp at this; omega); have z1b : w.heap.size + 1 < w1.heap.size := (by have := hb1.size; simp at this; omega); have z1c : w.heap.size + 1 + 1 < w1.heap.size := (by have := hb1.size; simp at this; omega); have hB1 : Below w.heap.size w w1 := ((((Below.refl w.heap.size w).alloc (Nat.le_refl _) _).alloc (by first | (simp; done) | (simp; omega)) _).alloc (by first | (simp; done) | (simp; omega)) _).trans (hb1.mono (by first | (simp; done) | (simp; omega)))) | (go_at_call 42; refine (toBlockS_any lo _ _ _ _ hs.2.1 hs.2.2 (k2.keep (agree_of_below (by repeat (first | refine Below.setCell ?_ (by dsimp only; omega) _ | exact hB1)) lo))).mono ?_; rintro e w2 ⟨v2, q2, rfl, n2, hb2⟩; have hcc2 := bcell hb2; have hff2 := bfroz hb2; have z2a : w.heap.size < w2.heap.size := (by have := hb2.size; simp at this; omega); have z2b : w.heap.size + 1 < w2.heap.size := (by have := hb2.size; simp at this; omega); have z2c : w.heap.size + 1 + 1 < w2.heap.size := (by have := hb2.size; simp at this; omega); have hB2 : Below w.heap.size w w2 := Below.trans (b := _) (by repeat (first | refine Below.setCell ?_ (by dsimp only; omega) _ | exact hB1)) (hb2.mono (by first | (simp; omega) | (simp; done)))))
  have hr := (heap_set (o := 2) (v := .slice v2 d.blocks.length q2) (heap_set (o := 1) (v := .int .i64 d.ret) (heap_set (o := 0) (v := .slice v0 d.params.length q0) (heap_other (g := w.heap.size + 1) (p := ⟨w.heap.size + 1 + 1, 2, none⟩) (v := .slice v2 d.blocks.length q2) (by simp) ((hb2.block (w.heap.size + 1) (by first | (simp; done) | (simp; omega))).trans (heap_other (g := w.heap.size + 1) (p := ⟨w.heap.size + 1 + 1, 1, none⟩) (v := .int .i64 d.ret) (by simp) (heap_other (g := w.heap.size + 1) (p := ⟨w.heap.size + 1 + 1, 0, none⟩) (v := .slice v0 d.params.length q0) (by simp) ((hb1.block (w.heap.size + 1) (by first | (simp; done) | (simp; omega))).trans (heap_mid _ _ _ _)))))))))
  refine bodyPost_ret (v := .agg #[.slice v0 d.params.length q0, .int .i64 d.ret, .slice v2 d.blocks.length q2]) ((results_cell_row Tryz.results26 _ _ (w.heap.size + 1) 59 _ (0, 0) _ rfl hr Tryz.underlying59 rfl (by kernel_rfl)).trans (by rfl)) rfl ⟨v0, q0, v2, q2, rfl, ?_, ?_, ?_⟩
  · exact ((n0.low (lo' := w.heap.size + 3) (by first | (simp; done) | (simp; omega))).keep (by repeat (first | refine Agree.trans ?_ (agree_setCell _ _ _ _ _ (by omega)) | refine Agree.trans ?_ (agree_of_below hb2 _) | exact Agree.refl _ _))).low (by omega)
  · exact ((n2.low (lo' := w.heap.size + 3) (by first | (simp; omega) | (simp; done))).keep (by repeat (first | refine Agree.trans ?_ (agree_setCell _ _ _ _ _ (by omega)) | exact Agree.refl _ _))).low (by omega)
  · repeat (first | refine Below.setCell ?_ (by dsimp only; omega) _ | exact hB2)
end Go.Proofs.YtjpiiemhklphlaaGreatDoor
