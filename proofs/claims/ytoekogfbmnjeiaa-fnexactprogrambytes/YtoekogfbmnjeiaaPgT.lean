/- The contracts of the copying functions of programs. -/
import Derived.Test.YtoekogfbmnjeiaaTo1
import Derived.Test.YtoekogfbmnjeiaaPgM
namespace Go.Proofs.Ytoekogfbmnjeiaa
open Go.RowKit
set_option linter.unusedVariables false

set_option maxHeartbeats 1000000 in
theorem toMIns_any (d : MInsD) (w : World) :
    Calls Try.prog 24 #[.agg #[.int .i64 d.op, .int .i64 d.w, .int .i64 d.d, .int .i64 d.a, .int .i64 d.b, .int .i64 d.c, .int .i64 d.imm]] w fun e w' => e = .returned (.agg #[.int .i64 d.op, .int .i64 d.w, .int .i64 d.d, .int .i64 d.a, .int .i64 d.b, .int .i64 d.c, .int .i64 d.imm]) ∧ Below w.heap.size w w' := by
  go_enter Try.func24, Try.ntmps24
  go_wp2_with fail
  refine bodyPost_ret (v := .agg #[.int .i64 d.op, .int .i64 d.w, .int .i64 d.d, .int .i64 d.a, .int .i64 d.b, .int .i64 d.c, .int .i64 d.imm]) (by simp [results, Try.results24, go_sem]) rfl ⟨rfl, ?_⟩
  exact (((Below.refl w.heap.size w).alloc (Nat.le_refl _) _).alloc (by first | (simp; done) | (simp; omega)) _).alloc (by first | (simp; done) | (simp; omega)) _
theorem infoMIns : (Try.prog.info? 40).map (fun i => (i.zero, i.size, i.bytes)) = some (some (.agg #[.int .i64 0, .int .i64 0, .int .i64 0, .int .i64 0, .int .i64 0, .int .i64 0, .int .i64 0]), 7, 56) := by kernel_rfl
set_option maxHeartbeats 2000000 in
theorem toMInsS_any (lo : Nat) (a : Option Addr) (cap : Nat) (l : List MInsD) (w : World) (hl : l.length ≤ 1048576) (hv : MinsAt w lo a l) :
    Calls Try.prog 15 #[.slice a l.length cap] w fun e w' => ∃ u c, e = .returned (.slice u l.length c) ∧ MinsAt w' w.heap.size u l ∧ Below w.heap.size w w' := by
  obtain ⟨i0, hi, hz0, hz1, hz2⟩ := info_parts infoMIns
  have hmk := mk_any (t := 28) l.length Try.underlying28 hi hz0 hz1 hz2 (by omega) hl
  clear hi hz0 hz1 hz2
  have hm := hv.1
  go_enter Try.func15, Try.ntmps15
  go_wp2_with fail
  go_loopw [4] (fun i wr => ∃ (k : Nat) (cur : Array Value), k ≤ l.length ∧ i = .int .i64 k ∧ cur.size = l.length * 7 ∧ wr.heap[w.heap.size]? = some (.cells cur 40 (0, 0)) ∧ (∀ j, j < k → cur[j * 7]? = some (.int .i64 (l.getD j mins0).op) ∧ cur[j * 7 + 1]? = some (.int .i64 (l.getD j mins0).w) ∧ cur[j * 7 + 2]? = some (.int .i64 (l.getD j mins0).d) ∧ cur[j * 7 + 3]? = some (.int .i64 (l.getD j mins0).a) ∧ cur[j * 7 + 4]? = some (.int .i64 (l.getD j mins0).b) ∧ cur[j * 7 + 5]? = some (.int .i64 (l.getD j mins0).c) ∧ cur[j * 7 + 6]? = some (.int .i64 (l.getD j mins0).imm)) ∧ Below w.heap.size w wr) (fun i _ => l.length - (intOf i).toNat)
  case atStart => exact ⟨0, _, by omega, rfl, by simp [size_madeCells], heap_alloc_at _ _, fun j hj => by omega, (Below.refl _ _).alloc (Nat.le_refl _) _⟩
  case round =>
    obtain ⟨k, cur, hk, rfl, hcs, hblk, hdone, hB⟩ := hrel
    by_cases hlt : k < l.length
    · rcases hv.2 with rfl | ⟨b, off, rfl, hlo, hb, hcell⟩
      · simp at hlt
      obtain ⟨h0, h1, h2, h3, h4, h5, h6⟩ := hcell k hlt
      generalize hd : l.getD k mins0 = d at h0 h1 h2 h3 h4 h5 h6
      have e0 : wr.cell? ⟨b, off + k * 7, none⟩ = some (.int .i64 d.op) := (cell_block (hB.block b hb)).trans h0
      have e1 : wr.cell? ⟨b, off + k * 7 + 1, none⟩ = some (.int .i64 d.w) := (cell_block (hB.block b hb)).trans h1
      have e2 : wr.cell? ⟨b, off + k * 7 + 2, none⟩ = some (.int .i64 d.d) := (cell_block (hB.block b hb)).trans h2
      have e3 : wr.cell? ⟨b, off + k * 7 + 3, none⟩ = some (.int .i64 d.a) := (cell_block (hB.block b hb)).trans h3
      have e4 : wr.cell? ⟨b, off + k * 7 + 4, none⟩ = some (.int .i64 d.b) := (cell_block (hB.block b hb)).trans h4
      have e5 : wr.cell? ⟨b, off + k * 7 + 5, none⟩ = some (.int .i64 d.c) := (cell_block (hB.block b hb)).trans h5
      have e6 : wr.cell? ⟨b, off + k * 7 + 6, none⟩ = some (.int .i64 d.imm) := (cell_block (hB.block b hb)).trans h6
      have HD : Hid (l.getD k mins0 = d) := hd
      have HDN : Hid (∀ j, j < k → cur[j * 7]? = some (.int .i64 (l.getD j mins0).op) ∧ cur[j * 7 + 1]? = some (.int .i64 (l.getD j mins0).w) ∧ cur[j * 7 + 2]? = some (.int .i64 (l.getD j mins0).d) ∧ cur[j * 7 + 3]? = some (.int .i64 (l.getD j mins0).a) ∧ cur[j * 7 + 4]? = some (.int .i64 (l.getD j mins0).b) ∧ cur[j * 7 + 5]? = some (.int .i64 (l.getD j mins0).c) ∧ cur[j * 7 + 6]? = some (.int .i64 (l.getD j mins0).imm)) := hdone
      have HBK : Hid (wr.heap[w.heap.size]? = some (.cells cur 40 (0, 0))) := hblk
      have HB : Hid (Below w.heap.size w wr) := hB
      have hgl : w.heap.size < wr.heap.size := (Array.getElem?_eq_some_iff.1 hblk).1
      clear hcell hmk hdone hblk hB hd h0 h1 h2 h3 h4 h5 h6
      go_wp2_with (go_at_call 24; refine (toMIns_any d _).mono ?_; rintro e w1 ⟨rfl, hb1⟩; have hblk1 := (hb1.block w.heap.size hgl).trans HBK.out; have g0 : w1.cell? ⟨w.heap.size, k * 7, none⟩ = some (cur[k * 7]'(by omega)) := (by rw [cell_of_heap hblk1]; simp [show k * 7 < cur.size by omega]); have f0 : w1.frozen? ⟨w.heap.size, k * 7, none⟩ = false := froz_of_heap hblk1; have g1 : w1.cell? ⟨w.heap.size, k * 7 + 1, none⟩ = some (cur[k * 7 + 1]'(by omega)) := (by rw [cell_of_heap hblk1]; simp [show k * 7 + 1 < cur.size by omega]); have f1 : w1.frozen? ⟨w.heap.size, k * 7 + 1, none⟩ = false := froz_of_heap hblk1; have g2 : w1.cell? ⟨w.heap.size, k * 7 + 2, none⟩ = some (cur[k * 7 + 2]'(by omega)) := (by rw [cell_of_heap hblk1]; simp [show k * 7 + 2 < cur.size by omega]); have f2 : w1.frozen? ⟨w.heap.size, k * 7 + 2, none⟩ = false := froz_of_heap hblk1; have g3 : w1.cell? ⟨w.heap.size, k * 7 + 3, none⟩ = some (cur[k * 7 + 3]'(by omega)) := (by rw [cell_of_heap hblk1]; simp [show k * 7 + 3 < cur.size by omega]); have f3 : w1.frozen? ⟨w.heap.size, k * 7 + 3, none⟩ = false := froz_of_heap hblk1; have g4 : w1.cell? ⟨w.heap.size, k * 7 + 4, none⟩ = some (cur[k * 7 + 4]'(by omega)) := (by rw [cell_of_heap hblk1]; simp [show k * 7 + 4 < cur.size by omega]); have f4 : w1.frozen? ⟨w.heap.size, k * 7 + 4, none⟩ = false := froz_of_heap hblk1; have g5 : w1.cell? ⟨w.heap.size, k * 7 + 5, none⟩ = some (cur[k * 7 + 5]'(by omega)) := (by rw [cell_of_heap hblk1]; simp [show k * 7 + 5 < cur.size by omega]); have f5 : w1.frozen? ⟨w.heap.size, k * 7 + 5, none⟩ = false := froz_of_heap hblk1; have g6 : w1.cell? ⟨w.heap.size, k * 7 + 6, none⟩ = some (cur[k * 7 + 6]'(by omega)) := (by rw [cell_of_heap hblk1]; simp [show k * 7 + 6 < cur.size by omega]); have f6 : w1.frozen? ⟨w.heap.size, k * 7 + 6, none⟩ = false := froz_of_heap hblk1; have HBK1 : Hid (w1.heap[w.heap.size]? = some (.cells cur 40 (0, 0))) := hblk1; clear hblk1)
      go_roundw
      case rel =>
        have hblk1 := HBK1.out
        have hB := HB.out
        have hd := HD.out
        refine ⟨k + 1, (((((((cur.setIfInBounds (k * 7) (.int .i64 d.op)).setIfInBounds (k * 7 + 1) (.int .i64 d.w)).setIfInBounds (k * 7 + 2) (.int .i64 d.d)).setIfInBounds (k * 7 + 3) (.int .i64 d.a)).setIfInBounds (k * 7 + 4) (.int .i64 d.b)).setIfInBounds (k * 7 + 5) (.int .i64 d.c)).setIfInBounds (k * 7 + 6) (.int .i64 d.imm)), by omega, by go_num, by simpa using hcs, (heap_set (heap_set (heap_set (heap_set (heap_set (heap_set (heap_set hblk1))))))), fun j hj => ?_, ?_⟩
        · by_cases hjk : j = k
          · subst hjk
            rw [hd]
            refine ⟨?_, ?_, ?_, ?_, ?_, ?_, ?_⟩
            all_goals (repeat rw [Array.getElem?_setIfInBounds_ne (by omega)])
            all_goals (rw [Array.getElem?_setIfInBounds_self]; simp; omega)
          · obtain ⟨p0, p1, p2, p3, p4, p5, p6⟩ := HDN.out j (by omega)
            refine ⟨?_, ?_, ?_, ?_, ?_, ?_, ?_⟩
            all_goals (repeat rw [Array.getElem?_setIfInBounds_ne (by omega)])
            all_goals assumption
        · have hB1 := hB.trans (hb1.mono hB.size)
          repeat (first | refine Below.setCell ?_ (by first | (dsimp only; omega) | exact Nat.le_refl _) _ | exact hB1)
      case measure => simp [intOf]; omega
    · have hke : k = l.length := by omega
      have HH : Hid (wr.heap[w.heap.size]? = some (.cells cur 40 (0, 0))) := hblk
      have HDN : Hid (∀ j, j < k → cur[j * 7]? = some (.int .i64 (l.getD j mins0).op) ∧ cur[j * 7 + 1]? = some (.int .i64 (l.getD j mins0).w) ∧ cur[j * 7 + 2]? = some (.int .i64 (l.getD j mins0).d) ∧ cur[j * 7 + 3]? = some (.int .i64 (l.getD j mins0).a) ∧ cur[j * 7 + 4]? = some (.int .i64 (l.getD j mins0).b) ∧ cur[j * 7 + 5]? = some (.int .i64 (l.getD j mins0).c) ∧ cur[j * 7 + 6]? = some (.int .i64 (l.getD j mins0).imm)) := hdone
      clear hmk hblk hdone
      go_wp2_with fail
      go_ret
      refine ⟨_, _, rfl, ⟨hm, .inr ⟨w.heap.size, 0, rfl, Nat.le_refl _, ?_, fun i hi => ?_⟩⟩, hB⟩
      · exact (Array.getElem?_eq_some_iff.1 HH.out).1
      · obtain ⟨p0, p1, p2, p3, p4, p5, p6⟩ := HDN.out i (by omega)
        simp only [Nat.zero_add, cell_of_heap HH.out]
        exact ⟨p0, p1, p2, p3, p4, p5, p6⟩
set_option maxHeartbeats 2000000 in
theorem toProgram_any (lo : Nat) (d : ProgD) (u1 : Option Addr) (c1 : Nat) (u2 : Option Addr) (c2 : Nat) (u3 : Option Addr) (c3 : Nat) (w : World) (hs : SmProg d) (k1 : IntsAt w lo u1 d.params) (k2 : IntsAt w lo u2 d.widths) (k3 : MinsAt w lo u3 d.code) :
    Calls Try.prog 6 #[.agg #[.int .i64 d.regs, .slice u1 d.params.length c1, .slice u2 d.widths.length c2, .slice u3 d.code.length c3]] w fun e w' => ∃ v1 q1 v2 q2 v3 q3, e = .returned (.agg #[.int .i64 d.regs, .slice v1 d.params.length q1, .slice v2 d.widths.length q2, .slice v3 d.code.length q3]) ∧ IntsAt w' w.heap.size v1 d.params ∧ IntsAt w' w.heap.size v2 d.widths ∧ MinsAt w' w.heap.size v3 d.code ∧ Below w.heap.size w w' := by
  go_enter Try.func6, Try.ntmps6
  go_wp2_with fail
  refine (toInts_any lo _ _ _ _ hs.1 (k1.keep (((agree_alloc _ _ _).trans (agree_alloc _ _ _)).trans (agree_alloc _ _ _)))).mono ?_
  rintro e w1 ⟨v1, q1, rfl, n1, hb1⟩
  have hcc1 := bcell hb1
  have hff1 := bfroz hb1
  have z1a : w.heap.size < w1.heap.size := (by have := hb1.size; simp at this; omega)
  have z1b : w.heap.size + 1 < w1.heap.size := (by have := hb1.size; simp at this; omega)
  have z1c : w.heap.size + 1 + 1 < w1.heap.size := (by have := hb1.size; simp at this; omega)
  have hB1 : Below w.heap.size w w1 := ((((Below.refl w.heap.size w).alloc (Nat.le_refl _) _).alloc (by first | (simp; done) | (simp; omega)) _).alloc (by first | (simp; done) | (simp; omega)) _).trans (hb1.mono (by first | (simp; done) | (simp; omega)))
  go_wp2_with fail
  refine (toInts_any lo _ _ _ _ hs.2.1 (k2.keep (agree_of_below (by repeat (first | refine Below.setCell ?_ (by dsimp only; omega) _ | exact hB1)) lo))).mono ?_
  rintro e w2 ⟨v2, q2, rfl, n2, hb2⟩
  have hcc2 := bcell hb2
  have hff2 := bfroz hb2
  have z2a : w.heap.size < w2.heap.size := (by have := hb2.size; simp at this; omega)
  have z2b : w.heap.size + 1 < w2.heap.size := (by have := hb2.size; simp at this; omega)
  have z2c : w.heap.size + 1 + 1 < w2.heap.size := (by have := hb2.size; simp at this; omega)
  have hB2 : Below w.heap.size w w2 := Below.trans (b := _) (by repeat (first | refine Below.setCell ?_ (by dsimp only; omega) _ | exact hB1)) (hb2.mono (by first | (simp; omega) | (simp; done)))
  go_wp2_with fail
  refine (toMInsS_any lo _ _ _ _ hs.2.2 (k3.keep (agree_of_below (by repeat (first | refine Below.setCell ?_ (by dsimp only; omega) _ | exact hB2)) lo))).mono ?_
  rintro e w3 ⟨v3, q3, rfl, n3, hb3⟩
  have hcc3 := bcell hb3
  have hff3 := bfroz hb3
  have z3a : w.heap.size < w3.heap.size := (by have := hb3.size; simp at this; omega)
  have z3b : w.heap.size + 1 < w3.heap.size := (by have := hb3.size; simp at this; omega)
  have z3c : w.heap.size + 1 + 1 < w3.heap.size := (by have := hb3.size; simp at this; omega)
  have hB3 : Below w.heap.size w w3 := Below.trans (b := _) (by repeat (first | refine Below.setCell ?_ (by dsimp only; omega) _ | exact hB2)) (hb3.mono (by first | (simp; omega) | (simp; done)))
  go_wp2_with fail
  have hr := (heap_set (o := 3) (v := .slice v3 d.code.length q3) (heap_set (o := 2) (v := .slice v2 d.widths.length q2) (heap_set (o := 1) (v := .slice v1 d.params.length q1) (heap_set (o := 0) (v := .int .i64 d.regs) (heap_other (g := w.heap.size + 1) (p := ⟨w.heap.size + 1 + 1, 3, none⟩) (v := .slice v3 d.code.length q3) (by simp) ((hb3.block (w.heap.size + 1) (by first | (simp; done) | (simp; omega))).trans (heap_other (g := w.heap.size + 1) (p := ⟨w.heap.size + 1 + 1, 2, none⟩) (v := .slice v2 d.widths.length q2) (by simp) ((hb2.block (w.heap.size + 1) (by first | (simp; done) | (simp; omega))).trans (heap_other (g := w.heap.size + 1) (p := ⟨w.heap.size + 1 + 1, 1, none⟩) (v := .slice v1 d.params.length q1) (by simp) ((hb1.block (w.heap.size + 1) (by first | (simp; done) | (simp; omega))).trans (heap_mid _ _ _ _)))))))))))
  refine bodyPost_ret (v := .agg #[.int .i64 d.regs, .slice v1 d.params.length q1, .slice v2 d.widths.length q2, .slice v3 d.code.length q3]) ((results_cell_row Try.results6 _ _ (w.heap.size + 1) 30 _ (0, 0) _ rfl hr Try.underlying30 rfl (by kernel_rfl)).trans (by rfl)) rfl ⟨v1, q1, v2, q2, v3, q3, rfl, ?_, ?_, ?_, ?_⟩
  · exact ((n1.low (lo' := w.heap.size + 3) (by first | (simp; done) | (simp; omega))).keep (by repeat (first | refine Agree.trans ?_ (agree_setCell _ _ _ _ _ (by omega)) | refine Agree.trans ?_ (agree_of_below hb3 _) | refine Agree.trans ?_ (agree_of_below hb2 _) | exact Agree.refl _ _))).low (by omega)
  · exact ((n2.low (lo' := w.heap.size + 3) (by first | (simp; omega) | (simp; done))).keep (by repeat (first | refine Agree.trans ?_ (agree_setCell _ _ _ _ _ (by omega)) | refine Agree.trans ?_ (agree_of_below hb3 _) | exact Agree.refl _ _))).low (by omega)
  · exact ((n3.low (lo' := w.heap.size + 3) (by first | (simp; omega) | (simp; done))).keep (by repeat (first | refine Agree.trans ?_ (agree_setCell _ _ _ _ _ (by omega)) | exact Agree.refl _ _))).low (by omega)
  · repeat (first | refine Below.setCell ?_ (by dsimp only; omega) _ | exact hB3)
end Go.Proofs.Ytoekogfbmnjeiaa
