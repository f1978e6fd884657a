/- The contracts of the copying functions: what they give holds the same, in new memory. -/
import Derived.Test.YtjpiiemhklphlaaGreatDoorSz
namespace Go.Proofs.YtjpiiemhklphlaaGreatDoor
open Go.RowKit

theorem heap_alloc_last (w : World) (o : Obj) : (w.alloc o).heap[w.heap.size]? = some o := by
  show (w.heap.push o)[w.heap.size]? = _
  simp
theorem cell_of_heap {w : World} {g o : Nat} {cur : Array Value} {t : TypeId} (h : w.heap[g]? = some (.cells cur t (0, 0))) : w.cell? ⟨g, o, none⟩ = cur[o]? := by
  unfold World.cell?; rw [h]; rfl
theorem froz_of_heap {w : World} {g o : Nat} {cur : Array Value} {t : TypeId} (h : w.heap[g]? = some (.cells cur t (0, 0))) : w.frozen? ⟨g, o, none⟩ = false := by
  unfold World.frozen?; rw [h]; rfl
theorem heap_set {w : World} {g o : Nat} {cur : Array Value} {t : TypeId} {v : Value} (h : w.heap[g]? = some (.cells cur t (0, 0))) : (w.setCell ⟨g, o, none⟩ v).heap[g]? = some (.cells (cur.setIfInBounds o v) t (0, 0)) := by
  show (w.heap.modify g _)[g]? = _
  rw [Array.getElem?_modify, if_pos rfl, h]
  rfl
theorem heap_other {w : World} {g : Nat} {p : Addr} {v : Value} {x : Option Obj} (hp : g ≠ p.block) (h : w.heap[g]? = x) : (w.setCell p v).heap[g]? = x := (Below.heap_setCell w p v g hp).trans h
theorem heap_mid (w : World) (o1 o2 o3 : Obj) : (((w.alloc o1).alloc o2).alloc o3).heap[w.heap.size + 1]? = some o2 := by
  rw [Below.heap_alloc _ _ _ (by simp)]
  have h := heap_alloc_last (w.alloc o1) o2
  have e : (w.alloc o1).heap.size = w.heap.size + 1 := by simp
  rw [e] at h
  exact h
theorem heap_alloc_at (w : World) (o : Obj) : (w.alloc o).heap[w.heap.size]? = some o := by
  show (w.heap.push o)[w.heap.size]? = _
  simp
theorem mk_any {t e : TypeId} {i : TypeInfo} {z : Value} {s by' : Nat} (n : Nat) (ht : Tryz.prog.underlying t = some (.slice e)) (hi : Tryz.prog.info? e = some i) (hz : i.zero = some z) (hs : i.size = s) (hb : i.bytes = by') (hm : by' ≤ 1000) (hn : n ≤ 1048576) (W : World) :
    (Instr.makeSlice t (.int .i64 (n : Int)) (.int .i64 (n : Int))).run Tryz.prog W = .ok (.slice (some ⟨W.heap.size, 0, none⟩) n n) (W.alloc (.cells (madeCells z.cells (n * s)) e)) := by
  subst hs hb
  have h := run_make (P := Tryz.prog) W t e i z ht hi hz .i64 .i64 n n (by omega) (Int.le_refl _) (by
    have : i.bytes * n ≤ 1000 * 1048576 := Nat.mul_le_mul hm hn
    have h2 : ((i.bytes * n : Nat) : Int) ≤ 1048576000 := by omega
    rw [Int.natCast_mul] at h2; omega) (by omega)
  simpa using h
theorem infoI : (Tryz.prog.info? 2).map (fun i => (i.zero, i.size, i.bytes)) = some (some (.int .i64 0), 1, 8) := by kernel_rfl

set_option maxHeartbeats 1000000 in
theorem toInts_any (lo : Nat) (a : Option Addr) (cap : Nat) (l : List Int) (w : World) (hl : l.length ≤ 1048576) (hv : IntsAt w lo a l) :
    Calls Tryz.prog 41 #[.slice a l.length cap] w fun e w' => ∃ u c, e = .returned (.slice u l.length c) ∧ IntsAt w' w.heap.size u l ∧ Below w.heap.size w w' := by
  obtain ⟨i0, hi, hz0, hz1, hz2⟩ := info_parts infoI
  have hmk := mk_any (t := 42) l.length Tryz.underlying42 hi hz0 hz1 hz2 (by omega) hl
  clear hi hz0 hz1 hz2
  have hm := hv.1
  go_enter Tryz.func41, Tryz.ntmps41
  go_wp2_with fail
  go_loopw [4] (fun i wr => ∃ (k : Nat) (cur : Array Value), k ≤ l.length ∧ i = .int .i64 k ∧ cur.size = l.length ∧ wr.heap[w.heap.size]? = some (.cells cur 2 (0, 0)) ∧ (∀ j, j < k → cur[j]? = some (.int .i64 (l.getD j 0))) ∧ Below w.heap.size w wr) (fun i _ => l.length - (intOf i).toNat)
  case atStart => exact ⟨0, _, by omega, rfl, by simp [size_madeCells], heap_alloc_at _ _, fun j hj => by omega, (Below.refl _ _).alloc (Nat.le_refl _) _⟩
  case round =>
    obtain ⟨k, cur, hk, rfl, hcs, hblk, hdone, hB⟩ := hrel
    by_cases hlt : k < l.length
    · rcases hv.2 with rfl | ⟨b, off, rfl, hlo, hb, hcell⟩
      · simp at hlt
      have e0 : wr.cell? ⟨b, off + k, none⟩ = some (.int .i64 (l.getD k 0)) := (cell_block (hB.block b hb)).trans (hcell k hlt)
      have e1 : wr.cell? ⟨w.heap.size, k, none⟩ = some (cur[k]'(by omega)) := by rw [cell_of_heap hblk]; simp [hcs, hlt]
      have e2 : wr.frozen? ⟨w.heap.size, k, none⟩ = false := froz_of_heap hblk
      have hdone2 : ∀ j, j < k + 1 → (cur.setIfInBounds k (.int .i64 (l.getD k 0)))[j]? = some (.int .i64 (l.getD j 0)) := fun j hj => by
        by_cases hjk : j = k
        · subst hjk; simp [hcs, hlt]
        · rw [Array.getElem?_setIfInBounds_ne (by omega)]; exact hdone j (by omega)
      have HD : Hid (∀ j, j < k + 1 → (cur.setIfInBounds k (.int .i64 (l.getD k 0)))[j]? = some (.int .i64 (l.getD j 0))) := hdone2
      have HH : Hid ((wr.setCell ⟨w.heap.size, k, none⟩ (.int .i64 (l.getD k 0))).heap[w.heap.size]? = some (.cells (cur.setIfInBounds k (.int .i64 (l.getD k 0))) 2 (0, 0))) := heap_set hblk
      generalize l.getD k 0 = d at e0 HD HH
      clear hmk hdone hdone2 hblk
      go_wp2_with fail
      go_roundw
      case rel => exact ⟨k + 1, _, by omega, by go_num, by simpa using hcs, HH.out, HD.out, hB.setCell (Nat.le_refl _) _⟩
      case measure => simp [intOf]; omega
    · have hke : k = l.length := by omega
      have HH : Hid (wr.heap[w.heap.size]? = some (.cells cur 2 (0, 0))) := hblk
      clear hmk hblk
      go_wp2_with fail
      go_ret
      refine ⟨_, _, rfl, ⟨hm, .inr ⟨w.heap.size, 0, rfl, Nat.le_refl _, ?_, fun i hi => ?_⟩⟩, hB⟩
      · exact (Array.getElem?_eq_some_iff.1 HH.out).1
      · rw [Nat.zero_add, cell_of_heap HH.out]; exact hdone i (by omega)

set_option maxHeartbeats 1000000 in
theorem toPhi_any (lo : Nat) (d : PhiD) (u1 : Option Addr) (c1 : Nat) (w : World) (hs : SmPhi d) (k1 : IntsAt w lo u1 d.ins) :
    Calls Tryz.prog 88 #[.agg #[.int .i64 d.w, .slice u1 d.ins.length c1]] w fun e w' => ∃ u c, e = .returned (.agg #[.int .i64 d.w, .slice u d.ins.length c]) ∧ IntsAt w' w.heap.size u d.ins ∧ Below w.heap.size w w' := by
  go_enter Tryz.func88, Tryz.ntmps88
  go_wp2_with (go_at_call 41; refine (toInts_any lo _ _ _ _ hs (k1.keep (((agree_alloc _ _ _).trans (agree_alloc _ _ _)).trans (agree_alloc _ _ _)))).mono ?_; rintro e w1 ⟨u, c, rfl, hu, hb1⟩; have hcc := bcell hb1; have hff := bfroz hb1)
  have hB : Below w.heap.size w w1 := ((((Below.refl w.heap.size w).alloc (Nat.le_refl _) _).alloc (by first | (simp; done) | (simp; omega)) _).alloc (by first | (simp; done) | (simp; omega)) _).trans (hb1.mono (by first | (simp; done) | (simp; omega)))
  have hu3 := hu.low (lo' := w.heap.size + 3) (by first | (simp; done) | (simp; omega))
  have hr := (heap_set (o := 1) (v := .slice u d.ins.length c) (heap_set (o := 0) (v := .int .i64 d.w) (heap_other (g := w.heap.size + 1) (p := ⟨w.heap.size + 1 + 1, 1, none⟩) (v := .slice u d.ins.length c) (by simp) ((hb1.block (w.heap.size + 1) (by simp)).trans (heap_mid _ _ _ _)))))
  refine bodyPost_ret (v := .agg #[.int .i64 d.w, .slice u d.ins.length c]) ((results_cell_row Tryz.results88 _ _ (w.heap.size + 1) 69 _ (0, 0) _ rfl hr Tryz.underlying69 rfl (by kernel_rfl)).trans (by rfl)) rfl ⟨u, c, rfl, ?_, ?_⟩
  · exact (hu3.keep (by repeat (first | refine Agree.trans ?_ (agree_setCell _ _ _ _ _ (by omega)) | exact Agree.refl _ _))).low (by omega)
  · exact (by repeat (first | refine Below.setCell ?_ (by dsimp only; omega) _ | exact hB))
set_option maxHeartbeats 1000000 in
theorem toInst_any (lo : Nat) (d : InstD) (u6 : Option Addr) (c6 : Nat) (w : World) (hs : SmInst d) (k6 : IntsAt w lo u6 d.args) :
    Calls Tryz.prog 89 #[.agg #[.int .i64 d.op, .int .i64 d.w, .int .i64 d.a, .int .i64 d.b, .int .i64 d.c, .int .i64 d.imm, .slice u6 d.args.length c6]] w fun e w' => ∃ u c, e = .returned (.agg #[.int .i64 d.op, .int .i64 d.w, .int .i64 d.a, .int .i64 d.b, .int .i64 d.c, .int .i64 d.imm, .slice u d.args.length c]) ∧ IntsAt w' w.heap.size u d.args ∧ Below w.heap.size w w' := by
  go_enter Tryz.func89, Tryz.ntmps89
  go_wp2_with (go_at_call 41; refine (toInts_any lo _ _ _ _ hs (k6.keep (((agree_alloc _ _ _).trans (agree_alloc _ _ _)).trans (agree_alloc _ _ _)))).mono ?_; rintro e w1 ⟨u, c, rfl, hu, hb1⟩; have hcc := bcell hb1; have hff := bfroz hb1)
  have hB : Below w.heap.size w w1 := ((((Below.refl w.heap.size w).alloc (Nat.le_refl _) _).alloc (by first | (simp; done) | (simp; omega)) _).alloc (by first | (simp; done) | (simp; omega)) _).trans (hb1.mono (by first | (simp; done) | (simp; omega)))
  have hu3 := hu.low (lo' := w.heap.size + 3) (by first | (simp; done) | (simp; omega))
  have hr := (heap_set (o := 6) (v := .slice u d.args.length c) (heap_set (o := 5) (v := .int .i64 d.imm) (heap_set (o := 4) (v := .int .i64 d.c) (heap_set (o := 3) (v := .int .i64 d.b) (heap_set (o := 2) (v := .int .i64 d.a) (heap_set (o := 1) (v := .int .i64 d.w) (heap_set (o := 0) (v := .int .i64 d.op) (heap_other (g := w.heap.size + 1) (p := ⟨w.heap.size + 1 + 1, 6, none⟩) (v := .slice u d.args.length c) (by simp) ((hb1.block (w.heap.size + 1) (by simp)).trans (heap_mid _ _ _ _))))))))))
  refine bodyPost_ret (v := .agg #[.int .i64 d.op, .int .i64 d.w, .int .i64 d.a, .int .i64 d.b, .int .i64 d.c, .int .i64 d.imm, .slice u d.args.length c]) ((results_cell_row Tryz.results89 _ _ (w.heap.size + 1) 72 _ (0, 0) _ rfl hr Tryz.underlying72 rfl (by kernel_rfl)).trans (by rfl)) rfl ⟨u, c, rfl, ?_, ?_⟩
  · exact (hu3.keep (by repeat (first | refine Agree.trans ?_ (agree_setCell _ _ _ _ _ (by omega)) | exact Agree.refl _ _))).low (by omega)
  · exact (by repeat (first | refine Below.setCell ?_ (by dsimp only; omega) _ | exact hB))
set_option maxHeartbeats 1000000 in
theorem toTerm_any (k a x y : Int) (w : World) :
    Calls Tryz.prog 72 #[.agg #[.int .i64 k, .int .i64 a, .int .i64 x, .int .i64 y]] w fun e w' => e = .returned (.agg #[.int .i64 k, .int .i64 a, .int .i64 x, .int .i64 y]) ∧ Below w.heap.size w w' := by
  go_enter Tryz.func72, Tryz.ntmps72
  go_wp2_with fail
  refine bodyPost_ret (v := .agg #[.int .i64 k, .int .i64 a, .int .i64 x, .int .i64 y]) (by simp [results, Tryz.results72, go_sem]) rfl ⟨rfl, ?_⟩
  exact (((Below.refl w.heap.size w).alloc (Nat.le_refl _) _).alloc (by first | (simp; done) | (simp; omega)) _).alloc (by first | (simp; done) | (simp; omega)) _
theorem infoPhi : (Tryz.prog.info? 69).map (fun i => (i.zero, i.size, i.bytes)) = some (some (.agg #[.int .i64 0, .slice none 0 0]), 2, 32) := by kernel_rfl
set_option maxHeartbeats 2000000 in
theorem toPhiS_any (lo : Nat) (a : Option Addr) (cap : Nat) (l : List PhiD) (w : World) (hl : l.length ≤ 1048576) (hs : ∀ d ∈ l, SmPhi d) (hv : PhisAt w lo a l) :
    Calls Tryz.prog 70 #[.slice a l.length cap] w fun e w' => ∃ u c, e = .returned (.slice u l.length c) ∧ PhisAt w' w.heap.size u l ∧ Below w.heap.size w w' := by
  obtain ⟨i0, hi, hz0, hz1, hz2⟩ := info_parts infoPhi
  have hmk := mk_any (t := 62) l.length Tryz.underlying62 hi hz0 hz1 hz2 (by omega) hl
  clear hi hz0 hz1 hz2
  have hm := hv.1
  go_enter Tryz.func70, Tryz.ntmps70
  go_wp2_with fail
  go_loopw [4] (fun i wr => ∃ (k : Nat) (cur : Array Value), k ≤ l.length ∧ i = .int .i64 k ∧ cur.size = l.length * 2 ∧ wr.heap[w.heap.size]? = some (.cells cur 69 (0, 0)) ∧ (∀ j, j < k → cur[j * 2]? = some (.int .i64 (l.getD j phi0).w) ∧ (∃ u c, cur[j * 2 + 1]? = some (.slice u (l.getD j phi0).ins.length c) ∧ IntsAt wr (w.heap.size + 1) u (l.getD j phi0).ins)) ∧ Below w.heap.size w wr) (fun i _ => l.length - (intOf i).toNat)
  case atStart => exact ⟨0, _, by omega, rfl, by simp [size_madeCells], heap_alloc_at _ _, fun j hj => by omega, (Below.refl _ _).alloc (Nat.le_refl _) _⟩
  case round =>
    obtain ⟨k, cur, hk, rfl, hcs, hblk, hdone, hB⟩ := hrel
    by_cases hlt : k < l.length
    · rcases hv.2 with rfl | ⟨b, off, rfl, hlo, hb, hcell⟩
      · simp at hlt
      obtain ⟨h0, ⟨u1, c1, h1, k1⟩⟩ := hcell k hlt
      have hsd := hs _ (getD_mem phi0 l k hlt)
      generalize hd : l.getD k phi0 = d at h0 h1 k1 hsd
      have e0 : wr.cell? ⟨b, off + k * 2, none⟩ = some (.int .i64 d.w) := (cell_block (hB.block b hb)).trans h0
      have e1 : wr.cell? ⟨b, off + k * 2 + 1, none⟩ = some (.slice u1 d.ins.length c1) := (cell_block (hB.block b hb)).trans h1
      have m1 := k1.keep (agree_of_below hB _)
      have HD : Hid (l.getD k phi0 = d) := hd
      have HDN : Hid (∀ j, j < k → cur[j * 2]? = some (.int .i64 (l.getD j phi0).w) ∧ (∃ u c, cur[j * 2 + 1]? = some (.slice u (l.getD j phi0).ins.length c) ∧ IntsAt wr (w.heap.size + 1) u (l.getD j phi0).ins)) := hdone
      have HBK : Hid (wr.heap[w.heap.size]? = some (.cells cur 69 (0, 0))) := hblk
      have HB : Hid (Below w.heap.size w wr) := hB
      have hgl : w.heap.size < wr.heap.size := (Array.getElem?_eq_some_iff.1 hblk).1
      clear hcell hmk hdone hblk hB hd h0 h1
      go_wp2_with (go_at_call 88; refine (toPhi_any lo d _ _ _ hsd m1).mono ?_; rintro e w1 ⟨v1, q1, rfl, n1, hb1⟩; have hblk1 := (hb1.block w.heap.size hgl).trans HBK.out; have g0 : w1.cell? ⟨w.heap.size, k * 2, none⟩ = some (cur[k * 2]'(by omega)) := (by rw [cell_of_heap hblk1]; simp [show k * 2 < cur.size by omega]); have f0 : w1.frozen? ⟨w.heap.size, k * 2, none⟩ = false := froz_of_heap hblk1; have g1 : w1.cell? ⟨w.heap.size, k * 2 + 1, none⟩ = some (cur[k * 2 + 1]'(by omega)) := (by rw [cell_of_heap hblk1]; simp [show k * 2 + 1 < cur.size by omega]); have f1 : w1.frozen? ⟨w.heap.size, k * 2 + 1, none⟩ = false := froz_of_heap hblk1; have HBK1 : Hid (w1.heap[w.heap.size]? = some (.cells cur 69 (0, 0))) := hblk1; clear hblk1)
      go_roundw
      case rel =>
        have hblk1 := HBK1.out
        have hB := HB.out
        have hd := HD.out
        have hag : Agree (w.heap.size + 1) wr ((w1.setCell ⟨w.heap.size, k * 2, none⟩ (.int .i64 d.w)).setCell ⟨w.heap.size, k * 2 + 1, none⟩ (.slice v1 d.ins.length q1)) := (agree_of_below hb1 _).trans (by repeat (first | refine Agree.trans ?_ (agree_setCell _ _ _ _ _ (by omega)) | exact Agree.refl _ _))
        have hag1 : Agree (w.heap.size + 1) w1 ((w1.setCell ⟨w.heap.size, k * 2, none⟩ (.int .i64 d.w)).setCell ⟨w.heap.size, k * 2 + 1, none⟩ (.slice v1 d.ins.length q1)) := (by repeat (first | refine Agree.trans ?_ (agree_setCell _ _ _ _ _ (by omega)) | exact Agree.refl _ _))
        refine ⟨k + 1, ((cur.setIfInBounds (k * 2) (.int .i64 d.w)).setIfInBounds (k * 2 + 1) (.slice v1 d.ins.length q1)), by omega, by go_num, by simpa using hcs, (heap_set (heap_set hblk1)), fun j hj => ?_, ?_⟩
        · by_cases hjk : j = k
          · subst hjk
            rw [hd]
            refine ⟨?_, ⟨v1, q1, ?_, (n1.low (by omega)).keep hag1⟩⟩
            all_goals (repeat rw [Array.getElem?_setIfInBounds_ne (by omega)])
            all_goals (rw [Array.getElem?_setIfInBounds_self]; simp; omega)
          · obtain ⟨p0, ⟨z1, y1, p1, x1⟩⟩ := HDN.out j (by omega)
            refine ⟨?_, ⟨z1, y1, ?_, x1.keep hag⟩⟩
            all_goals (repeat rw [Array.getElem?_setIfInBounds_ne (by omega)])
            all_goals assumption
        · have hB1 := hB.trans (hb1.mono hB.size)
          repeat (first | refine Below.setCell ?_ (by first | (dsimp only; omega) | exact Nat.le_refl _) _ | exact hB1)
      case measure => simp [intOf]; omega
    · have hke : k = l.length := by omega
      have HH : Hid (wr.heap[w.heap.size]? = some (.cells cur 69 (0, 0))) := hblk
      have HDN : Hid (∀ j, j < k → cur[j * 2]? = some (.int .i64 (l.getD j phi0).w) ∧ (∃ u c, cur[j * 2 + 1]? = some (.slice u (l.getD j phi0).ins.length c) ∧ IntsAt wr (w.heap.size + 1) u (l.getD j phi0).ins)) := hdone
      clear hmk hblk hdone
      go_wp2_with fail
      go_ret
      refine ⟨_, _, rfl, ⟨hm, .inr ⟨w.heap.size, 0, rfl, Nat.le_refl _, ?_, fun i hi => ?_⟩⟩, hB⟩
      · exact (Array.getElem?_eq_some_iff.1 HH.out).1
      · obtain ⟨p0, ⟨z1, y1, p1, x1⟩⟩ := HDN.out i (by omega)
        simp only [Nat.zero_add, cell_of_heap HH.out]
        exact ⟨p0, ⟨z1, y1, p1, x1.low (by omega)⟩⟩
theorem infoInst : (Tryz.prog.info? 72).map (fun i => (i.zero, i.size, i.bytes)) = some (some (.agg #[.int .i64 0, .int .i64 0, .int .i64 0, .int .i64 0, .int .i64 0, .int .i64 0, .slice none 0 0]), 7, 72) := by kernel_rfl
set_option maxHeartbeats 2000000 in
theorem toInstS_any (lo : Nat) (a : Option Addr) (cap : Nat) (l : List InstD) (w : World) (hl : l.length ≤ 1048576) (hs : ∀ d ∈ l, SmInst d) (hv : InstsAt w lo a l) :
    Calls Tryz.prog 71 #[.slice a l.length cap] w fun e w' => ∃ u c, e = .returned (.slice u l.length c) ∧ InstsAt w' w.heap.size u l ∧ Below w.heap.size w w' := by
  obtain ⟨i0, hi, hz0, hz1, hz2⟩ := info_parts infoInst
  have hmk := mk_any (t := 63) l.length Tryz.underlying63 hi hz0 hz1 hz2 (by omega) hl
  clear hi hz0 hz1 hz2
  have hm := hv.1
  go_enter Tryz.func71, Tryz.ntmps71
  go_wp2_with fail
  go_loopw [4] (fun i wr => ∃ (k : Nat) (cur : Array Value), k ≤ l.length ∧ i = .int .i64 k ∧ cur.size = l.length * 7 ∧ wr.heap[w.heap.size]? = some (.cells cur 72 (0, 0)) ∧ (∀ j, j < k → cur[j * 7]? = some (.int .i64 (l.getD j inst0).op) ∧ cur[j * 7 + 1]? = some (.int .i64 (l.getD j inst0).w) ∧ cur[j * 7 + 2]? = some (.int .i64 (l.getD j inst0).a) ∧ cur[j * 7 + 3]? = some (.int .i64 (l.getD j inst0).b) ∧ cur[j * 7 + 4]? = some (.int .i64 (l.getD j inst0).c) ∧ cur[j * 7 + 5]? = some (.int .i64 (l.getD j inst0).imm) ∧ (∃ u c, cur[j * 7 + 6]? = some (.slice u (l.getD j inst0).args.length c) ∧ IntsAt wr (w.heap.size + 1) u (l.getD j inst0).args)) ∧ Below w.heap.size w wr) (fun i _ => l.length - (intOf i).toNat)
  case atStart => exact ⟨0, _, by omega, rfl, by simp [size_madeCells], heap_alloc_at _ _, fun j hj => by omega, (Below.refl _ _).alloc (Nat.le_refl _) _⟩
  case round =>
    obtain ⟨k, cur, hk, rfl, hcs, hblk, hdone, hB⟩ := hrel
    by_cases hlt : k < l.length
    · rcases hv.2 with rfl | ⟨b, off, rfl, hlo, hb, hcell⟩
      · simp at hlt
      obtain ⟨h0, h1, h2, h3, h4, h5, ⟨u6, c6, h6, k6⟩⟩ := hcell k hlt
      have hsd := hs _ (getD_mem inst0 l k hlt)
      generalize hd : l.getD k inst0 = d at h0 h1 h2 h3 h4 h5 h6 k6 hsd
      have e0 : wr.cell? ⟨b, off + k * 7, none⟩ = some (.int .i64 d.op) := (cell_block (hB.block b hb)).trans h0
      have e1 : wr.cell? ⟨b, off + k * 7 + 1, none⟩ = some (.int .i64 d.w) := (cell_block (hB.block b hb)).trans h1
      have e2 : wr.cell? ⟨b, off + k * 7 + 2, none⟩ = some (.int .i64 d.a) := (cell_block (hB.block b hb)).trans h2
      have e3 : wr.cell? ⟨b, off + k * 7 + 3, none⟩ = some (.int .i64 d.b) := (cell_block (hB.block b hb)).trans h3
      have e4 : wr.cell? ⟨b, off + k * 7 + 4, none⟩ = some (.int .i64 d.c) := (cell_block (hB.block b hb)).trans h4
      have e5 : wr.cell? ⟨b, off + k * 7 + 5, none⟩ = some (.int .i64 d.imm) := (cell_block (hB.block b hb)).trans h5
      have e6 : wr.cell? ⟨b, off + k * 7 + 6, none⟩ = some (.slice u6 d.args.length c6) := (cell_block (hB.block b hb)).trans h6
      have m6 := k6.keep (agree_of_below hB _)
      have HD : Hid (l.getD k inst0 = d) := hd
      have HDN : Hid (∀ j, j < k → cur[j * 7]? = some (.int .i64 (l.getD j inst0).op) ∧ cur[j * 7 + 1]? = some (.int .i64 (l.getD j inst0).w) ∧ cur[j * 7 + 2]? = some (.int .i64 (l.getD j inst0).a) ∧ cur[j * 7 + 3]? = some (.int .i64 (l.getD j inst0).b) ∧ cur[j * 7 + 4]? = some (.int .i64 (l.getD j inst0).c) ∧ cur[j * 7 + 5]? = some (.int .i64 (l.getD j inst0).imm) ∧ (∃ u c, cur[j * 7 + 6]? = some (.slice u (l.getD j inst0).args.length c) ∧ IntsAt wr (w.heap.size + 1) u (l.getD j inst0).args)) := hdone
      have HBK : Hid (wr.heap[w.heap.size]? = some (.cells cur 72 (0, 0))) := hblk
      have HB : Hid (Below w.heap.size w wr) := hB
      have hgl : w.heap.size < wr.heap.size := (Array.getElem?_eq_some_iff.1 hblk).1
      clear hcell hmk hdone hblk hB hd h0 h1 h2 h3 h4 h5 h6
      go_wp2_with (go_at_call 89; refine (toInst_any lo d _ _ _ hsd m6).mono ?_; rintro e w1 ⟨v6, q6, rfl, n6, hb1⟩; have hblk1 := (hb1.block w.heap.size hgl).trans HBK.out; have g0 : w1.cell? ⟨w.heap.size, k * 7, none⟩ = some (cur[k * 7]'(by omega)) := (by rw [cell_of_heap hblk1]; simp [show k * 7 < cur.size by omega]); have f0 : w1.frozen? ⟨w.heap.size, k * 7, none⟩ = false := froz_of_heap hblk1; have g1 : w1.cell? ⟨w.heap.size, k * 7 + 1, none⟩ = some (cur[k * 7 + 1]'(by omega)) := (by rw [cell_of_heap hblk1]; simp [show k * 7 + 1 < cur.size by omega]); have f1 : w1.frozen? ⟨w.heap.size, k * 7 + 1, none⟩ = false := froz_of_heap hblk1; have g2 : w1.cell? ⟨w.heap.size, k * 7 + 2, none⟩ = some (cur[k * 7 + 2]'(by omega)) := (by rw [cell_of_heap hblk1]; simp [show k * 7 + 2 < cur.size by omega]); have f2 : w1.frozen? ⟨w.heap.size, k * 7 + 2, none⟩ = false := froz_of_heap hblk1; have g3 : w1.cell? ⟨w.heap.size, k * 7 + 3, none⟩ = some (cur[k * 7 + 3]'(by omega)) := (by rw [cell_of_heap hblk1]; simp [show k * 7 + 3 < cur.size by omega]); have f3 : w1.frozen? ⟨w.heap.size, k * 7 + 3, none⟩ = false := froz_of_heap hblk1; have g4 : w1.cell? ⟨w.heap.size, k * 7 + 4, none⟩ = some (cur[k * 7 + 4]'(by omega)) := (by rw [cell_of_heap hblk1]; simp [show k * 7 + 4 < cur.size by omega]); have f4 : w1.frozen? ⟨w.heap.size, k * 7 + 4, none⟩ = false := froz_of_heap hblk1; have g5 : w1.cell? ⟨w.heap.size, k * 7 + 5, none⟩ = some (cur[k * 7 + 5]'(by omega)) := (by rw [cell_of_heap hblk1]; simp [show k * 7 + 5 < cur.size by omega]); have f5 : w1.frozen? ⟨w.heap.size, k * 7 + 5, none⟩ = false := froz_of_heap hblk1; have g6 : w1.cell? ⟨w.heap.size, k * 7 + 6, none⟩ = some (cur[k * 7 + 6]'(by omega)) := (by rw [cell_of_heap hblk1]; simp [show k * 7 + 6 < cur.size by omega]); have f6 : w1.frozen? ⟨w.heap.size, k * 7 + 6, none⟩ = false := froz_of_heap hblk1; have HBK1 : Hid (w1.heap[w.heap.size]? = some (.cells cur 72 (0, 0))) := hblk1; clear hblk1)
      go_roundw
      case rel =>
        have hblk1 := HBK1.out
        have hB := HB.out
        have hd := HD.out
        have hag : Agree (w.heap.size + 1) wr (((((((w1.setCell ⟨w.heap.size, k * 7, none⟩ (.int .i64 d.op)).setCell ⟨w.heap.size, k * 7 + 1, none⟩ (.int .i64 d.w)).setCell ⟨w.heap.size, k * 7 + 2, none⟩ (.int .i64 d.a)).setCell ⟨w.heap.size, k * 7 + 3, none⟩ (.int .i64 d.b)).setCell ⟨w.heap.size, k * 7 + 4, none⟩ (.int .i64 d.c)).setCell ⟨w.heap.size, k * 7 + 5, none⟩ (.int .i64 d.imm)).setCell ⟨w.heap.size, k * 7 + 6, none⟩ (.slice v6 d.args.length q6)) := (agree_of_below hb1 _).trans (by repeat (first | refine Agree.trans ?_ (agree_setCell _ _ _ _ _ (by omega)) | exact Agree.refl _ _))
        have hag1 : Agree (w.heap.size + 1) w1 (((((((w1.setCell ⟨w.heap.size, k * 7, none⟩ (.int .i64 d.op)).setCell ⟨w.heap.size, k * 7 + 1, none⟩ (.int .i64 d.w)).setCell ⟨w.heap.size, k * 7 + 2, none⟩ (.int .i64 d.a)).setCell ⟨w.heap.size, k * 7 + 3, none⟩ (.int .i64 d.b)).setCell ⟨w.heap.size, k * 7 + 4, none⟩ (.int .i64 d.c)).setCell ⟨w.heap.size, k * 7 + 5, none⟩ (.int .i64 d.imm)).setCell ⟨w.heap.size, k * 7 + 6, none⟩ (.slice v6 d.args.length q6)) := (by repeat (first | refine Agree.trans ?_ (agree_setCell _ _ _ _ _ (by omega)) | exact Agree.refl _ _))
        refine ⟨k + 1, (((((((cur.setIfInBounds (k * 7) (.int .i64 d.op)).setIfInBounds (k * 7 + 1) (.int .i64 d.w)).setIfInBounds (k * 7 + 2) (.int .i64 d.a)).setIfInBounds (k * 7 + 3) (.int .i64 d.b)).setIfInBounds (k * 7 + 4) (.int .i64 d.c)).setIfInBounds (k * 7 + 5) (.int .i64 d.imm)).setIfInBounds (k * 7 + 6) (.slice v6 d.args.length q6)), by omega, by go_num, by simpa using hcs, (heap_set (heap_set (heap_set (heap_set (heap_set (heap_set (heap_set hblk1))))))), fun j hj => ?_, ?_⟩
        · by_cases hjk : j = k
          · subst hjk
            rw [hd]
            refine ⟨?_, ?_, ?_, ?_, ?_, ?_, ⟨v6, q6, ?_, (n6.low (by omega)).keep hag1⟩⟩
            all_goals (repeat rw [Array.getElem?_setIfInBounds_ne (by omega)])
            all_goals (rw [Array.getElem?_setIfInBounds_self]; simp; omega)
          · obtain ⟨p0, p1, p2, p3, p4, p5, ⟨z6, y6, p6, x6⟩⟩ := HDN.out j (by omega)
            refine ⟨?_, ?_, ?_, ?_, ?_, ?_, ⟨z6, y6, ?_, x6.keep hag⟩⟩
            all_goals (repeat rw [Array.getElem?_setIfInBounds_ne (by omega)])
            all_goals assumption
        · have hB1 := hB.trans (hb1.mono hB.size)
          repeat (first | refine Below.setCell ?_ (by first | (dsimp only; omega) | exact Nat.le_refl _) _ | exact hB1)
      case measure => simp [intOf]; omega
    · have hke : k = l.length := by omega
      have HH : Hid (wr.heap[w.heap.size]? = some (.cells cur 72 (0, 0))) := hblk
      have HDN : Hid (∀ j, j < k → cur[j * 7]? = some (.int .i64 (l.getD j inst0).op) ∧ cur[j * 7 + 1]? = some (.int .i64 (l.getD j inst0).w) ∧ cur[j * 7 + 2]? = some (.int .i64 (l.getD j inst0).a) ∧ cur[j * 7 + 3]? = some (.int .i64 (l.getD j inst0).b) ∧ cur[j * 7 + 4]? = some (.int .i64 (l.getD j inst0).c) ∧ cur[j * 7 + 5]? = some (.int .i64 (l.getD j inst0).imm) ∧ (∃ u c, cur[j * 7 + 6]? = some (.slice u (l.getD j inst0).args.length c) ∧ IntsAt wr (w.heap.size + 1) u (l.getD j inst0).args)) := hdone
      clear hmk hblk hdone
      go_wp2_with fail
      go_ret
      refine ⟨_, _, rfl, ⟨hm, .inr ⟨w.heap.size, 0, rfl, Nat.le_refl _, ?_, fun i hi => ?_⟩⟩, hB⟩
      · exact (Array.getElem?_eq_some_iff.1 HH.out).1
      · obtain ⟨p0, p1, p2, p3, p4, p5, ⟨z6, y6, p6, x6⟩⟩ := HDN.out i (by omega)
        simp only [Nat.zero_add, cell_of_heap HH.out]
        exact ⟨p0, p1, p2, p3, p4, p5, ⟨z6, y6, p6, x6.low (by omega)⟩⟩
end Go.Proofs.YtjpiiemhklphlaaGreatDoor
