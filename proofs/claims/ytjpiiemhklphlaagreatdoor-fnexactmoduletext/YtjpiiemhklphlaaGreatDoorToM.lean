/- The contracts of the copying functions of modules. -/
import Derived.Test.YtjpiiemhklphlaaGreatDoorTo2
import Derived.Test.YtjpiiemhklphlaaGreatDoorSzM
namespace Go.Proofs.YtjpiiemhklphlaaGreatDoor
open Go.RowKit

theorem infoFunc : (Tryz.prog.info? 59).map (fun i => (i.zero, i.size, i.bytes)) = some (some (.agg #[.slice none 0 0, .int .i64 0, .slice none 0 0]), 3, 56) := by kernel_rfl
set_option maxHeartbeats 2000000 in
theorem toFuncS_any (lo : Nat) (a : Option Addr) (cap : Nat) (l : List FuncD) (w : World) (hl : l.length ≤ 1048576) (hs : ∀ d ∈ l, SmFunc d) (hv : FuncsAt w lo a l) :
    Calls Tryz.prog 12 #[.slice a l.length cap] w fun e w' => ∃ u c, e = .returned (.slice u l.length c) ∧ FuncsAt w' w.heap.size u l ∧ Below w.heap.size w w' := by
  obtain ⟨i0, hi, hz0, hz1, hz2⟩ := info_parts infoFunc
  have hmk := mk_any (t := 27) l.length Tryz.underlying27 hi hz0 hz1 hz2 (by omega) hl
  clear hi hz0 hz1 hz2
  have hm := hv.1
  go_enter Tryz.func12, Tryz.ntmps12
  go_wp2_with fail
  go_loopw [4] (fun i wr => ∃ (k : Nat) (cur : Array Value), k ≤ l.length ∧ i = .int .i64 k ∧ cur.size = l.length * 3 ∧ wr.heap[w.heap.size]? = some (.cells cur 59 (0, 0)) ∧ (∀ j, j < k → (∃ u c, cur[j * 3]? = some (.slice u (l.getD j func0).params.length c) ∧ IntsAt wr (w.heap.size + 1) u (l.getD j func0).params) ∧ cur[j * 3 + 1]? = some (.int .i64 (l.getD j func0).ret) ∧ (∃ u c, cur[j * 3 + 2]? = some (.slice u (l.getD j func0).blocks.length c) ∧ BlocksAt wr (w.heap.size + 1) u (l.getD j func0).blocks)) ∧ Below w.heap.size w wr) (fun i _ => l.length - (intOf i).toNat)
  case atStart => exact ⟨0, _, by omega, rfl, by simp [size_madeCells], heap_alloc_at _ _, fun j hj => by omega, (Below.refl _ _).alloc (Nat.le_refl _) _⟩
  case round =>
    obtain ⟨k, cur, hk, rfl, hcs, hblk, hdone, hB⟩ := hrel
    by_cases hlt : k < l.length
    · rcases hv.2 with rfl | ⟨b, off, rfl, hlo, hb, hcell⟩
      · simp at hlt
      obtain ⟨⟨u0, c0, h0, k0⟩, h1, ⟨u2, c2, h2, k2⟩⟩ := hcell k hlt
      have hsd := hs _ (getD_mem func0 l k hlt)
      generalize hd : l.getD k func0 = d at h0 h1 h2 k0 k2 hsd
      have e0 : wr.cell? ⟨b, off + k * 3, none⟩ = some (.slice u0 d.params.length c0) := (cell_block (hB.block b hb)).trans h0
      have m0 := k0.keep (agree_of_below hB _)
      have e1 : wr.cell? ⟨b, off + k * 3 + 1, none⟩ = some (.int .i64 d.ret) := (cell_block (hB.block b hb)).trans h1
      have e2 : wr.cell? ⟨b, off + k * 3 + 2, none⟩ = some (.slice u2 d.blocks.length c2) := (cell_block (hB.block b hb)).trans h2
      have m2 := k2.keep (agree_of_below hB _)
      have HD : Hid (l.getD k func0 = d) := hd
      have HDN : Hid (∀ j, j < k → (∃ u c, cur[j * 3]? = some (.slice u (l.getD j func0).params.length c) ∧ IntsAt wr (w.heap.size + 1) u (l.getD j func0).params) ∧ cur[j * 3 + 1]? = some (.int .i64 (l.getD j func0).ret) ∧ (∃ u c, cur[j * 3 + 2]? = some (.slice u (l.getD j func0).blocks.length c) ∧ BlocksAt wr (w.heap.size + 1) u (l.getD j func0).blocks)) := hdone
      have HBK : Hid (wr.heap[w.heap.size]? = some (.cells cur 59 (0, 0))) := hblk
      have HB : Hid (Below w.heap.size w wr) := hB
      have hgl : w.heap.size < wr.heap.size := (Array.getElem?_eq_some_iff.1 hblk).1
      clear hcell hmk hdone hblk hB hd h0 h1 h2
      go_wp2_with (go_at_call 26; refine (toFunc_any lo d _ _ _ _ _ hsd m0 m2).mono ?_; rintro e w1 ⟨v0, q0, v2, q2, rfl, n0, n2, hb1⟩; have hblk1 := (hb1.block w.heap.size hgl).trans HBK.out; have g0 : w1.cell? ⟨w.heap.size, k * 3, none⟩ = some (cur[k * 3]'(by omega)) := (by rw [cell_of_heap hblk1]; simp [show k * 3 < cur.size by omega]); have f0 : w1.frozen? ⟨w.heap.size, k * 3, none⟩ = false := froz_of_heap hblk1; have g1 : w1.cell? ⟨w.heap.size, k * 3 + 1, none⟩ = some (cur[k * 3 + 1]'(by omega)) := (by rw [cell_of_heap hblk1]; simp [show k * 3 + 1 < cur.size by omega]); have f1 : w1.frozen? ⟨w.heap.size, k * 3 + 1, none⟩ = false := froz_of_heap hblk1; have g2 : w1.cell? ⟨w.heap.size, k * 3 + 2, none⟩ = some (cur[k * 3 + 2]'(by omega)) := (by rw [cell_of_heap hblk1]; simp [show k * 3 + 2 < cur.size by omega]); have f2 : w1.frozen? ⟨w.heap.size, k * 3 + 2, none⟩ = false := froz_of_heap hblk1; have HBK1 : Hid (w1.heap[w.heap.size]? = some (.cells cur 59 (0, 0))) := hblk1; clear hblk1)
      go_roundw
      case rel =>
        have hblk1 := HBK1.out
        have hB := HB.out
        have hd := HD.out
        have hag : Agree (w.heap.size + 1) wr (((w1.setCell ⟨w.heap.size, k * 3, none⟩ (.slice v0 d.params.length q0)).setCell ⟨w.heap.size, k * 3 + 1, none⟩ (.int .i64 d.ret)).setCell ⟨w.heap.size, k * 3 + 2, none⟩ (.slice v2 d.blocks.length q2)) := (agree_of_below hb1 _).trans (by repeat (first | refine Agree.trans ?_ (agree_setCell _ _ _ _ _ (by omega)) | exact Agree.refl _ _))
        have hag1 : Agree (w.heap.size + 1) w1 (((w1.setCell ⟨w.heap.size, k * 3, none⟩ (.slice v0 d.params.length q0)).setCell ⟨w.heap.size, k * 3 + 1, none⟩ (.int .i64 d.ret)).setCell ⟨w.heap.size, k * 3 + 2, none⟩ (.slice v2 d.blocks.length q2)) := (by repeat (first | refine Agree.trans ?_ (agree_setCell _ _ _ _ _ (by omega)) | exact Agree.refl _ _))
        refine ⟨k + 1, (((cur.setIfInBounds (k * 3) (.slice v0 d.params.length q0)).setIfInBounds (k * 3 + 1) (.int .i64 d.ret)).setIfInBounds (k * 3 + 2) (.slice v2 d.blocks.length q2)), by omega, by go_num, by simpa using hcs, (heap_set (heap_set (heap_set hblk1))), fun j hj => ?_, ?_⟩
        · by_cases hjk : j = k
          · subst hjk
            rw [hd]
            refine ⟨⟨v0, q0, ?_, (n0.low (by omega)).keep hag1⟩, ?_, ⟨v2, q2, ?_, (n2.low (by omega)).keep hag1⟩⟩
            all_goals (repeat rw [Array.getElem?_setIfInBounds_ne (by omega)])
            all_goals (rw [Array.getElem?_setIfInBounds_self]; simp; omega)
          · obtain ⟨⟨z0, y0, p0, x0⟩, p1, ⟨z2, y2, p2, x2⟩⟩ := HDN.out j (by omega)
            refine ⟨⟨z0, y0, ?_, x0.keep hag⟩, ?_, ⟨z2, y2, ?_, x2.keep hag⟩⟩
            all_goals (repeat rw [Array.getElem?_setIfInBounds_ne (by omega)])
            all_goals assumption
        · have hB1 := hB.trans (hb1.mono hB.size)
          repeat (first | refine Below.setCell ?_ (by first | (dsimp only; omega) | exact Nat.le_refl _) _ | exact hB1)
      case measure => simp [intOf]; omega
    · have hke : k = l.length := by omega
      have HH : Hid (wr.heap[w.heap.size]? = some (.cells cur 59 (0, 0))) := hblk
      have HDN : Hid (∀ j, j < k → (∃ u c, cur[j * 3]? = some (.slice u (l.getD j func0).params.length c) ∧ IntsAt wr (w.heap.size + 1) u (l.getD j func0).params) ∧ cur[j * 3 + 1]? = some (.int .i64 (l.getD j func0).ret) ∧ (∃ u c, cur[j * 3 + 2]? = some (.slice u (l.getD j func0).blocks.length c) ∧ BlocksAt wr (w.heap.size + 1) u (l.getD j func0).blocks)) := hdone
      clear hmk hblk hdone
      go_wp2_with fail
      go_ret
      refine ⟨_, _, rfl, ⟨hm, .inr ⟨w.heap.size, 0, rfl, Nat.le_refl _, ?_, fun i hi => ?_⟩⟩, hB⟩
      · exact (Array.getElem?_eq_some_iff.1 HH.out).1
      · obtain ⟨⟨z0, y0, p0, x0⟩, p1, ⟨z2, y2, p2, x2⟩⟩ := HDN.out i (by omega)
        simp only [Nat.zero_add, cell_of_heap HH.out]
        exact ⟨⟨z0, y0, p0, x0.low (by omega)⟩, p1, ⟨z2, y2, p2, x2.low (by omega)⟩⟩
set_option maxHeartbeats 2000000 in
theorem toModule_any (lo : Nat) (l : List FuncD) (u0 : Option Addr) (c0 : Nat) (w : World) (hs : SmMod l) (k0 : FuncsAt w lo u0 l) :
    Calls Tryz.prog 6 #[.agg #[.slice u0 l.length c0]] w fun e w' => ∃ u c, e = .returned (.agg #[.slice u l.length c]) ∧ FuncsAt w' w.heap.size u l ∧ Below w.heap.size w w' := by
  go_enter Tryz.func6, Tryz.ntmps6
  go_wp2_with (go_at_call 12; refine (toFuncS_any lo _ _ _ _ hs.1 hs.2 (k0.keep (((agree_alloc _ _ _).trans (agree_alloc _ _ _)).trans (agree_alloc _ _ _)))).mono ?_; rintro e w1 ⟨u, c, rfl, hu, hb1⟩; have hcc := bcell hb1; have hff := bfroz hb1)
  have hB : Below w.heap.size w w1 := ((((Below.refl w.heap.size w).alloc (Nat.le_refl _) _).alloc (by first | (simp; done) | (simp; omega)) _).alloc (by first | (simp; done) | (simp; omega)) _).trans (hb1.mono (by first | (simp; done) | (simp; omega)))
  have hu3 := hu.low (lo' := w.heap.size + 3) (by first | (simp; done) | (simp; omega))
  have hr := (heap_set (o := 0) (v := .slice u l.length c) (heap_other (g := w.heap.size + 1) (p := ⟨w.heap.size + 1 + 1, 0, none⟩) (v := .slice u l.length c) (by simp) ((hb1.block (w.heap.size + 1) (by simp)).trans (heap_mid _ _ _ _))))
  refine bodyPost_ret (v := .agg #[.slice u l.length c]) ((results_cell_row Tryz.results6 _ _ (w.heap.size + 1) 29 _ (0, 0) _ rfl hr Tryz.underlying29 rfl (by kernel_rfl)).trans (by rfl)) rfl ⟨u, c, rfl, ?_, ?_⟩
  · exact (hu3.keep (by repeat (first | refine Agree.trans ?_ (agree_setCell _ _ _ _ _ (by omega)) | exact Agree.refl _ _))).low (by omega)
  · repeat (first | refine Below.setCell ?_ (by dsimp only; omega) _ | exact hB)
end Go.Proofs.YtjpiiemhklphlaaGreatDoor
