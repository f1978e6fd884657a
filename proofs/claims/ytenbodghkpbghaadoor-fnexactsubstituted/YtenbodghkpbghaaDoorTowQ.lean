import Derived.Test.YtenbodghkpbghaaDoorTo2Q
namespace Go.Proofs.YtenbodghkpbghaaDoor
open Go.RowKit
def OI (w : World) (lo : Nat) (a : Option Addr) (l : List Int) : Prop :=
 l.length ≤ 9223372036854775807 ∧ (l = [] ∨ ∃ g cur, a = some ⟨g, 0, none⟩ ∧ lo ≤ g ∧ w.heap[g]? = some (.cells cur 2 (0, 0)) ∧ ∀ i, i < l.length → cur[i]? = some (.int .i64 (l.getD i 0)))
theorem OI.keep {w w' : World} {lo : Nat} {a : Option Addr} {l : List Int} (h : OI w lo a l) (k : Agree lo w w') : OI w' lo a l := by
 obtain ⟨hm, h⟩ := h
 refine ⟨hm, ?_⟩
 rcases h with h | ⟨g, cur, ha, hl, hb, hc⟩
 ·exact .inl h
 ·exact .inr ⟨g, cur, ha, hl, (k.2 g hl (Array.getElem?_eq_some_iff.1 hb).1).trans hb, hc⟩
theorem OI.low {w : World} {lo lo' : Nat} {a : Option Addr} {l : List Int} (h : OI w lo a l) (k : lo' ≤ lo) : OI w lo' a l := by
 obtain ⟨hm, h⟩ := h
 refine ⟨hm, ?_⟩
 rcases h with h | ⟨g, cur, ha, hl, hb, hc⟩
 ·exact .inl h
 ·exact .inr ⟨g, cur, ha, Nat.le_trans k hl, hb, hc⟩
theorem OI.at {w : World} {lo : Nat} {a : Option Addr} {l : List Int} (h : OI w lo a l) : IntsAt w lo a l := by
 obtain ⟨hm, h⟩ := h
 refine ⟨hm, ?_⟩
 rcases h with h | ⟨g, cur, ha, hl, hb, hc⟩
 ·exact .inl h
 ·exact .inr ⟨g, 0, ha, hl, (Array.getElem?_eq_some_iff.1 hb).1, fun i hi => (cell_of_heap hb).trans (by simpa using hc i hi)⟩
def OP (w : World) (lo : Nat) (a : Option Addr) (l : List PhiD) : Prop :=
 l.length ≤ 9223372036854775807 ∧ (l = [] ∨ ∃ g cur, a = some ⟨g, 0, none⟩ ∧ lo ≤ g ∧ w.heap[g]? = some (.cells cur 89 (0, 0)) ∧ ∀ i, i < l.length → cur[i * 2]? = some (.int .i64 (l.getD i phi0).w) ∧ (∃ u c, cur[i * 2 + 1]? = some (.slice u (l.getD i phi0).ins.length c) ∧ OI w lo u (l.getD i phi0).ins))
theorem OP.keep {w w' : World} {lo : Nat} {a : Option Addr} {l : List PhiD} (h : OP w lo a l) (k : Agree lo w w') : OP w' lo a l := by
 obtain ⟨hm, h⟩ := h
 refine ⟨hm, ?_⟩
 rcases h with h | ⟨g, cur, ha, hl, hb, hc⟩
 ·exact .inl h
 ·refine .inr ⟨g, cur, ha, hl, (k.2 g hl (Array.getElem?_eq_some_iff.1 hb).1).trans hb, fun i hi => ?_⟩
  obtain ⟨h0, ⟨u1, c1, h1, k1⟩⟩ := hc i hi
  exact ⟨h0, ⟨u1, c1, h1, k1.keep k⟩⟩
theorem OP.low {w : World} {lo lo' : Nat} {a : Option Addr} {l : List PhiD} (h : OP w lo a l) (k : lo' ≤ lo) : OP w lo' a l := by
 obtain ⟨hm, h⟩ := h
 refine ⟨hm, ?_⟩
 rcases h with h | ⟨g, cur, ha, hl, hb, hc⟩
 ·exact .inl h
 ·refine .inr ⟨g, cur, ha, Nat.le_trans k hl, hb, fun i hi => ?_⟩
  obtain ⟨h0, ⟨u1, c1, h1, k1⟩⟩ := hc i hi
  exact ⟨h0, ⟨u1, c1, h1, k1.low k⟩⟩
theorem OP.at {w : World} {lo : Nat} {a : Option Addr} {l : List PhiD} (h : OP w lo a l) : PhisAt w lo a l := by
 obtain ⟨hm, h⟩ := h
 refine ⟨hm, ?_⟩
 rcases h with h | ⟨g, cur, ha, hl, hb, hc⟩
 ·exact .inl h
 ·refine .inr ⟨g, 0, ha, hl, (Array.getElem?_eq_some_iff.1 hb).1, fun i hi => ?_⟩
  obtain ⟨h0, ⟨u1, c1, h1, k1⟩⟩ := hc i hi
  exact ⟨(cell_of_heap hb).trans (by simpa using h0), ⟨u1, c1, (cell_of_heap hb).trans (by simpa using h1), k1.at⟩⟩
def ON (w : World) (lo : Nat) (a : Option Addr) (l : List InstD) : Prop :=
 l.length ≤ 9223372036854775807 ∧ (l = [] ∨ ∃ g cur, a = some ⟨g, 0, none⟩ ∧ lo ≤ g ∧ w.heap[g]? = some (.cells cur 44 (0, 0)) ∧ ∀ i, i < l.length → cur[i * 7]? = some (.int .i64 (l.getD i inst0).op) ∧ cur[i * 7 + 1]? = some (.int .i64 (l.getD i inst0).w) ∧ cur[i * 7 + 2]? = some (.int .i64 (l.getD i inst0).a) ∧ cur[i * 7 + 3]? = some (.int .i64 (l.getD i inst0).b) ∧ cur[i * 7 + 4]? = some (.int .i64 (l.getD i inst0).c) ∧ cur[i * 7 + 5]? = some (.int .i64 (l.getD i inst0).imm) ∧ (∃ u c, cur[i * 7 + 6]? = some (.slice u (l.getD i inst0).args.length c) ∧ OI w lo u (l.getD i inst0).args))
theorem ON.keep {w w' : World} {lo : Nat} {a : Option Addr} {l : List InstD} (h : ON w lo a l) (k : Agree lo w w') : ON w' lo a l := by
 obtain ⟨hm, h⟩ := h
 refine ⟨hm, ?_⟩
 rcases h with h | ⟨g, cur, ha, hl, hb, hc⟩
 ·exact .inl h
 ·refine .inr ⟨g, cur, ha, hl, (k.2 g hl (Array.getElem?_eq_some_iff.1 hb).1).trans hb, fun i hi => ?_⟩
  obtain ⟨h0, h1, h2, h3, h4, h5, ⟨u6, c6, h6, k6⟩⟩ := hc i hi
  exact ⟨h0, h1, h2, h3, h4, h5, ⟨u6, c6, h6, k6.keep k⟩⟩
theorem ON.low {w : World} {lo lo' : Nat} {a : Option Addr} {l : List InstD} (h : ON w lo a l) (k : lo' ≤ lo) : ON w lo' a l := by
 obtain ⟨hm, h⟩ := h
 refine ⟨hm, ?_⟩
 rcases h with h | ⟨g, cur, ha, hl, hb, hc⟩
 ·exact .inl h
 ·refine .inr ⟨g, cur, ha, Nat.le_trans k hl, hb, fun i hi => ?_⟩
  obtain ⟨h0, h1, h2, h3, h4, h5, ⟨u6, c6, h6, k6⟩⟩ := hc i hi
  exact ⟨h0, h1, h2, h3, h4, h5, ⟨u6, c6, h6, k6.low k⟩⟩
theorem ON.at {w : World} {lo : Nat} {a : Option Addr} {l : List InstD} (h : ON w lo a l) : InstsAt w lo a l := by
 obtain ⟨hm, h⟩ := h
 refine ⟨hm, ?_⟩
 rcases h with h | ⟨g, cur, ha, hl, hb, hc⟩
 ·exact .inl h
 ·refine .inr ⟨g, 0, ha, hl, (Array.getElem?_eq_some_iff.1 hb).1, fun i hi => ?_⟩
  obtain ⟨h0, h1, h2, h3, h4, h5, ⟨u6, c6, h6, k6⟩⟩ := hc i hi
  exact ⟨(cell_of_heap hb).trans (by simpa using h0), (cell_of_heap hb).trans (by simpa using h1), (cell_of_heap hb).trans (by simpa using h2), (cell_of_heap hb).trans (by simpa using h3), (cell_of_heap hb).trans (by simpa using h4), (cell_of_heap hb).trans (by simpa using h5), ⟨u6, c6, (cell_of_heap hb).trans (by simpa using h6), k6.at⟩⟩
def OB (w : World) (lo : Nat) (a : Option Addr) (l : List BlockD) : Prop :=
 l.length ≤ 9223372036854775807 ∧ (l = [] ∨ ∃ g cur, a = some ⟨g, 0, none⟩ ∧ lo ≤ g ∧ w.heap[g]? = some (.cells cur 41 (0, 0)) ∧ ∀ i, i < l.length → (∃ u c, cur[i * 6]? = some (.slice u (l.getD i block0).phis.length c) ∧ OP w lo u (l.getD i block0).phis) ∧ (∃ u c, cur[i * 6 + 1]? = some (.slice u (l.getD i block0).insts.length c) ∧ ON w lo u (l.getD i block0).insts) ∧ cur[i * 6 + 2]? = some (.int .i64 (l.getD i block0).term.kind) ∧ cur[i * 6 + 3]? = some (.int .i64 (l.getD i block0).term.a) ∧ cur[i * 6 + 4]? = some (.int .i64 (l.getD i block0).term.x) ∧ cur[i * 6 + 5]? = some (.int .i64 (l.getD i block0).term.y))
theorem OB.keep {w w' : World} {lo : Nat} {a : Option Addr} {l : List BlockD} (h : OB w lo a l) (k : Agree lo w w') : OB w' lo a l := by
 obtain ⟨hm, h⟩ := h
 refine ⟨hm, ?_⟩
 rcases h with h | ⟨g, cur, ha, hl, hb, hc⟩
 ·exact .inl h
 ·refine .inr ⟨g, cur, ha, hl, (k.2 g hl (Array.getElem?_eq_some_iff.1 hb).1).trans hb, fun i hi => ?_⟩
  obtain ⟨⟨u0, c0, h0, k0⟩, ⟨u1, c1, h1, k1⟩, h2, h3, h4, h5⟩ := hc i hi
  exact ⟨⟨u0, c0, h0, k0.keep k⟩, ⟨u1, c1, h1, k1.keep k⟩, h2, h3, h4, h5⟩
theorem OB.low {w : World} {lo lo' : Nat} {a : Option Addr} {l : List BlockD} (h : OB w lo a l) (k : lo' ≤ lo) : OB w lo' a l := by
 obtain ⟨hm, h⟩ := h
 refine ⟨hm, ?_⟩
 rcases h with h | ⟨g, cur, ha, hl, hb, hc⟩
 ·exact .inl h
 ·refine .inr ⟨g, cur, ha, Nat.le_trans k hl, hb, fun i hi => ?_⟩
  obtain ⟨⟨u0, c0, h0, k0⟩, ⟨u1, c1, h1, k1⟩, h2, h3, h4, h5⟩ := hc i hi
  exact ⟨⟨u0, c0, h0, k0.low k⟩, ⟨u1, c1, h1, k1.low k⟩, h2, h3, h4, h5⟩
theorem OB.at {w : World} {lo : Nat} {a : Option Addr} {l : List BlockD} (h : OB w lo a l) : BlocksAt w lo a l := by
 obtain ⟨hm, h⟩ := h
 refine ⟨hm, ?_⟩
 rcases h with h | ⟨g, cur, ha, hl, hb, hc⟩
 ·exact .inl h
 ·refine .inr ⟨g, 0, ha, hl, (Array.getElem?_eq_some_iff.1 hb).1, fun i hi => ?_⟩
  obtain ⟨⟨u0, c0, h0, k0⟩, ⟨u1, c1, h1, k1⟩, h2, h3, h4, h5⟩ := hc i hi
  exact ⟨⟨u0, c0, (cell_of_heap hb).trans (by simpa using h0), k0.at⟩, ⟨u1, c1, (cell_of_heap hb).trans (by simpa using h1), k1.at⟩, (cell_of_heap hb).trans (by simpa using h2), (cell_of_heap hb).trans (by simpa using h3), (cell_of_heap hb).trans (by simpa using h4), (cell_of_heap hb).trans (by simpa using h5)⟩
set_option maxHeartbeats 1000000 in
theorem toInts_own (lo : Nat) (a : Option Addr) (cap : Nat) (l : List Int) (w : World) (hl : l.length ≤ 1048576) (hv : IntsAt w lo a l) :
  Calls Tryd.prog 15 #[.slice a l.length cap] w fun e w' => ∃ u c, e = .returned (.slice u l.length c) ∧ OI w' w.heap.size u l ∧ Below w.heap.size w w' := by
 obtain ⟨i0, hi, hz0, hz1, hz2⟩ := info_parts infoI
 have hmk := mk_any (t := 24) l.length Tryd.underlying24 hi hz0 hz1 hz2 (by omega) hl
 clear hi hz0 hz1 hz2
 have hm := hv.1
 go_enter Tryd.func15, Tryd.ntmps15
 go_wp2_with fail
 go_loopw [4] (fun i wr => ∃ (k : Nat) (cur : Array Value), k ≤ l.length ∧ i = .int .i64 k ∧ cur.size = l.length ∧ wr.heap[w.heap.size]? = some (.cells cur 2 (0, 0)) ∧ (∀ j, j < k → cur[j]? = some (.int .i64 (l.getD j 0))) ∧ Below w.heap.size w wr) (fun i _ => l.length - (intOf i).toNat)
 case atStart => exact ⟨0, _, by omega, rfl, by simp [size_madeCells], heap_alloc_at _ _, fun j hj => by omega, (Below.refl _ _).alloc (Nat.le_refl _) _⟩
 case round =>
  obtain ⟨k, cur, hk, rfl, hcs, hblk, hdone, hB⟩ := hrel
  by_cases hlt : k < l.length
  ·rcases hv.2 with rfl | ⟨b, off, rfl, hlo, hb, hcell⟩
   ·simp at hlt
   have e0 : wr.cell? ⟨b, off + k, none⟩ = some (.int .i64 (l.getD k 0)) := (cell_block (hB.block b hb)).trans (hcell k hlt)
   have e1 : wr.cell? ⟨w.heap.size, k, none⟩ = some (cur[k]'(by omega)) := by rw [cell_of_heap hblk]; simp [hcs, hlt]
   have e2 : wr.frozen? ⟨w.heap.size, k, none⟩ = false := froz_of_heap hblk
   have hdone2 : ∀ j, j < k + 1 → (cur.setIfInBounds k (.int .i64 (l.getD k 0)))[j]? = some (.int .i64 (l.getD j 0)) := fun j hj => by
    by_cases hjk : j = k
    ·subst hjk; simp [hcs, hlt]
    ·rw [Array.getElem?_setIfInBounds_ne (by omega)]; exact hdone j (by omega)
   have HD : Hid (∀ j, j < k + 1 → (cur.setIfInBounds k (.int .i64 (l.getD k 0)))[j]? = some (.int .i64 (l.getD j 0))) := hdone2
   have HH : Hid ((wr.setCell ⟨w.heap.size, k, none⟩ (.int .i64 (l.getD k 0))).heap[w.heap.size]? = some (.cells (cur.setIfInBounds k (.int .i64 (l.getD k 0))) 2 (0, 0))) := heap_set hblk
   generalize l.getD k 0 = d at e0 HD HH
   clear hmk hdone hdone2 hblk
   go_wp2_with fail
   go_roundw
   case rel => exact ⟨k + 1, _, by omega, by go_num, by simpa using hcs, HH.out, HD.out, hB.setCell (Nat.le_refl _) _⟩
   case measure => simp [intOf]; omega
  ·have hke : k = l.length := by omega
   have HH : Hid (wr.heap[w.heap.size]? = some (.cells cur 2 (0, 0))) := hblk
   clear hmk hblk
   go_wp2_with fail
   go_ret
   refine ⟨_, _, rfl, ⟨hm, .inr ⟨w.heap.size, cur, rfl, Nat.le_refl _, HH.out, fun i hi => ?_⟩⟩, hB⟩
   ·exact hdone i (by omega)
set_option maxHeartbeats 1000000 in
theorem toPhi_own (lo : Nat) (d : PhiD) (u1 : Option Addr) (c1 : Nat) (w : World) (hs : SmPhi d) (k1 : IntsAt w lo u1 d.ins) :
  Calls Tryd.prog 104 #[.agg #[.int .i64 d.w, .slice u1 d.ins.length c1]] w fun e w' => ∃ u c, e = .returned (.agg #[.int .i64 d.w, .slice u d.ins.length c]) ∧ OI w' w.heap.size u d.ins ∧ Below w.heap.size w w' := by
 go_enter Tryd.func104, Tryd.ntmps104
 go_wp2_with (go_at_call 15; refine (toInts_own lo _ _ _ _ hs (k1.keep (((agree_alloc _ _ _).trans (agree_alloc _ _ _)).trans (agree_alloc _ _ _)))).mono ?_; rintro e w1 ⟨u, c, rfl, hu, hb1⟩; have hcc := bcell hb1; have hff := bfroz hb1)
 have hB : Below w.heap.size w w1 := ((((Below.refl w.heap.size w).alloc (Nat.le_refl _) _).alloc (by first | (simp; done) | (simp; omega)) _).alloc (by first | (simp; done) | (simp; omega)) _).trans (hb1.mono (by first | (simp; done) | (simp; omega)))
 have hu3 := hu.low (lo' := w.heap.size + 3) (by first | (simp; done) | (simp; omega))
 have hr := (heap_set (o := 1) (v := .slice u d.ins.length c) (heap_set (o := 0) (v := .int .i64 d.w) (heap_other (g := w.heap.size + 1) (p := ⟨w.heap.size + 1 + 1, 1, none⟩) (v := .slice u d.ins.length c) (by simp) ((hb1.block (w.heap.size + 1) (by simp)).trans (heap_mid _ _ _ _)))))
 refine bodyPost_ret (v := .agg #[.int .i64 d.w, .slice u d.ins.length c]) ((results_cell_row Tryd.results104 _ _ (w.heap.size + 1) 89 _ (0, 0) _ rfl hr Tryd.underlying89 rfl (by kernel_rfl)).trans (by rfl)) rfl ⟨u, c, rfl, ?_, ?_⟩
 ·exact (hu3.keep (by repeat (first | refine Agree.trans ?_ (agree_setCell _ _ _ _ _ (by omega)) | exact Agree.refl _ _))).low (by omega)
 ·exact (by repeat (first | refine Below.setCell ?_ (by dsimp only; omega) _ | exact hB))
set_option maxHeartbeats 1000000 in
theorem toInst_own (lo : Nat) (d : InstD) (u6 : Option Addr) (c6 : Nat) (w : World) (hs : SmInst d) (k6 : IntsAt w lo u6 d.args) :
  Calls Tryd.prog 105 #[.agg #[.int .i64 d.op, .int .i64 d.w, .int .i64 d.a, .int .i64 d.b, .int .i64 d.c, .int .i64 d.imm, .slice u6 d.args.length c6]] w fun e w' => ∃ u c, e = .returned (.agg #[.int .i64 d.op, .int .i64 d.w, .int .i64 d.a, .int .i64 d.b, .int .i64 d.c, .int .i64 d.imm, .slice u d.args.length c]) ∧ OI w' w.heap.size u d.args ∧ Below w.heap.size w w' := by
 go_enter Tryd.func105, Tryd.ntmps105
 go_wp2_with (go_at_call 15; refine (toInts_own lo _ _ _ _ hs (k6.keep (((agree_alloc _ _ _).trans (agree_alloc _ _ _)).trans (agree_alloc _ _ _)))).mono ?_; rintro e w1 ⟨u, c, rfl, hu, hb1⟩; have hcc := bcell hb1; have hff := bfroz hb1)
 have hB : Below w.heap.size w w1 := ((((Below.refl w.heap.size w).alloc (Nat.le_refl _) _).alloc (by first | (simp; done) | (simp; omega)) _).alloc (by first | (simp; done) | (simp; omega)) _).trans (hb1.mono (by first | (simp; done) | (simp; omega)))
 have hu3 := hu.low (lo' := w.heap.size + 3) (by first | (simp; done) | (simp; omega))
 have hr := (heap_set (o := 6) (v := .slice u d.args.length c) (heap_set (o := 5) (v := .int .i64 d.imm) (heap_set (o := 4) (v := .int .i64 d.c) (heap_set (o := 3) (v := .int .i64 d.b) (heap_set (o := 2) (v := .int .i64 d.a) (heap_set (o := 1) (v := .int .i64 d.w) (heap_set (o := 0) (v := .int .i64 d.op) (heap_other (g := w.heap.size + 1) (p := ⟨w.heap.size + 1 + 1, 6, none⟩) (v := .slice u d.args.length c) (by simp) ((hb1.block (w.heap.size + 1) (by simp)).trans (heap_mid _ _ _ _))))))))))
 refine bodyPost_ret (v := .agg #[.int .i64 d.op, .int .i64 d.w, .int .i64 d.a, .int .i64 d.b, .int .i64 d.c, .int .i64 d.imm, .slice u d.args.length c]) ((results_cell_row Tryd.results105 _ _ (w.heap.size + 1) 44 _ (0, 0) _ rfl hr Tryd.underlying44 rfl (by kernel_rfl)).trans (by rfl)) rfl ⟨u, c, rfl, ?_, ?_⟩
 ·exact (hu3.keep (by repeat (first | refine Agree.trans ?_ (agree_setCell _ _ _ _ _ (by omega)) | exact Agree.refl _ _))).low (by omega)
 ·exact (by repeat (first | refine Below.setCell ?_ (by dsimp only; omega) _ | exact hB))
set_option maxHeartbeats 2000000 in
theorem toPhiS_own (lo : Nat) (a : Option Addr) (cap : Nat) (l : List PhiD) (w : World) (hl : l.length ≤ 1048576) (hs : ∀ d ∈ l, SmPhi d) (hv : PhisAt w lo a l) :
  Calls Tryd.prog 84 #[.slice a l.length cap] w fun e w' => ∃ u c, e = .returned (.slice u l.length c) ∧ OP w' w.heap.size u l ∧ Below w.heap.size w w' := by
 obtain ⟨i0, hi, hz0, hz1, hz2⟩ := info_parts infoPhi
 have hmk := mk_any (t := 36) l.length Tryd.underlying36 hi hz0 hz1 hz2 (by omega) hl
 clear hi hz0 hz1 hz2
 have hm := hv.1
 go_enter Tryd.func84, Tryd.ntmps84
 go_wp2_with fail
 go_loopw [4] (fun i wr => ∃ (k : Nat) (cur : Array Value), k ≤ l.length ∧ i = .int .i64 k ∧ cur.size = l.length * 2 ∧ wr.heap[w.heap.size]? = some (.cells cur 89 (0, 0)) ∧ (∀ j, j < k → cur[j * 2]? = some (.int .i64 (l.getD j phi0).w) ∧ (∃ u c, cur[j * 2 + 1]? = some (.slice u (l.getD j phi0).ins.length c) ∧ OI wr (w.heap.size + 1) u (l.getD j phi0).ins)) ∧ Below w.heap.size w wr) (fun i _ => l.length - (intOf i).toNat)
 case atStart => exact ⟨0, _, by omega, rfl, by simp [size_madeCells], heap_alloc_at _ _, fun j hj => by omega, (Below.refl _ _).alloc (Nat.le_refl _) _⟩
 case round =>
  obtain ⟨k, cur, hk, rfl, hcs, hblk, hdone, hB⟩ := hrel
  by_cases hlt : k < l.length
  ·rcases hv.2 with rfl | ⟨b, off, rfl, hlo, hb, hcell⟩
   ·simp at hlt
   obtain ⟨h0, ⟨u1, c1, h1, k1⟩⟩ := hcell k hlt
   have hsd := hs _ (getD_mem phi0 l k hlt)
   generalize hd : l.getD k phi0 = d at h0 h1 k1 hsd
   have e0 : wr.cell? ⟨b, off + k * 2, none⟩ = some (.int .i64 d.w) := (cell_block (hB.block b hb)).trans h0
   have e1 : wr.cell? ⟨b, off + k * 2 + 1, none⟩ = some (.slice u1 d.ins.length c1) := (cell_block (hB.block b hb)).trans h1
   have m1 := k1.keep (agree_of_below hB _)
   have HD : Hid (l.getD k phi0 = d) := hd
   have HDN : Hid (∀ j, j < k → cur[j * 2]? = some (.int .i64 (l.getD j phi0).w) ∧ (∃ u c, cur[j * 2 + 1]? = some (.slice u (l.getD j phi0).ins.length c) ∧ OI wr (w.heap.size + 1) u (l.getD j phi0).ins)) := hdone
   have HBK : Hid (wr.heap[w.heap.size]? = some (.cells cur 89 (0, 0))) := hblk
   have HB : Hid (Below w.heap.size w wr) := hB
   have hgl : w.heap.size < wr.heap.size := (Array.getElem?_eq_some_iff.1 hblk).1
   clear hcell hmk hdone hblk hB hd h0 h1
   go_wp2_with (go_at_call 104; refine (toPhi_own lo d _ _ _ hsd m1).mono ?_; rintro e w1 ⟨v1, q1, rfl, n1, hb1⟩; have hblk1 := (hb1.block w.heap.size hgl).trans HBK.out; have g0 : w1.cell? ⟨w.heap.size, k * 2, none⟩ = some (cur[k * 2]'(by omega)) := (by rw [cell_of_heap hblk1]; simp [show k * 2 < cur.size by omega]); have f0 : w1.frozen? ⟨w.heap.size, k * 2, none⟩ = false := froz_of_heap hblk1; have g1 : w1.cell? ⟨w.heap.size, k * 2 + 1, none⟩ = some (cur[k * 2 + 1]'(by omega)) := (by rw [cell_of_heap hblk1]; simp [show k * 2 + 1 < cur.size by omega]); have f1 : w1.frozen? ⟨w.heap.size, k * 2 + 1, none⟩ = false := froz_of_heap hblk1; have HBK1 : Hid (w1.heap[w.heap.size]? = some (.cells cur 89 (0, 0))) := hblk1; clear hblk1)
   go_roundw
   case rel =>
    have hblk1 := HBK1.out
    have hB := HB.out
    have hd := HD.out
    have hag : Agree (w.heap.size + 1) wr ((w1.setCell ⟨w.heap.size, k * 2, none⟩ (.int .i64 d.w)).setCell ⟨w.heap.size, k * 2 + 1, none⟩ (.slice v1 d.ins.length q1)) := (agree_of_below hb1 _).trans (by repeat (first | refine Agree.trans ?_ (agree_setCell _ _ _ _ _ (by omega)) | exact Agree.refl _ _))
    have hag1 : Agree (w.heap.size + 1) w1 ((w1.setCell ⟨w.heap.size, k * 2, none⟩ (.int .i64 d.w)).setCell ⟨w.heap.size, k * 2 + 1, none⟩ (.slice v1 d.ins.length q1)) := (by repeat (first | refine Agree.trans ?_ (agree_setCell _ _ _ _ _ (by omega)) | exact Agree.refl _ _))
    refine ⟨k + 1, ((cur.setIfInBounds (k * 2) (.int .i64 d.w)).setIfInBounds (k * 2 + 1) (.slice v1 d.ins.length q1)), by omega, by go_num, by simpa using hcs, (heap_set (heap_set hblk1)), fun j hj => ?_, ?_⟩
    ·by_cases hjk : j = k
     ·subst hjk
      rw [hd]
      refine ⟨?_, ⟨v1, q1, ?_, (n1.low (by omega)).keep hag1⟩⟩
      all_goals (repeat rw [Array.getElem?_setIfInBounds_ne (by omega)])
      all_goals (rw [Array.getElem?_setIfInBounds_self]; simp; omega)
     ·obtain ⟨p0, ⟨z1, y1, p1, x1⟩⟩ := HDN.out j (by omega)
      refine ⟨?_, ⟨z1, y1, ?_, x1.keep hag⟩⟩
      all_goals (repeat rw [Array.getElem?_setIfInBounds_ne (by omega)])
      all_goals assumption
    ·have hB1 := hB.trans (hb1.mono hB.size)
     repeat (first | refine Below.setCell ?_ (by first | (dsimp only; omega) | exact Nat.le_refl _) _ | exact hB1)
   case measure => simp [intOf]; omega
  ·have hke : k = l.length := by omega
   have HH : Hid (wr.heap[w.heap.size]? = some (.cells cur 89 (0, 0))) := hblk
   have HDN : Hid (∀ j, j < k → cur[j * 2]? = some (.int .i64 (l.getD j phi0).w) ∧ (∃ u c, cur[j * 2 + 1]? = some (.slice u (l.getD j phi0).ins.length c) ∧ OI wr (w.heap.size + 1) u (l.getD j phi0).ins)) := hdone
   clear hmk hblk hdone
   go_wp2_with fail
   go_ret
   refine ⟨_, _, rfl, ⟨hm, .inr ⟨w.heap.size, cur, rfl, Nat.le_refl _, HH.out, fun i hi => ?_⟩⟩, hB⟩
   ·obtain ⟨p0, ⟨z1, y1, p1, x1⟩⟩ := HDN.out i (by omega)
    exact ⟨p0, ⟨z1, y1, p1, x1.low (by omega)⟩⟩
set_option maxHeartbeats 2000000 in
theorem toInstS_own (lo : Nat) (a : Option Addr) (cap : Nat) (l : List InstD) (w : World) (hl : l.length ≤ 1048576) (hs : ∀ d ∈ l, SmInst d) (hv : InstsAt w lo a l) :
  Calls Tryd.prog 85 #[.slice a l.length cap] w fun e w' => ∃ u c, e = .returned (.slice u l.length c) ∧ ON w' w.heap.size u l ∧ Below w.heap.size w w' := by
 obtain ⟨i0, hi, hz0, hz1, hz2⟩ := info_parts infoInst
 have hmk := mk_any (t := 37) l.length Tryd.underlying37 hi hz0 hz1 hz2 (by omega) hl
 clear hi hz0 hz1 hz2
 have hm := hv.1
 go_enter Tryd.func85, Tryd.ntmps85
 go_wp2_with fail
 go_loopw [4] (fun i wr => ∃ (k : Nat) (cur : Array Value), k ≤ l.length ∧ i = .int .i64 k ∧ cur.size = l.length * 7 ∧ wr.heap[w.heap.size]? = some (.cells cur 44 (0, 0)) ∧ (∀ j, j < k → cur[j * 7]? = some (.int .i64 (l.getD j inst0).op) ∧ cur[j * 7 + 1]? = some (.int .i64 (l.getD j inst0).w) ∧ cur[j * 7 + 2]? = some (.int .i64 (l.getD j inst0).a) ∧ cur[j * 7 + 3]? = some (.int .i64 (l.getD j inst0).b) ∧ cur[j * 7 + 4]? = some (.int .i64 (l.getD j inst0).c) ∧ cur[j * 7 + 5]? = some (.int .i64 (l.getD j inst0).imm) ∧ (∃ u c, cur[j * 7 + 6]? = some (.slice u (l.getD j inst0).args.length c) ∧ OI wr (w.heap.size + 1) u (l.getD j inst0).args)) ∧ Below w.heap.size w wr) (fun i _ => l.length - (intOf i).toNat)
 case atStart => exact ⟨0, _, by omega, rfl, by simp [size_madeCells], heap_alloc_at _ _, fun j hj => by omega, (Below.refl _ _).alloc (Nat.le_refl _) _⟩
 case round =>
  obtain ⟨k, cur, hk, rfl, hcs, hblk, hdone, hB⟩ := hrel
  by_cases hlt : k < l.length
  ·rcases hv.2 with rfl | ⟨b, off, rfl, hlo, hb, hcell⟩
   ·simp at hlt
   obtain ⟨h0, h1, h2, h3, h4, h5, ⟨u6, c6, h6, k6⟩⟩ := hcell k hlt
   have hsd := hs _ (getD_mem inst0 l k hlt)
   generalize hd : l.getD k inst0 = d at h0 h1 h2 h3 h4 h5 h6 k6 hsd
   have e0 : wr.cell? ⟨b, off + k * 7, none⟩ = some (.int .i64 d.op) := (cell_block (hB.block b hb)).trans h0
   have e1 : wr.cell? ⟨b, off + k * 7 + 1, none⟩ = some (.int .i64 d.w) := (cell_block (hB.block b hb)).trans h1
   have e2 : wr.cell? ⟨b, off + k * 7 + 2, none⟩ = some (.int .i64 d.a) := (cell_block (hB.block b hb)).trans h2
   have e3 : wr.cell? ⟨b, off + k * 7 + 3, none⟩ = some (.int .i64 d.b) := (cell_block (hB.block b hb)).trans h3
   have e4 : wr.cell? ⟨b, off + k * 7 + 4, none⟩ = some (.int .i64 d.c) := (cell_block (hB.block b hb)).trans h4
   have e5 : wr.cell? ⟨b, off + k * 7 + 5, none⟩ = some (.int .i64 d.imm) := (cell_block (hB.block b hb)).trans h5
   have e6 : wr.cell? ⟨b, off + k * 7 + 6, none⟩ = some (.slice u6 d.args.length c6) := (cell_block (hB.block b hb)).trans h6
   have m6 := k6.keep (agree_of_below hB _)
   have HD : Hid (l.getD k inst0 = d) := hd
   have HDN : Hid (∀ j, j < k → cur[j * 7]? = some (.int .i64 (l.getD j inst0).op) ∧ cur[j * 7 + 1]? = some (.int .i64 (l.getD j inst0).w) ∧ cur[j * 7 + 2]? = some (.int .i64 (l.getD j inst0).a) ∧ cur[j * 7 + 3]? = some (.int .i64 (l.getD j inst0).b) ∧ cur[j * 7 + 4]? = some (.int .i64 (l.getD j inst0).c) ∧ cur[j * 7 + 5]? = some (.int .i64 (l.getD j inst0).imm) ∧ (∃ u c, cur[j * 7 + 6]? = some (.slice u (l.getD j inst0).args.length c) ∧ OI wr (w.heap.size + 1) u (l.getD j inst0).args)) := hdone
   have HBK : Hid (wr.heap[w.heap.size]? = some (.cells cur 44 (0, 0))) := hblk
   have HB : Hid (Below w.heap.size w wr) := hB
   have hgl : w.heap.size < wr.heap.size := (Array.getElem?_eq_some_iff.1 hblk).1
   clear hcell hmk hdone hblk hB hd h0 h1 h2 h3 h4 h5 h6
   go_wp2_with (go_at_call 105; refine (toInst_own lo d _ _ _ hsd m6).mono ?_; rintro e w1 ⟨v6, q6, rfl, n6, hb1⟩; have hblk1 := (hb1.block w.heap.size hgl).trans HBK.out; have g0 : w1.cell? ⟨w.heap.size, k * 7, none⟩ = some (cur[k * 7]'(by omega)) := (by rw [cell_of_heap hblk1]; simp [show k * 7 < cur.size by omega]); have f0 : w1.frozen? ⟨w.heap.size, k * 7, none⟩ = false := froz_of_heap hblk1; have g1 : w1.cell? ⟨w.heap.size, k * 7 + 1, none⟩ = some (cur[k * 7 + 1]'(by omega)) := (by rw [cell_of_heap hblk1]; simp [show k * 7 + 1 < cur.size by omega]); have f1 : w1.frozen? ⟨w.heap.size, k * 7 + 1, none⟩ = false := froz_of_heap hblk1; have g2 : w1.cell? ⟨w.heap.size, k * 7 + 2, none⟩ = some (cur[k * 7 + 2]'(by omega)) := (by rw [cell_of_heap hblk1]; simp [show k * 7 + 2 < cur.size by omega]); have f2 : w1.frozen? ⟨w.heap.size, k * 7 + 2, none⟩ = false := froz_of_heap hblk1; have g3 : w1.cell? ⟨w.heap.size, k * 7 + 3, none⟩ = some (cur[k * 7 + 3]'(by omega)) := (by rw [cell_of_heap hblk1]; simp [show k * 7 + 3 < cur.size by omega]); have f3 : w1.frozen? ⟨w.heap.size, k * 7 + 3, none⟩ = false := froz_of_heap hblk1; have g4 : w1.cell? ⟨w.heap.size, k * 7 + 4, none⟩ = some (cur[k * 7 + 4]'(by omega)) := (by rw [cell_of_heap hblk1]; simp [show k * 7 + 4 < cur.size by omega]); have f4 : w1.frozen? ⟨w.heap.size, k * 7 + 4, none⟩ = false := froz_of_heap hblk1; have g5 : w1.cell? ⟨w.heap.size, k * 7 + 5, none⟩ = some (cur[k * 7 + 5]'(by omega)) := (by rw [cell_of_heap hblk1]; simp [show k * 7 + 5 < cur.size by omega]); have f5 : w1.frozen? ⟨w.heap.size, k * 7 + 5, none⟩ = false := froz_of_heap hblk1; have g6 : w1.cell? ⟨w.heap.size, k * 7 + 6, none⟩ = some (cur[k * 7 + 6]'(by omega)) := (by rw [cell_of_heap hblk1]; simp [show k * 7 + 6 < cur.size by omega]); have f6 : w1.frozen? ⟨w.heap.size, k * 7 + 6, none⟩ = false := froz_of_heap hblk1; have HBK1 : Hid (w1.heap[w.heap.size]? = some (.cells cur 44 (0, 0))) := hblk1; clear hblk1)
   go_roundw
   case rel =>
    have hblk1 := HBK1.out
    have hB := HB.out
    have hd := HD.out
    have hag : Agree (w.heap.size + 1) wr (((((((w1.setCell ⟨w.heap.size, k * 7, none⟩ (.int .i64 d.op)).setCell ⟨w.heap.size, k * 7 + 1, none⟩ (.int .i64 d.w)).setCell ⟨w.heap.size, k * 7 + 2, none⟩ (.int .i64 d.a)).setCell ⟨w.heap.size, k * 7 + 3, none⟩ (.int .i64 d.b)).setCell ⟨w.heap.size, k * 7 + 4, none⟩ (.int .i64 d.c)).setCell ⟨w.heap.size, k * 7 + 5, none⟩ (.int .i64 d.imm)).setCell ⟨w.heap.size, k * 7 + 6, none⟩ (.slice v6 d.args.length q6)) := (agree_of_below hb1 _).trans (by repeat (first | refine Agree.trans ?_ (agree_setCell _ _ _ _ _ (by omega)) | exact Agree.refl _ _))
    have hag1 : Agree (w.heap.size + 1) w1 (((((((w1.setCell ⟨w.heap.size, k * 7, none⟩ (.int .i64 d.op)).setCell ⟨w.heap.size, k * 7 + 1, none⟩ (.int .i64 d.w)).setCell ⟨w.heap.size, k * 7 + 2, none⟩ (.int .i64 d.a)).setCell ⟨w.heap.size, k * 7 + 3, none⟩ (.int .i64 d.b)).setCell ⟨w.heap.size, k * 7 + 4, none⟩ (.int .i64 d.c)).setCell ⟨w.heap.size, k * 7 + 5, none⟩ (.int .i64 d.imm)).setCell ⟨w.heap.size, k * 7 + 6, none⟩ (.slice v6 d.args.length q6)) := (by repeat (first | refine Agree.trans ?_ (agree_setCell _ _ _ _ _ (by omega)) | exact Agree.refl _ _))
    refine ⟨k + 1, (((((((cur.setIfInBounds (k * 7) (.int .i64 d.op)).setIfInBounds (k * 7 + 1) (.int .i64 d.w)).setIfInBounds (k * 7 + 2) (.int .i64 d.a)).setIfInBounds (k * 7 + 3) (.int .i64 d.b)).setIfInBounds (k * 7 + 4) (.int .i64 d.c)).setIfInBounds (k * 7 + 5) (.int .i64 d.imm)).setIfInBounds (k * 7 + 6) (.slice v6 d.args.length q6)), by omega, by go_num, by simpa using hcs, (heap_set (heap_set (heap_set (heap_set (heap_set (heap_set (heap_set hblk1))))))), fun j hj => ?_, ?_⟩
    ·by_cases hjk : j = k
     ·subst hjk
      rw [hd]
      refine ⟨?_, ?_, ?_, ?_, ?_, ?_, ⟨v6, q6, ?_, (n6.low (by omega)).keep hag1⟩⟩
      all_goals (repeat rw [Array.getElem?_setIfInBounds_ne (by omega)])
      all_goals (rw [Array.getElem?_setIfInBounds_self]; simp; omega)
     ·obtain ⟨p0, p1, p2, p3, p4, p5, ⟨z6, y6, p6, x6⟩⟩ := HDN.out j (by omega)
      refine ⟨?_, ?_, ?_, ?_, ?_, ?_, ⟨z6, y6, ?_, x6.keep hag⟩⟩
      all_goals (repeat rw [Array.getElem?_setIfInBounds_ne (by omega)])
      all_goals assumption
    ·have hB1 := hB.trans (hb1.mono hB.size)
     repeat (first | refine Below.setCell ?_ (by first | (dsimp only; omega) | exact Nat.le_refl _) _ | exact hB1)
   case measure => simp [intOf]; omega
  ·have hke : k = l.length := by omega
   have HH : Hid (wr.heap[w.heap.size]? = some (.cells cur 44 (0, 0))) := hblk
   have HDN : Hid (∀ j, j < k → cur[j * 7]? = some (.int .i64 (l.getD j inst0).op) ∧ cur[j * 7 + 1]? = some (.int .i64 (l.getD j inst0).w) ∧ cur[j * 7 + 2]? = some (.int .i64 (l.getD j inst0).a) ∧ cur[j * 7 + 3]? = some (.int .i64 (l.getD j inst0).b) ∧ cur[j * 7 + 4]? = some (.int .i64 (l.getD j inst0).c) ∧ cur[j * 7 + 5]? = some (.int .i64 (l.getD j inst0).imm) ∧ (∃ u c, cur[j * 7 + 6]? = some (.slice u (l.getD j inst0).args.length c) ∧ OI wr (w.heap.size + 1) u (l.getD j inst0).args)) := hdone
   clear hmk hblk hdone
   go_wp2_with fail
   go_ret
   refine ⟨_, _, rfl, ⟨hm, .inr ⟨w.heap.size, cur, rfl, Nat.le_refl _, HH.out, fun i hi => ?_⟩⟩, hB⟩
   ·obtain ⟨p0, p1, p2, p3, p4, p5, ⟨z6, y6, p6, x6⟩⟩ := HDN.out i (by omega)
    exact ⟨p0, p1, p2, p3, p4, p5, ⟨z6, y6, p6, x6.low (by omega)⟩⟩
set_option maxHeartbeats 2000000 in
theorem toBlock_own (lo : Nat) (d : BlockD) (u0 : Option Addr) (c0 : Nat) (u1 : Option Addr) (c1 : Nat) (w : World) (hs : SmBlock d) (k0 : PhisAt w lo u0 d.phis) (k1 : InstsAt w lo u1 d.insts) :
  Calls Tryd.prog 57 #[.agg #[.slice u0 d.phis.length c0, .slice u1 d.insts.length c1, .int .i64 d.term.kind, .int .i64 d.term.a, .int .i64 d.term.x, .int .i64 d.term.y]] w fun e w' => ∃ v0 q0 v1 q1, e = .returned (.agg #[.slice v0 d.phis.length q0, .slice v1 d.insts.length q1, .int .i64 d.term.kind, .int .i64 d.term.a, .int .i64 d.term.x, .int .i64 d.term.y]) ∧ OP w' w.heap.size v0 d.phis ∧ ON w' w.heap.size v1 d.insts ∧ Below w.heap.size w w' := by
 go_enter Tryd.func57, Tryd.ntmps57
 go_wp2_with (first | (go_at_call 84; refine (toPhiS_own lo _ _ _ _ hs.1.1 hs.1.2 (k0.keep (((agree_alloc _ _ _).trans (agree_alloc _ _ _)).trans (agree_alloc _ _ _)))).mono ?_; rintro e w1 ⟨v0, q0, rfl, n0, hb1⟩; have hcc1 := bcell hb1; have hff1 := bfroz hb1; have z1a : w.heap.size < w1.heap.size := (by have := hb1.size; simp at this; omega); have z1b : w.heap.size + 1 < w1.heap.size := (by have := hb1.size; simp at this; omega); have z1c : w.heap.size + 1 + 1 < w1.heap.size := (by have := hb1.size; simp at this; omega); have hB1 : Below w.heap.size w w1 := ((((Below.refl w.heap.size w).alloc (Nat.le_refl _) _).alloc (by first | (simp; done) | (simp; omega)) _).alloc (by first | (simp; done) | (simp; omega)) _).trans (hb1.mono (by first | (simp; done) | (simp; omega)))) | (go_at_call 85; refine (toInstS_own lo _ _ _ _ hs.2.1 hs.2.2 (k1.keep (agree_of_below (by repeat (first | refine Below.setCell ?_ (by dsimp only; omega) _ | exact hB1)) lo))).mono ?_; rintro e w2 ⟨v1, q1, rfl, n1, hb2⟩; have hcc2 := bcell hb2; have hff2 := bfroz hb2; have z2a : w.heap.size < w2.heap.size := (by have := hb2.size; simp at this; omega); have z2b : w.heap.size + 1 < w2.heap.size := (by have := hb2.size; simp at this; omega); have z2c : w.heap.size + 1 + 1 < w2.heap.size := (by have := hb2.size; simp at this; omega); have hB2 : Below w.heap.size w w2 := Below.trans (b := _) (by repeat (first | refine Below.setCell ?_ (by dsimp only; omega) _ | exact hB1)) (hb2.mono (by first | (simp; omega) | (simp; done)))) | (go_at_call 86; refine (toTerm_any _ _ _ _ _).mono ?_; rintro e w3 ⟨rfl, hb3⟩; have hcc3 := bcell hb3; have hff3 := bfroz hb3; have z3a : w.heap.size < w3.heap.size := (by have := hb3.size; simp at this; omega); have z3b : w.heap.size + 1 < w3.heap.size := (by have := hb3.size; simp at this; omega); have z3c : w.heap.size + 1 + 1 < w3.heap.size := (by have := hb3.size; simp at this; omega); have hB3 : Below w.heap.size w w3 := Below.trans (b := _) (by repeat (first | refine Below.setCell ?_ (by dsimp only; omega) _ | exact hB2)) (hb3.mono (by first | (simp; omega) | (simp; done)))))
 have hr := (heap_set (o := 5) (v := .int .i64 d.term.y) (heap_set (o := 4) (v := .int .i64 d.term.x) (heap_set (o := 3) (v := .int .i64 d.term.a) (heap_set (o := 2) (v := .int .i64 d.term.kind) (heap_set (o := 1) (v := .slice v1 d.insts.length q1) (heap_set (o := 0) (v := .slice v0 d.phis.length q0) (heap_other (g := w.heap.size + 1) (p := ⟨w.heap.size + 1 + 1, 5, none⟩) (v := .int .i64 d.term.y) (by simp) (heap_other (g := w.heap.size + 1) (p := ⟨w.heap.size + 1 + 1, 4, none⟩) (v := .int .i64 d.term.x) (by simp) (heap_other (g := w.heap.size + 1) (p := ⟨w.heap.size + 1 + 1, 3, none⟩) (v := .int .i64 d.term.a) (by simp) (heap_other (g := w.heap.size + 1) (p := ⟨w.heap.size + 1 + 1, 2, none⟩) (v := .int .i64 d.term.kind) (by simp) ((hb3.block (w.heap.size + 1) (by first | (simp; done) | (simp; omega))).trans (heap_other (g := w.heap.size + 1) (p := ⟨w.heap.size + 1 + 1, 1, none⟩) (v := .slice v1 d.insts.length q1) (by simp) ((hb2.block (w.heap.size + 1) (by first | (simp; done) | (simp; omega))).trans (heap_other (g := w.heap.size + 1) (p := ⟨w.heap.size + 1 + 1, 0, none⟩) (v := .slice v0 d.phis.length q0) (by simp) ((hb1.block (w.heap.size + 1) (by first | (simp; done) | (simp; omega))).trans (heap_mid _ _ _ _))))))))))))))))
 refine bodyPost_ret (v := .agg #[.slice v0 d.phis.length q0, .slice v1 d.insts.length q1, .int .i64 d.term.kind, .int .i64 d.term.a, .int .i64 d.term.x, .int .i64 d.term.y]) ((results_cell_row Tryd.results57 _ _ (w.heap.size + 1) 41 _ (0, 0) _ rfl hr Tryd.underlying41 rfl (by kernel_rfl)).trans (by rfl)) rfl ⟨v0, q0, v1, q1, rfl, ?_, ?_, ?_⟩
 ·exact ((n0.low (lo' := w.heap.size + 3) (by first | (simp; done) | (simp; omega))).keep (by repeat (first | refine Agree.trans ?_ (agree_setCell _ _ _ _ _ (by omega)) | refine Agree.trans ?_ (agree_of_below hb3 _) | refine Agree.trans ?_ (agree_of_below hb2 _) | exact Agree.refl _ _))).low (by omega)
 ·exact ((n1.low (lo' := w.heap.size + 3) (by first | (simp; omega) | (simp; done))).keep (by repeat (first | refine Agree.trans ?_ (agree_setCell _ _ _ _ _ (by omega)) | refine Agree.trans ?_ (agree_of_below hb3 _) | exact Agree.refl _ _))).low (by omega)
 ·repeat (first | refine Below.setCell ?_ (by dsimp only; omega) _ | exact hB3)
set_option maxHeartbeats 2000000 in
theorem toBlockS_own (lo : Nat) (a : Option Addr) (cap : Nat) (l : List BlockD) (w : World) (hl : l.length ≤ 1048576) (hs : ∀ d ∈ l, SmBlock d) (hv : BlocksAt w lo a l) :
  Calls Tryd.prog 37 #[.slice a l.length cap] w fun e w' => ∃ u c, e = .returned (.slice u l.length c) ∧ OB w' w.heap.size u l ∧ Below w.heap.size w w' := by
 obtain ⟨i0, hi, hz0, hz1, hz2⟩ := info_parts infoBlock
 have hmk := mk_any (t := 25) l.length Tryd.underlying25 hi hz0 hz1 hz2 (by omega) hl
 clear hi hz0 hz1 hz2
 have hm := hv.1
 go_enter Tryd.func37, Tryd.ntmps37
 go_wp2_with fail
 go_loopw [4] (fun i wr => ∃ (k : Nat) (cur : Array Value), k ≤ l.length ∧ i = .int .i64 k ∧ cur.size = l.length * 6 ∧ wr.heap[w.heap.size]? = some (.cells cur 41 (0, 0)) ∧ (∀ j, j < k → (∃ u c, cur[j * 6]? = some (.slice u (l.getD j block0).phis.length c) ∧ OP wr (w.heap.size + 1) u (l.getD j block0).phis) ∧ (∃ u c, cur[j * 6 + 1]? = some (.slice u (l.getD j block0).insts.length c) ∧ ON wr (w.heap.size + 1) u (l.getD j block0).insts) ∧ cur[j * 6 + 2]? = some (.int .i64 (l.getD j block0).term.kind) ∧ cur[j * 6 + 3]? = some (.int .i64 (l.getD j block0).term.a) ∧ cur[j * 6 + 4]? = some (.int .i64 (l.getD j block0).term.x) ∧ cur[j * 6 + 5]? = some (.int .i64 (l.getD j block0).term.y)) ∧ Below w.heap.size w wr) (fun i _ => l.length - (intOf i).toNat)
 case atStart => exact ⟨0, _, by omega, rfl, by simp [size_madeCells], heap_alloc_at _ _, fun j hj => by omega, (Below.refl _ _).alloc (Nat.le_refl _) _⟩
 case round =>
  obtain ⟨k, cur, hk, rfl, hcs, hblk, hdone, hB⟩ := hrel
  by_cases hlt : k < l.length
  ·rcases hv.2 with rfl | ⟨b, off, rfl, hlo, hb, hcell⟩
   ·simp at hlt
   obtain ⟨⟨u0, c0, h0, k0⟩, ⟨u1, c1, h1, k1⟩, h2, h3, h4, h5⟩ := hcell k hlt
   have hsd := hs _ (getD_mem block0 l k hlt)
   generalize hd : l.getD k block0 = d at h0 h1 h2 h3 h4 h5 k0 k1 hsd
   have e0 : wr.cell? ⟨b, off + k * 6, none⟩ = some (.slice u0 d.phis.length c0) := (cell_block (hB.block b hb)).trans h0
   have m0 := k0.keep (agree_of_below hB _)
   have e1 : wr.cell? ⟨b, off + k * 6 + 1, none⟩ = some (.slice u1 d.insts.length c1) := (cell_block (hB.block b hb)).trans h1
   have m1 := k1.keep (agree_of_below hB _)
   have e2 : wr.cell? ⟨b, off + k * 6 + 2, none⟩ = some (.int .i64 d.term.kind) := (cell_block (hB.block b hb)).trans h2
   have e3 : wr.cell? ⟨b, off + k * 6 + 3, none⟩ = some (.int .i64 d.term.a) := (cell_block (hB.block b hb)).trans h3
   have e4 : wr.cell? ⟨b, off + k * 6 + 4, none⟩ = some (.int .i64 d.term.x) := (cell_block (hB.block b hb)).trans h4
   have e5 : wr.cell? ⟨b, off + k * 6 + 5, none⟩ = some (.int .i64 d.term.y) := (cell_block (hB.block b hb)).trans h5
   have HD : Hid (l.getD k block0 = d) := hd
   have HDN : Hid (∀ j, j < k → (∃ u c, cur[j * 6]? = some (.slice u (l.getD j block0).phis.length c) ∧ OP wr (w.heap.size + 1) u (l.getD j block0).phis) ∧ (∃ u c, cur[j * 6 + 1]? = some (.slice u (l.getD j block0).insts.length c) ∧ ON wr (w.heap.size + 1) u (l.getD j block0).insts) ∧ cur[j * 6 + 2]? = some (.int .i64 (l.getD j block0).term.kind) ∧ cur[j * 6 + 3]? = some (.int .i64 (l.getD j block0).term.a) ∧ cur[j * 6 + 4]? = some (.int .i64 (l.getD j block0).term.x) ∧ cur[j * 6 + 5]? = some (.int .i64 (l.getD j block0).term.y)) := hdone
   have HBK : Hid (wr.heap[w.heap.size]? = some (.cells cur 41 (0, 0))) := hblk
   have HB : Hid (Below w.heap.size w wr) := hB
   have hgl : w.heap.size < wr.heap.size := (Array.getElem?_eq_some_iff.1 hblk).1
   clear hcell hmk hdone hblk hB hd h0 h1 h2 h3 h4 h5
   go_wp2_with (go_at_call 57; refine (toBlock_own lo d _ _ _ _ _ hsd m0 m1).mono ?_; rintro e w1 ⟨v0, q0, v1, q1, rfl, n0, n1, hb1⟩; have hblk1 := (hb1.block w.heap.size hgl).trans HBK.out; have g0 : w1.cell? ⟨w.heap.size, k * 6, none⟩ = some (cur[k * 6]'(by omega)) := (by rw [cell_of_heap hblk1]; simp [show k * 6 < cur.size by omega]); have f0 : w1.frozen? ⟨w.heap.size, k * 6, none⟩ = false := froz_of_heap hblk1; have g1 : w1.cell? ⟨w.heap.size, k * 6 + 1, none⟩ = some (cur[k * 6 + 1]'(by omega)) := (by rw [cell_of_heap hblk1]; simp [show k * 6 + 1 < cur.size by omega]); have f1 : w1.frozen? ⟨w.heap.size, k * 6 + 1, none⟩ = false := froz_of_heap hblk1; have g2 : w1.cell? ⟨w.heap.size, k * 6 + 2, none⟩ = some (cur[k * 6 + 2]'(by omega)) := (by rw [cell_of_heap hblk1]; simp [show k * 6 + 2 < cur.size by omega]); have f2 : w1.frozen? ⟨w.heap.size, k * 6 + 2, none⟩ = false := froz_of_heap hblk1; have g3 : w1.cell? ⟨w.heap.size, k * 6 + 3, none⟩ = some (cur[k * 6 + 3]'(by omega)) := (by rw [cell_of_heap hblk1]; simp [show k * 6 + 3 < cur.size by omega]); have f3 : w1.frozen? ⟨w.heap.size, k * 6 + 3, none⟩ = false := froz_of_heap hblk1; have g4 : w1.cell? ⟨w.heap.size, k * 6 + 4, none⟩ = some (cur[k * 6 + 4]'(by omega)) := (by rw [cell_of_heap hblk1]; simp [show k * 6 + 4 < cur.size by omega]); have f4 : w1.frozen? ⟨w.heap.size, k * 6 + 4, none⟩ = false := froz_of_heap hblk1; have g5 : w1.cell? ⟨w.heap.size, k * 6 + 5, none⟩ = some (cur[k * 6 + 5]'(by omega)) := (by rw [cell_of_heap hblk1]; simp [show k * 6 + 5 < cur.size by omega]); have f5 : w1.frozen? ⟨w.heap.size, k * 6 + 5, none⟩ = false := froz_of_heap hblk1; have HBK1 : Hid (w1.heap[w.heap.size]? = some (.cells cur 41 (0, 0))) := hblk1; clear hblk1)
   go_roundw
   case rel =>
    have hblk1 := HBK1.out
    have hB := HB.out
    have hd := HD.out
    have hag : Agree (w.heap.size + 1) wr ((((((w1.setCell ⟨w.heap.size, k * 6, none⟩ (.slice v0 d.phis.length q0)).setCell ⟨w.heap.size, k * 6 + 1, none⟩ (.slice v1 d.insts.length q1)).setCell ⟨w.heap.size, k * 6 + 2, none⟩ (.int .i64 d.term.kind)).setCell ⟨w.heap.size, k * 6 + 3, none⟩ (.int .i64 d.term.a)).setCell ⟨w.heap.size, k * 6 + 4, none⟩ (.int .i64 d.term.x)).setCell ⟨w.heap.size, k * 6 + 5, none⟩ (.int .i64 d.term.y)) := (agree_of_below hb1 _).trans (by repeat (first | refine Agree.trans ?_ (agree_setCell _ _ _ _ _ (by omega)) | exact Agree.refl _ _))
    have hag1 : Agree (w.heap.size + 1) w1 ((((((w1.setCell ⟨w.heap.size, k * 6, none⟩ (.slice v0 d.phis.length q0)).setCell ⟨w.heap.size, k * 6 + 1, none⟩ (.slice v1 d.insts.length q1)).setCell ⟨w.heap.size, k * 6 + 2, none⟩ (.int .i64 d.term.kind)).setCell ⟨w.heap.size, k * 6 + 3, none⟩ (.int .i64 d.term.a)).setCell ⟨w.heap.size, k * 6 + 4, none⟩ (.int .i64 d.term.x)).setCell ⟨w.heap.size, k * 6 + 5, none⟩ (.int .i64 d.term.y)) := (by repeat (first | refine Agree.trans ?_ (agree_setCell _ _ _ _ _ (by omega)) | exact Agree.refl _ _))
    refine ⟨k + 1, ((((((cur.setIfInBounds (k * 6) (.slice v0 d.phis.length q0)).setIfInBounds (k * 6 + 1) (.slice v1 d.insts.length q1)).setIfInBounds (k * 6 + 2) (.int .i64 d.term.kind)).setIfInBounds (k * 6 + 3) (.int .i64 d.term.a)).setIfInBounds (k * 6 + 4) (.int .i64 d.term.x)).setIfInBounds (k * 6 + 5) (.int .i64 d.term.y)), by omega, by go_num, by simpa using hcs, (heap_set (heap_set (heap_set (heap_set (heap_set (heap_set hblk1)))))), fun j hj => ?_, ?_⟩
    ·by_cases hjk : j = k
     ·subst hjk
      rw [hd]
      refine ⟨⟨v0, q0, ?_, (n0.low (by omega)).keep hag1⟩, ⟨v1, q1, ?_, (n1.low (by omega)).keep hag1⟩, ?_, ?_, ?_, ?_⟩
      all_goals (repeat rw [Array.getElem?_setIfInBounds_ne (by omega)])
      all_goals (rw [Array.getElem?_setIfInBounds_self]; simp; omega)
     ·obtain ⟨⟨z0, y0, p0, x0⟩, ⟨z1, y1, p1, x1⟩, p2, p3, p4, p5⟩ := HDN.out j (by omega)
      refine ⟨⟨z0, y0, ?_, x0.keep hag⟩, ⟨z1, y1, ?_, x1.keep hag⟩, ?_, ?_, ?_, ?_⟩
      all_goals (repeat rw [Array.getElem?_setIfInBounds_ne (by omega)])
      all_goals assumption
    ·have hB1 := hB.trans (hb1.mono hB.size)
     repeat (first | refine Below.setCell ?_ (by first | (dsimp only; omega) | exact Nat.le_refl _) _ | exact hB1)
   case measure => simp [intOf]; omega
  ·have hke : k = l.length := by omega
   have HH : Hid (wr.heap[w.heap.size]? = some (.cells cur 41 (0, 0))) := hblk
   have HDN : Hid (∀ j, j < k → (∃ u c, cur[j * 6]? = some (.slice u (l.getD j block0).phis.length c) ∧ OP wr (w.heap.size + 1) u (l.getD j block0).phis) ∧ (∃ u c, cur[j * 6 + 1]? = some (.slice u (l.getD j block0).insts.length c) ∧ ON wr (w.heap.size + 1) u (l.getD j block0).insts) ∧ cur[j * 6 + 2]? = some (.int .i64 (l.getD j block0).term.kind) ∧ cur[j * 6 + 3]? = some (.int .i64 (l.getD j block0).term.a) ∧ cur[j * 6 + 4]? = some (.int .i64 (l.getD j block0).term.x) ∧ cur[j * 6 + 5]? = some (.int .i64 (l.getD j block0).term.y)) := hdone
   clear hmk hblk hdone
   go_wp2_with fail
   go_ret
   refine ⟨_, _, rfl, ⟨hm, .inr ⟨w.heap.size, cur, rfl, Nat.le_refl _, HH.out, fun i hi => ?_⟩⟩, hB⟩
   ·obtain ⟨⟨z0, y0, p0, x0⟩, ⟨z1, y1, p1, x1⟩, p2, p3, p4, p5⟩ := HDN.out i (by omega)
    exact ⟨⟨z0, y0, p0, x0.low (by omega)⟩, ⟨z1, y1, p1, x1.low (by omega)⟩, p2, p3, p4, p5⟩
set_option maxHeartbeats 2000000 in
theorem toFunc_own (lo : Nat) (d : FuncD) (u0 : Option Addr) (c0 : Nat) (u2 : Option Addr) (c2 : Nat) (w : World) (hs : SmFunc d) (k0 : IntsAt w lo u0 d.params) (k2 : BlocksAt w lo u2 d.blocks) :
  Calls Tryd.prog 14 #[.agg #[.slice u0 d.params.length c0, .int .i64 d.ret, .slice u2 d.blocks.length c2]] w fun e w' => ∃ v0 q0 v2 q2, e = .returned (.agg #[.slice v0 d.params.length q0, .int .i64 d.ret, .slice v2 d.blocks.length q2]) ∧ OI w' w.heap.size v0 d.params ∧ OB w' w.heap.size v2 d.blocks ∧ Below w.heap.size w w' := by
 go_enter Tryd.func14, Tryd.ntmps14
 go_wp2_with (first | (go_at_call 15; refine (toInts_own lo _ _ _ _ hs.1 (k0.keep (((agree_alloc _ _ _).trans (agree_alloc _ _ _)).trans (agree_alloc _ _ _)))).mono ?_; rintro e w1 ⟨v0, q0, rfl, n0, hb1⟩; have hcc1 := bcell hb1; have hff1 := bfroz hb1; have z1a : w.heap.size < w1.heap.size := (by have := hb1.size; simp at this; omega); have z1b : w.heap.size + 1 < w1.heap.size := (by have := hb1.size; simp at this; omega); have z1c : w.heap.size + 1 + 1 < w1.heap.size := (by have := hb1.size; simp at this; omega); have hB1 : Below w.heap.size w w1 := ((((Below.refl w.heap.size w).alloc (Nat.le_refl _) _).alloc (by first | (simp; done) | (simp; omega)) _).alloc (by first | (simp; done) | (simp; omega)) _).trans (hb1.mono (by first | (simp; done) | (simp; omega)))) | (go_at_call 37; refine (toBlockS_own lo _ _ _ _ hs.2.1 hs.2.2 (k2.keep (agree_of_below (by repeat (first | refine Below.setCell ?_ (by dsimp only; omega) _ | exact hB1)) lo))).mono ?_; rintro e w2 ⟨v2, q2, rfl, n2, hb2⟩; have hcc2 := bcell hb2; have hff2 := bfroz hb2; have z2a : w.heap.size < w2.heap.size := (by have := hb2.size; simp at this; omega); have z2b : w.heap.size + 1 < w2.heap.size := (by have := hb2.size; simp at this; omega); have z2c : w.heap.size + 1 + 1 < w2.heap.size := (by have := hb2.size; simp at this; omega); have hB2 : Below w.heap.size w w2 := Below.trans (b := _) (by repeat (first | refine Below.setCell ?_ (by dsimp only; omega) _ | exact hB1)) (hb2.mono (by first | (simp; omega) | (simp; done)))))
 have hr := (heap_set (o := 2) (v := .slice v2 d.blocks.length q2) (heap_set (o := 1) (v := .int .i64 d.ret) (heap_set (o := 0) (v := .slice v0 d.params.length q0) (heap_other (g := w.heap.size + 1) (p := ⟨w.heap.size + 1 + 1, 2, none⟩) (v := .slice v2 d.blocks.length q2) (by simp) ((hb2.block (w.heap.size + 1) (by first | (simp; done) | (simp; omega))).trans (heap_other (g := w.heap.size + 1) (p := ⟨w.heap.size + 1 + 1, 1, none⟩) (v := .int .i64 d.ret) (by simp) (heap_other (g := w.heap.size + 1) (p := ⟨w.heap.size + 1 + 1, 0, none⟩) (v := .slice v0 d.params.length q0) (by simp) ((hb1.block (w.heap.size + 1) (by first | (simp; done) | (simp; omega))).trans (heap_mid _ _ _ _)))))))))
 refine bodyPost_ret (v := .agg #[.slice v0 d.params.length q0, .int .i64 d.ret, .slice v2 d.blocks.length q2]) ((results_cell_row Tryd.results14 _ _ (w.heap.size + 1) 27 _ (0, 0) _ rfl hr Tryd.underlying27 rfl (by kernel_rfl)).trans (by rfl)) rfl ⟨v0, q0, v2, q2, rfl, ?_, ?_, ?_⟩
 ·exact ((n0.low (lo' := w.heap.size + 3) (by first | (simp; done) | (simp; omega))).keep (by repeat (first | refine Agree.trans ?_ (agree_setCell _ _ _ _ _ (by omega)) | refine Agree.trans ?_ (agree_of_below hb2 _) | exact Agree.refl _ _))).low (by omega)
 ·exact ((n2.low (lo' := w.heap.size + 3) (by first | (simp; omega) | (simp; done))).keep (by repeat (first | refine Agree.trans ?_ (agree_setCell _ _ _ _ _ (by omega)) | exact Agree.refl _ _))).low (by omega)
 ·repeat (first | refine Below.setCell ?_ (by dsimp only; omega) _ | exact hB2)
end Go.Proofs.YtenbodghkpbghaaDoor
namespace Go.Proofs.YtenbodghkpbghaaDoor
open Go.RowKit
def isIv : Value → Bool | .int .i64 _ => true | _ => false
theorem isI_yes {v : Value} (h : isIv v = true) : ∃ z, v = .int .i64 z := by
 unfold isIv at h
 split at h
 ·exact ⟨_, rfl⟩
 ·cases h
def Cur (cur cur' : Array Value) : Prop := ∀ (j : Nat) (v : Value), cur[j]? = some v → ∃ v', cur'[j]? = some v' ∧ (isIv v = true → isIv v' = true) ∧ (isIv v = false → v' = v)
theorem Cur.int {cur cur' : Array Value} (h : Cur cur cur') {j : Nat} {z : Int} (hj : cur[j]? = some (.int .i64 z)) : ∃ z : Int, cur'[j]? = some (.int .i64 z) := by
 obtain ⟨v', h1, h2, _⟩ := h j _ hj
 obtain ⟨y, rfl⟩ := isI_yes (h2 rfl)
 exact ⟨y, h1⟩
theorem Cur.slice {cur cur' : Array Value} (h : Cur cur cur') {j : Nat} {u : Option Addr} {n c : Nat} (hj : cur[j]? = some (.slice u n c)) : cur'[j]? = some (.slice u n c) := by
 obtain ⟨v', h1, _, h3⟩ := h j _ hj
 rw [h1, h3 rfl]
theorem Cur.refl (cur : Array Value) : Cur cur cur := fun _ v h => ⟨v, h, fun h => h, fun _ => rfl⟩
theorem Cur.trans {a b c : Array Value} (h : Cur a b) (k : Cur b c) : Cur a c := fun j v hv => by
 obtain ⟨v1, h1, h2, h3⟩ := h j v hv
 obtain ⟨v2, k1, k2, k3⟩ := k j v1 h1
 refine ⟨v2, k1, fun e => k2 (h2 e), fun e => ?_⟩
 have e1 := h3 e
 subst e1
 exact k3 e
theorem Cur.set {cur : Array Value} {o : Nat} {z : Int} (h : cur[o]? = some (.int .i64 z)) (y : Int) : Cur cur (cur.setIfInBounds o (.int .i64 y)) := fun j v hv => by
 by_cases e : o = j
 ·subst e
  rw [h] at hv
  cases hv
  have hlt := (Array.getElem?_eq_some_iff.1 h).1
  exact ⟨.int .i64 y, by simp [hlt], fun _ => rfl, fun e => by cases e⟩
 ·exact ⟨v, by rw [Array.getElem?_setIfInBounds_ne e]; exact hv, fun h => h, fun _ => rfl⟩
structure Hdr (lo hi : Nat) (w w' : World) : Prop where
 os : w'.os = w.os
 tape : w'.tape = w.tape
 output : w'.output = w.output
 size : w.heap.size ≤ w'.heap.size
 out : ∀ g : Nat, g < lo ∨ hi ≤ g → g < w.heap.size → w'.heap[g]? = w.heap[g]?
 cells : ∀ (g : Nat) (cur : Array Value) (T : TypeId), w.heap[g]? = some (.cells cur T (0, 0)) → ∃ cur', w'.heap[g]? = some (.cells cur' T (0, 0)) ∧ Cur cur cur'
theorem Hdr.refl (lo hi : Nat) (w : World) : Hdr lo hi w w := ⟨rfl, rfl, rfl, Nat.le_refl _, fun _ _ _ => rfl, fun _ cur _ h => ⟨cur, h, Cur.refl _⟩⟩
theorem Hdr.trans {lo hi : Nat} {a b c : World} (h : Hdr lo hi a b) (k : Hdr lo hi b c) : Hdr lo hi a c :=
 ⟨k.os.trans h.os, k.tape.trans h.tape, k.output.trans h.output, Nat.le_trans h.size k.size, fun g hg hl => (k.out g hg (Nat.lt_of_lt_of_le hl h.size)).trans (h.out g hg hl), fun g cur T hc => by
  obtain ⟨c1, h1, h2⟩ := h.cells g cur T hc
  obtain ⟨c2, k1, k2⟩ := k.cells g c1 T h1
  exact ⟨c2, k1, h2.trans k2⟩⟩
theorem Hdr.alloc (lo hi : Nat) (w : World) (o : Obj) : Hdr lo hi w (w.alloc o) :=
 ⟨rfl, rfl, rfl, by simp, fun g _ hl => Below.heap_alloc w o g hl, fun g cur T hc => ⟨cur, (Below.heap_alloc w o g (Array.getElem?_eq_some_iff.1 hc).1).trans hc, Cur.refl _⟩⟩
theorem Hdr.store {lo hi : Nat} {w w1 : World} (h : Hdr lo hi w w1) {g o : Nat} {cur : Array Value} {T : TypeId} {z : Int} (hc : w.heap[g]? = some (.cells cur T (0, 0))) (ho : cur[o]? = some (.int .i64 z)) (hl : lo ≤ g) (hh : g < hi) (y : Int) :
  Hdr lo hi w (w1.setCell ⟨g, o, none⟩ (.int .i64 y)) := by
 refine h.trans ⟨rfl, rfl, rfl, by simp [World.setCell], fun k hk _ => Below.heap_setCell _ _ _ _ (by show k ≠ g; omega), fun k c1 T1 h1 => ?_⟩
 by_cases e : k = g
 ·subst e
  obtain ⟨c2, h2, h3⟩ := h.cells k cur T hc
  rw [h2] at h1
  cases h1
  obtain ⟨z1, hz1⟩ := h3.int ho
  exact ⟨_, heap_set h2, Cur.set hz1 y⟩
 ·exact ⟨c1, (Below.heap_setCell _ _ _ _ (by show k ≠ g; omega)).trans h1, Cur.refl _⟩
theorem Hdr.cell {lo hi : Nat} {w w1 : World} (h : Hdr lo hi w w1) {g o : Nat} {cur : Array Value} {T : TypeId} {z : Int} (hc : w.heap[g]? = some (.cells cur T (0, 0))) (ho : cur[o]? = some (.int .i64 z)) :
  (∃ y : Int, w1.cell? ⟨g, o, none⟩ = some (.int .i64 y)) ∧ w1.frozen? ⟨g, o, none⟩ = false := by
 obtain ⟨c2, h2, h3⟩ := h.cells g cur T hc
 obtain ⟨z1, hz1⟩ := h3.int ho
 exact ⟨⟨z1, (cell_of_heap h2).trans hz1⟩, froz_of_heap h2⟩
theorem Hdr.head {lo hi : Nat} {w w1 : World} (h : Hdr lo hi w w1) {g o : Nat} {cur : Array Value} {T : TypeId} {u : Option Addr} {n c : Nat} (hc : w.heap[g]? = some (.cells cur T (0, 0))) (ho : cur[o]? = some (.slice u n c)) :
  w1.cell? ⟨g, o, none⟩ = some (.slice u n c) := by
 obtain ⟨c2, h2, h3⟩ := h.cells g cur T hc
 exact (cell_of_heap h2).trans (h3.slice ho)
def SI (w : World) (lo hi : Nat) (a : Option Addr) (n : Nat) : Prop :=
 n = 0 ∨ ∃ g cur, a = some ⟨g, 0, none⟩ ∧ lo ≤ g ∧ g < hi ∧ w.heap[g]? = some (.cells cur 2 (0, 0)) ∧ ∀ i, i < n → ∃ z : Int, cur[i]? = some (.int .i64 z)
theorem SI.keep {w w' : World} {lo hi : Nat} {a : Option Addr} {n : Nat} (h : SI w lo hi a n) (k : Hdr lo hi w w') : SI w' lo hi a n := by
 rcases h with h | ⟨g, cur, ha, hl, hh, hb, hc⟩
 ·exact .inl h
 ·obtain ⟨cur', hb', hi⟩ := k.cells g cur _ hb
  exact .inr ⟨g, cur', ha, hl, hh, hb', fun i hi' => by obtain ⟨z, hz⟩ := hc i hi'; exact hi.int hz⟩
theorem OI.sh {w : World} {lo : Nat} {a : Option Addr} {l : List Int} (h : OI w lo a l) : SI w lo w.heap.size a l.length := by
 rcases h.2 with h | ⟨g, cur, ha, hl, hb, hc⟩
 ·exact .inl (by simp [h])
 ·exact .inr ⟨g, cur, ha, hl, (Array.getElem?_eq_some_iff.1 hb).1, hb, fun i hi' => ⟨_, hc i hi'⟩⟩
def SP (w : World) (lo hi : Nat) (a : Option Addr) (l : List PhiD) : Prop :=
 l = [] ∨ ∃ g cur, a = some ⟨g, 0, none⟩ ∧ lo ≤ g ∧ g < hi ∧ w.heap[g]? = some (.cells cur 89 (0, 0)) ∧ ∀ i, i < l.length → (∃ z : Int, cur[i * 2]? = some (.int .i64 z)) ∧ (∃ u c, cur[i * 2 + 1]? = some (.slice u (l.getD i phi0).ins.length c) ∧ SI w lo hi u (l.getD i phi0).ins.length)
theorem SP.keep {w w' : World} {lo hi : Nat} {a : Option Addr} {l : List PhiD} (h : SP w lo hi a l) (k : Hdr lo hi w w') : SP w' lo hi a l := by
 rcases h with h | ⟨g, cur, ha, hl, hh, hb, hc⟩
 ·exact .inl h
 ·obtain ⟨cur', hb', hi⟩ := k.cells g cur _ hb
  refine .inr ⟨g, cur', ha, hl, hh, hb', fun i hi' => ?_⟩
  obtain ⟨⟨z0, h0⟩, ⟨u1, c1, h1, k1⟩⟩ := hc i hi'
  exact ⟨hi.int h0, ⟨u1, c1, hi.slice h1, k1.keep k⟩⟩
theorem OP.sh {w : World} {lo : Nat} {a : Option Addr} {l : List PhiD} (h : OP w lo a l) : SP w lo w.heap.size a l := by
 rcases h.2 with h | ⟨g, cur, ha, hl, hb, hc⟩
 ·exact .inl h
 ·refine .inr ⟨g, cur, ha, hl, (Array.getElem?_eq_some_iff.1 hb).1, hb, fun i hi' => ?_⟩
  obtain ⟨h0, ⟨u1, c1, h1, k1⟩⟩ := hc i hi'
  exact ⟨⟨_, h0⟩, ⟨u1, c1, h1, k1.sh⟩⟩
def SN (w : World) (lo hi : Nat) (a : Option Addr) (l : List InstD) : Prop :=
 l = [] ∨ ∃ g cur, a = some ⟨g, 0, none⟩ ∧ lo ≤ g ∧ g < hi ∧ w.heap[g]? = some (.cells cur 44 (0, 0)) ∧ ∀ i, i < l.length → (∃ z : Int, cur[i * 7]? = some (.int .i64 z)) ∧ (∃ z : Int, cur[i * 7 + 1]? = some (.int .i64 z)) ∧ (∃ z : Int, cur[i * 7 + 2]? = some (.int .i64 z)) ∧ (∃ z : Int, cur[i * 7 + 3]? = some (.int .i64 z)) ∧ (∃ z : Int, cur[i * 7 + 4]? = some (.int .i64 z)) ∧ (∃ z : Int, cur[i * 7 + 5]? = some (.int .i64 z)) ∧ (∃ u c, cur[i * 7 + 6]? = some (.slice u (l.getD i inst0).args.length c) ∧ SI w lo hi u (l.getD i inst0).args.length)
theorem SN.keep {w w' : World} {lo hi : Nat} {a : Option Addr} {l : List InstD} (h : SN w lo hi a l) (k : Hdr lo hi w w') : SN w' lo hi a l := by
 rcases h with h | ⟨g, cur, ha, hl, hh, hb, hc⟩
 ·exact .inl h
 ·obtain ⟨cur', hb', hi⟩ := k.cells g cur _ hb
  refine .inr ⟨g, cur', ha, hl, hh, hb', fun i hi' => ?_⟩
  obtain ⟨⟨z0, h0⟩, ⟨z1, h1⟩, ⟨z2, h2⟩, ⟨z3, h3⟩, ⟨z4, h4⟩, ⟨z5, h5⟩, ⟨u6, c6, h6, k6⟩⟩ := hc i hi'
  exact ⟨hi.int h0, hi.int h1, hi.int h2, hi.int h3, hi.int h4, hi.int h5, ⟨u6, c6, hi.slice h6, k6.keep k⟩⟩
theorem ON.sh {w : World} {lo : Nat} {a : Option Addr} {l : List InstD} (h : ON w lo a l) : SN w lo w.heap.size a l := by
 rcases h.2 with h | ⟨g, cur, ha, hl, hb, hc⟩
 ·exact .inl h
 ·refine .inr ⟨g, cur, ha, hl, (Array.getElem?_eq_some_iff.1 hb).1, hb, fun i hi' => ?_⟩
  obtain ⟨h0, h1, h2, h3, h4, h5, ⟨u6, c6, h6, k6⟩⟩ := hc i hi'
  exact ⟨⟨_, h0⟩, ⟨_, h1⟩, ⟨_, h2⟩, ⟨_, h3⟩, ⟨_, h4⟩, ⟨_, h5⟩, ⟨u6, c6, h6, k6.sh⟩⟩
def SB (w : World) (lo hi : Nat) (a : Option Addr) (l : List BlockD) : Prop :=
 l = [] ∨ ∃ g cur, a = some ⟨g, 0, none⟩ ∧ lo ≤ g ∧ g < hi ∧ w.heap[g]? = some (.cells cur 41 (0, 0)) ∧ ∀ i, i < l.length → (∃ u c, cur[i * 6]? = some (.slice u (l.getD i block0).phis.length c) ∧ SP w lo hi u (l.getD i block0).phis) ∧ (∃ u c, cur[i * 6 + 1]? = some (.slice u (l.getD i block0).insts.length c) ∧ SN w lo hi u (l.getD i block0).insts) ∧ (∃ z : Int, cur[i * 6 + 2]? = some (.int .i64 z)) ∧ (∃ z : Int, cur[i * 6 + 3]? = some (.int .i64 z)) ∧ (∃ z : Int, cur[i * 6 + 4]? = some (.int .i64 z)) ∧ (∃ z : Int, cur[i * 6 + 5]? = some (.int .i64 z))
theorem SB.keep {w w' : World} {lo hi : Nat} {a : Option Addr} {l : List BlockD} (h : SB w lo hi a l) (k : Hdr lo hi w w') : SB w' lo hi a l := by
 rcases h with h | ⟨g, cur, ha, hl, hh, hb, hc⟩
 ·exact .inl h
 ·obtain ⟨cur', hb', hi⟩ := k.cells g cur _ hb
  refine .inr ⟨g, cur', ha, hl, hh, hb', fun i hi' => ?_⟩
  obtain ⟨⟨u0, c0, h0, k0⟩, ⟨u1, c1, h1, k1⟩, ⟨z2, h2⟩, ⟨z3, h3⟩, ⟨z4, h4⟩, ⟨z5, h5⟩⟩ := hc i hi'
  exact ⟨⟨u0, c0, hi.slice h0, k0.keep k⟩, ⟨u1, c1, hi.slice h1, k1.keep k⟩, hi.int h2, hi.int h3, hi.int h4, hi.int h5⟩
theorem OB.sh {w : World} {lo : Nat} {a : Option Addr} {l : List BlockD} (h : OB w lo a l) : SB w lo w.heap.size a l := by
 rcases h.2 with h | ⟨g, cur, ha, hl, hb, hc⟩
 ·exact .inl h
 ·refine .inr ⟨g, cur, ha, hl, (Array.getElem?_eq_some_iff.1 hb).1, hb, fun i hi' => ?_⟩
  obtain ⟨⟨u0, c0, h0, k0⟩, ⟨u1, c1, h1, k1⟩, h2, h3, h4, h5⟩ := hc i hi'
  exact ⟨⟨u0, c0, h0, k0.sh⟩, ⟨u1, c1, h1, k1.sh⟩, ⟨_, h2⟩, ⟨_, h3⟩, ⟨_, h4⟩, ⟨_, h5⟩⟩
end Go.Proofs.YtenbodghkpbghaaDoor
