/- The draws of the laws over graphs. -/
import Derived.Test.YtilhmpilkhadfaaGen
namespace Go.Proofs.Ytilhmpilkhadfaa
open Go.RowKit

theorem results_c1 {P : Program} {fn : Func} {p q : Tmp} {ty : TypeId} (h : fn.results = #[.cell p ty, .tmp q]) (tmps : Array Value) (w : World) (g : Nat) (t : TypeId) (cs : Array Value) (fr : Nat × Nat) (d : TypeDesc)
    (hp : tmps.getD p undef = .pointer (some ⟨g, 0, none⟩)) (hg : w.heap[g]? = some (.cells cs t fr))
    (hu : P.underlying ty = some d) (hd : (match d with | .struct _ | .array _ _ => true | _ => false) = true) (hi : (P.info? ty).map (·.size) = some cs.size) :
    (results fn tmps).run P w = .ok (.tuple #[.agg cs, tmps.getD q undef]) w := by
  have hp' : tmps[p]?.getD undef = .pointer (some ⟨g, 0, none⟩) := by simpa using hp
  simp [results, h, hp', asAddr, run_loadVar_row w g t ty cs fr d hg hu hd hi]
theorem results_c2 {P : Program} {fn : Func} {p q q2 : Tmp} {ty : TypeId} (h : fn.results = #[.cell p ty, .tmp q, .tmp q2]) (tmps : Array Value) (w : World) (g : Nat) (t : TypeId) (cs : Array Value) (fr : Nat × Nat) (d : TypeDesc)
    (hp : tmps.getD p undef = .pointer (some ⟨g, 0, none⟩)) (hg : w.heap[g]? = some (.cells cs t fr))
    (hu : P.underlying ty = some d) (hd : (match d with | .struct _ | .array _ _ => true | _ => false) = true) (hi : (P.info? ty).map (·.size) = some cs.size) :
    (results fn tmps).run P w = .ok (.tuple #[.agg cs, tmps.getD q undef, tmps.getD q2 undef]) w := by
  have hp' : tmps[p]?.getD undef = .pointer (some ⟨g, 0, none⟩) := by simpa using hp
  simp [results, h, hp', asAddr, run_loadVar_row w g t ty cs fr d hg hu hd hi]
/-- What was drawn: a graph, in memory above what was there. -/
def Grph (w w' : World) (ts : List TermD) (u : Option Addr) : Prop := ts.length ≤ 7 ∧ BlocksAt w' w.heap.size u (bare ts) ∧ Below w.heap.size w w'
/-- The answer's cell, above the world that it was asked in. -/
theorem cell_done {w v : World} {u : Option Addr} {n c : Nat} {ts : List TermD} (hr : v.heap[w.heap.size]? = some (.cells #[.slice none 0 0, .int .i64 0, .slice none 0 0] 27 (0, 0))) (hb : BlocksAt v (w.heap.size + 1) u (bare ts)) (hB : Below w.heap.size w v) (hl : ts.length ≤ 7) :
    ((((v.setCell ⟨w.heap.size, 0, none⟩ (.slice none 0 0)).setCell ⟨w.heap.size, 1, none⟩ (.int .i64 8)).setCell ⟨w.heap.size, 2, none⟩ (.slice u n c)).heap[w.heap.size]? = some (.cells #[.slice none 0 0, .int .i64 8, .slice u n c] 27 (0, 0))) ∧ Grph w (((v.setCell ⟨w.heap.size, 0, none⟩ (.slice none 0 0)).setCell ⟨w.heap.size, 1, none⟩ (.int .i64 8)).setCell ⟨w.heap.size, 2, none⟩ (.slice u n c)) ts u := by
  have hk : ∀ b : Nat, b ≠ w.heap.size → (((v.setCell ⟨w.heap.size, 0, none⟩ (.slice none 0 0)).setCell ⟨w.heap.size, 1, none⟩ (.int .i64 8)).setCell ⟨w.heap.size, 2, none⟩ (.slice u n c)).heap[b]? = v.heap[b]? := fun b hb => (Below.heap_setCell _ _ _ _ hb).trans ((Below.heap_setCell _ _ _ _ hb).trans (Below.heap_setCell _ _ _ _ hb))
  have hz : (((v.setCell ⟨w.heap.size, 0, none⟩ (.slice none 0 0)).setCell ⟨w.heap.size, 1, none⟩ (.int .i64 8)).setCell ⟨w.heap.size, 2, none⟩ (.slice u n c)).heap.size = v.heap.size := by simp
  exact ⟨(heap_set (heap_set (heap_set hr))).trans rfl, hl, (hb.keep ⟨by rw [hz]; exact Nat.le_refl _, fun b hb' _ => hk b (by omega)⟩).low (by omega), ⟨hB.os, hB.tape, hB.output, by rw [hz]; exact hB.size, fun i hi => (hk i (by omega)).trans (hB.block i hi)⟩⟩
/-- The reader behind the answer's cell. -/
theorem open_second {w : World} {a0 : Option Addr} {len cap : Nat} (o : Obj) (hl : len ≤ 1048576) (hc : Code a0 len w.heap.size w) : Rd (w.heap.size + 1) a0 len cap ((w.alloc o).alloc (.cells #[.slice a0 len cap, .int .i64 0] 75)) := by
  have h := rd_open (cap := cap) hl (hc.below ((Below.refl w.heap.size w).alloc (Nat.le_refl _) o))
  have hz : (w.alloc o).heap.size = w.heap.size + 1 := by simp
  rw [hz] at h
  exact h
theorem grown_below1 {w v : World} {o o2 : Obj} (k : ((w.alloc o).alloc o2).grownBy v (some (w.heap.size + 1))) : Below w.heap.size w v ∧ v.heap[w.heap.size]? = some o := by
  have h1 : ∀ b : Nat, b < w.heap.size → v.heap[b]? = w.heap[b]? := fun b hb => (k.block b (by simp; omega) (by simp; omega)).trans ((Below.heap_alloc _ _ _ (by simp; omega)).trans (Below.heap_alloc _ _ _ hb))
  refine ⟨⟨k.os, k.tape, k.output, by have := k.size; simp at this; omega, h1⟩, (k.block _ (by simp; omega) (by simp)).trans ((Below.heap_alloc _ _ _ (by simp)).trans (heap_alloc_last _ _))⟩
set_option maxRecDepth 100000 in
set_option maxHeartbeats 4000000 in
theorem drawReached (a0 : Option Addr) (len cap : Nat) (w : World) (hl : len ≤ 1048576) (hc : Code a0 len w.heap.size w) :
    Calls Try.prog 10 #[.slice a0 len cap] w fun e w' => ∃ (ts : List TermD) (u : Option Addr) (c : Nat), e = .returned (.agg #[.slice none 0 0, .int .i64 8, .slice u ts.length c]) ∧ Grph w w' ts u := by
  have HR : Hid _ := open_second (cap := cap) (.cells #[.slice none 0 0, .int .i64 0, .slice none 0 0] 27) hl hc
  go_enter Try.func10, Try.ntmps10
  go_wp2_with (first | (go_at_call 37; refine (open_any _ _ _ _).mono ?_; rintro e w0 ⟨rfl, rfl⟩) | (go_at_call 38; refine (graph_any (w.heap.size + 1) a0 len cap _ HR.out).mono ?_; rintro e w2 ⟨ts, u, c, rfl, hts, hb2, hr2, hg2⟩; obtain ⟨hB2, hc2⟩ := grown_below1 hg2; have HB2 : Hid (Below w.heap.size w w2) := hB2; have HC2 : Hid _ := hc2; have HBA : Hid (BlocksAt w2 (w.heap.size + 1) u (bare ts)) := hb2.low (by simp); have r0 := (cell_of_heap (o := 0) hc2).trans rfl; have r1 := (cell_of_heap (o := 1) hc2).trans rfl; have r2 := (cell_of_heap (o := 2) hc2).trans rfl; have ff := fun k => froz_of_heap (o := k) hc2; clear hb2 hr2 hg2 hB2 hc2))
  obtain ⟨d1, d2⟩ := cell_done (n := ts.length) (c := c) HC2.out HBA.out HB2.out hts
  refine bodyPost_ret (v := .agg #[.slice none 0 0, .int .i64 8, .slice u ts.length c]) ((results_cell_row Try.results10 _ _ w.heap.size 27 _ (0, 0) _ rfl d1 Try.underlying27 rfl (by kernel_rfl)).trans (by rfl)) rfl ⟨ts, u, c, rfl, d2⟩
/-- Behind the graph: the reader, the answer's cell, the function's own, the blocks. -/
structure Dst (w : World) (g : Nat) (a0 : Option Addr) (len cap : Nat) (ts : List TermD) (u : Option Addr) (c : Nat) (v : World) (x : Nat) : Prop where
  hl : ts.length ≤ 7
  b : BlocksAt v (w.heap.size + 2) u (bare ts)
  rd : Rd g a0 len cap v
  bel : Below w.heap.size w v
  r : v.heap[w.heap.size]? = some (.cells #[.slice none 0 0, .int .i64 0, .slice none 0 0] 27 (0, 0))
  f : v.heap[x]? = some (.cells #[.slice none 0 0, .int .i64 8, .slice u ts.length c] 27 (0, 0))
  hg : g = w.heap.size + 1
  hx : w.heap.size + 2 ≤ x
theorem Dst.start {w : World} {a0 : Option Addr} {len cap : Nat} {ts : List TermD} {u : Option Addr} {c : Nat} {v : World} (hl : ts.length ≤ 7) (hb : BlocksAt v (w.heap.size + 2) u (bare ts)) (hr : Rd (w.heap.size + 1) a0 len cap v) (hB : Below w.heap.size w v) (hc : v.heap[w.heap.size]? = some (.cells #[.slice none 0 0, .int .i64 0, .slice none 0 0] 27 (0, 0))) :
    Dst w (w.heap.size + 1) a0 len cap ts u c (v.alloc (.cells #[.slice none 0 0, .int .i64 8, .slice u ts.length c] 27)) v.heap.size :=
  have h1 := hr.lt
  ⟨hl, hb.keep (agree_alloc _ _ _), hr.alloc _, hB.alloc hB.size _, (Below.heap_alloc _ _ _ (by omega)).trans hc, heap_alloc_last _ _, rfl, by omega⟩
theorem Dst.next {w : World} {g : Nat} {a0 : Option Addr} {len cap : Nat} {ts : List TermD} {u : Option Addr} {c : Nat} {v v' : World} {x : Nat} (h : Dst w g a0 len cap ts u c v x) (hr : Rd g a0 len cap v') (k : v.grownBy v' (some g)) : Dst w g a0 len cap ts u c v' x :=
  have h1 := h.hg
  have h2 := h.hx
  ⟨h.hl, h.b.keep ⟨k.size, fun b hb hlt => k.block b hlt (by simp; omega)⟩, hr, ⟨k.os.trans h.bel.os, k.tape.trans h.bel.tape, k.output.trans h.bel.output, Nat.le_trans h.bel.size k.size, fun i hi => (k.block i (Nat.lt_of_lt_of_le hi h.bel.size) (by simp; omega)).trans (h.bel.block i hi)⟩, grown_heap k h.r (by omega), grown_heap k h.f (by omega), h1, h2⟩
theorem Dst.cells {w : World} {g : Nat} {a0 : Option Addr} {len cap : Nat} {ts : List TermD} {u : Option Addr} {c : Nat} {v : World} {x : Nat} (h : Dst w g a0 len cap ts u c v x) :
    (v.cell? ⟨x, 0, none⟩ = some (.slice none 0 0) ∧ v.cell? ⟨x, 1, none⟩ = some (.int .i64 8) ∧ v.cell? ⟨x, 2, none⟩ = some (.slice u ts.length c)) ∧ (v.cell? ⟨w.heap.size, 0, none⟩ = some (.slice none 0 0) ∧ v.cell? ⟨w.heap.size, 1, none⟩ = some (.int .i64 0) ∧ v.cell? ⟨w.heap.size, 2, none⟩ = some (.slice none 0 0)) ∧ ∀ k, v.frozen? ⟨w.heap.size, k, none⟩ = false :=
  ⟨⟨(cell_of_heap h.f).trans rfl, (cell_of_heap h.f).trans rfl, (cell_of_heap h.f).trans rfl⟩, ⟨(cell_of_heap h.r).trans rfl, (cell_of_heap h.r).trans rfl, (cell_of_heap h.r).trans rfl⟩, fun _ => froz_of_heap h.r⟩
set_option maxRecDepth 100000 in
set_option maxHeartbeats 4000000 in
theorem drawIdom (a0 : Option Addr) (len cap : Nat) (w : World) (hl : len ≤ 1048576) (hc : Code a0 len w.heap.size w) :
    Calls Try.prog 22 #[.slice a0 len cap] w fun e w' => ∃ (ts : List TermD) (u : Option Addr) (c : Nat) (n : Int), e = .returned (.tuple #[.agg #[.slice none 0 0, .int .i64 8, .slice u ts.length c], .int .i64 n]) ∧ Grph w w' ts u := by
  have HR : Hid _ := open_second (cap := cap) (.cells #[.slice none 0 0, .int .i64 0, .slice none 0 0] 27) hl hc
  go_enter Try.func22, Try.ntmps22
  go_wp2_with (first | (go_at_call 37; refine (open_any _ _ _ _).mono ?_; rintro e w0 ⟨rfl, rfl⟩) | (go_at_call 38; refine (graph_any (w.heap.size + 1) a0 len cap _ HR.out).mono ?_; rintro e w2 ⟨ts, u, c, rfl, hts, hb2, hr2, hg2⟩; obtain ⟨hB2, hc2⟩ := grown_below1 hg2; have HS : Hid (Dst w (w.heap.size + 1) a0 len cap ts u c (w2.alloc (.cells #[.slice none 0 0, .int .i64 8, .slice u ts.length c] 27)) w2.heap.size) := Dst.start hts (hb2.low (by simp)) hr2 hB2 hc2; clear hb2 hr2 hg2 hB2 hc2))
  obtain ⟨⟨x0, x1, x2⟩, ⟨r0, r1, r2⟩, ff⟩ := HS.out.cells
  go_region_with (go_at_call 46; refine (off_any (w.heap.size + 1) a0 len cap 0 5 _ (by exact HS.out.rd) (by omega) (by omega) (by omega)).mono ?_; rintro e w3 ⟨n3, rfl, _, _, hr3, hg3⟩; have HS3 : Hid (Dst w (w.heap.size + 1) a0 len cap ts u c w3 w2.heap.size) := HS.out.next hr3 ⟨hg3.os, hg3.tape, hg3.output, hg3.size, hg3.block⟩; obtain ⟨⟨y0, y1, y2⟩, ⟨q0, q1, q2⟩, qf⟩ := HS3.out.cells; clear hr3 hg3)
  all_goals
    go_wp2_with fail
    obtain ⟨d1, d2⟩ := cell_done (n := ts.length) (c := c) HS3.out.r (HS3.out.b.low (by omega)) HS3.out.bel HS3.out.hl
    refine bodyPost_ret (v := .tuple #[.agg #[.slice none 0 0, .int .i64 8, .slice u ts.length c], .int .i64 n3]) ((results_c1 Try.results22 _ _ w.heap.size 27 _ (0, 0) _ rfl d1 Try.underlying27 rfl (by kernel_rfl)).trans (by rfl)) rfl ⟨ts, u, c, n3, rfl, d2⟩
set_option maxRecDepth 100000 in
set_option maxHeartbeats 4000000 in
theorem drawDom (a0 : Option Addr) (len cap : Nat) (w : World) (hl : len ≤ 1048576) (hc : Code a0 len w.heap.size w) :
    Calls Try.prog 19 #[.slice a0 len cap] w fun e w' => ∃ (ts : List TermD) (u : Option Addr) (c : Nat) (n m : Int), e = .returned (.tuple #[.agg #[.slice none 0 0, .int .i64 8, .slice u ts.length c], .int .i64 n, .int .i64 m]) ∧ Grph w w' ts u := by
  have HR : Hid _ := open_second (cap := cap) (.cells #[.slice none 0 0, .int .i64 0, .slice none 0 0] 27) hl hc
  go_enter Try.func19, Try.ntmps19
  go_wp2_with (first | (go_at_call 37; refine (open_any _ _ _ _).mono ?_; rintro e w0 ⟨rfl, rfl⟩) | (go_at_call 38; refine (graph_any (w.heap.size + 1) a0 len cap _ HR.out).mono ?_; rintro e w2 ⟨ts, u, c, rfl, hts, hb2, hr2, hg2⟩; obtain ⟨hB2, hc2⟩ := grown_below1 hg2; have HS : Hid (Dst w (w.heap.size + 1) a0 len cap ts u c (w2.alloc (.cells #[.slice none 0 0, .int .i64 8, .slice u ts.length c] 27)) w2.heap.size) := Dst.start hts (hb2.low (by simp)) hr2 hB2 hc2; clear hb2 hr2 hg2 hB2 hc2))
  obtain ⟨⟨x0, x1, x2⟩, ⟨r0, r1, r2⟩, ff⟩ := HS.out.cells
  go_region_with (first | (go_at_call 46; refine (off_any (w.heap.size + 1) a0 len cap 0 5 _ (by exact HS3.out.rd) (by omega) (by omega) (by omega)).mono ?_; rintro e w4 ⟨n4, rfl, _, _, hr4, hg4⟩; have HS4 : Hid (Dst w (w.heap.size + 1) a0 len cap ts u c w4 w2.heap.size) := HS3.out.next hr4 ⟨hg4.os, hg4.tape, hg4.output, hg4.size, hg4.block⟩; obtain ⟨⟨i0, i1, i2⟩, ⟨j0, j1, j2⟩, jf⟩ := HS4.out.cells; clear hr4 hg4) | (go_at_call 46; refine (off_any (w.heap.size + 1) a0 len cap 0 5 _ (by exact HS.out.rd) (by omega) (by omega) (by omega)).mono ?_; rintro e w3 ⟨n3, rfl, _, _, hr3, hg3⟩; have HS3 : Hid (Dst w (w.heap.size + 1) a0 len cap ts u c w3 w2.heap.size) := HS.out.next hr3 ⟨hg3.os, hg3.tape, hg3.output, hg3.size, hg3.block⟩; obtain ⟨⟨y0, y1, y2⟩, ⟨q0, q1, q2⟩, qf⟩ := HS3.out.cells; clear hr3 hg3))
  all_goals
    go_wp2_with fail
    obtain ⟨d1, d2⟩ := cell_done (n := ts.length) (c := c) HS4.out.r (HS4.out.b.low (by omega)) HS4.out.bel HS4.out.hl
    first | refine bodyPost_ret (v := .tuple #[.agg #[.slice none 0 0, .int .i64 8, .slice u ts.length c], .int .i64 n3, .int .i64 n4]) ((results_c2 Try.results19 _ _ w.heap.size 27 _ (0, 0) _ rfl d1 Try.underlying27 rfl (by kernel_rfl)).trans (by rfl)) rfl ⟨ts, u, c, n3, n4, rfl, d2⟩ | refine bodyPost_ret (v := .tuple #[.agg #[.slice none 0 0, .int .i64 8, .slice u ts.length c], .int .i64 n4, .int .i64 n3]) ((results_c2 Try.results19 _ _ w.heap.size 27 _ (0, 0) _ rfl d1 Try.underlying27 rfl (by kernel_rfl)).trans (by rfl)) rfl ⟨ts, u, c, n4, n3, rfl, d2⟩
end Go.Proofs.Ytilhmpilkhadfaa
