/- The draw of a module, right or not: all its functions, to be read. -/
import Derived.Test.YtojhakjkfkmklaaGreatDoorBrB
import Derived.Test.YtojhakjkfkmklaaGreatDoorMbBQ
namespace Go.Proofs.YtojhakjkfkmklaaGreatDoor
open Go.RowKit Go.Deep
set_option linter.unusedVariables false
set_option linter.unusedSimpArgs false
theorem mod_read {lo gm n : Nat} {w : World} (h : ModR lo gm n w) (hl : lo ≤ gm) (hn : n ≤ 2) : ∃ l : List FuncD, l.length = n ∧ SmMod l ∧ FuncsAt w lo (some ⟨gm, 0, none⟩) l := by
  obtain ⟨⟨cur, hc⟩, h⟩ := h
  have hg := (Array.getElem?_eq_some_iff.1 hc).1
  obtain ⟨l, l1, l2⟩ := list_of func0 (fun i d => ((∃ u c, w.cell? ⟨gm, 0 + i * 3, none⟩ = some (.slice u d.params.length c) ∧ IntsAt w lo u d.params) ∧ w.cell? ⟨gm, 0 + i * 3 + 1, none⟩ = some (.int .i64 d.ret) ∧ (∃ u c, w.cell? ⟨gm, 0 + i * 3 + 2, none⟩ = some (.slice u d.blocks.length c) ∧ BlocksAt w lo u d.blocks)) ∧ SmFunc d) n fun i hi => by
    obtain ⟨np, nb, ret, up, ub, cp, cb, h0, h1, h2, h3⟩ := h i hi
    obtain ⟨d, e1, e2, e3, e4, e5, e6⟩ := h3.read (ret := ret)
    subst e1 e2 e3
    rw [Nat.zero_add]
    exact ⟨d, ⟨⟨up, cp, h0, e5⟩, h1, ⟨ub, cb, h2, e6⟩⟩, e4⟩
  refine ⟨l, l1, ⟨by omega, fun p hp => ?_⟩, by omega, .inr ⟨gm, 0, rfl, hl, hg, fun i hi => (l2 i (by omega)).1⟩⟩
  obtain ⟨i, hi, rfl⟩ := mem_getD func0 hp
  exact (l2 i (by omega)).2
set_option maxHeartbeats 4000000 in
set_option maxRecDepth 100000 in
theorem drawModule (a0 : Option Addr) (len cap : Nat) (w : World) (hl : len ≤ 1048576) (hc : Code a0 len w.heap.size w) :
    Calls Tryz.prog 14 #[.slice a0 len cap] w fun e w' => ∃ (l : List FuncD) (u : Option Addr) (c : Nat), e = .returned (.agg #[.slice u l.length c]) ∧ SmMod l ∧ FuncsAt w' w.heap.size u l ∧ Below w.heap.size w w' := by
  have hb0 : Below w.heap.size w (w.alloc (.cells #[.slice none 0 0] 26)) := (Below.refl _ _).alloc (Nat.le_refl _) _
  have hrd := rd_open (cap := cap) hl (hc.below hb0)
  have hsz : (w.alloc (.cells #[.slice none 0 0] 26)).heap.size = w.heap.size + 1 := by simp
  have hq0 : ((w.alloc (.cells #[.slice none 0 0] 26)).alloc (.cells #[.slice a0 len cap, .int .i64 0] 96)).heap[w.heap.size]? = some (.cells #[.slice none 0 0] 26 (0, 0)) := heap_alloc2_old _ _ _
  have hb1 : Below w.heap.size w ((w.alloc (.cells #[.slice none 0 0] 26)).alloc (.cells #[.slice a0 len cap, .int .i64 0] 96)) := hb0.alloc (by simp) _
  rw [hsz] at hrd
  have fin : ∀ (W V : World) (gm n cm : Nat), W.heap[w.heap.size]? = some (.cells #[.slice none 0 0] 26 (0, 0)) → Below w.heap.size w W → w.heap.size + 2 ≤ W.heap.size → (∀ b, b < W.heap.size → b ≠ w.heap.size + 1 → V.heap[b]? = W.heap[b]?) → W.heap.size ≤ V.heap.size → V.os = W.os → V.tape = W.tape → V.output = W.output → ModR W.heap.size gm n V → W.heap.size ≤ gm → n ≤ 2 → V.heap[w.heap.size]? = some (.cells #[.slice none 0 0] 26 (0, 0)) ∧ ∃ l : List FuncD, l.length = n ∧ SmMod l ∧ FuncsAt (V.setCell ⟨w.heap.size, 0, none⟩ (.slice (some ⟨gm, 0, none⟩) n cm)) w.heap.size (some ⟨gm, 0, none⟩) l ∧ Below w.heap.size w (V.setCell ⟨w.heap.size, 0, none⟩ (.slice (some ⟨gm, 0, none⟩) n cm)) := fun W V gm n cm h1 h2 h3 h4 h5 o1 o2 o3 h6 h7 h8 => by
    have hset : ∀ b, b ≠ w.heap.size → (V.setCell ⟨w.heap.size, 0, none⟩ (.slice (some ⟨gm, 0, none⟩) n cm)).heap[b]? = V.heap[b]? := fun b hb => Below.heap_setCell _ _ _ _ hb
    obtain ⟨l, l1, l2, l3⟩ := mod_read ((h6.same h7 fun b k1 k2 => hset b (by omega)).low (by omega : w.heap.size ≤ W.heap.size)) (by omega) h8
    exact ⟨(h4 _ (by omega) (by omega)).trans h1, l, l1, l2, l3, (set_os _ _ _).trans (o1.trans h2.os), (set_tape _ _ _).trans (o2.trans h2.tape), (set_output _ _ _).trans (o3.trans h2.output), by simp only [World.size_setCell]; omega, fun b hb => (hset b (by omega)).trans ((h4 b (by omega) (by omega)).trans (h2.block b hb))⟩
  go_enter Tryz.func14, Tryz.ntmps14
  go_wp2_with (first | (go_at_call 30; refine (open_any _ _ _ _).mono ?_; rintro e w0 ⟨rfl, rfl⟩; simp only [hsz]))
  refine (once_any _ a0 len cap 12 _ hrd (by omega)).mono ?_
  rintro e W1 ⟨b1, rfl, hr1, hg1⟩
  have hz1 : w.heap.size + 2 ≤ W1.heap.size := by have := hg1.size; simp at this; omega
  have hR1 : W1.heap[w.heap.size]? = some (.cells #[.slice none 0 0] 26 (0, 0)) := (hg1.block w.heap.size (by simp; omega) (by simp)).trans hq0
  have hB1 : Below w.heap.size w W1 := ⟨hg1.os.trans hb1.os, hg1.tape.trans hb1.tape, hg1.output.trans hb1.output, by omega, fun b hb => (hg1.block b (by simp; omega) (by simp; omega)).trans (hb1.block b hb)⟩
  clear hg1 hq0 hb1 hb0 hrd hsz
  cases b1
  · have PM := module_all _ a0 len cap W1 hr1
    go_wp2_with fail
    refine PM.mono ?_
    rintro e W2 ⟨gm, n, cm, rfl, hn1, hn2, hgm, hcur, hfs, hrd2, hold, hs2, o1, o2, o3⟩
    obtain ⟨k1, l, rfl, k3, k4, k5⟩ := fin W1 W2 gm n cm hR1 hB1 hz1 hold hs2 o1 o2 o3 (ModAll.r hcur hfs) hgm hn2
    have r0 : W2.cell? ⟨w.heap.size, 0, none⟩ = some (.slice none 0 0) := (cell_of_heap k1).trans rfl
    have rf : W2.frozen? ⟨w.heap.size, 0, none⟩ = false := froz_of_heap k1
    have hrr := heap_set (o := 0) (v := .slice (some ⟨gm, 0, none⟩) l.length cm) k1
    clear fin
    go_wp2_with fail
    exact bodyPost_ret (v := .agg #[.slice (some ⟨gm, 0, none⟩) l.length cm]) ((results_cell_row Tryz.results14 _ _ w.heap.size 26 _ (0, 0) _ rfl hrr Tryz.underlying26 rfl (by kernel_rfl)).trans (by rfl)) rfl ⟨l, _, cm, rfl, k3, k4, k5⟩
  · have PM := broken_any _ a0 len cap W1 hr1
    go_wp2_with fail
    refine PM.mono ?_
    rintro e W2 ⟨gm, n, cm, rfl, hn1, hn2, hgm, hmr, hrd2, hold, hs2, o1, o2, o3⟩
    obtain ⟨k1, l, rfl, k3, k4, k5⟩ := fin W1 W2 gm n cm hR1 hB1 hz1 hold hs2 o1 o2 o3 hmr hgm hn2
    have r0 : W2.cell? ⟨w.heap.size, 0, none⟩ = some (.slice none 0 0) := (cell_of_heap k1).trans rfl
    have rf : W2.frozen? ⟨w.heap.size, 0, none⟩ = false := froz_of_heap k1
    have hrr := heap_set (o := 0) (v := .slice (some ⟨gm, 0, none⟩) l.length cm) k1
    clear fin
    go_wp2_with fail
    exact bodyPost_ret (v := .agg #[.slice (some ⟨gm, 0, none⟩) l.length cm]) ((results_cell_row Tryz.results14 _ _ w.heap.size 26 _ (0, 0) _ rfl hrr Tryz.underlying26 rfl (by kernel_rfl)).trans (by rfl)) rfl ⟨l, _, cm, rfl, k3, k4, k5⟩
end Go.Proofs.YtojhakjkfkmklaaGreatDoor
