import Derived.Test.YtgojlnclpebdcaaGreatDoorBrBR
import Derived.Test.YtgojlnclpebdcaaGreatDoorChFR
import Derived.Test.YtgojlnclpebdcaaGreatDoorGnZR
import Derived.Laws.ResultCell
import Derived.Test.YtgojlnclpebdcaaGreatDoorFmKR
import Derived.Test.YtgojlnclpebdcaaGreatDoorMemR
import Derived.Test.YtgojlnclpebdcaaGreatDoorPutR
import Derived.Deep.QuietTactic
import Derived.BigQuiet
import Derived.Test.YtgojlnclpebdcaaGreatDoorChSR
import Derived.Test.YtgojlnclpebdcaaGreatDoorRdr2R
import Derived.Deep.RegionHeld2
namespace Go.Proofs.YtgojlnclpebdcaaGreatDoor
open Go.RowKit Go.Deep
set_option linter.unusedVariables false
set_option linter.unusedSimpArgs false
theorem mod_read {lo gm n : Nat} {w : World} (h : ModR lo gm n w) (hl : lo ≤ gm) (hn : n ≤ 2) : ∃ l : List FuncD, l.length = n ∧ SmMod l ∧ FuncsAt w lo (some ⟨gm, 0, none⟩) l := by
 obtain ⟨⟨cur, hc⟩, h⟩ := h
 have hg := (Array.getElem?_eq_some_iff.1 hc).1
 obtain ⟨l, l1, l2⟩ := list_of func0 (fun i d => ((∃ u c, w.cell? ⟨gm, 0 + i * 3, none⟩ = some (.slice u d.params.length c) ∧ IntsAt w lo u d.params) ∧ w.cell? ⟨gm, 0 + i * 3 + 1, none⟩ = some (.int .i64 d.ret) ∧ (∃ u c, w.cell? ⟨gm, 0 + i * 3 + 2, none⟩ = some (.slice u d.blocks.length c) ∧ BlocksAt w lo u d.blocks)) ∧ SmFunc d) n fun i hi => by
  obtain ⟨np, nb, ret, up, ub, cp, cb, h0, h1, h2, h3⟩ := h i hi
  obtain ⟨d, e1, e2, e3, e4, e5, e6⟩ := h3.read (ret := ret)
  subst e1 e2 e3
  rw [Nat.zero_add]
  exact ⟨d, ⟨⟨up, cp, h0, e5⟩, h1, ⟨ub, cb, h2, e6⟩⟩, e4⟩
 refine ⟨l, l1, ⟨by omega, fun p hp => ?_⟩, by omega, .inr ⟨gm, 0, rfl, hl, hg, fun i hi => (l2 i (by omega)).1⟩⟩
 obtain ⟨i, hi, rfl⟩ := mem_getD func0 hp
 exact (l2 i (by omega)).2
end Go.Proofs.YtgojlnclpebdcaaGreatDoor
namespace Go.Proofs.YtgojlnclpebdcaaGreatDoor
open Go.RowKit Go.Deep
set_option linter.unusedVariables false
set_option linter.unusedSimpArgs false
set_option maxHeartbeats 4000000 in
set_option maxRecDepth 100000 in
theorem drawChecked (a0 : Option Addr) (len cap : Nat) (w : World) (hl : len ≤ 1048576) (hc : Code a0 len w.heap.size w) :
  Calls Tryz.prog 6 #[.slice a0 len cap] w fun e w' => ∃ (l : List FuncD) (u : Option Addr) (c : Nat), e = .returned (.agg #[.slice u l.length c]) ∧ SmMod l ∧ FuncsAt w' w.heap.size u l ∧ Below w.heap.size w w' := by
 have hb0 : Below w.heap.size w (w.alloc (.cells #[.slice none 0 0] 26)) := (Below.refl _ _).alloc (Nat.le_refl _) _
 have hrd := rd_open (cap := cap) hl (hc.below hb0)
 have hsz : (w.alloc (.cells #[.slice none 0 0] 26)).heap.size = w.heap.size + 1 := by simp
 have hq0 : ((w.alloc (.cells #[.slice none 0 0] 26)).alloc (.cells #[.slice a0 len cap, .int .i64 0] 88)).heap[w.heap.size]? = some (.cells #[.slice none 0 0] 26 (0, 0)) := heap_alloc2_old _ _ _
 have hb1 : Below w.heap.size w ((w.alloc (.cells #[.slice none 0 0] 26)).alloc (.cells #[.slice a0 len cap, .int .i64 0] 88)) := hb0.alloc (by simp) _
 rw [hsz] at hrd
 have fin : ∀ (W V : World) (gm n cm : Nat), W.heap[w.heap.size]? = some (.cells #[.slice none 0 0] 26 (0, 0)) → Below w.heap.size w W → w.heap.size + 2 ≤ W.heap.size → (∀ b, b < W.heap.size → b ≠ w.heap.size + 1 → V.heap[b]? = W.heap[b]?) → W.heap.size ≤ V.heap.size → V.os = W.os → V.tape = W.tape → V.output = W.output → ModR W.heap.size gm n V → W.heap.size ≤ gm → n ≤ 2 → V.heap[w.heap.size]? = some (.cells #[.slice none 0 0] 26 (0, 0)) ∧ ∃ l : List FuncD, l.length = n ∧ SmMod l ∧ FuncsAt (V.setCell ⟨w.heap.size, 0, none⟩ (.slice (some ⟨gm, 0, none⟩) n cm)) w.heap.size (some ⟨gm, 0, none⟩) l ∧ Below w.heap.size w (V.setCell ⟨w.heap.size, 0, none⟩ (.slice (some ⟨gm, 0, none⟩) n cm)) := fun W V gm n cm h1 h2 h3 h4 h5 o1 o2 o3 h6 h7 h8 => by
  have hset : ∀ b, b ≠ w.heap.size → (V.setCell ⟨w.heap.size, 0, none⟩ (.slice (some ⟨gm, 0, none⟩) n cm)).heap[b]? = V.heap[b]? := fun b hb => Below.heap_setCell _ _ _ _ hb
  obtain ⟨l, l1, l2, l3⟩ := mod_read ((h6.same h7 fun b k1 k2 => hset b (by omega)).low (by omega : w.heap.size ≤ W.heap.size)) (by omega) h8
  exact ⟨(h4 _ (by omega) (by omega)).trans h1, l, l1, l2, l3, (set_os _ _ _).trans (o1.trans h2.os), (set_tape _ _ _).trans (o2.trans h2.tape), (set_output _ _ _).trans (o3.trans h2.output), by simp only [World.size_setCell]; omega, fun b hb => (hset b (by omega)).trans ((h4 b (by omega) (by omega)).trans (h2.block b hb))⟩
 go_enter Tryz.func6, Tryz.ntmps6
 go_wp2_with (first | (go_at_call 23; refine (open_any _ _ _ _).mono ?_; rintro e w0 ⟨rfl, rfl⟩; simp only [hsz]))
 refine (once_any _ a0 len cap 3 _ hrd (by omega)).mono ?_
 rintro e W1 ⟨b1, rfl, hr1, hg1⟩
 have hz1 : w.heap.size + 2 ≤ W1.heap.size := by have := hg1.size; simp at this; omega
 have hR1 : W1.heap[w.heap.size]? = some (.cells #[.slice none 0 0] 26 (0, 0)) := (hg1.block w.heap.size (by simp; omega) (by simp)).trans hq0
 have hB1 : Below w.heap.size w W1 := ⟨hg1.os.trans hb1.os, hg1.tape.trans hb1.tape, hg1.output.trans hb1.output, by omega, fun b hb => (hg1.block b (by simp; omega) (by simp; omega)).trans (hb1.block b hb)⟩
 clear hg1 hq0 hb1 hb0 hrd hsz
 cases b1
 ·have PM := broken_any _ a0 len cap W1 hr1
  go_wp2_with fail
  refine PM.mono ?_
  rintro e W2 ⟨gm, n, cm, rfl, hn1, hn2, hgm, hmr, hrd2, hold, hs2, o1, o2, o3⟩
  obtain ⟨k1, l, rfl, k3, k4, k5⟩ := fin W1 W2 gm n cm hR1 hB1 hz1 hold hs2 o1 o2 o3 hmr hgm hn2
  have r0 : W2.cell? ⟨w.heap.size, 0, none⟩ = some (.slice none 0 0) := (cell_of_heap k1).trans rfl
  have rf : W2.frozen? ⟨w.heap.size, 0, none⟩ = false := froz_of_heap k1
  have hrr := heap_set (o := 0) (v := .slice (some ⟨gm, 0, none⟩) l.length cm) k1
  clear fin
  go_wp2_with fail
  exact bodyPost_ret (v := .agg #[.slice (some ⟨gm, 0, none⟩) l.length cm]) ((results_cell_row Tryz.results6 _ _ w.heap.size 26 _ (0, 0) _ rfl hrr Tryz.underlying26 rfl (by kernel_rfl)).trans (by rfl)) rfl ⟨l, _, cm, rfl, k3, k4, k5⟩
 ·have PM := module_all _ a0 len cap W1 hr1
  go_wp2_with fail
  refine PM.mono ?_
  rintro e W2 ⟨gm, n, cm, rfl, hn1, hn2, hgm, hcur, hfs, hrd2, hold, hs2, o1, o2, o3⟩
  obtain ⟨k1, l, rfl, k3, k4, k5⟩ := fin W1 W2 gm n cm hR1 hB1 hz1 hold hs2 o1 o2 o3 (ModAll.r hcur hfs) hgm hn2
  have r0 : W2.cell? ⟨w.heap.size, 0, none⟩ = some (.slice none 0 0) := (cell_of_heap k1).trans rfl
  have rf : W2.frozen? ⟨w.heap.size, 0, none⟩ = false := froz_of_heap k1
  have hrr := heap_set (o := 0) (v := .slice (some ⟨gm, 0, none⟩) l.length cm) k1
  clear fin
  go_wp2_with fail
  exact bodyPost_ret (v := .agg #[.slice (some ⟨gm, 0, none⟩) l.length cm]) ((results_cell_row Tryz.results6 _ _ w.heap.size 26 _ (0, 0) _ rfl hrr Tryz.underlying26 rfl (by kernel_rfl)).trans (by rfl)) rfl ⟨l, _, cm, rfl, k3, k4, k5⟩
end Go.Proofs.YtgojlnclpebdcaaGreatDoor
namespace Go.Proofs.YtgojlnclpebdcaaGreatDoor
open Go.RowKit Go.Deep
set_option linter.unusedVariables false
theorem results_pair {P : Program} {fn : Func} {p u : Tmp} {ty : TypeId} (h : fn.results = #[.cell p ty, .tmp u]) (tmps : Array Value) (w : World) (g : Nat) (cs : Array Value)
  (hp : tmps.getD p undef = .pointer (some ⟨g, 0, none⟩)) (hl : (loadVar ty ⟨g, 0, none⟩).run P w = .ok (.agg cs) w) :
  (results fn tmps).run P w = .ok (.tuple #[.agg cs, tmps.getD u undef]) w := by
 have hp' : tmps[p]?.getD undef = .pointer (some ⟨g, 0, none⟩) := by simpa using hp
 rw [results_cell_tmp h]
 simp [hp', asAddr, hl, Result.andThen]
end Go.Proofs.YtgojlnclpebdcaaGreatDoor
namespace Go.Proofs.YtgojlnclpebdcaaGreatDoor
open Go.RowKit Go.Deep
set_option linter.unusedVariables false
set_option linter.unusedSimpArgs false
set_option maxHeartbeats 4000000 in
set_option maxRecDepth 100000 in
theorem drawFuncChecked (a0 : Option Addr) (len cap : Nat) (w : World) (hl : len ≤ 1048576) (hc : Code a0 len w.heap.size w) :
  Calls Tryz.prog 8 #[.slice a0 len cap] w fun e w' => ∃ (l : List FuncD) (u : Option Addr) (c : Nat) (k : Int), e = .returned (.tuple #[.agg #[.slice u l.length c], .int .i64 k]) ∧ SmMod l ∧ FuncsAt w' w.heap.size u l ∧ Below w.heap.size w w' := by
 have hb0 : Below w.heap.size w (w.alloc (.cells #[.slice none 0 0] 26)) := (Below.refl _ _).alloc (Nat.le_refl _) _
 have hrd := rd_open (cap := cap) hl (hc.below hb0)
 have PM := broken_any _ a0 len cap _ hrd
 have hsz : (w.alloc (.cells #[.slice none 0 0] 26)).heap.size = w.heap.size + 1 := by simp
 go_enter Tryz.func8, Tryz.ntmps8
 rw [hsz] at PM
 go_wp2_with (first | (go_at_call 23; refine (open_any _ _ _ _).mono ?_; rintro e w0 ⟨rfl, rfl⟩; simp only [hsz]) | (go_at_call 26; refine PM.mono ?_; rintro e w2 ⟨gm, n, cm, rfl, hn1, hn2, hgm, hmr, hrd2, hold, hs2, o1, o2, o3⟩))
 have hlo : (((w.alloc (.cells #[.slice none 0 0] 26)).alloc (.cells #[.slice a0 len cap, .int .i64 0] 88))).heap.size = w.heap.size + 2 := by simp
 rw [hlo] at hgm hmr
 have hz2 : w.heap.size + 2 ≤ w2.heap.size := by have := hs2; simp at this; omega
 have hRb : w2.heap[w.heap.size]? = some (.cells #[.slice none 0 0] 26 (0, 0)) := (hold w.heap.size (by simp; omega) (by omega)).trans (heap_alloc2_old _ _ _)
 have hW2 : ∀ b, b < w.heap.size → w2.heap[b]? = w.heap[b]? := fun b hb => (hold b (by simp; omega) (by omega)).trans ((Below.heap_alloc _ _ _ (by simp; omega)).trans (Below.heap_alloc _ _ _ hb))
 obtain ⟨l, rfl, hsm, hfa⟩ := mod_read hmr hgm hn2
 have hTR : w2.heap.size ≠ w.heap.size := by omega
 obtain ⟨wT, hwT⟩ : ∃ wT, wT = w2.alloc (.cells #[.slice (some ⟨gm, 0, none⟩) l.length cm] 26) := ⟨_, rfl⟩
 have hT : wT.heap[w2.heap.size]? = some (.cells #[.slice (some ⟨gm, 0, none⟩) l.length cm] 26 (0, 0)) := by rw [hwT]; exact heap_alloc_last _ _
 have hBT : Below w2.heap.size w2 wT := by rw [hwT]; exact (Below.refl _ _).alloc (Nat.le_refl _) _
 have hrdT : Rd (w.heap.size + 1) a0 len cap wT.drew := rd_keep hrd2 hBT.size fun b hb => hBT.block b (by omega)
 have hsT : wT.heap.size = w2.heap.size + 1 := by rw [hwT]; simp
 rw [← hwT]
 have d0 : wT.drew.cell? ⟨w2.heap.size, 0, none⟩ = some (.slice (some ⟨gm, 0, none⟩) l.length cm) := (cell_of_heap hT).trans rfl
 have HF := hfa.keep (agree_of_below hBT (w.heap.size + 2))
 have hll := hsm.1
 have x1 : IntKind.i64.wrap ((l.length : Int) - 1) = (l.length : Int) - 1 := by rw [IntKind.wrap_i64]; omega
 clear hwT PM hrd hfa hmr
 go_region_held2 (fun w' => w'.cell? ⟨w2.heap.size, 0, none⟩ = some (.slice (some ⟨gm, 0, none⟩) l.length cm)) (first | with_reducible exact d0 | with_reducible exact c0 | with_reducible exact (cell_apart hTR).trans c0) ((go_at_call 30; refine (off_any (w.heap.size + 1) a0 len cap 0 ((l.length : Int) - 1) _ (by exact hrdT) (by omega) (by omega) (by omega)).mono ?_; rintro e w4 ⟨n4, rfl, hn2, hn3, hr4, hg4⟩; have kT : w4.heap[w2.heap.size]? = _ := (hg4.block w2.heap.size (by show _ < wT.heap.size; omega) (by simp; omega)).trans hT; have kR : w4.heap[w.heap.size]? = _ := (hg4.block w.heap.size (by show _ < wT.heap.size; omega) (by simp)).trans ((hBT.block w.heap.size (by omega)).trans hRb); have c0 : w4.cell? ⟨w2.heap.size, 0, none⟩ = some (.slice (some ⟨gm, 0, none⟩) l.length cm) := (cell_of_heap kT).trans rfl; have m0 : w4.cell? ⟨w.heap.size, 0, none⟩ = some (.slice none 0 0) := (cell_of_heap kR).trans rfl; have z0 : w4.frozen? ⟨w.heap.size, 0, none⟩ = false := (by simp [World.frozen?, kR])))
 all_goals
  have hr := heap_set (o := 0) (v := .slice (some ⟨gm, 0, none⟩) l.length cm) kR
  go_wp2_with fail
  have hs4 : wT.heap.size ≤ w4.heap.size := hg4.size
  have hset : ∀ b, b ≠ w.heap.size → (w4.setCell ⟨w.heap.size, 0, none⟩ (.slice (some ⟨gm, 0, none⟩) l.length cm)).heap[b]? = w4.heap[b]? := fun b hb => Below.heap_setCell _ _ _ _ hb
  have hkeep : ∀ b, b < wT.heap.size → b ≠ w.heap.size → b ≠ w.heap.size + 1 → (w4.setCell ⟨w.heap.size, 0, none⟩ (.slice (some ⟨gm, 0, none⟩) l.length cm)).heap[b]? = wT.heap[b]? := fun b h1 h2 h3 => (hset b h2).trans (hg4.block b h1 (by simpa using h3))
  have hag : Agree (w.heap.size + 2) wT (w4.setCell ⟨w.heap.size, 0, none⟩ (.slice (some ⟨gm, 0, none⟩) l.length cm)) := ⟨by simp only [World.size_setCell]; exact hs4, fun b h1 h2 => hkeep b h2 (by omega) (by omega)⟩
  refine bodyPost_ret (v := .tuple #[.agg #[.slice (some ⟨gm, 0, none⟩) l.length cm], .int .i64 n4]) ((results_pair Tryz.results8 _ _ w.heap.size _ rfl (run_loadVar_row _ _ 26 _ _ (0, 0) _ hr Tryz.underlying26 rfl (by kernel_rfl))).trans (by rfl)) rfl ⟨l, _, cm, n4, rfl, hsm, (HF.keep hag).low (by omega), ?_⟩
  refine ⟨(set_os _ _ _).trans (hg4.os.trans (hBT.os.trans o1)), (set_tape _ _ _).trans (hg4.tape.trans (hBT.tape.trans o2)), (set_output _ _ _).trans (hg4.output.trans (hBT.output.trans o3)), by simp only [World.size_setCell]; omega, fun b hb => ?_⟩
  exact (hkeep b (by omega) (by omega) (by omega)).trans ((hBT.block b (by omega)).trans (hW2 b hb))
end Go.Proofs.YtgojlnclpebdcaaGreatDoor
namespace Go.Proofs.YtgojlnclpebdcaaGreatDoor
open Go.RowKit Go.Deep
set_option linter.unusedVariables false
set_option linter.unusedSimpArgs false
def Fbx (W : World) (B lo : Nat) (d : FuncD) (up : Option Addr) (cp : Nat) (ub : Option Addr) (cb : Nat) : Prop :=
 At W B #[.slice up d.params.length cp, .int .i64 d.ret, .slice ub d.blocks.length cb] 36 ∧ IntsAt W lo up d.params ∧ BlocksAt W lo ub d.blocks
theorem Fbx.below {W W' : World} {B lo : Nat} {d : FuncD} {up : Option Addr} {cp : Nat} {ub : Option Addr} {cb : Nat} (h : Fbx W B lo d up cp ub cb) (k : Below W.heap.size W W') : Fbx W' B lo d up cp ub cb :=
 ⟨h.1.below k, h.2.1.keep (agree_of_below k _), h.2.2.keep (agree_of_below k _)⟩
theorem code_parts {l : List FuncD} {d : FuncD} (h : CodeF l d 0) : phsB d = true ∧ typB d = true ∧ DomsP d := by
 unfold CodeF at h
 rcases h with ⟨_, h⟩ | ⟨_, _, h⟩ | ⟨_, _, _, h⟩ | ⟨_, _, _, _, h⟩ | ⟨_, _, _, _, _, h⟩ | ⟨_, h1, h2, _, h3, _⟩
 ·omega
 ·omega
 ·omega
 ·omega
 ·omega
 ·exact ⟨h1, h2, h3⟩
theorem mcode_ok {l : List FuncD} (h : MCode l 0) : modB l = true ∧ ∀ k, k < l.length → CodeF l (l.getD k func0) 0 := by
 rcases h with ⟨_, h⟩ | ⟨h, ⟨_, h2⟩ | ⟨_, _, h3, _⟩⟩
 ·omega
 ·exact ⟨h, h2⟩
 ·exact absurd rfl h3
theorem mcode_any (l : List FuncD) : ∃ c, MCode l c := by
 by_cases h : modB l = true
 ·have go : ∀ n : Nat, (∀ j, j < n → j < l.length → CodeF l (l.getD j func0) 0) ∨ ∃ k c, k < l.length ∧ c ≠ 0 ∧ CodeF l (l.getD k func0) c ∧ ∀ j, j < k → CodeF l (l.getD j func0) 0 := by
   intro n
   induction n with
   | zero => exact .inl fun j hj => by omega
   | succ n ih =>
    rcases ih with ih | ih
    ·by_cases hn : n < l.length
     ·obtain ⟨c, hc⟩ := code_some l (l.getD n func0)
      by_cases e : c = 0
      ·subst e
       refine .inl fun j hj hl => ?_
       by_cases e : j = n
       ·subst e; exact hc
       ·exact ih j (by omega) hl
      ·exact .inr ⟨n, c, hn, e, hc, fun j hj => ih j hj (by omega)⟩
     ·exact .inl fun j hj hl => ih j (by omega) hl
    ·exact .inr ih
  rcases go l.length with g | ⟨k, c, k1, k2, k3, k4⟩
  ·exact ⟨0, .inr ⟨h, .inl ⟨rfl, fun k hk => g k hk hk⟩⟩⟩
  ·exact ⟨c, .inr ⟨h, .inr ⟨k, k1, k2, k3, k4⟩⟩⟩
 ·exact ⟨1, .inl ⟨by simpa using h, rfl⟩⟩
theorem blk_at {w : World} {lo : Nat} {ub : Option Addr} {l : List BlockD} (h : BlocksAt w lo ub l) {b : Nat} (hb : b < l.length) :
  ∃ bb bo up pc iu ic, ub = some ⟨bb, bo, none⟩ ∧ bb < w.heap.size ∧ w.cell? ⟨bb, bo + b * 6, none⟩ = some (.slice up (l.getD b block0).phis.length pc) ∧ PhisAt w lo up (l.getD b block0).phis ∧ w.cell? ⟨bb, bo + b * 6 + 1, none⟩ = some (.slice iu (l.getD b block0).insts.length ic) ∧ InstsAt w lo iu (l.getD b block0).insts := by
 rcases h.2 with e | ⟨bb, bo, rfl, _, hbb, hc⟩
 ·rw [e] at hb; simp at hb
 ·obtain ⟨⟨up, pc, h1, hP⟩, ⟨iu, ic, h2, hI⟩, _⟩ := hc b hb
  exact ⟨bb, bo, up, pc, iu, ic, rfl, hbb, h1, hP, h2, hI⟩
theorem inst_at {w : World} {lo : Nat} {iu : Option Addr} {l : List InstD} (h : InstsAt w lo iu l) {j : Nat} (hj : j < l.length) :
  ∃ ib io au ac, iu = some ⟨ib, io, none⟩ ∧ ib < w.heap.size ∧ w.cell? ⟨ib, io + j * 7, none⟩ = some (.int .i64 (l.getD j inst0).op) ∧ w.cell? ⟨ib, io + j * 7 + 1, none⟩ = some (.int .i64 (l.getD j inst0).w) ∧ w.cell? ⟨ib, io + j * 7 + 2, none⟩ = some (.int .i64 (l.getD j inst0).a) ∧ w.cell? ⟨ib, io + j * 7 + 3, none⟩ = some (.int .i64 (l.getD j inst0).b) ∧ w.cell? ⟨ib, io + j * 7 + 4, none⟩ = some (.int .i64 (l.getD j inst0).c) ∧ w.cell? ⟨ib, io + j * 7 + 5, none⟩ = some (.int .i64 (l.getD j inst0).imm) ∧ w.cell? ⟨ib, io + j * 7 + 6, none⟩ = some (.slice au (l.getD j inst0).args.length ac) ∧ IntsAt w lo au (l.getD j inst0).args := by
 rcases h.2 with e | ⟨ib, io, rfl, _, hib, hi⟩
 ·rw [e] at hj; simp at hj
 ·obtain ⟨i0, i1, i2, i3, i4, i5, au, ac, i6, hA⟩ := hi j hj
  exact ⟨ib, io, au, ac, rfl, hib, i0, i1, i2, i3, i4, i5, i6, hA⟩
end Go.Proofs.YtgojlnclpebdcaaGreatDoor
namespace Go.Proofs.YtgojlnclpebdcaaGreatDoor
open Go.RowKit Go.Deep
set_option linter.unusedVariables false
theorem mcode_shape {l : List FuncD} {c : Int} (h : MCode l c) : (c == 1) = !modB l := by
 rcases h with ⟨h1, rfl⟩ | ⟨h1, ⟨rfl, _⟩ | ⟨_, _, h3, h4, _⟩⟩
 ·rw [h1]; rfl
 ·rw [h1]; rfl
 ·rw [h1]
  have : c ≠ 1 := by
   unfold CodeF at h4
   rcases h4 with ⟨_, h⟩ | ⟨_, _, h⟩ | ⟨_, _, _, h⟩ | ⟨_, _, _, _, h⟩ | ⟨_, _, _, _, _, h⟩ | ⟨_, _, _, _, _, h⟩ <;> omega
  simpa using this
theorem phi_len {d : FuncD} (h : phsB d = true) {b j : Nat} (hb : b < d.blocks.length) (hj : j < (d.blocks.getD b block0).phis.length) : ((d.blocks.getD b block0).phis.getD j phi0).ins.length = (predN (succN d.blocks) d.blocks.length b).length := by
 unfold phsB at h
 rw [List.all_eq_true] at h
 have h1 := h b (List.mem_range.2 hb)
 unfold phaB at h1
 rw [List.all_eq_true] at h1
 exact of_decide_eq_true (h1 _ (getD_mem phi0 _ j hj))
theorem phi_typ {d : FuncD} (h : typB d = true) {b j q : Nat} (hb : b < d.blocks.length) (hj : j < (d.blocks.getD b block0).phis.length) (hq : q < ((d.blocks.getD b block0).phis.getD j phi0).ins.length) : typeF d (((d.blocks.getD b block0).phis.getD j phi0).ins.getD q 0) = ((d.blocks.getD b block0).phis.getD j phi0).w := by
 unfold typB at h
 rw [List.all_eq_true] at h
 have h1 := h _ (getD_mem block0 _ b hb)
 simp only [blkTB, Bool.and_eq_true, List.all_eq_true] at h1
 have h2 := h1.1.1 _ (getD_mem phi0 _ j hj) _ (getD_mem 0 _ q hq)
 exact eq_of_beq h2
theorem pred_of {l : List BlockD} (hR : RightL l) {b : Nat} (hb : b < l.length) : PredR l (b : Int) (ints (predN (succN l) l.length b)) := ⟨fun _ => by simp, fun h => absurd ⟨hR, by omega, by omega⟩ h⟩
theorem phi_in {w : World} {lo : Nat} {u : Option Addr} {l : List PhiD} (h : PhisAt w lo u l) {j : Nat} (hj : j < l.length) :
  ∃ pb po au ac, u = some ⟨pb, po, none⟩ ∧ pb < w.heap.size ∧ w.cell? ⟨pb, po + j * 2, none⟩ = some (.int .i64 (l.getD j phi0).w) ∧ w.cell? ⟨pb, po + j * 2 + 1, none⟩ = some (.slice au (l.getD j phi0).ins.length ac) ∧ IntsAt w lo au (l.getD j phi0).ins := by
 rcases h.2 with e | ⟨pb, po, rfl, _, hpb, hi⟩
 ·rw [e] at hj; simp at hj
 ·obtain ⟨i0, au, ac, i1, hA⟩ := hi j hj
  exact ⟨pb, po, au, ac, rfl, hpb, i0, i1, hA⟩
end Go.Proofs.YtgojlnclpebdcaaGreatDoor
namespace Go.Proofs.YtgojlnclpebdcaaGreatDoor
open Go.RowKit
theorem ints_cell {w : World} {lo : Nat} {a : Option Addr} {l : List Int} (h : IntsAt w lo a l) {k : Nat} (hk : k < l.length) : ∃ b off, a = some ⟨b, off, none⟩ ∧ w.cell? ⟨b, off + k, none⟩ = some (.int .i64 (l.getD k 0)) := by
 rcases h.2 with h | ⟨b, off, ha, _, _, hc⟩
 ·rw [h] at hk; simp at hk
 ·exact ⟨b, off, ha, hc k hk⟩
end Go.Proofs.YtgojlnclpebdcaaGreatDoor
namespace Go.Proofs.YtgojlnclpebdcaaGreatDoor
open Go.RowKit Go.Deep
set_option linter.unusedVariables false
set_option linter.unusedSimpArgs false
set_option maxRecDepth 100000 in
set_option maxHeartbeats 8000000 in
theorem fnChecked_core (aF aN aE aC aW aU : Addr) (a0 : Option Addr) (len cap : Nat) (w : World) (hc : Code a0 len w.heap.size w) (hE : Errs w aF aN aE aC aW aU) (hO : Others w aF aN aE aC aW aU) (hT : ErrT w) :
  Calls Tryz.prog 3 #[.slice a0 len cap] w fun e w' => e = .returned (.bool true) ∧ Below w.heap.size w w' := by
 by_cases hl : 1048576 < len
 ·have hb : decide (1048576 < len) = true := by simpa using hl
  go_enter Tryz.func3, Tryz.ntmps3
  go_wp2_with fail
  refine (big_any a0 len cap w).mono ?_
  rintro e w1 ⟨rfl, h9⟩
  have h8 := h9.symm
  clear h9
  subst h8
  rw [hb]
  go_wp2_with fail
  go_ret
  exact ⟨rfl, Below.refl _ _⟩
 have hb : decide (1048576 < len) = false := by simpa using hl
 have hl2 : len ≤ 1048576 := by omega
 have D1 := drawChecked a0 len cap w hl2 hc
 have D2 := fun (W : World) (hW : Below w.heap.size w W) => drawFuncChecked a0 len cap W hl2 (hc.below hW)
 have HD2 : Hid (∀ (W : World) (hW : Below w.heap.size w W), _) := D2
 have HE : Hid (Errs w aF aN aE aC aW aU) := hE
 have HO : Hid (Others w aF aN aE aC aW aU) := hO
 have HT : Hid (ErrT w) := hT
 clear hc hl hE hO hT D2
 go_enter Tryz.func3, Tryz.ntmps3
 go_wp2_with fail
 refine (big_any a0 len cap w).mono ?_
 rintro e w1 ⟨rfl, h9⟩
 have h8 := h9.symm
 clear h9
 subst h8
 rw [hb]
 clear hb
 go_wp2_with fail
 refine D1.mono ?_
 rintro e w2 ⟨l, u, c, rfl, hsm, hfa, b2⟩
 have k2 : Below w2.heap.size w2 (w2.alloc (.cells #[.slice u l.length c] 26)) := (Below.refl _ _).alloc (Nat.le_refl _) _
 have Q3 : Hid (At (w2.alloc (.cells #[.slice u l.length c] 26)) w2.heap.size #[.slice u l.length c] 26) := At.new _ _ _
 have B3 : Hid (Below w.heap.size w (w2.alloc (.cells #[.slice u l.length c] 26))) := b2.trans (k2.mono b2.size)
 have K3 : Hid (FuncsAt (w2.alloc (.cells #[.slice u l.length c] 26)) w.heap.size u l) := hfa.keep (agree_of_below k2 _)
 have Hsm : Hid (SmMod l) := hsm
 clear D1 b2 k2 hfa hsm
 obtain ⟨W3, hW3⟩ : ∃ W, w2.alloc (.cells #[.slice u l.length c] 26) = W := ⟨_, rfl⟩
 rw [hW3] at Q3 B3 K3
 have x0 : W3.cell? ⟨w2.heap.size, 0, none⟩ = some (.slice u l.length c) := Q3.out.cell 0
 obtain ⟨cc, hcc⟩ := mcode_any l
 have HC : Hid (MCode l cc) := hcc
 clear hcc
 have MI := mcheckI w.heap.size l u c cc aF aN aE aC aW aU W3 Hsm.out K3.out (HE.out.keep B3.out) (HO.out.keep B3.out) (HT.out.keep B3.out) HC.out
 go_wp2_with fail
 try rw [hW3]
 clear hW3 x0
 refine MI.mono ?_
 rintro e w4 ⟨rfl, b4⟩
 have Q4 : Hid (At w4 w2.heap.size #[.slice u l.length c] 26) := Q3.out.below b4
 have B4 : Hid (Below w.heap.size w w4) := B3.out.trans (b4.mono B3.out.size)
 have K4 : Hid (FuncsAt w4 w.heap.size u l) := K3.out.keep (agree_of_below b4 _)
 clear MI Q3 B3 K3 b4
 have D2 := HD2.out w4 B4.out
 clear HD2
 go_wp2_with fail
 refine D2.mono ?_
 rintro e w5 ⟨l2, u2, c2, k, rfl, hsm2, hfa2, b5⟩
 have Q5 : Hid (At w5 w2.heap.size #[.slice u l.length c] 26) := Q4.out.below b5
 have B5 : Hid (Below w.heap.size w w5) := B4.out.trans (b5.mono B4.out.size)
 have K5 : Hid (FuncsAt w5 w.heap.size u l) := K4.out.keep (agree_of_below b5 _)
 have J5 : Hid (FuncsAt w5 w.heap.size u2 l2) := hfa2.low B4.out.size
 have Hsm2 : Hid (SmMod l2) := hsm2
 clear D2 Q4 B4 K4 b5 hfa2 hsm2
 obtain ⟨fc, hfc⟩ := fcode_some l2 k
 have k6 : Below w5.heap.size w5 (w5.alloc (.cells #[.slice u2 l2.length c2] 26)) := (Below.refl _ _).alloc (Nat.le_refl _) _
 have Q6 : Hid (At (w5.alloc (.cells #[.slice u2 l2.length c2] 26)) w2.heap.size #[.slice u l.length c] 26) := Q5.out.below k6
 have R6 : Hid (At (w5.alloc (.cells #[.slice u2 l2.length c2] 26)) w5.heap.size #[.slice u2 l2.length c2] 26) := At.new _ _ _
 have B6 : Hid (Below w.heap.size w (w5.alloc (.cells #[.slice u2 l2.length c2] 26))) := B5.out.trans (k6.mono B5.out.size)
 have K6 : Hid (FuncsAt (w5.alloc (.cells #[.slice u2 l2.length c2] 26)) w.heap.size u l) := K5.out.keep (agree_of_below k6 _)
 have J6 : Hid (FuncsAt (w5.alloc (.cells #[.slice u2 l2.length c2] 26)) w.heap.size u2 l2) := J5.out.keep (agree_of_below k6 _)
 obtain ⟨W6, hW6⟩ : ∃ W, w5.alloc (.cells #[.slice u2 l2.length c2] 26) = W := ⟨_, rfl⟩
 rw [hW6] at Q6 R6 B6 K6 J6
 clear k6 Q5 B5 K5 J5
 have T1 : Hid (∀ x : Abv (fun v => Below W6.heap.size W6 v), Calls Tryz.prog 9 #[.agg #[.slice u l.length c]] x.v fun e w'' => e = .returned (.int .i64 cc) ∧ ∃ y : Abv (fun v => Below W6.heap.size W6 v), w'' = y.v) := fun x => abv_call x (mcheckS w.heap.size l u c cc x.v Hsm.out (K6.out.keep (agree_of_below x.ok _)) HC.out)
 have T2 : Hid (∀ x : Abv (fun v => Below W6.heap.size W6 v), Calls Tryz.prog 10 #[.agg #[.slice u2 l2.length c2], .int .i64 k] x.v fun e w'' => e = .returned (.int .i64 fc) ∧ ∃ y : Abv (fun v => Below W6.heap.size W6 v), w'' = y.v) := fun x => abv_call x (fcheckI w.heap.size l2 u2 c2 k fc aF aN aE aC aW aU x.v Hsm2.out (J6.out.keep (agree_of_below x.ok _)) (HE.out.keep (B6.out.trans (x.ok.mono B6.out.size))) (HT.out.keep (B6.out.trans (x.ok.mono B6.out.size))) hfc)
 have T3 : Hid (∀ x : Abv (fun v => Below W6.heap.size W6 v), Calls Tryz.prog 11 #[.agg #[.slice u2 l2.length c2], .int .i64 k] x.v fun e w'' => e = .returned (.int .i64 fc) ∧ ∃ y : Abv (fun v => Below W6.heap.size W6 v), w'' = y.v) := fun x => abv_call x (fcheckS w.heap.size l2 u2 c2 k fc x.v Hsm2.out (J6.out.keep (agree_of_below x.ok _)) hfc)
 have T4 : Hid (∀ x : Abv (fun v => Below W6.heap.size W6 v), Calls Tryz.prog 12 #[.agg #[.slice u l.length c]] x.v fun e w'' => e = .returned (.bool (modB l)) ∧ ∃ y : Abv (fun v => Below W6.heap.size W6 v), w'' = y.v) := fun x => abv_call x (modShI w.heap.size l u c x.v Hsm.out (K6.out.keep (agree_of_below x.ok _)))
 have T5 : Hid (∀ x : Abv (fun v => Below W6.heap.size W6 v), Calls Tryz.prog 13 #[.agg #[.slice u l.length c]] x.v fun e w'' => e = .returned (.bool (modB l)) ∧ ∃ y : Abv (fun v => Below W6.heap.size W6 v), w'' = y.v) := fun x => abv_call x (modShS w.heap.size l u c x.v Hsm.out (K6.out.keep (agree_of_below x.ok _)))
 have X0 : Hid (∀ x : Abv (fun v => Below W6.heap.size W6 v), x.v.cell? ⟨w2.heap.size, 0, none⟩ = some (.slice u l.length c)) := fun x => (Q6.out.below x.ok).cell 0
 have X1 : Hid (∀ x : Abv (fun v => Below W6.heap.size W6 v), x.v.cell? ⟨w5.heap.size, 0, none⟩ = some (.slice u2 l2.length c2)) := fun x => (R6.out.below x.ok).cell 0
 have hsh := mcode_shape HC.out
 have n0 : (cc != cc) = false := by simp
 have n1 : (fc != fc) = false := by simp
 have n2 : (cc == cc) = true := by simp
 have n3 : (fc == fc) = true := by simp
 clear hfc
 have : Nonempty (Abv (fun v => Below W6.heap.size W6 v)) := ⟨⟨W6, Below.refl _ _⟩⟩
 have t1 := T1.out
 have t2 := T2.out
 have t3 := T3.out
 have t4 := T4.out
 have t5 := T5.out
 have x0 := X0.out
 have x1 := X1.out
 clear T1 T2 T3 T4 T5 X0 X1
 by_cases hz : cc = 0
 rotate_left
 ·have hz2 : (cc != 0) = true := by simpa using hz
  generalize modB l = bb at t4 t5 hsh
  clear hz HC HE HO HT
  cases bb
  ·have hs1 : (cc == 1) = true := hsh
   clear hsh
   go_wp2_with fail
   try rw [hW6]
   refine wp_region_abv (fun v => Below W6.heap.size W6 v) (by kernel_rfl) (by kernel_rfl) (drew_below (Below.refl _ _)) ?_
   repeat (go_big_quiet_step (first | (go_at_call 9; with_reducible exact t1 _) | (go_at_call 10; with_reducible exact t2 _) | (go_at_call 11; with_reducible exact t3 _) | (go_at_call 12; with_reducible exact t4 _) | (go_at_call 13; with_reducible exact t5 _) | fail))
   refine wpQuiet_nil ?_
   rintro w9 ⟨⟨w9, h9⟩, rfl⟩
   have H9 : Hid (Below W6.heap.size W6 w9) := h9
   clear h9
   go_wp2_with fail
   refine wp_region_abv (fun v => Below W6.heap.size W6 v) (by kernel_rfl) (by kernel_rfl) (drew_below H9.out) ?_
   repeat (go_big_quiet_step (first | (go_at_call 9; with_reducible exact t1 _) | (go_at_call 10; with_reducible exact t2 _) | (go_at_call 11; with_reducible exact t3 _) | (go_at_call 12; with_reducible exact t4 _) | (go_at_call 13; with_reducible exact t5 _) | fail))
   refine wpQuiet_nil ?_
   rintro w8 ⟨⟨w8, h9⟩, rfl⟩
   have H8 : Hid (Below w.heap.size w w8) := B6.out.trans (h9.mono B6.out.size)
   go_wp2_with fail
   go_ret
   exact ⟨rfl, H8.out⟩
  ·have hs1 : (cc == 1) = false := hsh
   clear hsh
   go_wp2_with fail
   try rw [hW6]
   refine wp_region_abv (fun v => Below W6.heap.size W6 v) (by kernel_rfl) (by kernel_rfl) (drew_below (Below.refl _ _)) ?_
   repeat (go_big_quiet_step (first | (go_at_call 9; with_reducible exact t1 _) | (go_at_call 10; with_reducible exact t2 _) | (go_at_call 11; with_reducible exact t3 _) | (go_at_call 12; with_reducible exact t4 _) | (go_at_call 13; with_reducible exact t5 _) | fail))
   refine wpQuiet_nil ?_
   rintro w9 ⟨⟨w9, h9⟩, rfl⟩
   have H9 : Hid (Below W6.heap.size W6 w9) := h9
   clear h9
   go_wp2_with fail
   refine wp_region_abv (fun v => Below W6.heap.size W6 v) (by kernel_rfl) (by kernel_rfl) (drew_below H9.out) ?_
   repeat (go_big_quiet_step (first | (go_at_call 9; with_reducible exact t1 _) | (go_at_call 10; with_reducible exact t2 _) | (go_at_call 11; with_reducible exact t3 _) | (go_at_call 12; with_reducible exact t4 _) | (go_at_call 13; with_reducible exact t5 _) | fail))
   refine wpQuiet_nil ?_
   rintro w8 ⟨⟨w8, h9⟩, rfl⟩
   have H8 : Hid (Below w.heap.size w w8) := B6.out.trans (h9.mono B6.out.size)
   go_wp2_with fail
   go_ret
   exact ⟨rfl, H8.out⟩
 subst hz
 obtain ⟨hmb, hcd⟩ := mcode_ok HC.out
 rw [hmb] at t4 t5
 have HMB : Hid (modB l = true) := hmb
 have HCD : Hid (∀ k, k < l.length → CodeF l (l.getD k func0) 0) := hcd
 have hl3 := (mod_len hmb).2
 clear hmb hcd hsh n0 n2
 go_wp2_with fail
 try rw [hW6]
 refine wp_region_abv (fun v => Below W6.heap.size W6 v) (by kernel_rfl) (by kernel_rfl) (drew_below (Below.refl _ _)) ?_
 repeat (go_big_quiet_step (first | (go_at_call 9; with_reducible exact t1 _) | (go_at_call 10; with_reducible exact t2 _) | (go_at_call 11; with_reducible exact t3 _) | (go_at_call 12; with_reducible exact t4 _) | (go_at_call 13; with_reducible exact t5 _) | fail))
 refine wpQuiet_nil ?_
 rintro w9 ⟨⟨w9, h9⟩, rfl⟩
 have Q9 : Hid (At w9 w2.heap.size #[.slice u l.length c] 26) := Q6.out.below h9
 have K9 : Hid (FuncsAt w9 w.heap.size u l) := K6.out.keep (agree_of_below h9 _)
 have B9 : Hid (Below w.heap.size w w9) := B6.out.trans (h9.mono B6.out.size)
 clear h9 t1 t2 t3 t4 t5 x0 x1 Q6 R6 K6 J6 B6 n1 n3 hW6
 go_wp2_with fail
 go_loopw [7] (fun q wr => ∃ n : Nat, n ≤ l.length ∧ q = .int .i64 n ∧ Hid (At wr w2.heap.size #[.slice u l.length c] 26) ∧ Hid (FuncsAt wr w.heap.size u l) ∧ Hid (Below w.heap.size w wr)) (fun q _ => l.length - (intOf q).toNat)
 case atStart => exact ⟨0, by omega, rfl, Q9, K9, B9⟩
 case round =>
  clear Q9 K9 B9
  obtain ⟨n, hn, rfl, HQ, HK, HB⟩ := hrel
  obtain ⟨w7, hwo⟩ : ∃ w1, w1 = wr := ⟨_, rfl⟩
  subst hwo
  have x0 : w7.cell? ⟨w2.heap.size, 0, none⟩ = some (.slice u l.length c) := HQ.out.cell 0
  by_cases hlt : n < l.length
  rotate_left
  ·have D := modShI w.heap.size l u c w7 Hsm.out HK.out
   rw [HMB.out] at D
   go_wp2_with fail
   refine D.mono ?_
   rintro e w8 ⟨rfl, b8⟩
   have B8 : Hid (Below w.heap.size w w8) := HB.out.trans (b8.mono HB.out.size)
   go_wp2_with fail
   go_ret
   exact ⟨rfl, B8.out⟩
  have hnI : (n : Int) < (l.length : Int) := by omega
  have FC := fcheckI w.heap.size l u c (n : Int) 0 aF aN aE aC aW aU
  have HFC : Hid (∀ W, Below w.heap.size w W → FuncsAt W w.heap.size u l → Calls Tryz.prog 10 #[.agg #[.slice u l.length c], .int .i64 (n : Int)] W fun e w' => e = .returned (.int .i64 0) ∧ Below W.heap.size W w') := fun W hW hK => FC W Hsm.out hK (HE.out.keep hW) (HT.out.keep hW) (.inr ⟨⟨HMB.out, by omega, hnI⟩, by simpa using HCD.out n hlt⟩)
  clear FC
  have Hsf : Hid (SmFunc (l.getD n func0)) := Hsm.out.2 _ (getD_mem func0 l n hlt)
  obtain ⟨hph, hty, _⟩ := code_parts (HCD.out n hlt)
  have HPH : Hid (phsB (l.getD n func0) = true) := hph
  have HTY : Hid (typB (l.getD n func0) = true) := hty
  have HFm : Hid (Form l.length (l.getD n func0)) := mod_form HMB.out hlt
  rcases HK.out.2 with hn0 | ⟨fb, fo, hu, hflo, hfb, hfc⟩
  ·rw [hn0] at hlt; simp at hlt
  obtain ⟨⟨up, cp, f0, hip⟩, f1, ⟨ub, cb, f2, hbl⟩⟩ := hfc n hlt
  clear hfc hph hty
  generalize l.getD n func0 = d at *
  have k8 : Below w7.heap.size w7 (w7.alloc (.cells #[.slice up d.params.length cp, .int .i64 d.ret, .slice ub d.blocks.length cb] 36)) := (Below.refl _ _).alloc (Nat.le_refl _) _
  have F8 : Hid (Fbx (w7.alloc (.cells #[.slice up d.params.length cp, .int .i64 d.ret, .slice ub d.blocks.length cb] 36)) w7.heap.size w.heap.size d up cp ub cb) := ⟨At.new _ _ _, hip.keep (agree_of_below k8 _), hbl.keep (agree_of_below k8 _)⟩
  have B8 : Hid (Below w.heap.size w (w7.alloc (.cells #[.slice up d.params.length cp, .int .i64 d.ret, .slice ub d.blocks.length cb] 36))) := HB.out.trans (k8.mono HB.out.size)
  have Q8 : Hid (At (w7.alloc (.cells #[.slice up d.params.length cp, .int .i64 d.ret, .slice ub d.blocks.length cb] 36)) w2.heap.size #[.slice u l.length c] 26) := HQ.out.below k8
  have K8 : Hid (FuncsAt (w7.alloc (.cells #[.slice up d.params.length cp, .int .i64 d.ret, .slice ub d.blocks.length cb] 36)) w.heap.size u l) := HK.out.keep (agree_of_below k8 _)
  have P8 := HFC.out _ B8.out K8.out
  have y0 : (w7.alloc (.cells #[.slice up d.params.length cp, .int .i64 d.ret, .slice ub d.blocks.length cb] 36)).cell? ⟨w2.heap.size, 0, none⟩ = some (.slice u l.length c) := Q8.out.cell 0
  clear HFC k8 hip hbl HQ HK HB
  subst hu
  go_wp2_with fail
  refine P8.mono ?_
  rintro e w8 ⟨rfl, b8⟩
  have F9 : Hid (Fbx w8 w7.heap.size w.heap.size d up cp ub cb) := F8.out.below b8
  have B9 : Hid (Below w.heap.size w w8) := B8.out.trans (b8.mono B8.out.size)
  have Q9 : Hid (At w8 w2.heap.size #[.slice (some ⟨fb, fo, none⟩) l.length c] 26) := Q8.out.below b8
  have K9 : Hid (FuncsAt w8 w.heap.size (some ⟨fb, fo, none⟩) l) := K8.out.keep (agree_of_below b8 _)
  clear P8 y0 x0 f0 f1 f2 b8 F8 B8 Q8 K8 hfb hflo
  go_wp2_with fail
  go_loopw [9] (fun q wr => ∃ b : Nat, b ≤ d.blocks.length ∧ q = .int .i64 b ∧ Hid (Fbx wr w7.heap.size w.heap.size d up cp ub cb) ∧ Hid (At wr w2.heap.size #[.slice (some ⟨fb, fo, none⟩) l.length c] 26) ∧ Hid (FuncsAt wr w.heap.size (some ⟨fb, fo, none⟩) l) ∧ Hid (Below w.heap.size w wr)) (fun q _ => d.blocks.length - (intOf q).toNat)
  case atStart => exact ⟨0, by omega, rfl, F9.out, Q9.out, K9.out, B9.out⟩
  case round =>
   clear F9 Q9 K9 B9
   obtain ⟨b, hb, rfl, HF, HQ, HK, HB⟩ := hrel
   obtain ⟨w9, hwo⟩ : ∃ w1, w1 = wr := ⟨_, rfl⟩
   subst hwo
   have x0 : w9.cell? ⟨w7.heap.size, 0, none⟩ = some (.slice up d.params.length cp) := HF.out.1.cell 0
   have x1 : w9.cell? ⟨w7.heap.size, 1, none⟩ = some (.int .i64 d.ret) := HF.out.1.cell 1
   have x2 : w9.cell? ⟨w7.heap.size, 2, none⟩ = some (.slice ub d.blocks.length cb) := HF.out.1.cell 2
   by_cases hbl : b < d.blocks.length
   rotate_left
   ·go_wp2_with fail
    go_roundw
    case rel => exact ⟨n + 1, by omega, by go_num, HQ.out, HK.out, HB.out⟩
    case measure => simp [intOf]; omega
   have hbI : (b : Int) < (d.blocks.length : Int) := by omega
   have hplb := pred_len (S := succN d.blocks) (n := d.blocks.length) (x := b)
   have hb10 := HFm.out.b10
   have PR := predsI w.heap.size d up cp ub cb (b : Int) (ints (predN (succN d.blocks) d.blocks.length b)) w9 Hsf.out HF.out.2.2 (pred_of HFm.out.right hbl)
   rw [ints_len] at PR
   obtain ⟨bk, HBK⟩ : ∃ bk, Hid (d.blocks.getD b block0 = bk) := ⟨_, rfl⟩
   have HPL : Hid (∀ j, j < bk.phis.length → (bk.phis.getD j phi0).ins.length = (predN (succN d.blocks) d.blocks.length b).length) := fun j hj => by
    have h1 := phi_len HPH.out hbl (j := j) (by rw [HBK.out]; exact hj)
    rw [HBK.out] at h1
    exact h1
   have hs0 := (Hsf.out.2.2 _ (getD_mem block0 d.blocks b hbl)).1.1
   rw [HBK.out] at hs0
   generalize predN (succN d.blocks) d.blocks.length b = P at PR HPL hplb
   go_wp2_with fail
   refine PR.mono ?_
   rintro e w10 ⟨v, rfl, hov, b10⟩
   obtain ⟨pu, pc, rfl⟩ := own_slice hov
   have F10 : Hid (Fbx w10 w7.heap.size w.heap.size d up cp ub cb) := HF.out.below b10
   have B10 : Hid (Below w.heap.size w w10) := HB.out.trans (b10.mono HB.out.size)
   have Q10 : Hid (At w10 w2.heap.size #[.slice (some ⟨fb, fo, none⟩) l.length c] 26) := HQ.out.below b10
   have K10 : Hid (FuncsAt w10 w.heap.size (some ⟨fb, fo, none⟩) l) := HK.out.keep (agree_of_below b10 _)
   clear PR x0 x1 x2 b10 hov HF HQ HK HB
   go_wp2_with fail
   go_loopw [11] (fun q wr => ∃ j : Nat, j ≤ bk.phis.length ∧ q = .int .i64 j ∧ Hid (Fbx wr w7.heap.size w.heap.size d up cp ub cb) ∧ Hid (At wr w2.heap.size #[.slice (some ⟨fb, fo, none⟩) l.length c] 26) ∧ Hid (FuncsAt wr w.heap.size (some ⟨fb, fo, none⟩) l) ∧ Hid (Below w.heap.size w wr)) (fun q _ => bk.phis.length - (intOf q).toNat)
   case atStart => exact ⟨0, by omega, rfl, F10.out, Q10.out, K10.out, B10.out⟩
   case round =>
    clear F10 Q10 K10 B10
    obtain ⟨j, hj, rfl, HF, HQ, HK, HB⟩ := hrel
    obtain ⟨w11, hwo⟩ : ∃ w1, w1 = wr := ⟨_, rfl⟩
    subst hwo
    obtain ⟨bb, bo, qu, qc, iu, ic, hub, hbb, g0, hP, _, _⟩ := blk_at HF.out.2.2 hbl
    rw [HBK.out] at g0 hP
    have x2 : w11.cell? ⟨w7.heap.size, 2, none⟩ = some (.slice ub d.blocks.length cb) := HF.out.1.cell 2
    subst hub
    have hbl20 := Hsf.out.2.1
    by_cases hjl : j < bk.phis.length
    rotate_left
    ·go_wp2_with fail
     go_roundw
     case rel => exact ⟨b + 1, by omega, by go_num, HF.out, HQ.out, HK.out, HB.out⟩
     case measure => simp [intOf]; omega
    have hjI : (j : Int) < (bk.phis.length : Int) := by omega
    obtain ⟨pb, po, au, ac, hqu, hpb, p0, p1, hA⟩ := phi_in hP hjl
    subst hqu
    have hlen := HPL.out j hjl
    have HTP : Hid (∀ q, q < (bk.phis.getD j phi0).ins.length → typeF d ((bk.phis.getD j phi0).ins.getD q 0) = (bk.phis.getD j phi0).w ∧ (bk.phis.getD j phi0).ins.getD q 0 ≤ 9223372036854775807) := fun q hq => by
     have h0 := phi_typ HTY.out hbl (j := j) (q := q) (by rw [HBK.out]; exact hjl) (by rw [HBK.out]; exact hq)
     have h1 := (HFm.out.at hbl).phi _ (getD_mem phi0 _ j (by rw [HBK.out]; exact hjl)) _ (getD_mem 0 _ q (by rw [HBK.out]; exact hq))
     have h2 := HFm.out.c60
     rw [HBK.out] at h0 h1
     exact ⟨h0, by omega⟩
    have hil : (bk.phis.getD j phi0).ins.length ≤ 10 := by rw [hlen]; omega
    generalize bk.phis.getD j phi0 = x at *
    generalize bk.phis.length = np at *
    have k12 : Below w11.heap.size w11 (w11.alloc (.cells #[.int .i64 x.w, .slice au P.length ac] 45)) := (Below.refl _ _).alloc (Nat.le_refl _) _
    have X12 : Hid (At (w11.alloc (.cells #[.int .i64 x.w, .slice au P.length ac] 45)) w11.heap.size #[.int .i64 x.w, .slice au P.length ac] 45) := At.new _ _ _
    have F12 : Hid (Fbx (w11.alloc (.cells #[.int .i64 x.w, .slice au P.length ac] 45)) w7.heap.size w.heap.size d up cp (some ⟨bb, bo, none⟩) cb) := HF.out.below k12
    have A12 : Hid (IntsAt (w11.alloc (.cells #[.int .i64 x.w, .slice au P.length ac] 45)) w.heap.size au x.ins) := hA.keep (agree_of_below k12 _)
    have B12 : Hid (Below w.heap.size w (w11.alloc (.cells #[.int .i64 x.w, .slice au P.length ac] 45))) := HB.out.trans (k12.mono HB.out.size)
    have Q12 : Hid (At (w11.alloc (.cells #[.int .i64 x.w, .slice au P.length ac] 45)) w2.heap.size #[.slice (some ⟨fb, fo, none⟩) l.length c] 26) := HQ.out.below k12
    have K12 : Hid (FuncsAt (w11.alloc (.cells #[.int .i64 x.w, .slice au P.length ac] 45)) w.heap.size (some ⟨fb, fo, none⟩) l) := HK.out.keep (agree_of_below k12 _)
    rw [hlen] at p1
    clear k12 hP hA HQ HK HB HPL
    go_wp2_with fail
    clear p0 p1 g0 x2 hpb hbb
    go_loopw [13] (fun q wr => ∃ y : Nat, y ≤ P.length ∧ q = .int .i64 y ∧ Hid (At wr w11.heap.size #[.int .i64 x.w, .slice au P.length ac] 45) ∧ Hid (Fbx wr w7.heap.size w.heap.size d up cp (some ⟨bb, bo, none⟩) cb) ∧ Hid (IntsAt wr w.heap.size au x.ins) ∧ Hid (At wr w2.heap.size #[.slice (some ⟨fb, fo, none⟩) l.length c] 26) ∧ Hid (FuncsAt wr w.heap.size (some ⟨fb, fo, none⟩) l) ∧ Hid (Below w.heap.size w wr)) (fun q _ => P.length - (intOf q).toNat)
    case atStart => exact ⟨0, by omega, rfl, X12.out, F12.out, A12.out, Q12.out, K12.out, B12.out⟩
    case round =>
     clear X12 F12 A12 Q12 K12 B12
     obtain ⟨y, hy, rfl, HX, HF, HA, HQ, HK, HB⟩ := hrel
     obtain ⟨w13, hwo⟩ : ∃ w1, w1 = wr := ⟨_, rfl⟩
     subst hwo
     have z0 : w13.cell? ⟨w11.heap.size, 0, none⟩ = some (.int .i64 x.w) := HX.out.cell 0
     have z1 : w13.cell? ⟨w11.heap.size, 1, none⟩ = some (.slice au P.length ac) := HX.out.cell 1
     by_cases hyl : y < P.length
     rotate_left
     ·go_wp2_with fail
      go_roundw
      case rel => exact ⟨j + 1, by omega, by go_num, HF.out, HQ.out, HK.out, HB.out⟩
      case measure => simp [intOf]; omega
     have hyI : (y : Int) < (P.length : Int) := by omega
     obtain ⟨ob, oo, hau, e1⟩ := ints_cell HA.out (k := y) (by omega)
     have hob : ob < w13.heap.size := by
      rcases HA.out.2 with h | ⟨b', o', h1, _, h2, _⟩
      ·rw [h] at hlen; simp at hlen; omega
      ·rw [hau] at h1; cases h1; exact h2
     subst hau
     obtain ⟨ht1, ht2⟩ := HTP.out y (by omega)
     generalize x.ins.getD y 0 = id at e1 ht1 ht2
     have TI := typeI_any w.heap.size d up cp (some ⟨bb, bo, none⟩) cb id w13.drew Hsf.out (HF.out.2.1.keep (agree_of_below ((Below.refl w13.heap.size w13).drew) _)) (HF.out.2.2.keep (agree_of_below ((Below.refl w13.heap.size w13).drew) _)) ht2
     rw [ht1] at TI
     have hne : (x.w != x.w) = false := by simp
     have x0 : w13.cell? ⟨w7.heap.size, 0, none⟩ = some (.slice up d.params.length cp) := HF.out.1.cell 0
     have x1 : w13.cell? ⟨w7.heap.size, 1, none⟩ = some (.int .i64 d.ret) := HF.out.1.cell 1
     have x2 : w13.cell? ⟨w7.heap.size, 2, none⟩ = some (.slice (some ⟨bb, bo, none⟩) d.blocks.length cb) := HF.out.1.cell 2
     have l5 := HF.out.1.lt
     have l6 := HX.out.lt
     have S0 : ∀ b o, b < w13.heap.size → w13.drew.cell? ⟨b, o, none⟩ = w13.cell? ⟨b, o, none⟩ := fun _ _ _ => rfl
     clear ht1 ht2
     go_wp2_with fail
     go_region_held2 (fun w' => ∀ b o, b < w13.heap.size → w'.cell? ⟨b, o, none⟩ = w13.cell? ⟨b, o, none⟩) (first | with_reducible exact S0 | with_reducible exact S1) ((go_at_call 15; refine TI.mono ?_; rintro e w14 ⟨rfl, b14⟩; have S1 : ∀ b o, b < w13.heap.size → w14.cell? ⟨b, o, none⟩ = w13.cell? ⟨b, o, none⟩ := (fun b o hb => cell_block (b14.block b hb))))
     have b15 : Below w13.heap.size w13 w14 := ((Below.refl w13.heap.size w13).drew).trans b14
     have X14 : Hid (At w14 w11.heap.size #[.int .i64 x.w, .slice (some ⟨ob, oo, none⟩) P.length ac] 45) := HX.out.below b15
     have F14 : Hid (Fbx w14 w7.heap.size w.heap.size d up cp (some ⟨bb, bo, none⟩) cb) := HF.out.below b15
     have A14 : Hid (IntsAt w14 w.heap.size (some ⟨ob, oo, none⟩) x.ins) := HA.out.keep (agree_of_below b15 _)
     have B14 : Hid (Below w.heap.size w w14) := HB.out.trans (b15.mono HB.out.size)
     have Q14 : Hid (At w14 w2.heap.size #[.slice (some ⟨fb, fo, none⟩) l.length c] 26) := HQ.out.below b15
     have K14 : Hid (FuncsAt w14 w.heap.size (some ⟨fb, fo, none⟩) l) := HK.out.keep (agree_of_below b15 _)
     clear S0 S1 TI b14 b15 HX HF HA HQ HK HB x0 x1 x2 z0 z1 l5 l6 e1 hob
     go_wp2_with fail
     go_roundw
     case rel => exact ⟨y + 1, by omega, by go_num, X14.out, F14.out, A14.out, Q14.out, K14.out, B14.out⟩
     case measure => simp [intOf]; omega
end Go.Proofs.YtgojlnclpebdcaaGreatDoor
