import Derived.Test.YtgojlnclpebdcaaGreatDoorBrBQ
import Derived.Test.YtgojlnclpebdcaaGreatDoorChFQ
import Derived.Test.YtgojlnclpebdcaaGreatDoorFmKQ
import Derived.Test.YtgojlnclpebdcaaGreatDoorMemQ
import Derived.Test.YtgojlnclpebdcaaGreatDoorGnZQ
import Derived.Test.YtgojlnclpebdcaaGreatDoorGraQ
import Derived.Deep.RegionWith
import Derived.BigQuiet
namespace Go.Proofs.YtgojlnclpebdcaaGreatDoor
open Go.RowKit Go.Deep
set_option linter.unusedVariables false
set_option linter.unusedSimpArgs false
theorem mod_read {lo gm n : Nat} {w : World} (h : ModR lo gm n w) (hl : lo ≤ gm) (hn : n ≤ 2) : ∃ l : List FuncD, l.length = n ∧ SmMod l ∧ FuncsAt w lo (some ⟨gm, 0, none⟩) l := by
 obtain ⟨⟨cur, hc⟩, h⟩ := h
 have hg := (Array.getElem?_eq_some_iff.1 hc).1
 obtain ⟨l, l1, l2⟩ := list_of func0 (fun i d => ((∃ u c, w.cell? ⟨gm, 0 + i * 3, none⟩ = some (.slice u d.params.length c) ∧ IntsAt w lo u d.params) ∧ w.cell? ⟨gm, 0 + i * 3 + 1, none⟩ = some (.int .i64 d.ret) ∧ (∃ u c, w.cell? ⟨gm, 0 + i * 3 + 2, none⟩ = some (.slice u d.blocks.length c) ∧ BlocksAt w lo u d.blocks)) ∧ SmFunc d) n fun i hi => by
  obtain ⟨np, nb, ret, up, ub, cp, cb, h0, h1, h2, h3⟩ := h i hi
  obtain ⟨d, e1, e2, e3, e4, e5, e6⟩ := h3.read (ret := ret)
  subst e1 e2 e3
  rw [Nat.zero_add]
  exact ⟨d, ⟨⟨up, cp, h0, e5⟩, h1, ⟨ub, cb, h2, e6⟩⟩, e4⟩
 refine ⟨l, l1, ⟨by omega, fun p hp => ?_⟩, by omega, .inr ⟨gm, 0, rfl, hl, hg, fun i hi => (l2 i (by omega)).1⟩⟩
 obtain ⟨i, hi, rfl⟩ := mem_getD func0 hp
 exact (l2 i (by omega)).2
set_option maxHeartbeats 4000000 in
set_option maxRecDepth 100000 in
theorem drawModule (a0 : Option Addr) (len cap : Nat) (w : World) (hl : len ≤ 1048576) (hc : Code a0 len w.heap.size w) :
  Calls Tryz.prog 16 #[.slice a0 len cap] w fun e w' => ∃ (l : List FuncD) (u : Option Addr) (c : Nat), e = .returned (.agg #[.slice u l.length c]) ∧ SmMod l ∧ FuncsAt w' w.heap.size u l ∧ Below w.heap.size w w' := by
 have hb0 : Below w.heap.size w (w.alloc (.cells #[.slice none 0 0] 26)) := (Below.refl _ _).alloc (Nat.le_refl _) _
 have hrd := rd_open (cap := cap) hl (hc.below hb0)
 have hsz : (w.alloc (.cells #[.slice none 0 0] 26)).heap.size = w.heap.size + 1 := by simp
 have hq0 : ((w.alloc (.cells #[.slice none 0 0] 26)).alloc (.cells #[.slice a0 len cap, .int .i64 0] 88)).heap[w.heap.size]? = some (.cells #[.slice none 0 0] 26 (0, 0)) := heap_alloc2_old _ _ _
 have hb1 : Below w.heap.size w ((w.alloc (.cells #[.slice none 0 0] 26)).alloc (.cells #[.slice a0 len cap, .int .i64 0] 88)) := hb0.alloc (by simp) _
 rw [hsz] at hrd
 have fin : ∀ (W V : World) (gm n cm : Nat), W.heap[w.heap.size]? = some (.cells #[.slice none 0 0] 26 (0, 0)) → Below w.heap.size w W → w.heap.size + 2 ≤ W.heap.size → (∀ b, b < W.heap.size → b ≠ w.heap.size + 1 → V.heap[b]? = W.heap[b]?) → W.heap.size ≤ V.heap.size → V.os = W.os → V.tape = W.tape → V.output = W.output → ModR W.heap.size gm n V → W.heap.size ≤ gm → n ≤ 2 → V.heap[w.heap.size]? = some (.cells #[.slice none 0 0] 26 (0, 0)) ∧ ∃ l : List FuncD, l.length = n ∧ SmMod l ∧ FuncsAt (V.setCell ⟨w.heap.size, 0, none⟩ (.slice (some ⟨gm, 0, none⟩) n cm)) w.heap.size (some ⟨gm, 0, none⟩) l ∧ Below w.heap.size w (V.setCell ⟨w.heap.size, 0, none⟩ (.slice (some ⟨gm, 0, none⟩) n cm)) := fun W V gm n cm h1 h2 h3 h4 h5 o1 o2 o3 h6 h7 h8 => by
  have hset : ∀ b, b ≠ w.heap.size → (V.setCell ⟨w.heap.size, 0, none⟩ (.slice (some ⟨gm, 0, none⟩) n cm)).heap[b]? = V.heap[b]? := fun b hb => Below.heap_setCell _ _ _ _ hb
  obtain ⟨l, l1, l2, l3⟩ := mod_read ((h6.same h7 fun b k1 k2 => hset b (by omega)).low (by omega : w.heap.size ≤ W.heap.size)) (by omega) h8
  exact ⟨(h4 _ (by omega) (by omega)).trans h1, l, l1, l2, l3, (set_os _ _ _).trans (o1.trans h2.os), (set_tape _ _ _).trans (o2.trans h2.tape), (set_output _ _ _).trans (o3.trans h2.output), by simp only [World.size_setCell]; omega, fun b hb => (hset b (by omega)).trans ((h4 b (by omega) (by omega)).trans (h2.block b hb))⟩
 go_enter Tryz.func16, Tryz.ntmps16
 go_wp2_with (first | (go_at_call 23; refine (open_any _ _ _ _).mono ?_; rintro e w0 ⟨rfl, rfl⟩; simp only [hsz]))
 refine (once_any _ a0 len cap 12 _ hrd (by omega)).mono ?_
 rintro e W1 ⟨b1, rfl, hr1, hg1⟩
 have hz1 : w.heap.size + 2 ≤ W1.heap.size := by have := hg1.size; simp at this; omega
 have hR1 : W1.heap[w.heap.size]? = some (.cells #[.slice none 0 0] 26 (0, 0)) := (hg1.block w.heap.size (by simp; omega) (by simp)).trans hq0
 have hB1 : Below w.heap.size w W1 := ⟨hg1.os.trans hb1.os, hg1.tape.trans hb1.tape, hg1.output.trans hb1.output, by omega, fun b hb => (hg1.block b (by simp; omega) (by simp; omega)).trans (hb1.block b hb)⟩
 clear hg1 hq0 hb1 hb0 hrd hsz
 cases b1
 ·have PM := module_all _ a0 len cap W1 hr1
  go_wp2_with fail
  refine PM.mono ?_
  rintro e W2 ⟨gm, n, cm, rfl, hn1, hn2, hgm, hcur, hfs, hrd2, hold, hs2, o1, o2, o3⟩
  obtain ⟨k1, l, rfl, k3, k4, k5⟩ := fin W1 W2 gm n cm hR1 hB1 hz1 hold hs2 o1 o2 o3 (ModAll.r hcur hfs) hgm hn2
  have r0 : W2.cell? ⟨w.heap.size, 0, none⟩ = some (.slice none 0 0) := (cell_of_heap k1).trans rfl
  have rf : W2.frozen? ⟨w.heap.size, 0, none⟩ = false := froz_of_heap k1
  have hrr := heap_set (o := 0) (v := .slice (some ⟨gm, 0, none⟩) l.length cm) k1
  clear fin
  go_wp2_with fail
  exact bodyPost_ret (v := .agg #[.slice (some ⟨gm, 0, none⟩) l.length cm]) ((results_cell_row Tryz.results16 _ _ w.heap.size 26 _ (0, 0) _ rfl hrr Tryz.underlying26 rfl (by kernel_rfl)).trans (by rfl)) rfl ⟨l, _, cm, rfl, k3, k4, k5⟩
 ·have PM := broken_any _ a0 len cap W1 hr1
  go_wp2_with fail
  refine PM.mono ?_
  rintro e W2 ⟨gm, n, cm, rfl, hn1, hn2, hgm, hmr, hrd2, hold, hs2, o1, o2, o3⟩
  obtain ⟨k1, l, rfl, k3, k4, k5⟩ := fin W1 W2 gm n cm hR1 hB1 hz1 hold hs2 o1 o2 o3 hmr hgm hn2
  have r0 : W2.cell? ⟨w.heap.size, 0, none⟩ = some (.slice none 0 0) := (cell_of_heap k1).trans rfl
  have rf : W2.frozen? ⟨w.heap.size, 0, none⟩ = false := froz_of_heap k1
  have hrr := heap_set (o := 0) (v := .slice (some ⟨gm, 0, none⟩) l.length cm) k1
  clear fin
  go_wp2_with fail
  exact bodyPost_ret (v := .agg #[.slice (some ⟨gm, 0, none⟩) l.length cm]) ((results_cell_row Tryz.results16 _ _ w.heap.size 26 _ (0, 0) _ rfl hrr Tryz.underlying26 rfl (by kernel_rfl)).trans (by rfl)) rfl ⟨l, _, cm, rfl, k3, k4, k5⟩
end Go.Proofs.YtgojlnclpebdcaaGreatDoor
namespace Go.Proofs.YtgojlnclpebdcaaGreatDoor
open Go.RowKit Go.Deep
set_option linter.unusedVariables false
set_option linter.unusedSimpArgs false
def Fbx (W : World) (B lo : Nat) (d : FuncD) (up : Option Addr) (cp : Nat) (ub : Option Addr) (cb : Nat) : Prop :=
 At W B #[.slice up d.params.length cp, .int .i64 d.ret, .slice ub d.blocks.length cb] 36 ∧ IntsAt W lo up d.params ∧ BlocksAt W lo ub d.blocks
theorem Fbx.below {W W' : World} {B lo : Nat} {d : FuncD} {up : Option Addr} {cp : Nat} {ub : Option Addr} {cb : Nat} (h : Fbx W B lo d up cp ub cb) (k : Below W.heap.size W W') : Fbx W' B lo d up cp ub cb :=
 ⟨h.1.below k, h.2.1.keep (agree_of_below k _), h.2.2.keep (agree_of_below k _)⟩
theorem code_parts {l : List FuncD} {d : FuncD} (h : CodeF l d 0) : phsB d = true ∧ typB d = true ∧ DomsP d := by
 unfold CodeF at h
 rcases h with ⟨_, h⟩ | ⟨_, _, h⟩ | ⟨_, _, _, h⟩ | ⟨_, _, _, _, h⟩ | ⟨_, _, _, _, _, h⟩ | ⟨_, h1, h2, _, h3, _⟩
 ·omega
 ·omega
 ·omega
 ·omega
 ·omega
 ·exact ⟨h1, h2, h3⟩
theorem mcode_ok {l : List FuncD} (h : MCode l 0) : modB l = true ∧ ∀ k, k < l.length → CodeF l (l.getD k func0) 0 := by
 rcases h with ⟨_, h⟩ | ⟨h, ⟨_, h2⟩ | ⟨_, _, h3, _⟩⟩
 ·omega
 ·exact ⟨h, h2⟩
 ·exact absurd rfl h3
theorem mcode_any (l : List FuncD) : ∃ c, MCode l c := by
 by_cases h : modB l = true
 ·have go : ∀ n : Nat, (∀ j, j < n → j < l.length → CodeF l (l.getD j func0) 0) ∨ ∃ k c, k < l.length ∧ c ≠ 0 ∧ CodeF l (l.getD k func0) c ∧ ∀ j, j < k → CodeF l (l.getD j func0) 0 := by
   intro n
   induction n with
   | zero => exact .inl fun j hj => by omega
   | succ n ih =>
    rcases ih with ih | ih
    ·by_cases hn : n < l.length
     ·obtain ⟨c, hc⟩ := code_some l (l.getD n func0)
      by_cases e : c = 0
      ·subst e
       refine .inl fun j hj hl => ?_
       by_cases e : j = n
       ·subst e; exact hc
       ·exact ih j (by omega) hl
      ·exact .inr ⟨n, c, hn, e, hc, fun j hj => ih j hj (by omega)⟩
     ·exact .inl fun j hj hl => ih j (by omega) hl
    ·exact .inr ih
  rcases go l.length with g | ⟨k, c, k1, k2, k3, k4⟩
  ·exact ⟨0, .inr ⟨h, .inl ⟨rfl, fun k hk => g k hk hk⟩⟩⟩
  ·exact ⟨c, .inr ⟨h, .inr ⟨k, k1, k2, k3, k4⟩⟩⟩
 ·exact ⟨1, .inl ⟨by simpa using h, rfl⟩⟩
theorem placeL_out : ∀ (r : List BlockD) (b : Nat) (x : Int), (cntL r : Int) ≤ x → placeL r b x = (-2, 0)
 | [], _, _, _ => rfl
 | d :: r, b, x, h => by
  have h2 : cntL (d :: r) = cntB d + cntL r := rfl
  unfold placeL
  rw [if_neg (by omega)]
  exact placeL_out r (b + 1) _ (by omega)
theorem place_lt {d : FuncD} {id : Int} (h : (placeF d id).1 ≠ -2) : id < cntF d := by
 by_cases h1 : id < cntF d
 ·exact h1
 ·refine absurd ?_ h
  have h2 : cntF d = d.params.length + cntL d.blocks := rfl
  unfold placeF
  rw [if_neg (by omega), if_neg (by omega), placeL_out _ _ _ (by omega)]
theorem place_blk {d : FuncD} {n : Nat} (h : d.params.length ≤ n) (h2 : n < cntF d) : ∃ k j : Nat, k < d.blocks.length ∧ j < cntB (d.blocks.getD k block0) ∧ placeF d n = ((k : Int), (j : Int)) := by
 have e : placeF d n = placeL d.blocks 0 ((n : Int) - d.params.length) := by
  unfold placeF
  rw [if_neg (by omega), if_neg (by omega)]
 rcases placeL_cases d.blocks 0 ((n : Int) - d.params.length) (by omega) with k | ⟨i, j, k1, k2, k3⟩
 ·have := place_in (d := d) (id := n) (by omega) (by omega)
  rw [e, k] at this
  exact absurd rfl this
 ·exact ⟨i, j, k1, k2, by rw [e, k3]; simp⟩
theorem blk_at {w : World} {lo : Nat} {ub : Option Addr} {l : List BlockD} (h : BlocksAt w lo ub l) {b : Nat} (hb : b < l.length) :
  ∃ bb bo up pc iu ic, ub = some ⟨bb, bo, none⟩ ∧ bb < w.heap.size ∧ w.cell? ⟨bb, bo + b * 6, none⟩ = some (.slice up (l.getD b block0).phis.length pc) ∧ PhisAt w lo up (l.getD b block0).phis ∧ w.cell? ⟨bb, bo + b * 6 + 1, none⟩ = some (.slice iu (l.getD b block0).insts.length ic) ∧ InstsAt w lo iu (l.getD b block0).insts := by
 rcases h.2 with e | ⟨bb, bo, rfl, _, hbb, hc⟩
 ·rw [e] at hb; simp at hb
 ·obtain ⟨⟨up, pc, h1, hP⟩, ⟨iu, ic, h2, hI⟩, _⟩ := hc b hb
  exact ⟨bb, bo, up, pc, iu, ic, rfl, hbb, h1, hP, h2, hI⟩
theorem inst_at {w : World} {lo : Nat} {iu : Option Addr} {l : List InstD} (h : InstsAt w lo iu l) {j : Nat} (hj : j < l.length) :
  ∃ ib io au ac, iu = some ⟨ib, io, none⟩ ∧ ib < w.heap.size ∧ w.cell? ⟨ib, io + j * 7, none⟩ = some (.int .i64 (l.getD j inst0).op) ∧ w.cell? ⟨ib, io + j * 7 + 1, none⟩ = some (.int .i64 (l.getD j inst0).w) ∧ w.cell? ⟨ib, io + j * 7 + 2, none⟩ = some (.int .i64 (l.getD j inst0).a) ∧ w.cell? ⟨ib, io + j * 7 + 3, none⟩ = some (.int .i64 (l.getD j inst0).b) ∧ w.cell? ⟨ib, io + j * 7 + 4, none⟩ = some (.int .i64 (l.getD j inst0).c) ∧ w.cell? ⟨ib, io + j * 7 + 5, none⟩ = some (.int .i64 (l.getD j inst0).imm) ∧ w.cell? ⟨ib, io + j * 7 + 6, none⟩ = some (.slice au (l.getD j inst0).args.length ac) ∧ IntsAt w lo au (l.getD j inst0).args := by
 rcases h.2 with e | ⟨ib, io, rfl, _, hib, hi⟩
 ·rw [e] at hj; simp at hj
 ·obtain ⟨i0, i1, i2, i3, i4, i5, au, ac, i6, hA⟩ := hi j hj
  exact ⟨ib, io, au, ac, rfl, hib, i0, i1, i2, i3, i4, i5, i6, hA⟩
theorem place_top (d : FuncD) (id : Int) : (placeF d id).1 < d.blocks.length := by
 rcases place_cases d id with h | ⟨j, _, h⟩ | ⟨k, j, hk, _, h⟩
 ·rw [h]; show (-2 : Int) < _; omega
 ·rw [h]; show (-1 : Int) < _; omega
 ·rw [h]; show (k : Int) < _; omega
theorem sees_cases {d : FuncD} {id : Int} {b : Nat} {at' : Int} (h : Sees d id b at') : id < cntF d ∧ ((placeF d id).1 = -1 ∨ ((placeF d id).1 = b ∧ (placeF d id).2 < at') ∨ (0 ≤ (placeF d id).1 ∧ (placeF d id).1 ≠ b ∧ Dom (succN d.blocks) (placeF d id).1.toNat b)) := by
 refine ⟨place_lt ?_, h⟩
 rcases h with h | h | h
 ·omega
 ·omega
 ·omega
theorem ops_len {x : InstD} (h : x.args.length ≤ 1048576) : (opsD x).length ≤ 1048576 := by
 unfold opsD
 repeat' split
 all_goals try simp only [List.length_cons, List.length_nil]
 all_goals omega
end Go.Proofs.YtgojlnclpebdcaaGreatDoor
namespace Go.Proofs.YtgojlnclpebdcaaGreatDoor
open Go.RowKit
def OI (w : World) (lo : Nat) (a : Option Addr) (l : List Int) : Prop :=
 l.length ≤ 9223372036854775807 ∧ (l = [] ∨ ∃ g cur, a = some ⟨g, 0, none⟩ ∧ lo ≤ g ∧ w.heap[g]? = some (.cells cur 2 (0, 0)) ∧ ∀ i, i < l.length → cur[i]? = some (.int .i64 (l.getD i 0)))
theorem OI.keep {w w' : World} {lo : Nat} {a : Option Addr} {l : List Int} (h : OI w lo a l) (k : Agree lo w w') : OI w' lo a l := by
 obtain ⟨hm, h⟩ := h
 refine ⟨hm, ?_⟩
 rcases h with h | ⟨g, cur, ha, hl, hb, hc⟩
 ·exact .inl h
 ·exact .inr ⟨g, cur, ha, hl, (k.2 g hl (Array.getElem?_eq_some_iff.1 hb).1).trans hb, hc⟩
theorem OI.low {w : World} {lo lo' : Nat} {a : Option Addr} {l : List Int} (h : OI w lo a l) (k : lo' ≤ lo) : OI w lo' a l := by
 obtain ⟨hm, h⟩ := h
 refine ⟨hm, ?_⟩
 rcases h with h | ⟨g, cur, ha, hl, hb, hc⟩
 ·exact .inl h
 ·exact .inr ⟨g, cur, ha, Nat.le_trans k hl, hb, hc⟩
theorem OI.at {w : World} {lo : Nat} {a : Option Addr} {l : List Int} (h : OI w lo a l) : IntsAt w lo a l := by
 obtain ⟨hm, h⟩ := h
 refine ⟨hm, ?_⟩
 rcases h with h | ⟨g, cur, ha, hl, hb, hc⟩
 ·exact .inl h
 ·exact .inr ⟨g, 0, ha, hl, (Array.getElem?_eq_some_iff.1 hb).1, fun i hi => (cell_of_heap hb).trans (by simpa using hc i hi)⟩
def OP (w : World) (lo : Nat) (a : Option Addr) (l : List PhiD) : Prop :=
 l.length ≤ 9223372036854775807 ∧ (l = [] ∨ ∃ g cur, a = some ⟨g, 0, none⟩ ∧ lo ≤ g ∧ w.heap[g]? = some (.cells cur 45 (0, 0)) ∧ ∀ i, i < l.length → cur[i * 2]? = some (.int .i64 (l.getD i phi0).w) ∧ (∃ u c, cur[i * 2 + 1]? = some (.slice u (l.getD i phi0).ins.length c) ∧ OI w lo u (l.getD i phi0).ins))
theorem OP.keep {w w' : World} {lo : Nat} {a : Option Addr} {l : List PhiD} (h : OP w lo a l) (k : Agree lo w w') : OP w' lo a l := by
 obtain ⟨hm, h⟩ := h
 refine ⟨hm, ?_⟩
 rcases h with h | ⟨g, cur, ha, hl, hb, hc⟩
 ·exact .inl h
 ·refine .inr ⟨g, cur, ha, hl, (k.2 g hl (Array.getElem?_eq_some_iff.1 hb).1).trans hb, fun i hi => ?_⟩
  obtain ⟨h0, ⟨u1, c1, h1, k1⟩⟩ := hc i hi
  exact ⟨h0, ⟨u1, c1, h1, k1.keep k⟩⟩
theorem OP.low {w : World} {lo lo' : Nat} {a : Option Addr} {l : List PhiD} (h : OP w lo a l) (k : lo' ≤ lo) : OP w lo' a l := by
 obtain ⟨hm, h⟩ := h
 refine ⟨hm, ?_⟩
 rcases h with h | ⟨g, cur, ha, hl, hb, hc⟩
 ·exact .inl h
 ·refine .inr ⟨g, cur, ha, Nat.le_trans k hl, hb, fun i hi => ?_⟩
  obtain ⟨h0, ⟨u1, c1, h1, k1⟩⟩ := hc i hi
  exact ⟨h0, ⟨u1, c1, h1, k1.low k⟩⟩
theorem OP.at {w : World} {lo : Nat} {a : Option Addr} {l : List PhiD} (h : OP w lo a l) : PhisAt w lo a l := by
 obtain ⟨hm, h⟩ := h
 refine ⟨hm, ?_⟩
 rcases h with h | ⟨g, cur, ha, hl, hb, hc⟩
 ·exact .inl h
 ·refine .inr ⟨g, 0, ha, hl, (Array.getElem?_eq_some_iff.1 hb).1, fun i hi => ?_⟩
  obtain ⟨h0, ⟨u1, c1, h1, k1⟩⟩ := hc i hi
  exact ⟨(cell_of_heap hb).trans (by simpa using h0), ⟨u1, c1, (cell_of_heap hb).trans (by simpa using h1), k1.at⟩⟩
def ON (w : World) (lo : Nat) (a : Option Addr) (l : List InstD) : Prop :=
 l.length ≤ 9223372036854775807 ∧ (l = [] ∨ ∃ g cur, a = some ⟨g, 0, none⟩ ∧ lo ≤ g ∧ w.heap[g]? = some (.cells cur 54 (0, 0)) ∧ ∀ i, i < l.length → cur[i * 7]? = some (.int .i64 (l.getD i inst0).op) ∧ cur[i * 7 + 1]? = some (.int .i64 (l.getD i inst0).w) ∧ cur[i * 7 + 2]? = some (.int .i64 (l.getD i inst0).a) ∧ cur[i * 7 + 3]? = some (.int .i64 (l.getD i inst0).b) ∧ cur[i * 7 + 4]? = some (.int .i64 (l.getD i inst0).c) ∧ cur[i * 7 + 5]? = some (.int .i64 (l.getD i inst0).imm) ∧ (∃ u c, cur[i * 7 + 6]? = some (.slice u (l.getD i inst0).args.length c) ∧ OI w lo u (l.getD i inst0).args))
theorem ON.keep {w w' : World} {lo : Nat} {a : Option Addr} {l : List InstD} (h : ON w lo a l) (k : Agree lo w w') : ON w' lo a l := by
 obtain ⟨hm, h⟩ := h
 refine ⟨hm, ?_⟩
 rcases h with h | ⟨g, cur, ha, hl, hb, hc⟩
 ·exact .inl h
 ·refine .inr ⟨g, cur, ha, hl, (k.2 g hl (Array.getElem?_eq_some_iff.1 hb).1).trans hb, fun i hi => ?_⟩
  obtain ⟨h0, h1, h2, h3, h4, h5, ⟨u6, c6, h6, k6⟩⟩ := hc i hi
  exact ⟨h0, h1, h2, h3, h4, h5, ⟨u6, c6, h6, k6.keep k⟩⟩
theorem ON.low {w : World} {lo lo' : Nat} {a : Option Addr} {l : List InstD} (h : ON w lo a l) (k : lo' ≤ lo) : ON w lo' a l := by
 obtain ⟨hm, h⟩ := h
 refine ⟨hm, ?_⟩
 rcases h with h | ⟨g, cur, ha, hl, hb, hc⟩
 ·exact .inl h
 ·refine .inr ⟨g, cur, ha, Nat.le_trans k hl, hb, fun i hi => ?_⟩
  obtain ⟨h0, h1, h2, h3, h4, h5, ⟨u6, c6, h6, k6⟩⟩ := hc i hi
  exact ⟨h0, h1, h2, h3, h4, h5, ⟨u6, c6, h6, k6.low k⟩⟩
theorem ON.at {w : World} {lo : Nat} {a : Option Addr} {l : List InstD} (h : ON w lo a l) : InstsAt w lo a l := by
 obtain ⟨hm, h⟩ := h
 refine ⟨hm, ?_⟩
 rcases h with h | ⟨g, cur, ha, hl, hb, hc⟩
 ·exact .inl h
 ·refine .inr ⟨g, 0, ha, hl, (Array.getElem?_eq_some_iff.1 hb).1, fun i hi => ?_⟩
  obtain ⟨h0, h1, h2, h3, h4, h5, ⟨u6, c6, h6, k6⟩⟩ := hc i hi
  exact ⟨(cell_of_heap hb).trans (by simpa using h0), (cell_of_heap hb).trans (by simpa using h1), (cell_of_heap hb).trans (by simpa using h2), (cell_of_heap hb).trans (by simpa using h3), (cell_of_heap hb).trans (by simpa using h4), (cell_of_heap hb).trans (by simpa using h5), ⟨u6, c6, (cell_of_heap hb).trans (by simpa using h6), k6.at⟩⟩
def OB (w : World) (lo : Nat) (a : Option Addr) (l : List BlockD) : Prop :=
 l.length ≤ 9223372036854775807 ∧ (l = [] ∨ ∃ g cur, a = some ⟨g, 0, none⟩ ∧ lo ≤ g ∧ w.heap[g]? = some (.cells cur 43 (0, 0)) ∧ ∀ i, i < l.length → (∃ u c, cur[i * 6]? = some (.slice u (l.getD i block0).phis.length c) ∧ OP w lo u (l.getD i block0).phis) ∧ (∃ u c, cur[i * 6 + 1]? = some (.slice u (l.getD i block0).insts.length c) ∧ ON w lo u (l.getD i block0).insts) ∧ cur[i * 6 + 2]? = some (.int .i64 (l.getD i block0).term.kind) ∧ cur[i * 6 + 3]? = some (.int .i64 (l.getD i block0).term.a) ∧ cur[i * 6 + 4]? = some (.int .i64 (l.getD i block0).term.x) ∧ cur[i * 6 + 5]? = some (.int .i64 (l.getD i block0).term.y))
theorem OB.keep {w w' : World} {lo : Nat} {a : Option Addr} {l : List BlockD} (h : OB w lo a l) (k : Agree lo w w') : OB w' lo a l := by
 obtain ⟨hm, h⟩ := h
 refine ⟨hm, ?_⟩
 rcases h with h | ⟨g, cur, ha, hl, hb, hc⟩
 ·exact .inl h
 ·refine .inr ⟨g, cur, ha, hl, (k.2 g hl (Array.getElem?_eq_some_iff.1 hb).1).trans hb, fun i hi => ?_⟩
  obtain ⟨⟨u0, c0, h0, k0⟩, ⟨u1, c1, h1, k1⟩, h2, h3, h4, h5⟩ := hc i hi
  exact ⟨⟨u0, c0, h0, k0.keep k⟩, ⟨u1, c1, h1, k1.keep k⟩, h2, h3, h4, h5⟩
theorem OB.low {w : World} {lo lo' : Nat} {a : Option Addr} {l : List BlockD} (h : OB w lo a l) (k : lo' ≤ lo) : OB w lo' a l := by
 obtain ⟨hm, h⟩ := h
 refine ⟨hm, ?_⟩
 rcases h with h | ⟨g, cur, ha, hl, hb, hc⟩
 ·exact .inl h
 ·refine .inr ⟨g, cur, ha, Nat.le_trans k hl, hb, fun i hi => ?_⟩
  obtain ⟨⟨u0, c0, h0, k0⟩, ⟨u1, c1, h1, k1⟩, h2, h3, h4, h5⟩ := hc i hi
  exact ⟨⟨u0, c0, h0, k0.low k⟩, ⟨u1, c1, h1, k1.low k⟩, h2, h3, h4, h5⟩
theorem OB.at {w : World} {lo : Nat} {a : Option Addr} {l : List BlockD} (h : OB w lo a l) : BlocksAt w lo a l := by
 obtain ⟨hm, h⟩ := h
 refine ⟨hm, ?_⟩
 rcases h with h | ⟨g, cur, ha, hl, hb, hc⟩
 ·exact .inl h
 ·refine .inr ⟨g, 0, ha, hl, (Array.getElem?_eq_some_iff.1 hb).1, fun i hi => ?_⟩
  obtain ⟨⟨u0, c0, h0, k0⟩, ⟨u1, c1, h1, k1⟩, h2, h3, h4, h5⟩ := hc i hi
  exact ⟨⟨u0, c0, (cell_of_heap hb).trans (by simpa using h0), k0.at⟩, ⟨u1, c1, (cell_of_heap hb).trans (by simpa using h1), k1.at⟩, (cell_of_heap hb).trans (by simpa using h2), (cell_of_heap hb).trans (by simpa using h3), (cell_of_heap hb).trans (by simpa using h4), (cell_of_heap hb).trans (by simpa using h5)⟩
end Go.Proofs.YtgojlnclpebdcaaGreatDoor
namespace Go.Proofs.YtgojlnclpebdcaaGreatDoor
open Go.RowKit
def isIv : Value → Bool | .int .i64 _ => true | _ => false
theorem isI_yes {v : Value} (h : isIv v = true) : ∃ z, v = .int .i64 z := by
 unfold isIv at h
 split at h
 ·exact ⟨_, rfl⟩
 ·cases h
def Cur (cur cur' : Array Value) : Prop := ∀ (j : Nat) (v : Value), cur[j]? = some v → ∃ v', cur'[j]? = some v' ∧ (isIv v = true → isIv v' = true) ∧ (isIv v = false → v' = v)
theorem Cur.int {cur cur' : Array Value} (h : Cur cur cur') {j : Nat} {z : Int} (hj : cur[j]? = some (.int .i64 z)) : ∃ z : Int, cur'[j]? = some (.int .i64 z) := by
 obtain ⟨v', h1, h2, _⟩ := h j _ hj
 obtain ⟨y, rfl⟩ := isI_yes (h2 rfl)
 exact ⟨y, h1⟩
theorem Cur.slice {cur cur' : Array Value} (h : Cur cur cur') {j : Nat} {u : Option Addr} {n c : Nat} (hj : cur[j]? = some (.slice u n c)) : cur'[j]? = some (.slice u n c) := by
 obtain ⟨v', h1, _, h3⟩ := h j _ hj
 rw [h1, h3 rfl]
theorem Cur.refl (cur : Array Value) : Cur cur cur := fun _ v h => ⟨v, h, fun h => h, fun _ => rfl⟩
theorem Cur.trans {a b c : Array Value} (h : Cur a b) (k : Cur b c) : Cur a c := fun j v hv => by
 obtain ⟨v1, h1, h2, h3⟩ := h j v hv
 obtain ⟨v2, k1, k2, k3⟩ := k j v1 h1
 refine ⟨v2, k1, fun e => k2 (h2 e), fun e => ?_⟩
 have e1 := h3 e
 subst e1
 exact k3 e
theorem Cur.set {cur : Array Value} {o : Nat} {z : Int} (h : cur[o]? = some (.int .i64 z)) (y : Int) : Cur cur (cur.setIfInBounds o (.int .i64 y)) := fun j v hv => by
 by_cases e : o = j
 ·subst e
  rw [h] at hv
  cases hv
  have hlt := (Array.getElem?_eq_some_iff.1 h).1
  exact ⟨.int .i64 y, by simp [hlt], fun _ => rfl, fun e => by cases e⟩
 ·exact ⟨v, by rw [Array.getElem?_setIfInBounds_ne e]; exact hv, fun h => h, fun _ => rfl⟩
structure Hdr (lo hi : Nat) (w w' : World) : Prop where
 os : w'.os = w.os
 tape : w'.tape = w.tape
 output : w'.output = w.output
 size : w.heap.size ≤ w'.heap.size
 out : ∀ g : Nat, g < lo ∨ hi ≤ g → g < w.heap.size → w'.heap[g]? = w.heap[g]?
 cells : ∀ (g : Nat) (cur : Array Value) (T : TypeId), w.heap[g]? = some (.cells cur T (0, 0)) → ∃ cur', w'.heap[g]? = some (.cells cur' T (0, 0)) ∧ Cur cur cur'
theorem Hdr.refl (lo hi : Nat) (w : World) : Hdr lo hi w w := ⟨rfl, rfl, rfl, Nat.le_refl _, fun _ _ _ => rfl, fun _ cur _ h => ⟨cur, h, Cur.refl _⟩⟩
theorem Hdr.trans {lo hi : Nat} {a b c : World} (h : Hdr lo hi a b) (k : Hdr lo hi b c) : Hdr lo hi a c :=
 ⟨k.os.trans h.os, k.tape.trans h.tape, k.output.trans h.output, Nat.le_trans h.size k.size, fun g hg hl => (k.out g hg (Nat.lt_of_lt_of_le hl h.size)).trans (h.out g hg hl), fun g cur T hc => by
  obtain ⟨c1, h1, h2⟩ := h.cells g cur T hc
  obtain ⟨c2, k1, k2⟩ := k.cells g c1 T h1
  exact ⟨c2, k1, h2.trans k2⟩⟩
theorem Hdr.alloc (lo hi : Nat) (w : World) (o : Obj) : Hdr lo hi w (w.alloc o) :=
 ⟨rfl, rfl, rfl, by simp, fun g _ hl => Below.heap_alloc w o g hl, fun g cur T hc => ⟨cur, (Below.heap_alloc w o g (Array.getElem?_eq_some_iff.1 hc).1).trans hc, Cur.refl _⟩⟩
theorem Hdr.store {lo hi : Nat} {w w1 : World} (h : Hdr lo hi w w1) {g o : Nat} {cur : Array Value} {T : TypeId} {z : Int} (hc : w.heap[g]? = some (.cells cur T (0, 0))) (ho : cur[o]? = some (.int .i64 z)) (hl : lo ≤ g) (hh : g < hi) (y : Int) :
  Hdr lo hi w (w1.setCell ⟨g, o, none⟩ (.int .i64 y)) := by
 refine h.trans ⟨rfl, rfl, rfl, by simp [World.setCell], fun k hk _ => Below.heap_setCell _ _ _ _ (by show k ≠ g; omega), fun k c1 T1 h1 => ?_⟩
 by_cases e : k = g
 ·subst e
  obtain ⟨c2, h2, h3⟩ := h.cells k cur T hc
  rw [h2] at h1
  cases h1
  obtain ⟨z1, hz1⟩ := h3.int ho
  exact ⟨_, heap_set h2, Cur.set hz1 y⟩
 ·exact ⟨c1, (Below.heap_setCell _ _ _ _ (by show k ≠ g; omega)).trans h1, Cur.refl _⟩
theorem Hdr.cell {lo hi : Nat} {w w1 : World} (h : Hdr lo hi w w1) {g o : Nat} {cur : Array Value} {T : TypeId} {z : Int} (hc : w.heap[g]? = some (.cells cur T (0, 0))) (ho : cur[o]? = some (.int .i64 z)) :
  (∃ y : Int, w1.cell? ⟨g, o, none⟩ = some (.int .i64 y)) ∧ w1.frozen? ⟨g, o, none⟩ = false := by
 obtain ⟨c2, h2, h3⟩ := h.cells g cur T hc
 obtain ⟨z1, hz1⟩ := h3.int ho
 exact ⟨⟨z1, (cell_of_heap h2).trans hz1⟩, froz_of_heap h2⟩
theorem Hdr.head {lo hi : Nat} {w w1 : World} (h : Hdr lo hi w w1) {g o : Nat} {cur : Array Value} {T : TypeId} {u : Option Addr} {n c : Nat} (hc : w.heap[g]? = some (.cells cur T (0, 0))) (ho : cur[o]? = some (.slice u n c)) :
  w1.cell? ⟨g, o, none⟩ = some (.slice u n c) := by
 obtain ⟨c2, h2, h3⟩ := h.cells g cur T hc
 exact (cell_of_heap h2).trans (h3.slice ho)
def SI (w : World) (lo hi : Nat) (a : Option Addr) (n : Nat) : Prop :=
 n = 0 ∨ ∃ g cur, a = some ⟨g, 0, none⟩ ∧ lo ≤ g ∧ g < hi ∧ w.heap[g]? = some (.cells cur 2 (0, 0)) ∧ ∀ i, i < n → ∃ z : Int, cur[i]? = some (.int .i64 z)
theorem SI.keep {w w' : World} {lo hi : Nat} {a : Option Addr} {n : Nat} (h : SI w lo hi a n) (k : Hdr lo hi w w') : SI w' lo hi a n := by
 rcases h with h | ⟨g, cur, ha, hl, hh, hb, hc⟩
 ·exact .inl h
 ·obtain ⟨cur', hb', hi⟩ := k.cells g cur _ hb
  exact .inr ⟨g, cur', ha, hl, hh, hb', fun i hi' => by obtain ⟨z, hz⟩ := hc i hi'; exact hi.int hz⟩
def SP (w : World) (lo hi : Nat) (a : Option Addr) (l : List PhiD) : Prop :=
 l = [] ∨ ∃ g cur, a = some ⟨g, 0, none⟩ ∧ lo ≤ g ∧ g < hi ∧ w.heap[g]? = some (.cells cur 45 (0, 0)) ∧ ∀ i, i < l.length → (∃ z : Int, cur[i * 2]? = some (.int .i64 z)) ∧ (∃ u c, cur[i * 2 + 1]? = some (.slice u (l.getD i phi0).ins.length c) ∧ SI w lo hi u (l.getD i phi0).ins.length)
theorem SP.keep {w w' : World} {lo hi : Nat} {a : Option Addr} {l : List PhiD} (h : SP w lo hi a l) (k : Hdr lo hi w w') : SP w' lo hi a l := by
 rcases h with h | ⟨g, cur, ha, hl, hh, hb, hc⟩
 ·exact .inl h
 ·obtain ⟨cur', hb', hi⟩ := k.cells g cur _ hb
  refine .inr ⟨g, cur', ha, hl, hh, hb', fun i hi' => ?_⟩
  obtain ⟨⟨z0, h0⟩, ⟨u1, c1, h1, k1⟩⟩ := hc i hi'
  exact ⟨hi.int h0, ⟨u1, c1, hi.slice h1, k1.keep k⟩⟩
def SN (w : World) (lo hi : Nat) (a : Option Addr) (l : List InstD) : Prop :=
 l = [] ∨ ∃ g cur, a = some ⟨g, 0, none⟩ ∧ lo ≤ g ∧ g < hi ∧ w.heap[g]? = some (.cells cur 54 (0, 0)) ∧ ∀ i, i < l.length → (∃ z : Int, cur[i * 7]? = some (.int .i64 z)) ∧ (∃ z : Int, cur[i * 7 + 1]? = some (.int .i64 z)) ∧ (∃ z : Int, cur[i * 7 + 2]? = some (.int .i64 z)) ∧ (∃ z : Int, cur[i * 7 + 3]? = some (.int .i64 z)) ∧ (∃ z : Int, cur[i * 7 + 4]? = some (.int .i64 z)) ∧ (∃ z : Int, cur[i * 7 + 5]? = some (.int .i64 z)) ∧ (∃ u c, cur[i * 7 + 6]? = some (.slice u (l.getD i inst0).args.length c) ∧ SI w lo hi u (l.getD i inst0).args.length)
theorem SN.keep {w w' : World} {lo hi : Nat} {a : Option Addr} {l : List InstD} (h : SN w lo hi a l) (k : Hdr lo hi w w') : SN w' lo hi a l := by
 rcases h with h | ⟨g, cur, ha, hl, hh, hb, hc⟩
 ·exact .inl h
 ·obtain ⟨cur', hb', hi⟩ := k.cells g cur _ hb
  refine .inr ⟨g, cur', ha, hl, hh, hb', fun i hi' => ?_⟩
  obtain ⟨⟨z0, h0⟩, ⟨z1, h1⟩, ⟨z2, h2⟩, ⟨z3, h3⟩, ⟨z4, h4⟩, ⟨z5, h5⟩, ⟨u6, c6, h6, k6⟩⟩ := hc i hi'
  exact ⟨hi.int h0, hi.int h1, hi.int h2, hi.int h3, hi.int h4, hi.int h5, ⟨u6, c6, hi.slice h6, k6.keep k⟩⟩
def SB (w : World) (lo hi : Nat) (a : Option Addr) (l : List BlockD) : Prop :=
 l = [] ∨ ∃ g cur, a = some ⟨g, 0, none⟩ ∧ lo ≤ g ∧ g < hi ∧ w.heap[g]? = some (.cells cur 43 (0, 0)) ∧ ∀ i, i < l.length → (∃ u c, cur[i * 6]? = some (.slice u (l.getD i block0).phis.length c) ∧ SP w lo hi u (l.getD i block0).phis) ∧ (∃ u c, cur[i * 6 + 1]? = some (.slice u (l.getD i block0).insts.length c) ∧ SN w lo hi u (l.getD i block0).insts) ∧ (∃ z : Int, cur[i * 6 + 2]? = some (.int .i64 z)) ∧ (∃ z : Int, cur[i * 6 + 3]? = some (.int .i64 z)) ∧ (∃ z : Int, cur[i * 6 + 4]? = some (.int .i64 z)) ∧ (∃ z : Int, cur[i * 6 + 5]? = some (.int .i64 z))
theorem SB.keep {w w' : World} {lo hi : Nat} {a : Option Addr} {l : List BlockD} (h : SB w lo hi a l) (k : Hdr lo hi w w') : SB w' lo hi a l := by
 rcases h with h | ⟨g, cur, ha, hl, hh, hb, hc⟩
 ·exact .inl h
 ·obtain ⟨cur', hb', hi⟩ := k.cells g cur _ hb
  refine .inr ⟨g, cur', ha, hl, hh, hb', fun i hi' => ?_⟩
  obtain ⟨⟨u0, c0, h0, k0⟩, ⟨u1, c1, h1, k1⟩, ⟨z2, h2⟩, ⟨z3, h3⟩, ⟨z4, h4⟩, ⟨z5, h5⟩⟩ := hc i hi'
  exact ⟨⟨u0, c0, hi.slice h0, k0.keep k⟩, ⟨u1, c1, hi.slice h1, k1.keep k⟩, hi.int h2, hi.int h3, hi.int h4, hi.int h5⟩
end Go.Proofs.YtgojlnclpebdcaaGreatDoor
namespace Go.Proofs.YtgojlnclpebdcaaGreatDoor
open Go.RowKit
structure Only (g : Nat) (w w' : World) : Prop where
 os : w'.os = w.os
 tape : w'.tape = w.tape
 output : w'.output = w.output
 size : w'.heap.size = w.heap.size
 other : ∀ k : Nat, k ≠ g → w'.heap[k]? = w.heap[k]?
theorem Only.refl (g : Nat) (w : World) : Only g w w := ⟨rfl, rfl, rfl, rfl, fun _ _ => rfl⟩
theorem Only.set {g : Nat} {w w1 : World} (h : Only g w w1) (o : Nat) (v : Value) : Only g w (w1.setCell ⟨g, o, none⟩ v) :=
 ⟨h.os, h.tape, h.output, by simp [World.setCell]; exact h.size, fun k hk => (Below.heap_setCell _ _ _ _ hk).trans (h.other k hk)⟩
end Go.Proofs.YtgojlnclpebdcaaGreatDoor
namespace Go.Proofs.YtgojlnclpebdcaaGreatDoor
open Go.RowKit
def Row (w : World) (g : Nat) (l : List Int) : Prop := ∃ cur, w.heap[g]? = some (.cells cur 2 (0, 0)) ∧ ∀ i, i < l.length → cur[i]? = some (.int .i64 (l.getD i 0))
theorem Row.cell {w : World} {g : Nat} {l : List Int} (h : Row w g l) {i : Nat} (hi : i < l.length) : w.cell? ⟨g, i, none⟩ = some (.int .i64 (l.getD i 0)) ∧ w.frozen? ⟨g, i, none⟩ = false := by
 obtain ⟨cur, hb, hc⟩ := h
 exact ⟨(cell_of_heap hb).trans (hc i hi), froz_of_heap hb⟩
theorem getD_set {l : List Int} {i j : Nat} {v : Int} (hi : i < l.length) : (l.set i v).getD j 0 = if i = j then v else l.getD j 0 := by
 simp only [List.getD, List.getElem?_set]
 split
 ·simp
 ·rfl
theorem Row.set {w : World} {g : Nat} {l : List Int} (h : Row w g l) {i : Nat} (hi : i < l.length) (v : Int) : Row (w.setCell ⟨g, i, none⟩ (.int .i64 v)) g (l.set i v) := by
 obtain ⟨cur, hb, hc⟩ := h
 refine ⟨_, heap_set hb, fun j hj => ?_⟩
 rw [List.length_set] at hj
 rw [getD_set hi]
 by_cases e : i = j
 ·subst e
  have := (Array.getElem?_eq_some_iff.1 (hc i hi)).1
  simp [this]
 ·rw [Array.getElem?_setIfInBounds_ne e, hc j hj, if_neg e]
theorem Row.drew {w : World} {g : Nat} {l : List Int} (h : Row w g l) (n : Nat) : Row (w.drewN n) g l := h
theorem Only.drew {g : Nat} {w w' : World} (h : Only g w w') (n : Nat) : Only g w (w'.drewN n) := ⟨h.os, h.tape, h.output, h.size, h.other⟩
def swp (l : List Int) (i j : Nat) : List Int := (l.set i (l.getD j 0)).set j (l.getD i 0)
theorem swp_len (l : List Int) (i j : Nat) : (swp l i j).length = l.length := by simp [swp]
theorem swp_perm {l : List Int} {i j : Nat} (hi : i < l.length) (hj : j < l.length) : (swp l i j).Perm l := by
 have h := List.set_set_perm hi hj
 unfold swp
 rw [show l.getD j 0 = l[j] by simp [List.getD, hj], show l.getD i 0 = l[i] by simp [List.getD, hi]]
 exact h
theorem swp_at {l : List Int} {i j k : Nat} (hi : i < l.length) (hj : j < l.length) : (swp l i j).getD k 0 = if j = k then l.getD i 0 else if i = k then l.getD j 0 else l.getD k 0 := by
 unfold swp
 rw [getD_set (by simpa using hj), getD_set hi]
theorem ins_step {L : List Int} {i j : Nat} (hj : 0 < j) (hji : j ≤ i) (hi : i < L.length) (hxy : L.getD j 0 < L.getD (j - 1) 0)
  (h : (∀ p q, p < q → q ≤ i → p ≠ j → q ≠ j → L.getD p 0 ≤ L.getD q 0) ∧ ∀ q, j < q → q ≤ i → L.getD j 0 ≤ L.getD q 0) :
  (∀ p q, p < q → q ≤ i → p ≠ j - 1 → q ≠ j - 1 → (swp L j (j - 1)).getD p 0 ≤ (swp L j (j - 1)).getD q 0) ∧ ∀ q, j - 1 < q → q ≤ i → (swp L j (j - 1)).getD (j - 1) 0 ≤ (swp L j (j - 1)).getD q 0 := by
 have hjl : j < L.length := by omega
 have hjl1 : j - 1 < L.length := by omega
 constructor
 ·intro p q h1 h2 h3 h4
  rw [swp_at (k := p) hjl hjl1, swp_at (k := q) hjl hjl1, if_neg (show ¬ j - 1 = p by omega), if_neg (show ¬ j - 1 = q by omega)]
  by_cases hp : j = p
  ·rw [if_pos hp, if_neg (by omega)]
   exact h.1 (j - 1) q (by omega) h2 (by omega) (by omega)
  ·rw [if_neg hp]
   by_cases hq : j = q
   ·rw [if_pos hq]
    exact h.1 p (j - 1) (by omega) (by omega) (by omega) (by omega)
   ·rw [if_neg hq]
    exact h.1 p q h1 h2 (by omega) (by omega)
 ·intro q h1 h2
  rw [swp_at (k := j - 1) hjl hjl1, swp_at (k := q) hjl hjl1, if_pos rfl, if_neg (show ¬ j - 1 = q by omega)]
  by_cases hq : j = q
  ·rw [if_pos hq]; omega
  ·rw [if_neg hq]; exact h.2 q (by omega) h2
theorem ins_end {L : List Int} {i j : Nat} (hji : j ≤ i) (h0 : j = 0 ∨ L.getD (j - 1) 0 ≤ L.getD j 0)
  (h : (∀ p q, p < q → q ≤ i → p ≠ j → q ≠ j → L.getD p 0 ≤ L.getD q 0) ∧ ∀ q, j < q → q ≤ i → L.getD j 0 ≤ L.getD q 0) : ∀ p q, p < q → q < i + 1 → L.getD p 0 ≤ L.getD q 0 := by
 intro p q h1 h2
 by_cases hp : p = j
 ·subst hp; exact h.2 q h1 (by omega)
 ·by_cases hq : q = j
  ·subst hq
   rcases h0 with h0 | h0
   ·omega
   ·by_cases hpq : p = q - 1
    ·rw [hpq]; exact h0
    ·exact Int.le_trans (h.1 p (q - 1) (by omega) (by omega) hp (by omega)) h0
  ·exact h.1 p q h1 (by omega) hp hq
theorem nanI (x : Int) (w : World) : Calls Tryz.prog 143 #[.int .i64 x] w fun e w' => e = .returned (.bool false) ∧ w' = w := by
 go_enter Tryz.func143, Tryz.ntmps143
 go_wp2_with fail
 go_ret
 exact ⟨rfl, rfl⟩
theorem lessI (x y : Int) (w : World) : Calls Tryz.prog 110 #[.int .i64 x, .int .i64 y] w fun e w' => e = .returned (.bool (decide (x < y))) ∧ w' = w := by
 go_enter Tryz.func110, Tryz.ntmps110
 go_wp2_with (go_at_call 143; refine (nanI _ _).mono ?_; rintro e w1 ⟨rfl, rfl⟩)
 go_ret
 exact ⟨rfl, rfl⟩
set_option maxHeartbeats 4000000 in
theorem insI (g cap : Nat) (l : List Int) (w : World) (hn : l.length ≤ 1000) (hr : Row w g l) :
  Calls Tryz.prog 104 #[.slice (some ⟨g, 0, none⟩) l.length cap, .int .i64 0, .int .i64 l.length] w fun e w' => e = .returned (.tuple #[]) ∧ Only g w w' ∧ ∃ l', l'.Perm l ∧ Row w' g l' ∧ ∀ p q, p < q → q < l.length → l'.getD p 0 ≤ l'.getD q 0 := by
 have HR : Hid (Row w g l) := hr
 clear hr
 go_enter Tryz.func104, Tryz.ntmps104
 go_wp2_with fail
 go_loopw [6] (fun vi wr => ∃ (i : Nat) (L : List Int), vi = .int .i64 i ∧ 0 < i ∧ i ≤ 1001 ∧ Hid (L.Perm l) ∧ Hid (L.length = l.length) ∧ Hid (Row wr g L) ∧ Hid (Only g w wr) ∧ Hid (∀ p q, p < q → q < i → q < l.length → L.getD p 0 ≤ L.getD q 0)) (fun vi _ => 1001 - (intOf vi).toNat)
 case atStart => exact ⟨1, l, by go_num, by omega, by omega, List.Perm.refl _, rfl, HR.out, Only.refl _ _, fun p q h1 h2 _ => by omega⟩
 case round =>
  obtain ⟨i, L, rfl, hi0, hi1, HP, HL, HW, HO, HS⟩ := hrel
  by_cases hlt : i < l.length
  ·go_wp2_with fail
   go_loopw [7] (fun vj wq => ∃ (j : Nat) (L : List Int), vj = .int .i64 j ∧ j ≤ i ∧ Hid (L.Perm l) ∧ Hid (L.length = l.length) ∧ Hid (Row wq g L) ∧ Hid (Only g w wq) ∧ Hid ((∀ p q, p < q → q ≤ i → p ≠ j → q ≠ j → L.getD p 0 ≤ L.getD q 0) ∧ ∀ q, j < q → q ≤ i → L.getD j 0 ≤ L.getD q 0)) (fun vj _ => (intOf vj).toNat)
   case atStart => exact ⟨i, L, rfl, Nat.le_refl _, HP.out, HL.out, HW.out, HO.out, fun p q h1 h2 _ h4 => HS.out p q h1 (by omega) (by omega), fun q h1 h2 => by omega⟩
   case round =>
    obtain ⟨j, L, rfl, hj, HP, HL, HW, HO, HI⟩ := hrel
    by_cases hj0 : 0 < j
    ·have hjl : j < L.length := by have := HL.out; omega
     have hjl1 : j - 1 < L.length := by omega
     obtain ⟨x, HX⟩ : ∃ x : Int, Hid (L.getD j 0 = x) := ⟨_, rfl⟩
     obtain ⟨y, HY⟩ : ∃ y : Int, Hid (L.getD (j - 1) 0 = y) := ⟨_, rfl⟩
     obtain ⟨e1, f1⟩ := HW.out.cell hjl
     obtain ⟨e2, f2⟩ := HW.out.cell hjl1
     rw [HX.out] at e1
     rw [HY.out] at e2
     go_wp2_with fail
     by_cases hxy : x < y
     ·have hd : decide (x < y) = true := by simpa using hxy
      have HJ : Hid (j < L.length ∧ j - 1 < L.length) := ⟨hjl, hjl1⟩
      clear hjl hjl1
      go_quiet (first | (go_at_call 110; refine Calls.quiet_of_same (lessI _ _ _)))
      go_wp2_with fail
      go_region
      all_goals go_wp2_with fail
      all_goals
       refine ⟨⟨j - 1, swp L j (j - 1), by go_num, by omega, (swp_perm HJ.out.1 HJ.out.2).trans HP.out, by show _ = _; rw [swp_len]; exact HL.out, ?_, ((HO.out.drew _).set _ _).set _ _, ins_step hj0 hj (by rw [HL.out]; omega) (by rw [HX.out, HY.out]; exact hxy) HI.out⟩, by simp only [intOf]; omega⟩
       show Row _ _ _
       unfold swp
       rw [HX.out, HY.out]
       exact ((HW.out.drew _).set HJ.out.1 y).set (by simpa using HJ.out.2) x
     ·have hd : decide (x < y) = false := by simpa using hxy
      go_quiet (first | (go_at_call 110; refine Calls.quiet_of_same (lessI _ _ _)))
      go_wp2_with fail
      exact ⟨⟨i + 1, L, by go_num, by omega, by omega, HP.out, HL.out, HW.out.drew _, HO.out.drew _, fun p q h1 h2 _ => ins_end hj (.inr (by rw [HX.out, HY.out]; omega)) HI.out p q h1 h2⟩, by simp only [intOf]; omega⟩
    ·have hd : decide ((0 : Int) < (j : Int)) = false := by simp; omega
     go_wp2_with fail
     go_quiet (first | (go_at_call 110; refine Calls.quiet_of_same (lessI _ _ _)))
     go_wp2_with fail
     exact ⟨⟨i + 1, L, by go_num, by omega, by omega, HP.out, HL.out, HW.out.drew _, HO.out.drew _, fun p q h1 h2 _ => ins_end hj (.inl (by omega)) HI.out p q h1 h2⟩, by simp only [intOf]; omega⟩
  ·go_wp2_with fail
   go_end0
   exact ⟨rfl, HO.out, L, HP.out, HW.out, fun p q h1 h2 => HS.out p q h1 (by omega) h2⟩
set_option maxRecDepth 1000000 in
set_option maxHeartbeats 4000000 in
theorem len64I (x : Int) (w : World) (h0 : 0 ≤ x) (h1 : x ≤ 12) : Calls Tryz.prog 114 #[.int .u64 x] w fun e w' => (∃ y : Int, e = .returned (.int .i64 y)) ∧ w' = w := by
 have hx : x = 0 ∨ x = 1 ∨ x = 2 ∨ x = 3 ∨ x = 4 ∨ x = 5 ∨ x = 6 ∨ x = 7 ∨ x = 8 ∨ x = 9 ∨ x = 10 ∨ x = 11 ∨ x = 12 := by omega
 clear h0 h1
 rcases hx with rfl | rfl | rfl | rfl | rfl | rfl | rfl | rfl | rfl | rfl | rfl | rfl | rfl
 all_goals
  go_enter Tryz.func114, Tryz.ntmps114
  go_wp2_with fail
  go_ret
  exact ⟨⟨_, rfl⟩, rfl⟩
end Go.Proofs.YtgojlnclpebdcaaGreatDoor
namespace Go.Proofs.YtgojlnclpebdcaaGreatDoor
open Go.RowKit
def Sorted (l : List Int) : Prop := ∀ p q, p < q → q < l.length → l.getD p 0 ≤ l.getD q 0
theorem lenI (x : Int) (w : World) (h0 : 0 ≤ x) (h1 : x ≤ 12) : Calls Tryz.prog 72 #[.int .u64 x] w fun e w' => (∃ y : Int, e = .returned (.int .i64 y)) ∧ w' = w := by
 go_enter Tryz.func72, Tryz.ntmps72
 go_wp2_with (go_at_call 114; refine (len64I _ _ h0 h1).mono ?_; rintro e w1 ⟨⟨y, rfl⟩, rfl⟩)
 go_ret
 exact ⟨⟨_, rfl⟩, rfl⟩
theorem insZero (u : Option Addr) (c : Nat) (w : World) : Calls Tryz.prog 104 #[.slice u 0 c, .int .i64 0, .int .i64 0] w fun e w' => e = .returned (.tuple #[]) ∧ w' = w := by
 go_enter Tryz.func104, Tryz.ntmps104
 go_wp2_with fail
 go_loop [6] (fun vi => vi = .int .i64 1) (fun _ => 0)
 case atStart => rfl
 case round =>
  subst hrel
  go_wp2_with fail
  go_end0
  exact ⟨rfl, rfl⟩
def Srtd (base : Nat) (u : Option Addr) (l : List Int) (w w' : World) : Prop := ∃ l', l'.Perm l ∧ Sorted l' ∧ OI w' base u l' ∧ ∃ g, base ≤ g ∧ Only g w w'
theorem insOI (base : Nat) (u : Option Addr) (c : Nat) (l : List Int) (w : World) (hl : l.length ≤ 12) (h : OI w base u l) :
  Calls Tryz.prog 104 #[.slice u l.length c, .int .i64 0, .int .i64 l.length] w fun e w' => e = .returned (.tuple #[]) ∧ Srtd base u l w w' := by
 rcases h.2 with rfl | ⟨g, cur, rfl, hg, hb, hc⟩
 ·refine (insZero u c w).mono ?_
  rintro e w1 ⟨rfl, rfl⟩
  exact ⟨rfl, [], List.Perm.refl _, fun p q _ h => by simp at h, h, base, Nat.le_refl _, Only.refl _ _⟩
 ·refine (insI g c l w (by omega) ⟨cur, hb, hc⟩).mono ?_
  rintro e w1 ⟨rfl, ho, l', hp, ⟨cur', hb', hc'⟩, hs⟩
  have hle := hp.length_eq
  exact ⟨rfl, l', hp, fun p q h1 h2 => hs p q h1 (by omega), ⟨by omega, .inr ⟨g, cur', rfl, hg, hb', hc'⟩⟩, g, hg, ho⟩
set_option maxHeartbeats 4000000 in
theorem pdqI (base : Nat) (u : Option Addr) (c : Nat) (l : List Int) (y : Int) (w : World) (hl : l.length ≤ 12) (h : OI w base u l) :
  Calls Tryz.prog 71 #[.slice u l.length c, .int .i64 0, .int .i64 l.length, .int .i64 y] w fun e w' => e = .returned (.tuple #[]) ∧ Srtd base u l w w' := by
 have HO : Hid (OI w base u l) := h
 have hd : decide ((l.length : Int) ≤ 12) = true := by simp; omega
 clear h
 go_enter Tryz.func71, Tryz.ntmps71
 go_wp2_with fail
 refine wp_loop_rounds 1 ?_
 rw [rounds_succ]
 go_wp2_with (go_at_call 104; refine (insOI base u c l _ hl HO.out).mono ?_; rintro e w1 ⟨rfl, h1⟩; have H1 : Hid _ := h1; clear h1)
 exact bodyPost_ret (v := .tuple #[]) (results_none Tryz.results71 _ _ _) rfl ⟨rfl, H1.out⟩
theorem sortI (base : Nat) (u : Option Addr) (c : Nat) (l : List Int) (w : World) (hl : l.length ≤ 12) (h : OI w base u l) :
  Calls Tryz.prog 40 #[.slice u l.length c] w fun e w' => e = .returned (.tuple #[]) ∧ Srtd base u l w w' := by
 have HO : Hid (OI w base u l) := h
 clear h
 go_enter Tryz.func40, Tryz.ntmps40
 go_wp2_with (first | (go_at_call 72; refine (lenI _ _ (by omega) (by omega)).mono ?_; rintro e w1 ⟨⟨y, rfl⟩, rfl⟩) | (go_at_call 71; refine (pdqI base u c l y _ hl HO.out).mono ?_; rintro e w2 ⟨rfl, h2⟩; have H2 : Hid _ := h2; clear h2))
 go_end0
 exact ⟨rfl, H2.out⟩
end Go.Proofs.YtgojlnclpebdcaaGreatDoor
namespace Go.Proofs.YtgojlnclpebdcaaGreatDoor
open Go.RowKit
end Go.Proofs.YtgojlnclpebdcaaGreatDoor
namespace Go.Proofs.YtgojlnclpebdcaaGreatDoor
open Go.RowKit
theorem below_only {B g : Nat} {w a b : World} (h : Below B w a) (k : Only g a b) (hB : B ≤ g) : Below B w b :=
 ⟨k.os.trans h.os, k.tape.trans h.tape, k.output.trans h.output, by rw [k.size]; exact h.size, fun i hi => (k.other i (by omega)).trans (h.block i hi)⟩
theorem row_own {w : World} {base : Nat} {v : Value} {l : List Int} (hm : l.length ≤ 1048576) (h : w.ownsRow base 2 1 v l.length (l.map (Value.int .i64))) : ∃ u c, v = .slice u l.length c ∧ OI w base u l := by
 rcases h.2 with ⟨hv, hn⟩ | ⟨g, cap, cur, hv, hb, hg, hnc, _, hcs, htk⟩
 ·exact ⟨none, 0, by rw [hv, hn], by omega, .inl (List.length_eq_zero_iff.1 hn)⟩
 ·refine ⟨_, cap, hv, by omega, .inr ⟨g, cur, rfl, hb, hg, fun i hi => ?_⟩⟩
  have e : (cur.toList.take (l.length * 1))[i]? = (l.map (Value.int .i64))[i]? := by rw [htk]
  rw [List.getElem?_take, if_pos (by omega)] at e
  simp [hi] at e
  simpa [List.getD, hi] using e
end Go.Proofs.YtgojlnclpebdcaaGreatDoor
