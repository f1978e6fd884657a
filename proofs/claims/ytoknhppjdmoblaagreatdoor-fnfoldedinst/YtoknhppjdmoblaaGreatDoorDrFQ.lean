import Derived.Test.YtoknhppjdmoblaaGreatDoorGnZ
import Derived.Laws.ResultCell
import Derived.Test.YtoknhppjdmoblaaGreatDoorFdYQ
import Derived.Test.YtoknhppjdmoblaaGreatDoorIns
import Derived.Test.YtoknhppjdmoblaaGreatDoorMemQ
import Derived.Test.YtoknhppjdmoblaaGreatDoorAttQ
namespace Go.Proofs.YtoknhppjdmoblaaGreatDoor
set_option linter.unusedVariables false
set_option linter.unusedSimpArgs false
open Go.RowKit Go.Deep
theorem results_pair {P : Program} {fn : Func} {p u : Tmp} {ty : TypeId} (h : fn.results = #[.cell p ty, .tmp u]) (tmps : Array Value) (w : World) (g : Nat) (cs : Array Value)
  (hp : tmps.getD p undef = .pointer (some ⟨g, 0, none⟩)) (hl : (loadVar ty ⟨g, 0, none⟩).run P w = .ok (.agg cs) w) :
  (results fn tmps).run P w = .ok (.tuple #[.agg cs, tmps.getD u undef]) w := by
 have hp' : tmps[p]?.getD undef = .pointer (some ⟨g, 0, none⟩) := by simpa using hp
 rw [results_cell_tmp h]
 simp [hp', asAddr, hl, Result.andThen]
theorem field_mod (u : Option Addr) (n c : Nat) (w : World) : (Instr.field 54 (.agg #[.slice u n c]) 0).run Tryz.prog w = .ok (.slice u n c) w := by
 simp [Instr.field, go_sem, asAgg]
set_option maxHeartbeats 2000000 in
set_option maxRecDepth 100000 in
theorem drawTypeOf (a0 : Option Addr) (len cap : Nat) (w : World) (hl : len ≤ 1048576) (hc : Code a0 len w.heap.size w) :
  Calls Tryz.prog 33 #[.slice a0 len cap] w fun e w' => ∃ (d : FuncD) (up ub : Option Addr) (cp cb : Nat) (n : Int), e = .returned (.tuple #[.agg #[.slice up d.params.length cp, .int .i64 d.ret, .slice ub d.blocks.length cb], .int .i64 n]) ∧ -9223372036854775808 ≤ n ∧ n ≤ 9223372036854775807 ∧ SmFunc d ∧ 1 ≤ d.blocks.length ∧ IntsAt w' w.heap.size up d.params ∧ BlocksAt w' w.heap.size ub d.blocks ∧ Below w.heap.size w w' := by
 have hb0 : Below w.heap.size w (w.alloc (.cells #[.slice none 0 0, .int .i64 0, .slice none 0 0] 27)) := (Below.refl _ _).alloc (Nat.le_refl _) _
 have hrd := rd_open (cap := cap) hl (hc.below hb0)
 have PM := module_any _ a0 len cap _ hrd
 have hsz : (w.alloc (.cells #[.slice none 0 0, .int .i64 0, .slice none 0 0] 27)).heap.size = w.heap.size + 1 := by simp
 go_enter Tryz.func33, Tryz.ntmps33
 rw [hsz] at PM
 go_wp2_with (first | (go_at_call 22; refine (open_any _ _ _ _).mono ?_; rintro e w0 ⟨rfl, rfl⟩; simp only [hsz]) | (go_at_call 23; refine PM.mono ?_; rintro e w2 ⟨gm, n, cm, rfl, hn1, d, up, ub, cp, cb, r0, r1, r2, hsm, hone, hin, hbl, hrd2, hold, hs2, o1, o2, o3⟩; have hi0 : (0 : Int) < (n : Int) := (by omega); have hfld := field_mod (some ⟨gm, 0, none⟩) n cm w2))
 have hz2 : w.heap.size + 2 ≤ w2.heap.size := by have := hs2; simp at this; omega
 have hRb : w2.heap[w.heap.size]? = some (.cells #[.slice none 0 0, .int .i64 0, .slice none 0 0] 27 (0, 0)) := (hold w.heap.size (by simp; omega) (by omega)).trans (heap_alloc2_old _ _ _)
 have hW2 : ∀ b, b < w.heap.size → w2.heap[b]? = w.heap[b]? := fun b hb => (hold b (by simp; omega) (by omega)).trans ((Below.heap_alloc _ _ _ (by simp; omega)).trans (Below.heap_alloc _ _ _ hb))
 have hTR : w2.heap.size ≠ w.heap.size := by omega
 obtain ⟨wT, hwT⟩ : ∃ wT, wT = w2.alloc (.cells #[.slice up d.params.length cp, .int .i64 d.ret, .slice ub d.blocks.length cb] 27) := ⟨_, rfl⟩
 have hT : wT.heap[w2.heap.size]? = some (.cells #[.slice up d.params.length cp, .int .i64 d.ret, .slice ub d.blocks.length cb] 27 (0, 0)) := by rw [hwT]; exact heap_alloc_last _ _
 have hBT : Below w2.heap.size w2 wT := by rw [hwT]; exact (Below.refl _ _).alloc (Nat.le_refl _) _
 have hrdT : Rd (w.heap.size + 1) a0 len cap wT.drew := rd_keep hrd2 hBT.size fun b hb => hBT.block b (by omega)
 have hsT : wT.heap.size = w2.heap.size + 1 := by rw [hwT]; simp
 rw [← hwT]
 have d0 : wT.drew.cell? ⟨w2.heap.size, 0, none⟩ = some (.slice up d.params.length cp) := (cell_of_heap hT).trans rfl
 have d1 : wT.drew.cell? ⟨w2.heap.size, 1, none⟩ = some (.int .i64 d.ret) := (cell_of_heap hT).trans rfl
 have d2 : wT.drew.cell? ⟨w2.heap.size, 2, none⟩ = some (.slice ub d.blocks.length cb) := (cell_of_heap hT).trans rfl
 have hlo : (((w.alloc (.cells #[.slice none 0 0, .int .i64 0, .slice none 0 0] 27)).alloc (.cells #[.slice a0 len cap, .int .i64 0] 87))).heap.size = w.heap.size + 2 := by simp
 rw [hlo] at hin hbl
 have HI := hin.keep (agree_of_below hBT (w.heap.size + 2))
 have HB := hbl.keep (agree_of_below hBT (w.heap.size + 2))
 clear hwT PM hrd hfld r0 r1 r2 hin hbl
 go_region_held2 (fun w' => w'.cell? ⟨w2.heap.size, 0, none⟩ = some (.slice up d.params.length cp) ∧ w'.cell? ⟨w2.heap.size, 1, none⟩ = some (.int .i64 d.ret) ∧ w'.cell? ⟨w2.heap.size, 2, none⟩ = some (.slice ub d.blocks.length cb)) (first | with_reducible exact ⟨d0, d1, d2⟩ | with_reducible exact ⟨c0, c1, c2⟩ | with_reducible exact ⟨(cell_apart hTR).trans ((cell_apart hTR).trans ((cell_apart hTR).trans c0)), (cell_apart hTR).trans ((cell_apart hTR).trans ((cell_apart hTR).trans c1)), (cell_apart hTR).trans ((cell_apart hTR).trans ((cell_apart hTR).trans c2))⟩) ((go_at_call 28; refine (off_any (w.heap.size + 1) a0 len cap 0 20 _ (by exact hrdT) (by omega) (by omega) (by omega)).mono ?_; rintro e w4 ⟨n4, rfl, hn2, hn3, hr4, hg4⟩; have kT : w4.heap[w2.heap.size]? = _ := (hg4.block w2.heap.size (by show _ < wT.heap.size; omega) (by simp; omega)).trans hT; have kR : w4.heap[w.heap.size]? = _ := (hg4.block w.heap.size (by show _ < wT.heap.size; omega) (by simp)).trans ((hBT.block w.heap.size (by omega)).trans hRb); have c0 : w4.cell? ⟨w2.heap.size, 0, none⟩ = some (.slice up d.params.length cp) := (cell_of_heap kT).trans rfl; have c1 : w4.cell? ⟨w2.heap.size, 1, none⟩ = some (.int .i64 d.ret) := (cell_of_heap kT).trans rfl; have c2 : w4.cell? ⟨w2.heap.size, 2, none⟩ = some (.slice ub d.blocks.length cb) := (cell_of_heap kT).trans rfl; have m0 : w4.cell? ⟨w.heap.size, 0, none⟩ = some (.slice none 0 0) := (cell_of_heap kR).trans rfl; have m1 : w4.cell? ⟨w.heap.size, 1, none⟩ = some (.int .i64 0) := (cell_of_heap kR).trans rfl; have m2 : w4.cell? ⟨w.heap.size, 2, none⟩ = some (.slice none 0 0) := (cell_of_heap kR).trans rfl; have z0 : w4.frozen? ⟨w.heap.size, 0, none⟩ = false := (by simp [World.frozen?, kR]); have z1 : w4.frozen? ⟨w.heap.size, 1, none⟩ = false := (by simp [World.frozen?, kR]); have z2 : w4.frozen? ⟨w.heap.size, 2, none⟩ = false := (by simp [World.frozen?, kR])))
 all_goals
  have hr := heap_set (o := 2) (v := .slice ub d.blocks.length cb) (heap_set (o := 1) (v := .int .i64 d.ret) (heap_set (o := 0) (v := .slice up d.params.length cp) kR))
  go_wp2_with fail
  have hs4 : wT.heap.size ≤ w4.heap.size := hg4.size
  have hset : ∀ b, b ≠ w.heap.size → (((w4.setCell ⟨w.heap.size, 0, none⟩ (.slice up d.params.length cp)).setCell ⟨w.heap.size, 1, none⟩ (.int .i64 d.ret)).setCell ⟨w.heap.size, 2, none⟩ (.slice ub d.blocks.length cb)).heap[b]? = w4.heap[b]? := fun b hb => by rw [Below.heap_setCell _ _ _ _ hb, Below.heap_setCell _ _ _ _ hb, Below.heap_setCell _ _ _ _ hb]
  have hkeep : ∀ b, b < wT.heap.size → b ≠ w.heap.size → b ≠ w.heap.size + 1 → (((w4.setCell ⟨w.heap.size, 0, none⟩ (.slice up d.params.length cp)).setCell ⟨w.heap.size, 1, none⟩ (.int .i64 d.ret)).setCell ⟨w.heap.size, 2, none⟩ (.slice ub d.blocks.length cb)).heap[b]? = wT.heap[b]? := fun b h1 h2 h3 => (hset b h2).trans (hg4.block b h1 (by simpa using h3))
  have hag : Agree (w.heap.size + 2) wT (((w4.setCell ⟨w.heap.size, 0, none⟩ (.slice up d.params.length cp)).setCell ⟨w.heap.size, 1, none⟩ (.int .i64 d.ret)).setCell ⟨w.heap.size, 2, none⟩ (.slice ub d.blocks.length cb)) := ⟨by simp only [World.size_setCell]; exact hs4, fun b h1 h2 => hkeep b h2 (by omega) (by omega)⟩
  refine bodyPost_ret (v := .tuple #[.agg #[.slice up d.params.length cp, .int .i64 d.ret, .slice ub d.blocks.length cb], .int .i64 n4]) ((results_pair Tryz.results33 _ _ w.heap.size _ rfl (run_loadVar_row _ _ 27 _ _ (0, 0) _ hr Tryz.underlying27 rfl (by kernel_rfl))).trans (by rfl)) rfl ⟨d, up, ub, cp, cb, n4, rfl, hn2, hn3, hsm, hone, (HI.keep hag).low (by omega), (HB.keep hag).low (by omega), ?_⟩
  refine ⟨(set_os _ _ _).trans ((set_os _ _ _).trans ((set_os _ _ _).trans (hg4.os.trans (hBT.os.trans o1)))), (set_tape _ _ _).trans ((set_tape _ _ _).trans ((set_tape _ _ _).trans (hg4.tape.trans (hBT.tape.trans o2)))), (set_output _ _ _).trans ((set_output _ _ _).trans ((set_output _ _ _).trans (hg4.output.trans (hBT.output.trans o3)))), by simp only [World.size_setCell]; omega, fun b hb => ?_⟩
  exact (hkeep b (by omega) (by omega) (by omega)).trans ((hBT.block b (by omega)).trans (hW2 b hb))
end Go.Proofs.YtoknhppjdmoblaaGreatDoor
namespace Go.Proofs.YtoknhppjdmoblaaGreatDoor
set_option linter.unusedVariables false
set_option linter.unusedSimpArgs false
open Go.RowKit Go.Deep
set_option maxHeartbeats 2000000 in
set_option maxRecDepth 100000 in
theorem sameInstL (lo lo' : Nat) (d : InstD) (u : Option Addr) (c : Nat) (v : Option Addr) (q : Nat) (w : World) (hl : d.args.length ≤ 1048576) (h : IntsAt w lo u d.args) (h' : IntsAt w lo' v d.args) :
  Calls Tryz.prog 11 #[.agg #[.int .i64 d.op, .int .i64 d.w, .int .i64 d.a, .int .i64 d.b, .int .i64 d.c, .int .i64 d.imm, .slice u d.args.length c], .agg #[.int .i64 d.op, .int .i64 d.w, .int .i64 d.a, .int .i64 d.b, .int .i64 d.c, .int .i64 d.imm, .slice v d.args.length q]] w fun e w' => e = .returned (.bool true) ∧ Below w.heap.size w w' := by
 have B1 : Below w.heap.size w ((w.alloc (.cells #[.int .i64 d.op, .int .i64 d.w, .int .i64 d.a, .int .i64 d.b, .int .i64 d.c, .int .i64 d.imm, .slice u d.args.length c] 29)).alloc (.cells #[.int .i64 d.op, .int .i64 d.w, .int .i64 d.a, .int .i64 d.b, .int .i64 d.c, .int .i64 d.imm, .slice v d.args.length q] 29)) := ((Below.refl _ _).alloc (Nat.le_refl _) _).alloc (by simp) _
 have P := sameL lo lo' u v c q d.args _ hl (h.keep (agree_of_below B1 _)) (h'.keep (agree_of_below B1 _))
 have HB : Hid (Below w.heap.size w _) := B1
 clear B1 h h'
 go_enter Tryz.func11, Tryz.ntmps11
 go_wp2_with fail
 refine P.mono ?_
 rintro e w1 ⟨rfl, n, rfl⟩
 go_wp2_with fail
 go_ret
 exact ⟨rfl, below_drewN HB.out n⟩
theorem near_w0 {hi n : Int} (hlh : 0 ≤ hi) (hhi : hi ≤ 10000000000000) : 0 ≤ wrap64 (0 + wrap64 (n / 2 % (hi - 0 + 1))) ∧ wrap64 (0 + wrap64 (n / 2 % (hi - 0 + 1))) ≤ hi := by
 have h0 := Int.emod_nonneg (n / 2) (b := hi - 0 + 1) (by omega)
 have h1 := Int.emod_lt_of_pos (n / 2) (b := hi - 0 + 1) (by omega)
 generalize n / 2 % (hi - 0 + 1) = m at h0 h1
 unfold wrap64; omega
set_option maxHeartbeats 400000 in
theorem near_w (g : Nat) (a0 : Option Addr) (len cap : Nat) (hi : Int) (w : World) (h : Rd g a0 len cap w) (hlh : -1 ≤ hi) (hhi : hi ≤ 10000000000000) :
  Calls Tryz.prog 51 #[.pointer (some ⟨g, 0, none⟩), .int .i64 0, .int .i64 hi] w fun e w' => ∃ n : Int, e = .returned (.int .i64 n) ∧ -1 ≤ n ∧ n ≤ 10000000000000 ∧ Rd g a0 len cap w' ∧ w.grownBy w' (some g) := by
 by_cases hc : hi < 0
 ·go_enter Tryz.func51, Tryz.ntmps51
  go_wp2_with (first | (go_at_call 24; refine (below_any g a0 len cap _ _ (by assumption)).mono ?_; rintro e w1 ⟨n1, rfl, hn0, hn1, hr1, hg1⟩))
  all_goals
   go_ret
   exact ⟨_, rfl, by omega, by omega, by assumption, by assumption⟩
 ·have hc0 : 0 ≤ hi := by omega
  go_enter Tryz.func51, Tryz.ntmps51
  go_wp2_with (first | (go_at_call 24; refine (below_any g a0 len cap _ _ (by assumption)).mono ?_; rintro e w1 ⟨n1, rfl, hn0, hn1, hr1, hg1⟩) | (go_at_call 91; refine (word_any g a0 len cap _ (by assumption)).mono ?_; rintro e w2 ⟨n2, rfl, hm0, hm1, hr2, hg2⟩))
  ·go_ret
   exact ⟨_, rfl, by omega, by omega, by assumption, by assumption⟩
  ·go_ret
   exact ⟨_, rfl, by omega, by omega, by assumption, by assumption⟩
  ·go_ret
   first
    | exact ⟨_, rfl, by have := (near_w0 (n := n2) hc0 hhi).1; omega, by have := (near_w0 (n := n2) hc0 hhi).2; omega, by assumption, grown_trans (by assumption) (by assumption)⟩
    | (refine ⟨_, rfl, ?_, ?_, by assumption, grown_trans (by assumption) (by assumption)⟩ <;> (have := near_w0 (n := n2) hc0 hhi; simp at this; simp; omega))
set_option maxHeartbeats 400000 in
theorem off_w (g : Nat) (a0 : Option Addr) (len cap : Nat) (hi : Int) (w : World) (h : Rd g a0 len cap w) (hlh : -1 ≤ hi) (hhi : hi ≤ 10000000000000) :
  Calls Tryz.prog 28 #[.pointer (some ⟨g, 0, none⟩), .int .i64 0, .int .i64 hi] w fun e w' => ∃ n : Int, e = .returned (.int .i64 n) ∧ Rd g a0 len cap w' ∧ w.grownBy w' (some g) := by
 go_enter Tryz.func28, Tryz.ntmps28
 go_wp2_with (first | (go_at_call 25; refine (once_any g a0 len cap _ _ (by assumption) (by omega)).mono ?_; rintro e w1 ⟨b1, rfl, hr1, hg1⟩; have hlt := hr1.lt) | (go_at_call 51; refine (near_w g a0 len cap _ _ (by assumption) (by assumption) (by assumption)).mono ?_; rintro e w2 ⟨n2, rfl, hm0, hm1, hr2, hg2⟩) | (go_at_call 24; refine (below_any g a0 len cap _ _ (Rd.alloc (by assumption) _)).mono ?_; rintro e w2 ⟨n1, rfl, hn0, hn1, hr2, hg2⟩; have hn2 : n1 < 4 := (by omega); obtain ⟨z, hz, hzc⟩ := four hlt hg2 hn0 hn2))
 ·go_ret
  exact ⟨_, rfl, by assumption, grown_trans (grown_trans hg1 (World.grownBy_alloc _ _ _)) (by assumption)⟩
 ·go_ret
  exact ⟨_, rfl, by assumption, grown_trans (by assumption) (by assumption)⟩
theorem grown_drw {w w1 : World} {r : Option Nat} (k : w.grownBy w1 r) : w.grownBy w1.drew r := ⟨k.os, k.tape, k.output, k.size, k.block⟩
theorem rd_drw {g : Nat} {a0 : Option Addr} {len cap : Nat} {w : World} (h : Rd g a0 len cap w) : Rd g a0 len cap w.drew := h
structure FiS (W : World) (R G : Nat) (a0 : Option Addr) (len cap : Nat) (V : World) : Prop where
 rd : Rd G a0 len cap V
 code : Code a0 len R V
 blk : ∀ b, b < W.heap.size → b ≠ G → b ≠ R → b ≠ R + 1 → V.heap[b]? = W.heap[b]?
 os : V.os = W.os
 tape : V.tape = W.tape
 output : V.output = W.output
 size : W.heap.size ≤ V.heap.size
theorem code_part {a0 : Option Addr} {len R : Nat} {w w' : World} (h : Code a0 len R w) (hk : ∀ b, b < R → w'.heap[b]? = w.heap[b]?) : Code a0 len R w' := by
 rcases h with h | ⟨b, off, ha, hb, hc⟩
 ·exact .inl h
 ·refine .inr ⟨b, off, ha, hb, fun i hi => ?_⟩
  obtain ⟨n, h0, h1, h2⟩ := hc i hi
  exact ⟨n, h0, h1, by rw [cell_blk (hk b hb)]; exact h2⟩
theorem FiS.start {W V : World} {R G len cap : Nat} {a0 : Option Addr} (hr : Rd G a0 len cap W) (hc : Code a0 len R W) : FiS W R G a0 len cap W :=
 ⟨hr, hc, fun _ _ _ _ _ => rfl, rfl, rfl, rfl, Nat.le_refl _⟩
theorem FiS.drew {W V : World} {R G len cap : Nat} {a0 : Option Addr} (h : FiS W R G a0 len cap V) : FiS W R G a0 len cap V.drew :=
 ⟨rd_drw h.rd, code_part h.code fun _ _ => rfl, h.blk, h.os, h.tape, h.output, h.size⟩
theorem FiS.grown {W V V' : World} {R G len cap : Nat} {a0 : Option Addr} (h : FiS W R G a0 len cap V) (hR : R + 2 ≤ G) (hr : Rd G a0 len cap V') (k : V.grownBy V' (some G)) : FiS W R G a0 len cap V' :=
 ⟨hr, code_part h.code fun b hb => k.block b (by have := h.rd.lt; omega) (by intro e; have := Option.some.inj e; omega), fun b h1 h2 h3 h4 => (k.block b (by have := h.size; omega) (by intro e; exact h2 (Option.some.inj e))).trans (h.blk b h1 h2 h3 h4), k.os.trans h.os, k.tape.trans h.tape, k.output.trans h.output, Nat.le_trans h.size k.size⟩
theorem FiS.set {W V : World} {R G len cap b o : Nat} {a0 : Option Addr} {x : Value} (h : FiS W R G a0 len cap V) (hR : R + 2 ≤ G) (hb : b = R ∨ b = R + 1) : FiS W R G a0 len cap (V.setCell ⟨b, o, none⟩ x) := by
 have hs : ∀ c, c ≠ b → (V.setCell ⟨b, o, none⟩ x).heap[c]? = V.heap[c]? := fun c hc => Below.heap_setCell _ _ _ _ hc
 obtain ⟨g1, g2, g3, p, g4, g5⟩ := h.rd
 have hc : Code a0 len R (V.setCell ⟨b, o, none⟩ x) := code_part h.code fun c hc => hs c (by omega)
 refine ⟨⟨by simp only [World.size_setCell]; exact g1, g2, ?_, p, g4, (hs G (by omega)).trans g5⟩, hc, fun c h1 h2 h3 h4 => (hs c (by omega)).trans (h.blk c h1 h2 h3 h4), (set_os _ _ _).trans h.os, (set_tape _ _ _).trans h.tape, (set_output _ _ _).trans h.output, by simp only [World.size_setCell]; exact h.size⟩
 rcases hc with h | ⟨b, off, ha, hb, hc⟩
 ·exact .inl h
 ·exact .inr ⟨b, off, ha, by omega, hc⟩
theorem at_grown {V V' : World} {R G : Nat} {cs : Array Value} {T : TypeId} (h : At V R cs T) (k : V.grownBy V' (some G)) (hn : R ≠ G) : At V' R cs T :=
 (k.block R h.lt (by intro e; exact hn (Option.some.inj e))).trans h
theorem at_off {V : World} {R b o : Nat} {x : Value} {cs : Array Value} {T : TypeId} (h : At V R cs T) (hn : R ≠ b) : At (V.setCell ⟨b, o, none⟩ x) R cs T :=
 (Below.heap_setCell _ _ _ _ hn).trans h
end Go.Proofs.YtoknhppjdmoblaaGreatDoor
