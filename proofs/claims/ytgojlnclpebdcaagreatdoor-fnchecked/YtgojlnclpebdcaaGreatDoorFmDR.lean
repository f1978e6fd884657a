import Derived.Test.YtgojlnclpebdcaaGreatDoorFmAR
import Derived.Deep.RegionHeld2
namespace Go.Proofs.YtgojlnclpebdcaaGreatDoor
open Go.RowKit
set_option linter.unusedVariables false
structure Room (d : InstD) (u : Option Addr) (q : Nat) (ids blocks funcs : Int) (w w1 : World) : Prop where
 cells : w1.cell? ⟨w.heap.size, 0, none⟩ = some (.int .i64 d.op) ∧ w1.cell? ⟨w.heap.size, 1, none⟩ = some (.int .i64 d.w) ∧ w1.cell? ⟨w.heap.size, 2, none⟩ = some (.int .i64 d.a) ∧ w1.cell? ⟨w.heap.size, 3, none⟩ = some (.int .i64 d.b) ∧ w1.cell? ⟨w.heap.size, 4, none⟩ = some (.int .i64 d.c) ∧ w1.cell? ⟨w.heap.size, 5, none⟩ = some (.int .i64 d.imm) ∧ w1.cell? ⟨w.heap.size, 6, none⟩ = some (.slice u d.args.length q) ∧ w1.cell? ⟨w.heap.size + 1, 0, none⟩ = some (.int .i64 ids) ∧ w1.cell? ⟨w.heap.size + 1, 1, none⟩ = some (.int .i64 blocks) ∧ w1.cell? ⟨w.heap.size + 1, 2, none⟩ = some (.int .i64 funcs)
 below : Below w.heap.size w w1
 size : w.heap.size + 2 ≤ w1.heap.size
theorem Room.keep {d : InstD} {u : Option Addr} {q : Nat} {ids blocks funcs : Int} {w w1 w2 : World} (h : Room d u q ids blocks funcs w w1) (k : Below w1.heap.size w1 w2) : Room d u q ids blocks funcs w w2 := by
 have hz := h.size
 have e0 : ∀ o, w2.cell? ⟨w.heap.size, o, none⟩ = w1.cell? ⟨w.heap.size, o, none⟩ := fun o => cell_block (k.block _ (by omega))
 have e1 : ∀ o, w2.cell? ⟨w.heap.size + 1, o, none⟩ = w1.cell? ⟨w.heap.size + 1, o, none⟩ := fun o => cell_block (k.block _ (by omega))
 refine ⟨?_, h.below.trans (k.mono (by omega)), Nat.le_trans hz k.size⟩
 simp only [e0, e1]
 exact h.cells
theorem Room.start {d : InstD} {u : Option Addr} {q : Nat} {ids blocks funcs : Int} {w w1 : World} (k : Below ((w.alloc (.cells #[.int .i64 d.op, .int .i64 d.w, .int .i64 d.a, .int .i64 d.b, .int .i64 d.c, .int .i64 d.imm, .slice u d.args.length q] 54)).alloc (.cells #[.int .i64 ids, .int .i64 blocks, .int .i64 funcs] 111)).heap.size ((w.alloc (.cells #[.int .i64 d.op, .int .i64 d.w, .int .i64 d.a, .int .i64 d.b, .int .i64 d.c, .int .i64 d.imm, .slice u d.args.length q] 54)).alloc (.cells #[.int .i64 ids, .int .i64 blocks, .int .i64 funcs] 111)) w1) : Room d u q ids blocks funcs w w1 := by
 refine Room.keep (w1 := (w.alloc (.cells #[.int .i64 d.op, .int .i64 d.w, .int .i64 d.a, .int .i64 d.b, .int .i64 d.c, .int .i64 d.imm, .slice u d.args.length q] 54)).alloc (.cells #[.int .i64 ids, .int .i64 blocks, .int .i64 funcs] 111)) ⟨?_, ((Below.refl _ _).alloc (Nat.le_refl _) _).alloc (by simp) _, by simp⟩ k
 have hb := (Below.heap_alloc _ (.cells #[.int .i64 ids, .int .i64 blocks, .int .i64 funcs] 111) _ (by simp)).trans (heap_alloc_last w (.cells #[.int .i64 d.op, .int .i64 d.w, .int .i64 d.a, .int .i64 d.b, .int .i64 d.c, .int .i64 d.imm, .slice u d.args.length q] 54))
 have hl := heap_alloc_last (w.alloc (.cells #[.int .i64 d.op, .int .i64 d.w, .int .i64 d.a, .int .i64 d.b, .int .i64 d.c, .int .i64 d.imm, .slice u d.args.length q] 54)) (.cells #[.int .i64 ids, .int .i64 blocks, .int .i64 funcs] 111)
 have e : (w.alloc (.cells #[.int .i64 d.op, .int .i64 d.w, .int .i64 d.a, .int .i64 d.b, .int .i64 d.c, .int .i64 d.imm, .slice u d.args.length q] 54)).heap.size = w.heap.size + 1 := by simp
 rw [e] at hl
 exact ⟨(cell_of_heap hb).trans rfl, (cell_of_heap hb).trans rfl, (cell_of_heap hb).trans rfl, (cell_of_heap hb).trans rfl, (cell_of_heap hb).trans rfl, (cell_of_heap hb).trans rfl, (cell_of_heap hb).trans rfl, (cell_of_heap hl).trans rfl, (cell_of_heap hl).trans rfl, (cell_of_heap hl).trans rfl⟩
theorem drop_drew {w w' : World} (h : Below w.drew.heap.size w.drew w') : Below w.heap.size w w' := ⟨h.os, h.tape, h.output, h.size, h.block⟩
set_option maxHeartbeats 2000000 in
set_option maxRecDepth 100000 in
theorem instShI_w (lo : Nat) (d : InstD) (u : Option Addr) (q : Nat) (ids blocks funcs : Int) (w : World) (hm : d.args.length ≤ 1048576) (hk : IntsAt w lo u d.args) (hw : wB d = false) :
  Calls Tryz.prog 101 #[.agg #[.int .i64 d.op, .int .i64 d.w, .int .i64 d.a, .int .i64 d.b, .int .i64 d.c, .int .i64 d.imm, .slice u d.args.length q], .agg #[.int .i64 ids, .int .i64 blocks, .int .i64 funcs]] w fun e w' => e = .returned (.bool (instB d ids funcs)) ∧ Below w.heap.size w w' := by
 obtain ⟨T, v, f, D⟩ := disp d u q
 have M := D.meth
 have C := fun lo w => D.con lo w hm
 have F := D.call
 have W := fun w => wI d u q w
 have N := fun w => immI d u q ids blocks funcs w
 have G := fun lo w => fldI lo d u q w hm
 have K := fun w => kind_any d u q w
 rw [D.kv] at W N G K
 rw [hw] at W
 have hol := opsD_len d hm
 have HR : Hid (false = instB d ids funcs) := by show _ = _; simp [instB, hw]
 clear D
 go_enter Tryz.func101, Tryz.ntmps101
 go_wp2_with fail
 refine (K _).mono ?_
 rintro e w1 ⟨rfl, hb1⟩
 have r1 := Room.start hb1
 clear hb1
 go_wp2_with fail
 refine wp_region_abv (fun v => Below w1.heap.size w1 v) (by kernel_rfl) (by kernel_rfl) (drew_below (Below.refl _ _)) ?_
 have hne : Nonempty (Abv (fun v => Below w1.heap.size w1 v)) := abv_ne (Below.refl _ _)
 have z0 := fun x : Abv (fun v => Below w1.heap.size w1 v) => (r1.keep x.ok).cells.1
 have z1 := fun x : Abv (fun v => Below w1.heap.size w1 v) => (r1.keep x.ok).cells.2.1
 have z2 := fun x : Abv (fun v => Below w1.heap.size w1 v) => (r1.keep x.ok).cells.2.2.1
 have z3 := fun x : Abv (fun v => Below w1.heap.size w1 v) => (r1.keep x.ok).cells.2.2.2.1
 have z4 := fun x : Abv (fun v => Below w1.heap.size w1 v) => (r1.keep x.ok).cells.2.2.2.2.1
 have z5 := fun x : Abv (fun v => Below w1.heap.size w1 v) => (r1.keep x.ok).cells.2.2.2.2.2.1
 have z6 := fun x : Abv (fun v => Below w1.heap.size w1 v) => (r1.keep x.ok).cells.2.2.2.2.2.2.1
 have z7 := fun x : Abv (fun v => Below w1.heap.size w1 v) => (r1.keep x.ok).cells.2.2.2.2.2.2.2.1
 have z8 := fun x : Abv (fun v => Below w1.heap.size w1 v) => (r1.keep x.ok).cells.2.2.2.2.2.2.2.2.1
 have z9 := fun x : Abv (fun v => Below w1.heap.size w1 v) => (r1.keep x.ok).cells.2.2.2.2.2.2.2.2.2
 repeat (go_big_quiet_step ((go_at_call 134; exact abv_call _ (W _))))
 refine wpQuiet_nil ?_
 rintro w9 ⟨⟨w9, h9⟩, rfl⟩
 have r9 := r1.keep h9
 clear hne z0 z1 z2 z3 z4 z5 z6 z7 z8 z9
 go_wp2_with fail
 go_ret
 exact ⟨ret_bool HR.out, r9.below⟩
set_option maxHeartbeats 2000000 in
set_option maxRecDepth 100000 in
theorem instShI_i (lo : Nat) (d : InstD) (u : Option Addr) (q : Nat) (ids blocks funcs : Int) (w : World) (hm : d.args.length ≤ 1048576) (hk : IntsAt w lo u d.args) (hw : wB d = true) (hi : iB d funcs = false) :
  Calls Tryz.prog 101 #[.agg #[.int .i64 d.op, .int .i64 d.w, .int .i64 d.a, .int .i64 d.b, .int .i64 d.c, .int .i64 d.imm, .slice u d.args.length q], .agg #[.int .i64 ids, .int .i64 blocks, .int .i64 funcs]] w fun e w' => e = .returned (.bool (instB d ids funcs)) ∧ Below w.heap.size w w' := by
 obtain ⟨T, v, f, D⟩ := disp d u q
 have M := D.meth
 have C := fun lo w => D.con lo w hm
 have F := D.call
 have W := fun w => wI d u q w
 have N := fun w => immI d u q ids blocks funcs w
 have G := fun lo w => fldI lo d u q w hm
 have K := fun w => kind_any d u q w
 rw [D.kv] at W N G K
 rw [hw] at W
 rw [hi] at N
 have hol := opsD_len d hm
 have HR : Hid (false = instB d ids funcs) := by show _ = _; simp [instB, hw, hi]
 clear D
 go_enter Tryz.func101, Tryz.ntmps101
 go_wp2_with fail
 refine (K _).mono ?_
 rintro e w1 ⟨rfl, hb1⟩
 have r1 := Room.start hb1
 clear hb1
 go_wp2_with fail
 refine wp_region_abv (fun v => Below w1.heap.size w1 v) (by kernel_rfl) (by kernel_rfl) (drew_below (Below.refl _ _)) ?_
 have hne : Nonempty (Abv (fun v => Below w1.heap.size w1 v)) := abv_ne (Below.refl _ _)
 have z0 := fun x : Abv (fun v => Below w1.heap.size w1 v) => (r1.keep x.ok).cells.1
 have z1 := fun x : Abv (fun v => Below w1.heap.size w1 v) => (r1.keep x.ok).cells.2.1
 have z2 := fun x : Abv (fun v => Below w1.heap.size w1 v) => (r1.keep x.ok).cells.2.2.1
 have z3 := fun x : Abv (fun v => Below w1.heap.size w1 v) => (r1.keep x.ok).cells.2.2.2.1
 have z4 := fun x : Abv (fun v => Below w1.heap.size w1 v) => (r1.keep x.ok).cells.2.2.2.2.1
 have z5 := fun x : Abv (fun v => Below w1.heap.size w1 v) => (r1.keep x.ok).cells.2.2.2.2.2.1
 have z6 := fun x : Abv (fun v => Below w1.heap.size w1 v) => (r1.keep x.ok).cells.2.2.2.2.2.2.1
 have z7 := fun x : Abv (fun v => Below w1.heap.size w1 v) => (r1.keep x.ok).cells.2.2.2.2.2.2.2.1
 have z8 := fun x : Abv (fun v => Below w1.heap.size w1 v) => (r1.keep x.ok).cells.2.2.2.2.2.2.2.2.1
 have z9 := fun x : Abv (fun v => Below w1.heap.size w1 v) => (r1.keep x.ok).cells.2.2.2.2.2.2.2.2.2
 repeat (go_big_quiet_step ((first | (go_at_call 134; exact abv_call _ (W _)) | (go_at_call 135; exact abv_call _ (N _)))))
 refine wpQuiet_nil ?_
 rintro w9 ⟨⟨w9, h9⟩, rfl⟩
 have r9 := r1.keep h9
 clear hne z0 z1 z2 z3 z4 z5 z6 z7 z8 z9
 go_wp2_with fail
 go_ret
 exact ⟨ret_bool HR.out, r9.below⟩
set_option maxHeartbeats 2000000 in
set_option maxRecDepth 100000 in
theorem instShI_f (lo : Nat) (d : InstD) (u : Option Addr) (q : Nat) (ids blocks funcs : Int) (w : World) (hm : d.args.length ≤ 1048576) (hk : IntsAt w lo u d.args) (hw : wB d = true) (hi : iB d funcs = true) (hf : fB d = false) :
  Calls Tryz.prog 101 #[.agg #[.int .i64 d.op, .int .i64 d.w, .int .i64 d.a, .int .i64 d.b, .int .i64 d.c, .int .i64 d.imm, .slice u d.args.length q], .agg #[.int .i64 ids, .int .i64 blocks, .int .i64 funcs]] w fun e w' => e = .returned (.bool (instB d ids funcs)) ∧ Below w.heap.size w w' := by
 obtain ⟨T, v, f, D⟩ := disp d u q
 have M := D.meth
 have C := fun lo w => D.con lo w hm
 have F := D.call
 have W := fun w => wI d u q w
 have N := fun w => immI d u q ids blocks funcs w
 have G := fun lo w => fldI lo d u q w hm
 have K := fun w => kind_any d u q w
 rw [D.kv] at W N G K
 rw [hw] at W
 rw [hi] at N
 rw [hf] at G
 have hol := opsD_len d hm
 have HR : Hid (false = instB d ids funcs) := by show _ = _; simp [instB, hw, hi, hf]
 clear D
 go_enter Tryz.func101, Tryz.ntmps101
 go_wp2_with fail
 refine (K _).mono ?_
 rintro e w1 ⟨rfl, hb1⟩
 have r1 := Room.start hb1
 clear hb1
 go_wp2_with fail
 refine wp_region_abv (fun v => Below w1.heap.size w1 v) (by kernel_rfl) (by kernel_rfl) (drew_below (Below.refl _ _)) ?_
 have hne : Nonempty (Abv (fun v => Below w1.heap.size w1 v)) := abv_ne (Below.refl _ _)
 have z0 := fun x : Abv (fun v => Below w1.heap.size w1 v) => (r1.keep x.ok).cells.1
 have z1 := fun x : Abv (fun v => Below w1.heap.size w1 v) => (r1.keep x.ok).cells.2.1
 have z2 := fun x : Abv (fun v => Below w1.heap.size w1 v) => (r1.keep x.ok).cells.2.2.1
 have z3 := fun x : Abv (fun v => Below w1.heap.size w1 v) => (r1.keep x.ok).cells.2.2.2.1
 have z4 := fun x : Abv (fun v => Below w1.heap.size w1 v) => (r1.keep x.ok).cells.2.2.2.2.1
 have z5 := fun x : Abv (fun v => Below w1.heap.size w1 v) => (r1.keep x.ok).cells.2.2.2.2.2.1
 have z6 := fun x : Abv (fun v => Below w1.heap.size w1 v) => (r1.keep x.ok).cells.2.2.2.2.2.2.1
 have z7 := fun x : Abv (fun v => Below w1.heap.size w1 v) => (r1.keep x.ok).cells.2.2.2.2.2.2.2.1
 have z8 := fun x : Abv (fun v => Below w1.heap.size w1 v) => (r1.keep x.ok).cells.2.2.2.2.2.2.2.2.1
 have z9 := fun x : Abv (fun v => Below w1.heap.size w1 v) => (r1.keep x.ok).cells.2.2.2.2.2.2.2.2.2
 repeat (go_big_quiet_step ((first | (go_at_call 134; exact abv_call _ (W _)) | (go_at_call 135; exact abv_call _ (N _)) | (go_at_call 136; exact abv_call _ (G lo _ (hk.keep (agree_of_below (r1.keep (Abv.ok _)).below _)))))))
 refine wpQuiet_nil ?_
 rintro w9 ⟨⟨w9, h9⟩, rfl⟩
 have r9 := r1.keep h9
 clear hne z0 z1 z2 z3 z4 z5 z6 z7 z8 z9
 go_wp2_with fail
 go_ret
 exact ⟨ret_bool HR.out, r9.below⟩
set_option maxHeartbeats 2000000 in
set_option maxRecDepth 100000 in
theorem instShI_b (lo : Nat) (d : InstD) (u : Option Addr) (q : Nat) (ids blocks funcs : Int) (w : World) (hm : d.args.length ≤ 1048576) (hk : IntsAt w lo u d.args) (hw : wB d = true) (hi : iB d funcs = true) (hf : fB d = true) :
  Calls Tryz.prog 101 #[.agg #[.int .i64 d.op, .int .i64 d.w, .int .i64 d.a, .int .i64 d.b, .int .i64 d.c, .int .i64 d.imm, .slice u d.args.length q], .agg #[.int .i64 ids, .int .i64 blocks, .int .i64 funcs]] w fun e w' => e = .returned (.bool (instB d ids funcs)) ∧ Below w.heap.size w w' := by
 obtain ⟨T, v, f, D⟩ := disp d u q
 have M := D.meth
 have C := fun lo w => D.con lo w hm
 have F := D.call
 have W := fun w => wI d u q w
 have N := fun w => immI d u q ids blocks funcs w
 have G := fun lo w => fldI lo d u q w hm
 have K := fun w => kind_any d u q w
 rw [D.kv] at W N G K
 rw [hw] at W
 rw [hi] at N
 rw [hf] at G
 have hol := opsD_len d hm
 have HR : Hid (((opsD d).all fun n => belowB n ids) = instB d ids funcs) := by show _ = _; simp [instB, hw, hi, hf]
 clear D
 go_enter Tryz.func101, Tryz.ntmps101
 go_wp2_with fail
 refine (K _).mono ?_
 rintro e w1 ⟨rfl, hb1⟩
 have r1 := Room.start hb1
 have s1 := (r1.keep (Below.refl _ _).drew).cells
 clear hb1
 go_wp2_with fail
 go_region_held2 (fun w' => w'.cell? ⟨w.heap.size, 0, none⟩ = some (.int .i64 d.op) ∧ w'.cell? ⟨w.heap.size, 1, none⟩ = some (.int .i64 d.w) ∧ w'.cell? ⟨w.heap.size, 2, none⟩ = some (.int .i64 d.a) ∧ w'.cell? ⟨w.heap.size, 3, none⟩ = some (.int .i64 d.b) ∧ w'.cell? ⟨w.heap.size, 4, none⟩ = some (.int .i64 d.c) ∧ w'.cell? ⟨w.heap.size, 5, none⟩ = some (.int .i64 d.imm) ∧ w'.cell? ⟨w.heap.size, 6, none⟩ = some (.slice u d.args.length q) ∧ w'.cell? ⟨w.heap.size + 1, 0, none⟩ = some (.int .i64 ids) ∧ w'.cell? ⟨w.heap.size + 1, 1, none⟩ = some (.int .i64 blocks) ∧ w'.cell? ⟨w.heap.size + 1, 2, none⟩ = some (.int .i64 funcs)) (first | with_reducible exact s1 | with_reducible exact s2 | with_reducible exact s3 | with_reducible exact s4 | with_reducible exact s5) (first | (go_at_call 134; refine (W _).mono ?_; rintro e w2 ⟨rfl, hb2⟩; have r2 := r1.keep (drop_drew hb2); have s2 := r2.cells) | (go_at_call 135; refine (N _).mono ?_; rintro e w3 ⟨rfl, hb3⟩; have r3 := r2.keep hb3; have s3 := r3.cells) | (go_at_call 136; refine (G lo _ (by exact hk.keep (agree_of_below r3.below _))).mono ?_; rintro e w4 ⟨rfl, hb4⟩; have r4 := r3.keep hb4; have s4 := r4.cells) | (go_at_call 100; refine (allBelowI _ _ _ _ _ _ n5.ints).mono ?_; rintro e w6 ⟨rfl, rfl⟩) | (refine (C lo _ (by exact hk.keep (agree_of_below r4.below _))).mono ?_; rintro e w5 ⟨a5, c5, rfl, n5, hb5⟩; have r5 := r4.keep hb5; have s5 := r5.cells))
 all_goals
  go_wp2_with fail
  go_ret
  exact ⟨ret_bool HR.out, r5.below⟩
theorem instShI (lo : Nat) (d : InstD) (u : Option Addr) (q : Nat) (ids blocks funcs : Int) (w : World) (hm : d.args.length ≤ 1048576) (hk : IntsAt w lo u d.args) :
  Calls Tryz.prog 101 #[.agg #[.int .i64 d.op, .int .i64 d.w, .int .i64 d.a, .int .i64 d.b, .int .i64 d.c, .int .i64 d.imm, .slice u d.args.length q], .agg #[.int .i64 ids, .int .i64 blocks, .int .i64 funcs]] w fun e w' => e = .returned (.bool (instB d ids funcs)) ∧ Below w.heap.size w w' := by
 cases hw : wB d with
 | false => exact instShI_w lo d u q ids blocks funcs w hm hk hw
 | true =>
  cases hi : iB d funcs with
  | false => exact instShI_i lo d u q ids blocks funcs w hm hk hw hi
  | true =>
   cases hf : fB d with
   | false => exact instShI_f lo d u q ids blocks funcs w hm hk hw hi hf
   | true => exact instShI_b lo d u q ids blocks funcs w hm hk hw hi hf
end Go.Proofs.YtgojlnclpebdcaaGreatDoor
namespace Go.Proofs.YtgojlnclpebdcaaGreatDoor
open Go.RowKit
set_option linter.unusedVariables false
def phiB (ids : Int) (p : PhiD) : Bool := widthB p.w && decide (p.ins.length ≤ 10) && p.ins.all fun n => belowB n ids
def blockB (ids blocks funcs : Int) (b : BlockD) : Bool := b.phis.all (phiB ids) && b.insts.all (fun i => instB i ids funcs) && termB b.term ids blocks
def funcB (funcs : Int) (d : FuncD) : Bool := decide (d.params.length ≤ 4) && d.params.all widthB && widthB d.ret && decide (1 ≤ d.blocks.length) && decide (d.blocks.length ≤ 10) && decide (cntF d ≤ 60) && d.blocks.all (blockB (cntF d) d.blocks.length funcs)
def modB (l : List FuncD) : Bool := decide (1 ≤ l.length) && decide (l.length ≤ 3) && l.all (funcB l.length)
theorem phiB_w {ids : Int} {p : PhiD} (h : widthB p.w = false) : ¬ phiB ids p = true := by simp [phiB, h]
theorem phiB_l {ids : Int} {p : PhiD} (h : ¬ p.ins.length ≤ 10) : ¬ phiB ids p = true := by simp [phiB, h]
theorem phiB_a {ids : Int} {p : PhiD} (h : (p.ins.all fun n => belowB n ids) = false) : ¬ phiB ids p = true := by simp [phiB, h]
theorem phiB_t {ids : Int} {p : PhiD} (h : widthB p.w = true) (h1 : p.ins.length ≤ 10) (h2 : (p.ins.all fun n => belowB n ids) = true) : phiB ids p = true := by simp [phiB, h, h1, h2]
structure RoomB (x : BlockD) (v0 : Option Addr) (q0 : Nat) (v1 : Option Addr) (q1 : Nat) (ids blocks funcs : Int) (w w1 : World) : Prop where
 cells : w1.cell? ⟨w.heap.size, 0, none⟩ = some (.slice v0 x.phis.length q0) ∧ w1.cell? ⟨w.heap.size, 1, none⟩ = some (.slice v1 x.insts.length q1) ∧ w1.cell? ⟨w.heap.size, 2, none⟩ = some (.int .i64 x.term.kind) ∧ w1.cell? ⟨w.heap.size, 3, none⟩ = some (.int .i64 x.term.a) ∧ w1.cell? ⟨w.heap.size, 4, none⟩ = some (.int .i64 x.term.x) ∧ w1.cell? ⟨w.heap.size, 5, none⟩ = some (.int .i64 x.term.y) ∧ w1.cell? ⟨w.heap.size + 1, 0, none⟩ = some (.int .i64 ids) ∧ w1.cell? ⟨w.heap.size + 1, 1, none⟩ = some (.int .i64 blocks) ∧ w1.cell? ⟨w.heap.size + 1, 2, none⟩ = some (.int .i64 funcs)
 below : Below w.heap.size w w1
 size : w.heap.size + 2 ≤ w1.heap.size
theorem RoomB.keep {x : BlockD} {v0 v1 : Option Addr} {q0 q1 : Nat} {ids blocks funcs : Int} {w w1 w2 : World} (h : RoomB x v0 q0 v1 q1 ids blocks funcs w w1) (k : Below w1.heap.size w1 w2) : RoomB x v0 q0 v1 q1 ids blocks funcs w w2 := by
 have hz := h.size
 have e0 : ∀ o, w2.cell? ⟨w.heap.size, o, none⟩ = w1.cell? ⟨w.heap.size, o, none⟩ := fun o => cell_block (k.block _ (by omega))
 have e1 : ∀ o, w2.cell? ⟨w.heap.size + 1, o, none⟩ = w1.cell? ⟨w.heap.size + 1, o, none⟩ := fun o => cell_block (k.block _ (by omega))
 refine ⟨?_, h.below.trans (k.mono (by omega)), Nat.le_trans hz k.size⟩
 simp only [e0, e1]
 exact h.cells
theorem RoomB.start {x : BlockD} {v0 v1 : Option Addr} {q0 q1 : Nat} {ids blocks funcs : Int} {w : World} : RoomB x v0 q0 v1 q1 ids blocks funcs w ((w.alloc (.cells #[.slice v0 x.phis.length q0, .slice v1 x.insts.length q1, .int .i64 x.term.kind, .int .i64 x.term.a, .int .i64 x.term.x, .int .i64 x.term.y] 43)).alloc (.cells #[.int .i64 ids, .int .i64 blocks, .int .i64 funcs] 111)) := by
 refine ⟨?_, ((Below.refl _ _).alloc (Nat.le_refl _) _).alloc (by simp) _, by simp⟩
 have hb := (Below.heap_alloc _ (.cells #[.int .i64 ids, .int .i64 blocks, .int .i64 funcs] 111) _ (by simp)).trans (heap_alloc_last w (.cells #[.slice v0 x.phis.length q0, .slice v1 x.insts.length q1, .int .i64 x.term.kind, .int .i64 x.term.a, .int .i64 x.term.x, .int .i64 x.term.y] 43))
 have hl := heap_alloc_last (w.alloc (.cells #[.slice v0 x.phis.length q0, .slice v1 x.insts.length q1, .int .i64 x.term.kind, .int .i64 x.term.a, .int .i64 x.term.x, .int .i64 x.term.y] 43)) (.cells #[.int .i64 ids, .int .i64 blocks, .int .i64 funcs] 111)
 have e : (w.alloc (.cells #[.slice v0 x.phis.length q0, .slice v1 x.insts.length q1, .int .i64 x.term.kind, .int .i64 x.term.a, .int .i64 x.term.x, .int .i64 x.term.y] 43)).heap.size = w.heap.size + 1 := by simp
 rw [e] at hl
 exact ⟨(cell_of_heap hb).trans rfl, (cell_of_heap hb).trans rfl, (cell_of_heap hb).trans rfl, (cell_of_heap hb).trans rfl, (cell_of_heap hb).trans rfl, (cell_of_heap hb).trans rfl, (cell_of_heap hl).trans rfl, (cell_of_heap hl).trans rfl, (cell_of_heap hl).trans rfl⟩
theorem RoomB.alloc {x : BlockD} {v0 v1 : Option Addr} {q0 q1 : Nat} {ids blocks funcs : Int} {w w1 : World} (h : RoomB x v0 q0 v1 q1 ids blocks funcs w w1) (o : Obj) : RoomB x v0 q0 v1 q1 ids blocks funcs w (w1.alloc o) := h.keep ((Below.refl _ _).alloc (Nat.le_refl _) o)
set_option maxHeartbeats 4000000 in
set_option maxRecDepth 100000 in
theorem blockShI (lo : Nat) (x : BlockD) (v0 : Option Addr) (q0 : Nat) (v1 : Option Addr) (q1 : Nat) (ids blocks funcs : Int) (w : World) (hs : SmBlock x) (m0 : PhisAt w lo v0 x.phis) (m1 : InstsAt w lo v1 x.insts) :
  Calls Tryz.prog 63 #[.agg #[.slice v0 x.phis.length q0, .slice v1 x.insts.length q1, .int .i64 x.term.kind, .int .i64 x.term.a, .int .i64 x.term.x, .int .i64 x.term.y], .agg #[.int .i64 ids, .int .i64 blocks, .int .i64 funcs]] w fun e w' => e = .returned (.bool (blockB ids blocks funcs x)) ∧ Below w.heap.size w w' := by
 have s0 := hs.1.1
 have s1 := hs.2.1
 have SP : Hid (∀ p ∈ x.phis, SmPhi p) := hs.1.2
 have SN : Hid (∀ p ∈ x.insts, SmInst p) := hs.2.2
 have HP : Hid ((x.phis.all (phiB ids)) = false → false = blockB ids blocks funcs x) := fun h => by simp [blockB, h]
 have HI : Hid ((x.insts.all (fun i => instB i ids funcs)) = false → false = blockB ids blocks funcs x) := fun h => by simp [blockB, h]
 have HT : Hid ((x.phis.all (phiB ids)) = true → (x.insts.all (fun i => instB i ids funcs)) = true → termB x.term ids blocks = blockB ids blocks funcs x) := fun h h' => by simp [blockB, h, h']
 clear hs
 go_enter Tryz.func63, Tryz.ntmps63
 go_wp2_with fail
 go_loopw [12] (fun i wr => ∃ j : Nat, j ≤ x.phis.length ∧ i = .int .i64 j ∧ Hid (∀ k, k < j → phiB ids (x.phis.getD k phi0) = true) ∧ RoomB x v0 q0 v1 q1 ids blocks funcs w wr) (fun i _ => x.phis.length - (intOf i).toNat)
 case atStart => exact ⟨0, by omega, rfl, fun k hk => by omega, RoomB.start⟩
 case round =>
  obtain ⟨j, hj, rfl, HD, hR⟩ := hrel
  obtain ⟨wp, hwp⟩ : ∃ wp, wp = wr := ⟨_, rfl⟩
  subst hwp
  obtain ⟨y0, y1, y2, y3, y4, y5, r0, r1, r2⟩ := hR.cells
  have hW := hR.below
  by_cases hjl : j < x.phis.length
  ·rcases m0.2 with hn | ⟨pb, po, rfl, hplo, hpb, hpc⟩
   ·simp [hn] at hjl
   obtain ⟨hi0, ⟨iu, iq, hi1, im⟩⟩ := hpc j hjl
   have hsp := SP.out _ (getD_mem phi0 x.phis j hjl)
   generalize hp : x.phis.getD j phi0 = p at hi0 hi1 im hsp
   have HPj : Hid (x.phis.getD j phi0 = p) := hp
   have f0 : wp.cell? ⟨pb, po + j * 2, none⟩ = some (.int .i64 p.w) := (cell_block (hW.block pb hpb)).trans hi0
   have f1 : wp.cell? ⟨pb, po + j * 2 + 1, none⟩ = some (.slice iu p.ins.length iq) := (cell_block (hW.block pb hpb)).trans hi1
   have IM := (im.keep (agree_of_below hW lo)).keep (agree_alloc wp (.cells #[.int .i64 p.w, .slice iu p.ins.length iq] 45) _)
   have hsp' : p.ins.length ≤ 1048576 := hsp
   have RR : Hid (RoomB x (some ⟨pb, po, none⟩) q0 v1 q1 ids blocks funcs w (wp.alloc (.cells #[.int .i64 p.w, .slice iu p.ins.length iq] 45))) := hR.alloc _
   have NO : Hid (¬ phiB ids p = true → false = blockB ids blocks funcs x) := fun h => HP.out (all_no phi0 x.phis j hjl (by rw [HPj.out]; exact h))
   have YES : Hid (phiB ids p = true → ∀ k, k < j + 1 → phiB ids (x.phis.getD k phi0) = true) := fun h k hk => by
    by_cases e : k = j
    ·subst e; rw [HPj.out]; exact h
    ·exact HD.out k (by omega)
   obtain ⟨_, _, _, _, _, _, t0, t1, t2⟩ := RR.out.cells
   clear hpc hi0 hi1 im hsp hp m0 m1 hR HD HP HI HT
   cases hw : widthB p.w with
   | false =>
    have HF : Hid (false = blockB ids blocks funcs x) := NO.out (phiB_w hw)
    go_wp2_with (go_at_call 62; refine (widthI _ _).mono ?_; rintro e w' ⟨rfl, rfl⟩)
    go_ret
    exact ⟨ret_bool HF.out, RR.out.below⟩
   | true =>
    by_cases hl : p.ins.length ≤ 10
    ·have hl2 : ¬ (10 : Int) < p.ins.length := by omega
     cases ha : (p.ins.all fun n => belowB n ids) with
     | false =>
      have HF : Hid (false = blockB ids blocks funcs x) := NO.out (phiB_a ha)
      go_wp2_with (first | (go_at_call 62; refine (widthI _ _).mono ?_; rintro e w' ⟨rfl, rfl⟩) | (go_at_call 100; refine (allBelowI lo _ _ _ _ _ IM).mono ?_; rw [ha]; rintro e w' ⟨rfl, rfl⟩))
      go_ret
      exact ⟨ret_bool HF.out, RR.out.below⟩
     | true =>
      have HF : Hid (phiB ids p = true) := phiB_t hw hl ha
      go_wp2_with (first | (go_at_call 62; refine (widthI _ _).mono ?_; rintro e w' ⟨rfl, rfl⟩) | (go_at_call 100; refine (allBelowI lo _ _ _ _ _ IM).mono ?_; rw [ha]; rintro e w' ⟨rfl, rfl⟩))
      go_roundw
      case rel => exact ⟨j + 1, by omega, by go_num, YES.out HF.out, RR.out⟩
      case measure => simp [intOf]; omega
    ·have HF : Hid (false = blockB ids blocks funcs x) := NO.out (phiB_l hl)
     have hl2 : (10 : Int) < p.ins.length := by omega
     go_wp2_with (go_at_call 62; refine (widthI _ _).mono ?_; rintro e w' ⟨rfl, rfl⟩)
     go_ret
     exact ⟨ret_bool HF.out, RR.out.below⟩
  ·have HPA : Hid ((x.phis.all (phiB ids)) = true) := all_yes phi0 x.phis (fun k hk => HD.out k (by omega))
   have RR : Hid (RoomB x v0 q0 v1 q1 ids blocks funcs w wp) := hR
   clear hR HD HP m0
   go_wp2_with fail
   clear y0 y1 y2 y3 y4 y5 r0 r1 r2
   go_loopw [38] (fun i wr => ∃ j : Nat, j ≤ x.insts.length ∧ i = .int .i64 j ∧ Hid (∀ k, k < j → instB (x.insts.getD k inst0) ids funcs = true) ∧ RoomB x v0 q0 v1 q1 ids blocks funcs w wr) (fun i _ => x.insts.length - (intOf i).toNat)
   case atStart => exact ⟨0, by omega, rfl, fun k hk => by omega, RR.out⟩
   case round =>
    obtain ⟨j, hj, rfl, HD, hR⟩ := hrel
    obtain ⟨wq, hwq⟩ : ∃ wq, wq = wr := ⟨_, rfl⟩
    subst hwq
    clear RR
    obtain ⟨y0, y1, y2, y3, y4, y5, r0, r1, r2⟩ := hR.cells
    have hW := hR.below
    by_cases hjl : j < x.insts.length
    ·rcases m1.2 with hn | ⟨pb, po, rfl, hplo, hpb, hpc⟩
     ·simp [hn] at hjl
     obtain ⟨i0, i1, i2, i3, i4, i5, ⟨iu, iq, i6, im⟩⟩ := hpc j hjl
     have hsp := SN.out _ (getD_mem inst0 x.insts j hjl)
     generalize hp : x.insts.getD j inst0 = p at i0 i1 i2 i3 i4 i5 i6 im hsp
     have HPj : Hid (x.insts.getD j inst0 = p) := hp
     have f0 : wq.cell? ⟨pb, po + j * 7, none⟩ = some (.int .i64 p.op) := (cell_block (hW.block pb hpb)).trans i0
     have f1 : wq.cell? ⟨pb, po + j * 7 + 1, none⟩ = some (.int .i64 p.w) := (cell_block (hW.block pb hpb)).trans i1
     have f2 : wq.cell? ⟨pb, po + j * 7 + 2, none⟩ = some (.int .i64 p.a) := (cell_block (hW.block pb hpb)).trans i2
     have f3 : wq.cell? ⟨pb, po + j * 7 + 3, none⟩ = some (.int .i64 p.b) := (cell_block (hW.block pb hpb)).trans i3
     have f4 : wq.cell? ⟨pb, po + j * 7 + 4, none⟩ = some (.int .i64 p.c) := (cell_block (hW.block pb hpb)).trans i4
     have f5 : wq.cell? ⟨pb, po + j * 7 + 5, none⟩ = some (.int .i64 p.imm) := (cell_block (hW.block pb hpb)).trans i5
     have f6 : wq.cell? ⟨pb, po + j * 7 + 6, none⟩ = some (.slice iu p.args.length iq) := (cell_block (hW.block pb hpb)).trans i6
     have IM := (im.keep (agree_of_below hW lo)).keep (agree_alloc wq (.cells #[.int .i64 p.op, .int .i64 p.w, .int .i64 p.a, .int .i64 p.b, .int .i64 p.c, .int .i64 p.imm, .slice iu p.args.length iq] 54) _)
     have hsp' : p.args.length ≤ 1048576 := hsp
     have RR : Hid (RoomB x v0 q0 (some ⟨pb, po, none⟩) q1 ids blocks funcs w (wq.alloc (.cells #[.int .i64 p.op, .int .i64 p.w, .int .i64 p.a, .int .i64 p.b, .int .i64 p.c, .int .i64 p.imm, .slice iu p.args.length iq] 54))) := hR.alloc _
     have NO : Hid (instB p ids funcs = false → false = blockB ids blocks funcs x) := fun h => HI.out (all_no inst0 x.insts j hjl (by rw [HPj.out, h]; decide))
     have YES : Hid (instB p ids funcs = true → ∀ k, k < j + 1 → instB (x.insts.getD k inst0) ids funcs = true) := fun h k hk => by
      by_cases e : k = j
      ·subst e; rw [HPj.out]; exact h
      ·exact HD.out k (by omega)
     have B : ∀ B, instB p ids funcs = B → Calls Tryz.prog 101 #[.agg #[.int .i64 p.op, .int .i64 p.w, .int .i64 p.a, .int .i64 p.b, .int .i64 p.c, .int .i64 p.imm, .slice iu p.args.length iq], .agg #[.int .i64 ids, .int .i64 blocks, .int .i64 funcs]] (wq.alloc (.cells #[.int .i64 p.op, .int .i64 p.w, .int .i64 p.a, .int .i64 p.b, .int .i64 p.c, .int .i64 p.imm, .slice iu p.args.length iq] 54)) fun e w' => e = .returned (.bool B) ∧ Below (wq.alloc (.cells #[.int .i64 p.op, .int .i64 p.w, .int .i64 p.a, .int .i64 p.b, .int .i64 p.c, .int .i64 p.imm, .slice iu p.args.length iq] 54)).heap.size (wq.alloc (.cells #[.int .i64 p.op, .int .i64 p.w, .int .i64 p.a, .int .i64 p.b, .int .i64 p.c, .int .i64 p.imm, .slice iu p.args.length iq] 54)) w' := fun B h => by
      rw [← h]; exact instShI lo p iu iq ids blocks funcs _ hsp' IM
     have RA := hR.alloc (.cells #[.int .i64 p.op, .int .i64 p.w, .int .i64 p.a, .int .i64 p.b, .int .i64 p.c, .int .i64 p.imm, .slice iu p.args.length iq] 54)
     obtain ⟨_, _, _, _, _, _, t0, t1, t2⟩ := RA.cells
     clear hpc i0 i1 i2 i3 i4 i5 i6 im hsp hp m1 hR HD HI HT IM RA
     cases hb : instB p ids funcs with
     | false =>
      have HF : Hid (false = blockB ids blocks funcs x) := NO.out hb
      have BB := B _ hb
      clear B
      go_wp2_with (go_at_call 101; refine BB.mono ?_; rintro e w2 ⟨rfl, hb2⟩)
      go_ret
      exact ⟨ret_bool HF.out, (RR.out.keep hb2).below⟩
     | true =>
      have HF : Hid (instB p ids funcs = true) := hb
      have BB := B _ hb
      clear B
      go_wp2_with (go_at_call 101; refine BB.mono ?_; rintro e w2 ⟨rfl, hb2⟩)
      go_roundw
      case rel => exact ⟨j + 1, by omega, by go_num, YES.out HF.out, RR.out.keep hb2⟩
      case measure => simp [intOf]; omega
    ·have HF : Hid (termB x.term ids blocks = blockB ids blocks funcs x) := HT.out HPA.out (all_yes inst0 x.insts (fun k hk => HD.out k (by omega)))
     have RR : Hid (RoomB x v0 q0 v1 q1 ids blocks funcs w wq) := hR
     clear hR HD HI HT m1
     go_wp2_with (go_at_call 102; refine (termShI x.term _ _ _ _).mono ?_; rintro e w2 ⟨rfl, hb2⟩)
     go_ret
     exact ⟨ret_bool HF.out, (RR.out.keep hb2).below⟩
end Go.Proofs.YtgojlnclpebdcaaGreatDoor
