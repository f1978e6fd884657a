import Derived.Test.YtoknhppjdmoblaaGreatDoorFdC
import Derived.Deep.RegionHeld2
namespace Go.Proofs.YtoknhppjdmoblaaGreatDoor
set_option linter.unusedVariables false
set_option linter.unusedSimpArgs false
open Go.RowKit
structure Fo3 (d : FuncD) (i : InstD) (u0 : Option Addr) (c0 : Nat) (u2 : Option Addr) (c2 : Nat) (ua : Option Addr) (qa : Nat) (w w1 : World) : Prop where
 b : Fo2 d i u0 c0 u2 c2 ua qa w w1
 j : w1.heap[w.heap.size + 2]? = some (.cells #[.int .i64 i.op, .int .i64 i.w, .int .i64 i.a, .int .i64 i.b, .int .i64 i.c, .int .i64 i.imm, .slice ua i.args.length qa] 29 (0, 0))
theorem Fo3.keep {d : FuncD} {i : InstD} {u0 u2 ua : Option Addr} {c0 c2 qa : Nat} {w w1 w2 : World} (h : Fo3 d i u0 c0 u2 c2 ua qa w w1) (k : Below w1.heap.size w1 w2) : Fo3 d i u0 c0 u2 c2 ua qa w w2 :=
 ⟨h.b.keep k, (k.block _ (Array.getElem?_eq_some_iff.1 h.j).1).trans h.j⟩
theorem Fo3.start {d : FuncD} {i : InstD} {u0 u2 ua : Option Addr} {c0 c2 qa : Nat} {w : World} : Fo3 d i u0 c0 u2 c2 ua qa w (((w.alloc (.cells #[.slice u0 d.params.length c0, .int .i64 d.ret, .slice u2 d.blocks.length c2, .int .i64 i.op, .int .i64 i.w, .int .i64 i.a, .int .i64 i.b, .int .i64 i.c, .int .i64 i.imm, .slice ua i.args.length qa] 73)).alloc (.cells #[.int .i64 0, .int .i64 0, .int .i64 0, .int .i64 0, .int .i64 0, .int .i64 0, .slice none 0 0] 29)).alloc (.cells #[.int .i64 i.op, .int .i64 i.w, .int .i64 i.a, .int .i64 i.b, .int .i64 i.c, .int .i64 i.imm, .slice ua i.args.length qa] 29)) := by
 refine ⟨Fo2.start.keep ((Below.refl _ _).alloc (Nat.le_refl _) _), ?_⟩
 have h := heap_alloc_last ((w.alloc (.cells #[.slice u0 d.params.length c0, .int .i64 d.ret, .slice u2 d.blocks.length c2, .int .i64 i.op, .int .i64 i.w, .int .i64 i.a, .int .i64 i.b, .int .i64 i.c, .int .i64 i.imm, .slice ua i.args.length qa] 73)).alloc (.cells #[.int .i64 0, .int .i64 0, .int .i64 0, .int .i64 0, .int .i64 0, .int .i64 0, .slice none 0 0] 29)) (.cells #[.int .i64 i.op, .int .i64 i.w, .int .i64 i.a, .int .i64 i.b, .int .i64 i.c, .int .i64 i.imm, .slice ua i.args.length qa] 29)
 have e : ((w.alloc (.cells #[.slice u0 d.params.length c0, .int .i64 d.ret, .slice u2 d.blocks.length c2, .int .i64 i.op, .int .i64 i.w, .int .i64 i.a, .int .i64 i.b, .int .i64 i.c, .int .i64 i.imm, .slice ua i.args.length qa] 73)).alloc (.cells #[.int .i64 0, .int .i64 0, .int .i64 0, .int .i64 0, .int .i64 0, .int .i64 0, .slice none 0 0] 29)).heap.size = w.heap.size + 2 := by simp
 rw [e] at h
 exact h
theorem Fo3.cell {d : FuncD} {i : InstD} {u0 u2 ua : Option Addr} {c0 c2 qa : Nat} {w w1 : World} (h : Fo3 d i u0 c0 u2 c2 ua qa w w1) :
  w1.cell? ⟨w.heap.size + 2, 0, none⟩ = some (.int .i64 i.op) ∧ w1.cell? ⟨w.heap.size + 2, 1, none⟩ = some (.int .i64 i.w) ∧ w1.cell? ⟨w.heap.size + 2, 2, none⟩ = some (.int .i64 i.a) ∧ w1.cell? ⟨w.heap.size + 2, 3, none⟩ = some (.int .i64 i.b) ∧ w1.cell? ⟨w.heap.size + 2, 4, none⟩ = some (.int .i64 i.c) ∧ w1.cell? ⟨w.heap.size + 2, 5, none⟩ = some (.int .i64 i.imm) ∧ w1.cell? ⟨w.heap.size + 2, 6, none⟩ = some (.slice ua i.args.length qa) :=
 ⟨(cell_of_heap h.j).trans rfl, (cell_of_heap h.j).trans rfl, (cell_of_heap h.j).trans rfl, (cell_of_heap h.j).trans rfl, (cell_of_heap h.j).trans rfl, (cell_of_heap h.j).trans rfl, (cell_of_heap h.j).trans rfl⟩
set_option maxHeartbeats 4000000 in
set_option maxRecDepth 100000 in
theorem rule5I (lo : Nat) (d : FuncD) (i : InstD) (u0 : Option Addr) (c0 : Nat) (u2 : Option Addr) (c2 : Nat) (ua : Option Addr) (qa : Nat) (w : World) (hs : SmFunc d) (k0 : IntsAt w lo u0 d.params) (k2 : BlocksAt w lo u2 d.blocks) (ku : IntsAt w lo ua i.args) (hi : ISm i) :
  Calls Tryz.prog 63 #[.agg #[.slice u0 d.params.length c0, .int .i64 d.ret, .slice u2 d.blocks.length c2, .int .i64 i.op, .int .i64 i.w, .int .i64 i.a, .int .i64 i.b, .int .i64 i.c, .int .i64 i.imm, .slice ua i.args.length qa]] w fun e w' => InstTold w lo (rule5 d i) e ∧ Below w.heap.size w w' := by
 have F0 := Fo3.start (d := d) (i := i) (u0 := u0) (u2 := u2) (ua := ua) (c0 := c0) (c2 := c2) (qa := qa) (w := w)
 have CO := fun (id : Int) W (k : Below w.heap.size w W) (h : id ≤ 9223372036854775807) => constI_any lo d u0 c0 u2 c2 id W hs (k2.keep (agree_of_below k lo)) h
 have IS := fun (id : Int) W (k : Below w.heap.size w W) (h : id ≤ 9223372036854775807) => isI lo d i u0 c0 u2 c2 ua qa id 1 W hs (k2.keep (agree_of_below k lo)) h
 have FB := FoBox.start (d := d) (i := i) (u0 := u0) (u2 := u2) (ua := ua) (c0 := c0) (c2 := c2) (qa := qa) (w := w) (T := 73)
 have FC := Fo2.start (d := d) (i := i) (u0 := u0) (u2 := u2) (ua := ua) (c0 := c0) (c2 := c2) (qa := qa) (w := w)
 have z0 := FC.f.a0
 have z1 := FC.f.a1
 have z2 := FC.f.a2
 have z3 := FC.f.a3
 have z4 := FC.f.a4
 have z5 := FC.f.a5
 have z6 := FC.f.a6
 have z7 := FC.f.a7
 have z8 := FC.f.a8
 have z9 := FC.f.a9
 have x0 := F0.b.f.a0
 have x1 := F0.b.f.a1
 have x2 := F0.b.f.a2
 have x3 := F0.b.f.a3
 have x4 := F0.b.f.a4
 have x5 := F0.b.f.a5
 have x6 := F0.b.f.a6
 have x7 := F0.b.f.a7
 have x8 := F0.b.f.a8
 have x9 := F0.b.f.a9
 obtain ⟨y0, y1, y2, y3, y4, y5, y6⟩ := F0.cell
 have HF0 : Hid (Fo3 d i u0 c0 u2 c2 ua qa w _) := F0
 have HI : Hid (ISm i) := hi
 clear F0 hs k0 k2 ku hi FB FC
 by_cases h22 : i.op = 22
 ·have q22 : (i.op != 22) = false := by rw [bne_eq_false_iff_eq]; exact h22
  have HR : Hid (rule5 d i = if isC d i.a 1 = true ∨ i.b = i.c then some (copyD (instW i) i.b) else if (constF d i.a).isSome = true then some (copyD (instW i) i.c) else none) := by show _ = _; unfold rule5; rw [if_pos h22]
  clear h22
  go_enter Tryz.func63, Tryz.ntmps63
  go_wp2_with fail
  refine (CO i.a _ HF0.out.b.f.below HI.out.a).mono ?_
  rintro e w1 ⟨h1, b1⟩
  obtain ⟨p, pb, he1, pc⟩ := const_form h1
  subst he1
  clear h1 z0 z1 z2 z3 z4 z5 z6 z7 z8 z9
  have Hp : Hid (KnownC _ _ _) := pc
  clear pc
  have HF1 : Hid (Fo3 d i u0 c0 u2 c2 ua qa w w1) := HF0.out.keep b1
  clear x0 x1 x2 x3 x4 x5 x6 x7 x8 x9 y0 y1 y2 y3 y4 y5 y6 b1
  have x0 := HF1.out.b.f.a0
  have x1 := HF1.out.b.f.a1
  have x2 := HF1.out.b.f.a2
  have x3 := HF1.out.b.f.a3
  have x4 := HF1.out.b.f.a4
  have x5 := HF1.out.b.f.a5
  have x6 := HF1.out.b.f.a6
  have x7 := HF1.out.b.f.a7
  have x8 := HF1.out.b.f.a8
  have x9 := HF1.out.b.f.a9
  obtain ⟨y0, y1, y2, y3, y4, y5, y6⟩ := HF1.out.cell
  go_wp2_with fail
  refine (IS i.a _ HF1.out.b.f.below HI.out.a).mono ?_
  rintro e w2 ⟨rfl, b2⟩
  have HF2 : Hid (Fo3 d i u0 c0 u2 c2 ua qa w w2) := HF1.out.keep b2
  clear x0 x1 x2 x3 x4 x5 x6 x7 x8 x9 y0 y1 y2 y3 y4 y5 y6 b2
  have x0 := HF2.out.b.f.a0
  have x1 := HF2.out.b.f.a1
  have x2 := HF2.out.b.f.a2
  have x3 := HF2.out.b.f.a3
  have x4 := HF2.out.b.f.a4
  have x5 := HF2.out.b.f.a5
  have x6 := HF2.out.b.f.a6
  have x7 := HF2.out.b.f.a7
  have x8 := HF2.out.b.f.a8
  have x9 := HF2.out.b.f.a9
  obtain ⟨y0, y1, y2, y3, y4, y5, y6⟩ := HF2.out.cell
  cases hc : isC d i.a 1 with
  | true =>
   have HR2 : Hid (rule5 d i = some (copyD (instW i) i.b)) := by show _ = _; rw [HR.out, if_pos (.inl hc)]
   go_wp2_with fail
   refine (copyOfI d i u0 c0 u2 c2 ua qa i.b _).mono ?_
   rintro e w3 ⟨rfl, b3⟩
   have F3 := (HF2.out.keep b3).b
   obtain ⟨r0, r1, r2, r3, r4, r5, r6⟩ := F3.cell
   have rf := F3.froz
   have HF3 : Hid (Fo2 d i u0 c0 u2 c2 ua qa w w3) := F3
   clear F3 b3
   go_wp2_with fail
   have hr := (heap_set (o := 6) (v := .slice none 0 0) (heap_set (o := 5) (v := .int .i64 0) (heap_set (o := 4) (v := .int .i64 0) (heap_set (o := 3) (v := .int .i64 0) (heap_set (o := 2) (v := .int .i64 i.b) (heap_set (o := 1) (v := .int .i64 (instW i)) (heap_set (o := 0) (v := .int .i64 27) HF3.out.r)))))))
   refine bodyPost_ret (v := .tuple #[.agg #[.int .i64 27, .int .i64 (instW i), .int .i64 i.b, .int .i64 0, .int .i64 0, .int .i64 0, .slice none 0 0], .bool true]) ((results_cell_row_tmp Tryz.results63 _ _ (w.heap.size + 1) _ rfl (run_loadVar_row _ _ 29 _ _ (0, 0) _ hr Tryz.underlying29 rfl (by kernel_rfl))).trans (by rfl)) rfl ⟨told_some (r := copyD (instW i) i.b) (u := none) (q := 0) (HR2.out) (ints_none _ _) rfl, ?_⟩
   exact (by repeat (first | refine Below.setCell ?_ (by dsimp only; omega) _ | exact HF3.out.f.below))
  | false =>
   by_cases hbc : i.b = i.c
   ·have HR2 : Hid (rule5 d i = some (copyD (instW i) i.b)) := by show _ = _; rw [HR.out, if_pos (.inr hbc)]
    have qbc : (i.b == i.c) = true := by rw [beq_iff_eq]; exact hbc
    clear hbc
    go_wp2_with fail
    refine (copyOfI d i u0 c0 u2 c2 ua qa i.b _).mono ?_
    rintro e w3 ⟨rfl, b3⟩
    have F3 := (HF2.out.keep b3).b
    obtain ⟨r0, r1, r2, r3, r4, r5, r6⟩ := F3.cell
    have rf := F3.froz
    have HF3 : Hid (Fo2 d i u0 c0 u2 c2 ua qa w w3) := F3
    clear F3 b3
    go_wp2_with fail
    have hr := (heap_set (o := 6) (v := .slice none 0 0) (heap_set (o := 5) (v := .int .i64 0) (heap_set (o := 4) (v := .int .i64 0) (heap_set (o := 3) (v := .int .i64 0) (heap_set (o := 2) (v := .int .i64 i.b) (heap_set (o := 1) (v := .int .i64 (instW i)) (heap_set (o := 0) (v := .int .i64 27) HF3.out.r)))))))
    refine bodyPost_ret (v := .tuple #[.agg #[.int .i64 27, .int .i64 (instW i), .int .i64 i.b, .int .i64 0, .int .i64 0, .int .i64 0, .slice none 0 0], .bool true]) ((results_cell_row_tmp Tryz.results63 _ _ (w.heap.size + 1) _ rfl (run_loadVar_row _ _ 29 _ _ (0, 0) _ hr Tryz.underlying29 rfl (by kernel_rfl))).trans (by rfl)) rfl ⟨told_some (r := copyD (instW i) i.b) (u := none) (q := 0) (HR2.out) (ints_none _ _) rfl, ?_⟩
    exact (by repeat (first | refine Below.setCell ?_ (by dsimp only; omega) _ | exact HF3.out.f.below))
   ·have qbc : (i.b == i.c) = false := by rw [beq_eq_false_iff_ne]; exact hbc
    have hn : ¬ (isC d i.a 1 = true ∨ i.b = i.c) := by
     rintro (k | k)
     ·rw [hc] at k; cases k
     ·exact hbc k
    clear hbc
    cases pb with
    | true =>
     have HR2 : Hid (rule5 d i = some (copyD (instW i) i.c)) := by show _ = _; rw [HR.out, if_neg hn, const_yes Hp.out rfl]; rfl
     clear hn
     go_wp2_with fail
     refine (copyOfI d i u0 c0 u2 c2 ua qa i.c _).mono ?_
     rintro e w3 ⟨rfl, b3⟩
     have F3 := (HF2.out.keep b3).b
     obtain ⟨r0, r1, r2, r3, r4, r5, r6⟩ := F3.cell
     have rf := F3.froz
     have HF3 : Hid (Fo2 d i u0 c0 u2 c2 ua qa w w3) := F3
     clear F3 b3
     go_wp2_with fail
     have hr := (heap_set (o := 6) (v := .slice none 0 0) (heap_set (o := 5) (v := .int .i64 0) (heap_set (o := 4) (v := .int .i64 0) (heap_set (o := 3) (v := .int .i64 0) (heap_set (o := 2) (v := .int .i64 i.c) (heap_set (o := 1) (v := .int .i64 (instW i)) (heap_set (o := 0) (v := .int .i64 27) HF3.out.r)))))))
     refine bodyPost_ret (v := .tuple #[.agg #[.int .i64 27, .int .i64 (instW i), .int .i64 i.c, .int .i64 0, .int .i64 0, .int .i64 0, .slice none 0 0], .bool true]) ((results_cell_row_tmp Tryz.results63 _ _ (w.heap.size + 1) _ rfl (run_loadVar_row _ _ 29 _ _ (0, 0) _ hr Tryz.underlying29 rfl (by kernel_rfl))).trans (by rfl)) rfl ⟨told_some (r := copyD (instW i) i.c) (u := none) (q := 0) (HR2.out) (ints_none _ _) rfl, ?_⟩
     exact (by repeat (first | refine Below.setCell ?_ (by dsimp only; omega) _ | exact HF3.out.f.below))
    | false =>
     have HR2 : Hid (rule5 d i = none) := by show _ = _; rw [HR.out, if_neg hn, const_no Hp.out rfl]; rfl
     have HF2b : Hid (Fo2 d i u0 c0 u2 c2 ua qa w w2) := HF2.out.b
     clear hn
     obtain ⟨r0, r1, r2, r3, r4, r5, r6⟩ := HF2b.out.cell
     have rf := HF2b.out.froz
     go_wp2_with fail
     have hr := (heap_set (o := 6) (v := .slice none 0 0) (heap_set (o := 5) (v := .int .i64 0) (heap_set (o := 4) (v := .int .i64 0) (heap_set (o := 3) (v := .int .i64 0) (heap_set (o := 2) (v := .int .i64 0) (heap_set (o := 1) (v := .int .i64 0) (heap_set (o := 0) (v := .int .i64 0) HF2b.out.r)))))))
     refine bodyPost_ret (v := .tuple #[.agg #[.int .i64 0, .int .i64 0, .int .i64 0, .int .i64 0, .int .i64 0, .int .i64 0, .slice none 0 0], .bool false]) ((results_cell_row_tmp Tryz.results63 _ _ (w.heap.size + 1) _ rfl (run_loadVar_row _ _ 29 _ _ (0, 0) _ hr Tryz.underlying29 rfl (by kernel_rfl))).trans (by rfl)) rfl ⟨told_none (HR2.out) rfl, ?_⟩
     exact (by repeat (first | refine Below.setCell ?_ (by dsimp only; omega) _ | exact HF2b.out.f.below))
 ·have q22 : (i.op != 22) = true := by rw [bne_iff_ne]; exact h22
  have HR : Hid (rule5 d i = none) := by show _ = _; unfold rule5; rw [if_neg h22]
  clear h22 CO IS
  go_enter Tryz.func63, Tryz.ntmps63
  go_wp2_with fail
  refine bodyPost_ret (v := .tuple #[.agg #[.int .i64 0, .int .i64 0, .int .i64 0, .int .i64 0, .int .i64 0, .int .i64 0, .slice none 0 0], .bool false]) ((results_cell_row_tmp Tryz.results63 _ _ (w.heap.size + 1) _ rfl (run_loadVar_row _ _ 29 _ _ (0, 0) _ HF0.out.b.r Tryz.underlying29 rfl (by kernel_rfl))).trans (by rfl)) rfl ⟨told_none HR.out rfl, HF0.out.b.f.below⟩
set_option maxHeartbeats 4000000 in
set_option maxRecDepth 100000 in
theorem rule4I (lo : Nat) (d : FuncD) (i : InstD) (u0 : Option Addr) (c0 : Nat) (u2 : Option Addr) (c2 : Nat) (ua : Option Addr) (qa : Nat) (w : World) (hs : SmFunc d) (k0 : IntsAt w lo u0 d.params) (k2 : BlocksAt w lo u2 d.blocks) (ku : IntsAt w lo ua i.args) (hi : ISm i) :
  Calls Tryz.prog 62 #[.agg #[.slice u0 d.params.length c0, .int .i64 d.ret, .slice u2 d.blocks.length c2, .int .i64 i.op, .int .i64 i.w, .int .i64 i.a, .int .i64 i.b, .int .i64 i.c, .int .i64 i.imm, .slice ua i.args.length qa]] w fun e w' => InstTold w lo (rule4 d i) e ∧ Below w.heap.size w w' := by
 have F0 := Fo2.start (d := d) (i := i) (u0 := u0) (u2 := u2) (ua := ua) (c0 := c0) (c2 := c2) (qa := qa) (w := w)
 have CO := fun (id : Int) W (k : Below w.heap.size w W) (h : id ≤ 9223372036854775807) => constI_any lo d u0 c0 u2 c2 id W hs (k2.keep (agree_of_below k lo)) h
 have x0 := F0.f.a0
 have x1 := F0.f.a1
 have x2 := F0.f.a2
 have x3 := F0.f.a3
 have x4 := F0.f.a4
 have x5 := F0.f.a5
 have x6 := F0.f.a6
 have x7 := F0.f.a7
 have x8 := F0.f.a8
 have x9 := F0.f.a9
 have HF0 : Hid (Fo2 d i u0 c0 u2 c2 ua qa w _) := F0
 have HKU : Hid (IntsAt w lo ua i.args) := ku
 have HI : Hid (ISm i) := hi
 have TY := fun W (k : Below w.heap.size w W) => typeI_any lo d u0 c0 u2 c2 i.a W hs (k0.keep (agree_of_below k lo)) (k2.keep (agree_of_below k lo)) hi.a
 clear F0 hs k0 k2 ku hi
 go_enter Tryz.func62, Tryz.ntmps62
 go_wp2_with fail
 refine (CO i.a _ HF0.out.f.below HI.out.a).mono ?_
 rintro e w1 ⟨h1, b1⟩
 obtain ⟨p, pb, he1, pc⟩ := const_form h1
 subst he1
 clear h1
 have Hp : Hid (KnownC _ _ _) := pc
 clear pc
 have HF1 : Hid (Fo2 d i u0 c0 u2 c2 ua qa w w1) := HF0.out.keep b1
 clear x0 x1 x2 x3 x4 x5 x6 x7 x8 x9 b1
 have x0 := HF1.out.f.a0
 have x1 := HF1.out.f.a1
 have x2 := HF1.out.f.a2
 have x3 := HF1.out.f.a3
 have x4 := HF1.out.f.a4
 have x5 := HF1.out.f.a5
 have x6 := HF1.out.f.a6
 have x7 := HF1.out.f.a7
 have x8 := HF1.out.f.a8
 have x9 := HF1.out.f.a9
 go_wp2_with fail
 refine wp_region_held_drew (S := fun w' => Below w1.heap.size w1 w') (by kernel_rfl) ((Below.refl _ _).drew) (fun hHeld => ?_)
 refine wpAnyH_take (i := 0) (v := ?_) rfl (by kernel_rfl) (by kernel_rfl) (by kernel_rfl) (fun _ _ _ h => h) (Or.inl ⟨by rfl, ?_⟩) hHeld ?_
 rotate_left
 ·intro w9 hS9
  go_simp
  try with_reducible rfl
 show wpAnyH _ _ _ _ _ _ _ (Act.put _ (some _) _) _
 simp only [Act.put, List.setIfInBounds_toArray, List.set_cons_zero, List.set_cons_succ]
 refine wpAnyH_take (i := 1) (v := ?_) rfl (by kernel_rfl) (by kernel_rfl) (by kernel_rfl) (fun _ _ _ h => h) (Or.inl ⟨by rfl, ?_⟩) hHeld ?_
 rotate_left
 ·intro w9 hS9
  go_simp
  try with_reducible rfl
 show wpAnyH _ _ _ _ _ _ _ (Act.put _ (some _) _) _
 simp only [Act.put, List.setIfInBounds_toArray, List.set_cons_zero, List.set_cons_succ]
 refine wpAnyH_take (i := 2) (v := ?_) rfl (by kernel_rfl) (by kernel_rfl) (by kernel_rfl) (fun _ _ _ h => h) (Or.inl ⟨by rfl, ?_⟩) hHeld ?_
 rotate_left
 ·intro w9 hS9
  have g0 := (HF1.out.f.keep hS9).a3
  go_simp
  try with_reducible rfl
 show wpAnyH _ _ _ _ _ _ _ (Act.put _ (some _) _) _
 simp only [Act.put, List.setIfInBounds_toArray, List.set_cons_zero, List.set_cons_succ]
 refine wpAnyH_take (i := 3) (v := ?_) rfl (by kernel_rfl) (by kernel_rfl) (by kernel_rfl) (fun _ _ _ h => h) (Or.inl ⟨by rfl, ?_⟩) hHeld ?_
 rotate_left
 ·intro w9 hS9
  go_simp
  try with_reducible rfl
 show wpAnyH _ _ _ _ _ _ _ (Act.put _ (some _) _) _
 simp only [Act.put, List.setIfInBounds_toArray, List.set_cons_zero, List.set_cons_succ]
 refine wpAnyH_take (i := 4) (v := ?_) rfl (by kernel_rfl) (by kernel_rfl) (by kernel_rfl) (fun _ _ _ h => h) (Or.inl ⟨by rfl, ?_⟩) hHeld ?_
 rotate_left
 ·intro w9 hS9
  have g0 := (HF1.out.f.keep hS9).a0
  have g1 := (HF1.out.f.keep hS9).a1
  have g2 := (HF1.out.f.keep hS9).a2
  go_simp
  try with_reducible rfl
 show wpAnyH _ _ _ _ _ _ _ (Act.put _ (some _) _) _
 simp only [Act.put, List.setIfInBounds_toArray, List.set_cons_zero, List.set_cons_succ]
 refine wpAnyH_take (i := 5) (v := ?_) rfl (by kernel_rfl) (by kernel_rfl) (by kernel_rfl) (fun _ _ _ h => h) (Or.inl ⟨by rfl, ?_⟩) hHeld ?_
 rotate_left
 ·intro w9 hS9
  go_simp
  try with_reducible rfl
 show wpAnyH _ _ _ _ _ _ _ (Act.put _ (some _) _) _
 simp only [Act.put, List.setIfInBounds_toArray, List.set_cons_zero, List.set_cons_succ]
 refine wpAnyH_take (i := 6) (v := ?_) rfl (by kernel_rfl) (by kernel_rfl) (by kernel_rfl) (fun _ _ _ h => h) (Or.inl ⟨by rfl, ?_⟩) hHeld ?_
 rotate_left
 ·intro w9 hS9
  go_simp
  try with_reducible rfl
 show wpAnyH _ _ _ _ _ _ _ (Act.put _ (some _) _) _
 simp only [Act.put, List.setIfInBounds_toArray, List.set_cons_zero, List.set_cons_succ]
 refine wpAnyH_take (i := 7) (v := ?_) rfl (by kernel_rfl) (by kernel_rfl) (by kernel_rfl) (fun _ _ _ h => h) (Or.inl ⟨by rfl, ?_⟩) hHeld ?_
 rotate_left
 ·intro w9 hS9
  have g0 := (HF1.out.f.keep hS9).a5
  go_simp
  try with_reducible rfl
 show wpAnyH _ _ _ _ _ _ _ (Act.put _ (some _) _) _
 simp only [Act.put, List.setIfInBounds_toArray, List.set_cons_zero, List.set_cons_succ]
 refine wpAnyH_take (i := 9) (v := ?_) rfl (by kernel_rfl) (by kernel_rfl) (by kernel_rfl) (fun _ _ _ h => h) (Or.inl ⟨by rfl, ?_⟩) hHeld ?_
 rotate_left
 ·intro w9 hS9
  go_simp
  try with_reducible rfl
 show wpAnyH _ _ _ _ _ _ _ (Act.put _ (some _) _) _
 simp only [Act.put, List.setIfInBounds_toArray, List.set_cons_zero, List.set_cons_succ]
 refine wpAnyH_take (i := 10) (v := ?_) rfl (by kernel_rfl) (by kernel_rfl) (by kernel_rfl) (fun _ _ _ h => h) (Or.inl ⟨by rfl, ?_⟩) hHeld ?_
 rotate_left
 ·intro w9 hS9
  go_simp
  try with_reducible rfl
 show wpAnyH _ _ _ _ _ _ _ (Act.put _ (some _) _) _
 simp only [Act.put, List.setIfInBounds_toArray, List.set_cons_zero, List.set_cons_succ]
 refine wpAnyH_take (i := 11) (v := ?_) rfl (by kernel_rfl) (by kernel_rfl) (by kernel_rfl) (fun _ _ _ h => h) (Or.inl ⟨by rfl, ?_⟩) hHeld ?_
 rotate_left
 ·intro w9 hS9
  have g0 := (HF1.out.f.keep hS9).a4
  go_simp
  try with_reducible rfl
 show wpAnyH _ _ _ _ _ _ _ (Act.put _ (some _) _) _
 simp only [Act.put, List.setIfInBounds_toArray, List.set_cons_zero, List.set_cons_succ]
 refine wpAnyH_take (i := 12) (v := ?_) rfl (by kernel_rfl) (by kernel_rfl) (by kernel_rfl) (fun _ _ _ h => h) (Or.inl ⟨by rfl, ?_⟩) hHeld ?_
 rotate_left
 ·intro w9 hS9
  go_simp
  try with_reducible rfl
 show wpAnyH _ _ _ _ _ _ _ (Act.put _ (some _) _) _
 simp only [Act.put, List.setIfInBounds_toArray, List.set_cons_zero, List.set_cons_succ]
 refine wpAnyH_ready (rs := [8]) (by kernel_rfl) (by simp) ?_
 refine AllReadyH.cons rfl (fun K hK => ?_) AllReadyH.nil
 go_simp
 go_wp2_with (go_at_call 105; refine (TY _ (HF1.out.f.keep hHeld).below).mono ?_; rintro e w2 ⟨rfl, bb⟩; have bc := hHeld.trans (bb.mono hHeld.size))
 refine hK.out _ _ ?_ (fun hHeld2 => ?_)
 ·exact bc
 clear hK K
 have hPrev := hHeld
 clear hHeld
 have hHeld := hHeld2
 clear hHeld2 bc
 try simp only [Act.put, List.setIfInBounds_toArray, List.set_cons_zero, List.set_cons_succ]
 refine wpAnyH_ready (rs := [13]) (by kernel_rfl) (by simp) ?_
 refine AllReadyH.cons rfl (fun K hK => ?_) AllReadyH.nil
 go_simp
 go_wp2_with (go_at_call 104; refine (castI i.op (typeF d i.a) i.w p _).mono ?_; rintro e w8 ⟨rfl, hw8⟩; rw [hw8])
 refine hK.out _ _ ?_ (fun hHeld2 => ?_)
 ·exact hHeld
 clear hK K hHeld
 have hHeld := hHeld2
 clear hHeld2
 try simp only [Act.put, List.setIfInBounds_toArray, List.set_cons_zero, List.set_cons_succ]
 refine wpAnyH_take (i := 14) (v := ?_) rfl (by kernel_rfl) (by kernel_rfl) (by kernel_rfl) (fun _ _ _ h => h) (Or.inl ⟨by rfl, ?_⟩) hHeld ?_
 rotate_left
 ·intro w9 hS9
  go_simp
  try with_reducible rfl
 show wpAnyH _ _ _ _ _ _ _ (Act.put _ (some _) _) _
 simp only [Act.put, List.setIfInBounds_toArray, List.set_cons_zero, List.set_cons_succ]
 refine wpAnyH_take (i := 15) (v := ?_) rfl (by kernel_rfl) (by kernel_rfl) (by kernel_rfl) (fun _ _ _ h => h) (Or.inl ⟨by rfl, ?_⟩) hHeld ?_
 rotate_left
 ·intro w9 hS9
  go_simp
  try with_reducible rfl
 show wpAnyH _ _ _ _ _ _ _ (Act.put _ (some _) _) _
 simp only [Act.put, List.setIfInBounds_toArray, List.set_cons_zero, List.set_cons_succ]
 refine wpAnyH_take (i := 16) (v := ?_) rfl (by kernel_rfl) (by kernel_rfl) (by kernel_rfl) (fun _ _ _ h => h) (Or.inl ⟨by rfl, ?_⟩) hHeld ?_
 rotate_left
 ·intro w9 hS9
  go_simp
  try with_reducible rfl
 show wpAnyH _ _ _ _ _ _ _ (Act.put _ (some _) _) _
 simp only [Act.put, List.setIfInBounds_toArray, List.set_cons_zero, List.set_cons_succ]
 refine wpAnyH_take (i := 17) (v := ?_) rfl (by kernel_rfl) (by kernel_rfl) (by kernel_rfl) (fun _ _ _ h => h) (Or.inl ⟨by rfl, ?_⟩) hHeld ?_
 rotate_left
 ·intro w9 hS9
  go_simp
  try with_reducible rfl
 show wpAnyH _ _ _ _ _ _ _ (Act.put _ (some _) _) _
 simp only [Act.put, List.setIfInBounds_toArray, List.set_cons_zero, List.set_cons_succ]
 refine wpAnyH_take (i := 18) (v := ?_) rfl (by kernel_rfl) (by kernel_rfl) (by kernel_rfl) (fun _ _ _ h => h) (Or.inl ⟨by rfl, ?_⟩) hHeld ?_
 rotate_left
 ·intro w9 hS9
  go_simp
  try with_reducible rfl
 show wpAnyH _ _ _ _ _ _ _ (Act.put _ (some _) _) _
 simp only [Act.put, List.setIfInBounds_toArray, List.set_cons_zero, List.set_cons_succ]
 refine wpAnyH_done (by kernel_rfl) ?_ _
 have HF2 : Hid (Fo2 d i u0 c0 u2 c2 ua qa w w2) := HF1.out.keep hHeld
 clear hHeld hPrev bb x0 x1 x2 x3 x4 x5 x6 x7 x8 x9
 have x0 := HF2.out.f.a0
 have x1 := HF2.out.f.a1
 have x2 := HF2.out.f.a2
 have x3 := HF2.out.f.a3
 have x4 := HF2.out.f.a4
 have x5 := HF2.out.f.a5
 have x6 := HF2.out.f.a6
 have x7 := HF2.out.f.a7
 have x8 := HF2.out.f.a8
 have x9 := HF2.out.f.a9
 obtain ⟨r0, r1, r2, r3, r4, r5, r6⟩ := HF2.out.cell
 have rf := HF2.out.froz
 cases pb with
 | false =>
  go_wp2_with fail
  have hr := (heap_set (o := 6) (v := .slice none 0 0) (heap_set (o := 5) (v := .int .i64 0) (heap_set (o := 4) (v := .int .i64 0) (heap_set (o := 3) (v := .int .i64 0) (heap_set (o := 2) (v := .int .i64 0) (heap_set (o := 1) (v := .int .i64 0) (heap_set (o := 0) (v := .int .i64 0) HF2.out.r)))))))
  refine bodyPost_ret (v := .tuple #[.agg #[.int .i64 0, .int .i64 0, .int .i64 0, .int .i64 0, .int .i64 0, .int .i64 0, .slice none 0 0], .bool false]) ((results_cell_row_tmp Tryz.results62 _ _ (w.heap.size + 1) _ rfl (run_loadVar_row _ _ 29 _ _ (0, 0) _ hr Tryz.underlying29 rfl (by kernel_rfl))).trans (by rfl)) rfl ⟨told_none (by unfold rule4; rw [const_no Hp.out rfl]) rfl, ?_⟩
  exact (by repeat (first | refine Below.setCell ?_ (by dsimp only; omega) _ | exact HF2.out.f.below))
 | true =>
  have HR : Hid (rule4 d i = if castB i.op (typeF d i.a) i.w p = true then some (constD (instW i) (castZ i.op (typeF d i.a) i.w p)) else none) := by show _ = _; unfold rule4; rw [const_yes Hp.out rfl]
  cases hb : castB i.op (typeF d i.a) i.w p with
  | false =>
   go_wp2_with fail
   have hr := (heap_set (o := 6) (v := .slice none 0 0) (heap_set (o := 5) (v := .int .i64 0) (heap_set (o := 4) (v := .int .i64 0) (heap_set (o := 3) (v := .int .i64 0) (heap_set (o := 2) (v := .int .i64 0) (heap_set (o := 1) (v := .int .i64 0) (heap_set (o := 0) (v := .int .i64 0) HF2.out.r)))))))
   refine bodyPost_ret (v := .tuple #[.agg #[.int .i64 0, .int .i64 0, .int .i64 0, .int .i64 0, .int .i64 0, .int .i64 0, .slice none 0 0], .bool false]) ((results_cell_row_tmp Tryz.results62 _ _ (w.heap.size + 1) _ rfl (run_loadVar_row _ _ 29 _ _ (0, 0) _ hr Tryz.underlying29 rfl (by kernel_rfl))).trans (by rfl)) rfl ⟨told_none (by rw [HR.out, if_neg (by rw [hb]; simp)]) rfl, ?_⟩
   exact (by repeat (first | refine Below.setCell ?_ (by dsimp only; omega) _ | exact HF2.out.f.below))
  | true =>
   go_wp2_with fail
   refine (constI d i u0 c0 u2 c2 ua qa (castZ i.op (typeF d i.a) i.w p) _).mono ?_
   rintro e w3 ⟨rfl, b3⟩
   clear r0 r1 r2 r3 r4 r5 r6 rf
   have F3 := HF2.out.keep b3
   obtain ⟨r0, r1, r2, r3, r4, r5, r6⟩ := F3.cell
   have rf := F3.froz
   have HF3 : Hid (Fo2 d i u0 c0 u2 c2 ua qa w w3) := F3
   clear F3 b3
   go_wp2_with fail
   have hr := (heap_set (o := 6) (v := .slice none 0 0) (heap_set (o := 5) (v := .int .i64 (castZ i.op (typeF d i.a) i.w p)) (heap_set (o := 4) (v := .int .i64 0) (heap_set (o := 3) (v := .int .i64 0) (heap_set (o := 2) (v := .int .i64 0) (heap_set (o := 1) (v := .int .i64 (instW i)) (heap_set (o := 0) (v := .int .i64 21) HF3.out.r)))))))
   refine bodyPost_ret (v := .tuple #[.agg #[.int .i64 21, .int .i64 (instW i), .int .i64 0, .int .i64 0, .int .i64 0, .int .i64 (castZ i.op (typeF d i.a) i.w p), .slice none 0 0], .bool true]) ((results_cell_row_tmp Tryz.results62 _ _ (w.heap.size + 1) _ rfl (run_loadVar_row _ _ 29 _ _ (0, 0) _ hr Tryz.underlying29 rfl (by kernel_rfl))).trans (by rfl)) rfl ⟨told_some (r := constD (instW i) (castZ i.op (typeF d i.a) i.w p)) (u := none) (q := 0) (by rw [HR.out, if_pos hb]) (ints_none _ _) rfl, ?_⟩
   exact (by repeat (first | refine Below.setCell ?_ (by dsimp only; omega) _ | exact HF3.out.f.below))
end Go.Proofs.YtoknhppjdmoblaaGreatDoor
