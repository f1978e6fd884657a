import Derived.Test.YtoknhppjdmoblaaGreatDoorFdBQ
import Derived.Test.YtoknhppjdmoblaaGreatDoorBinI
namespace Go.Proofs.YtoknhppjdmoblaaGreatDoor
set_option linter.unusedVariables false
set_option linter.unusedSimpArgs false
open Go.RowKit
def KnownC (o : Option Int) (x : Int) (b : Bool) : Prop := (b = true ∧ o = some x) ∨ (b = false ∧ o = none ∧ x = 0)
theorem const_form {o : Option Int} {e : Ending} (h : ConstTold o e) : ∃ x b, e = .returned (.tuple #[.int .i64 x, .bool b]) ∧ KnownC o x b := by
 cases o with
 | none => exact ⟨0, false, h, .inr ⟨rfl, rfl, rfl⟩⟩
 | some x => exact ⟨x, true, h, .inl ⟨rfl, rfl⟩⟩
theorem const_yes {o : Option Int} {x : Int} {b : Bool} (h : KnownC o x b) (hb : b = true) : o = some x := by
 rcases h with h | h
 ·exact h.2
 ·rw [h.1] at hb; cases hb
theorem const_no {o : Option Int} {x : Int} {b : Bool} (h : KnownC o x b) (hb : b = false) : o = none := by
 rcases h with h | h
 ·rw [h.1] at hb; cases hb
 ·exact h.2.1
set_option maxHeartbeats 4000000 in
set_option maxRecDepth 100000 in
theorem rule1I (lo : Nat) (d : FuncD) (i : InstD) (u0 : Option Addr) (c0 : Nat) (u2 : Option Addr) (c2 : Nat) (ua : Option Addr) (qa : Nat) (w : World) (hs : SmFunc d) (k0 : IntsAt w lo u0 d.params) (k2 : BlocksAt w lo u2 d.blocks) (ku : IntsAt w lo ua i.args) (hi : ISm i) :
  Calls Tryz.prog 59 #[.agg #[.slice u0 d.params.length c0, .int .i64 d.ret, .slice u2 d.blocks.length c2, .int .i64 i.op, .int .i64 i.w, .int .i64 i.a, .int .i64 i.b, .int .i64 i.c, .int .i64 i.imm, .slice ua i.args.length qa]] w fun e w' => InstTold w lo (rule1 d i) e ∧ Below w.heap.size w w' := by
 have F0 := Fo2.start (d := d) (i := i) (u0 := u0) (u2 := u2) (ua := ua) (c0 := c0) (c2 := c2) (qa := qa) (w := w)
 have CO := fun (id : Int) W (k : Below w.heap.size w W) (h : id ≤ 9223372036854775807) => constI_any lo d u0 c0 u2 c2 id W hs (k2.keep (agree_of_below k lo)) h
 have x0 := F0.f.a0
 have x1 := F0.f.a1
 have x2 := F0.f.a2
 have x3 := F0.f.a3
 have x4 := F0.f.a4
 have x5 := F0.f.a5
 have x6 := F0.f.a6
 have x7 := F0.f.a7
 have x8 := F0.f.a8
 have x9 := F0.f.a9
 have HF0 : Hid (Fo2 d i u0 c0 u2 c2 ua qa w _) := F0
 have HKU : Hid (IntsAt w lo ua i.args) := ku
 have HI : Hid (ISm i) := hi
 clear F0 hs k0 k2 ku hi
 go_enter Tryz.func59, Tryz.ntmps59
 go_wp2_with fail
 refine (CO i.a _ HF0.out.f.below HI.out.a).mono ?_
 rintro e w1 ⟨h1, b1⟩
 obtain ⟨p, pb, he1, pc⟩ := const_form h1
 subst he1
 clear h1
 have Hp : Hid (KnownC _ _ _) := pc
 clear pc
 have HF1 : Hid (Fo2 d i u0 c0 u2 c2 ua qa w w1) := HF0.out.keep b1
 clear x0 x1 x2 x3 x4 x5 x6 x7 x8 x9 b1
 have x0 := HF1.out.f.a0
 have x1 := HF1.out.f.a1
 have x2 := HF1.out.f.a2
 have x3 := HF1.out.f.a3
 have x4 := HF1.out.f.a4
 have x5 := HF1.out.f.a5
 have x6 := HF1.out.f.a6
 have x7 := HF1.out.f.a7
 have x8 := HF1.out.f.a8
 have x9 := HF1.out.f.a9
 go_wp2_with fail
 refine (CO i.b _ HF1.out.f.below HI.out.b).mono ?_
 rintro e w2 ⟨h2, b2⟩
 obtain ⟨t, tb, he2, tc⟩ := const_form h2
 subst he2
 clear h2
 have Ht : Hid (KnownC _ _ _) := tc
 clear tc
 have HF2 : Hid (Fo2 d i u0 c0 u2 c2 ua qa w w2) := HF1.out.keep b2
 clear x0 x1 x2 x3 x4 x5 x6 x7 x8 x9 b2
 have x0 := HF2.out.f.a0
 have x1 := HF2.out.f.a1
 have x2 := HF2.out.f.a2
 have x3 := HF2.out.f.a3
 have x4 := HF2.out.f.a4
 have x5 := HF2.out.f.a5
 have x6 := HF2.out.f.a6
 have x7 := HF2.out.f.a7
 have x8 := HF2.out.f.a8
 have x9 := HF2.out.f.a9
 obtain ⟨r0, r1, r2, r3, r4, r5, r6⟩ := HF2.out.cell
 have rf := HF2.out.froz
 go_wp2_with fail
 refine (opI i.op _).mono ?_
 rintro e w3 ⟨rfl, hw3⟩
 rw [hw3]
 clear hw3
 cases ho : opB i.op with
 | false =>
  go_wp2_with fail
  have hr := (heap_set (o := 6) (v := .slice none 0 0) (heap_set (o := 5) (v := .int .i64 0) (heap_set (o := 4) (v := .int .i64 0) (heap_set (o := 3) (v := .int .i64 0) (heap_set (o := 2) (v := .int .i64 0) (heap_set (o := 1) (v := .int .i64 0) (heap_set (o := 0) (v := .int .i64 0) HF2.out.r)))))))
  refine bodyPost_ret (v := .tuple #[.agg #[.int .i64 0, .int .i64 0, .int .i64 0, .int .i64 0, .int .i64 0, .int .i64 0, .slice none 0 0], .bool false]) ((results_cell_row_tmp Tryz.results59 _ _ (w.heap.size + 1) _ rfl (run_loadVar_row _ _ 29 _ _ (0, 0) _ hr Tryz.underlying29 rfl (by kernel_rfl))).trans (by rfl)) rfl ⟨told_none (by unfold rule1; rw [if_neg (by rw [ho]; simp)]) rfl, ?_⟩
  exact (by repeat (first | refine Below.setCell ?_ (by dsimp only; omega) _ | exact HF2.out.f.below))
 | true =>
  cases pb with
  | false =>
   go_wp2_with fail
   have hr := (heap_set (o := 6) (v := .slice none 0 0) (heap_set (o := 5) (v := .int .i64 0) (heap_set (o := 4) (v := .int .i64 0) (heap_set (o := 3) (v := .int .i64 0) (heap_set (o := 2) (v := .int .i64 0) (heap_set (o := 1) (v := .int .i64 0) (heap_set (o := 0) (v := .int .i64 0) HF2.out.r)))))))
   refine bodyPost_ret (v := .tuple #[.agg #[.int .i64 0, .int .i64 0, .int .i64 0, .int .i64 0, .int .i64 0, .int .i64 0, .slice none 0 0], .bool false]) ((results_cell_row_tmp Tryz.results59 _ _ (w.heap.size + 1) _ rfl (run_loadVar_row _ _ 29 _ _ (0, 0) _ hr Tryz.underlying29 rfl (by kernel_rfl))).trans (by rfl)) rfl ⟨told_none (by unfold rule1; rw [if_pos ho, const_no Hp.out rfl]) rfl, ?_⟩
   exact (by repeat (first | refine Below.setCell ?_ (by dsimp only; omega) _ | exact HF2.out.f.below))
  | true =>
   cases tb with
   | false =>
    go_wp2_with fail
    have hr := (heap_set (o := 6) (v := .slice none 0 0) (heap_set (o := 5) (v := .int .i64 0) (heap_set (o := 4) (v := .int .i64 0) (heap_set (o := 3) (v := .int .i64 0) (heap_set (o := 2) (v := .int .i64 0) (heap_set (o := 1) (v := .int .i64 0) (heap_set (o := 0) (v := .int .i64 0) HF2.out.r)))))))
    refine bodyPost_ret (v := .tuple #[.agg #[.int .i64 0, .int .i64 0, .int .i64 0, .int .i64 0, .int .i64 0, .int .i64 0, .slice none 0 0], .bool false]) ((results_cell_row_tmp Tryz.results59 _ _ (w.heap.size + 1) _ rfl (run_loadVar_row _ _ 29 _ _ (0, 0) _ hr Tryz.underlying29 rfl (by kernel_rfl))).trans (by rfl)) rfl ⟨told_none (by unfold rule1; rw [if_pos ho, const_yes Hp.out rfl, const_no Ht.out rfl]) rfl, ?_⟩
    exact (by repeat (first | refine Below.setCell ?_ (by dsimp only; omega) _ | exact HF2.out.f.below))
   | true =>
    go_wp2_with fail
    refine (binI i.op i.w p t _).mono ?_
    rintro e w4 ⟨rfl, b4, _⟩
    clear r0 r1 r2 r3 r4 r5 r6 rf
    have HF4 : Hid (Fo2 d i u0 c0 u2 c2 ua qa w w4) := HF2.out.keep b4
    clear x0 x1 x2 x3 x4 x5 x6 x7 x8 x9 b4
    have x0 := HF4.out.f.a0
    have x1 := HF4.out.f.a1
    have x2 := HF4.out.f.a2
    have x3 := HF4.out.f.a3
    have x4 := HF4.out.f.a4
    have x5 := HF4.out.f.a5
    have x6 := HF4.out.f.a6
    have x7 := HF4.out.f.a7
    have x8 := HF4.out.f.a8
    have x9 := HF4.out.f.a9
    obtain ⟨r0, r1, r2, r3, r4, r5, r6⟩ := HF4.out.cell
    have rf := HF4.out.froz
    have HR : Hid (rule1 d i = if binC i.op i.w p t = 0 then some (constD (instW i) (binZ i.op i.w p t)) else some i) := by show _ = _; unfold rule1; rw [if_pos ho, const_yes Hp.out rfl, const_yes Ht.out rfl]
    by_cases hb : binC i.op i.w p t = 0
    ·rw [hb]
     go_wp2_with fail
     refine (constI d i u0 c0 u2 c2 ua qa (binZ i.op i.w p t) _).mono ?_
     rintro e w5 ⟨rfl, b5⟩
     clear r0 r1 r2 r3 r4 r5 r6 rf
     have F5 := HF4.out.keep b5
     obtain ⟨r0, r1, r2, r3, r4, r5, r6⟩ := F5.cell
     have rf := F5.froz
     have HF5 : Hid (Fo2 d i u0 c0 u2 c2 ua qa w w5) := F5
     clear F5 b5
     go_wp2_with fail
     have hr := (heap_set (o := 6) (v := .slice none 0 0) (heap_set (o := 5) (v := .int .i64 (binZ i.op i.w p t)) (heap_set (o := 4) (v := .int .i64 0) (heap_set (o := 3) (v := .int .i64 0) (heap_set (o := 2) (v := .int .i64 0) (heap_set (o := 1) (v := .int .i64 (instW i)) (heap_set (o := 0) (v := .int .i64 21) HF5.out.r)))))))
     refine bodyPost_ret (v := .tuple #[.agg #[.int .i64 21, .int .i64 (instW i), .int .i64 0, .int .i64 0, .int .i64 0, .int .i64 (binZ i.op i.w p t), .slice none 0 0], .bool true]) ((results_cell_row_tmp Tryz.results59 _ _ (w.heap.size + 1) _ rfl (run_loadVar_row _ _ 29 _ _ (0, 0) _ hr Tryz.underlying29 rfl (by kernel_rfl))).trans (by rfl)) rfl ⟨told_some (r := constD (instW i) (binZ i.op i.w p t)) (u := none) (q := 0) (by rw [HR.out, if_pos hb]) (ints_none _ _) rfl, ?_⟩
     exact (by repeat (first | refine Below.setCell ?_ (by dsimp only; omega) _ | exact HF5.out.f.below))
    ·have qb : (binC i.op i.w p t == 0) = false := by simpa using hb
     go_wp2_with fail
     have hr := (heap_set (o := 6) (v := .slice ua i.args.length qa) (heap_set (o := 5) (v := .int .i64 i.imm) (heap_set (o := 4) (v := .int .i64 i.c) (heap_set (o := 3) (v := .int .i64 i.b) (heap_set (o := 2) (v := .int .i64 i.a) (heap_set (o := 1) (v := .int .i64 i.w) (heap_set (o := 0) (v := .int .i64 i.op) HF4.out.r)))))))
     refine bodyPost_ret (v := .tuple #[.agg #[.int .i64 i.op, .int .i64 i.w, .int .i64 i.a, .int .i64 i.b, .int .i64 i.c, .int .i64 i.imm, .slice ua i.args.length qa], .bool true]) ((results_cell_row_tmp Tryz.results59 _ _ (w.heap.size + 1) _ rfl (run_loadVar_row _ _ 29 _ _ (0, 0) _ hr Tryz.underlying29 rfl (by kernel_rfl))).trans (by rfl)) rfl ⟨told_some (r := i) (u := ua) (q := qa) (by rw [HR.out, if_neg hb]) HKU.out rfl, ?_⟩
     exact (by repeat (first | refine Below.setCell ?_ (by dsimp only; omega) _ | exact HF4.out.f.below))
set_option maxHeartbeats 4000000 in
set_option maxRecDepth 100000 in
theorem rule3I (lo : Nat) (d : FuncD) (i : InstD) (u0 : Option Addr) (c0 : Nat) (u2 : Option Addr) (c2 : Nat) (ua : Option Addr) (qa : Nat) (w : World) (hs : SmFunc d) (k0 : IntsAt w lo u0 d.params) (k2 : BlocksAt w lo u2 d.blocks) (ku : IntsAt w lo ua i.args) (hi : ISm i) :
  Calls Tryz.prog 61 #[.agg #[.slice u0 d.params.length c0, .int .i64 d.ret, .slice u2 d.blocks.length c2, .int .i64 i.op, .int .i64 i.w, .int .i64 i.a, .int .i64 i.b, .int .i64 i.c, .int .i64 i.imm, .slice ua i.args.length qa]] w fun e w' => InstTold w lo (rule3 d i) e ∧ Below w.heap.size w w' := by
 have F0 := Fo2.start (d := d) (i := i) (u0 := u0) (u2 := u2) (ua := ua) (c0 := c0) (c2 := c2) (qa := qa) (w := w)
 have CO := fun (id : Int) W (k : Below w.heap.size w W) (h : id ≤ 9223372036854775807) => constI_any lo d u0 c0 u2 c2 id W hs (k2.keep (agree_of_below k lo)) h
 have x0 := F0.f.a0
 have x1 := F0.f.a1
 have x2 := F0.f.a2
 have x3 := F0.f.a3
 have x4 := F0.f.a4
 have x5 := F0.f.a5
 have x6 := F0.f.a6
 have x7 := F0.f.a7
 have x8 := F0.f.a8
 have x9 := F0.f.a9
 have HF0 : Hid (Fo2 d i u0 c0 u2 c2 ua qa w _) := F0
 have HKU : Hid (IntsAt w lo ua i.args) := ku
 have HI : Hid (ISm i) := hi
 obtain ⟨r0, r1, r2, r3, r4, r5, r6⟩ := F0.cell
 have rf := F0.froz
 clear F0 hs k0 k2 ku hi CO
 by_cases hab : i.a = i.b
 ·have qe : (i.a == i.b) = true := by simpa using hab
  have HR : Hid (rule3 d i = ruleN i (idC i.op true)) := by show _ = _; unfold rule3; rw [decide_eq_true hab]
  have HAB : Hid (i.a = i.b) := hab
  clear hab
  have hop : i.op = 2 ∨ i.op = 10 ∨ i.op = 15 ∨ i.op = 16 ∨ i.op = 17 ∨ i.op = 14 ∨ i.op = 8 ∨ i.op = 9 ∨ (¬ i.op = 2 ∧ ¬ i.op = 10 ∧ ¬ i.op = 15 ∧ ¬ i.op = 16 ∧ ¬ i.op = 17 ∧ ¬ i.op = 14 ∧ ¬ i.op = 8 ∧ ¬ i.op = 9) := by omega
  have HOP : Hid (i.op = i.op) := rfl
  rcases hop with h | h | h | h | h | h | h | h | h
  ·have HR2 : Hid (rule3 d i = some (constD (instW i) 0)) := by show _ = _; rw [HR.out, h]; rfl
   have q2 : (i.op == 2) = true := by rw [h]; rfl
   have q10 : (i.op == 10) = false := by rw [h]; rfl
   have q15 : (i.op == 15) = false := by rw [h]; rfl
   have q16 : (i.op == 16) = false := by rw [h]; rfl
   have q17 : (i.op == 17) = false := by rw [h]; rfl
   have q14 : (i.op == 14) = false := by rw [h]; rfl
   have q8 : (i.op == 8) = false := by rw [h]; rfl
   have q9 : (i.op == 9) = false := by rw [h]; rfl
   clear h
   go_enter Tryz.func61, Tryz.ntmps61
   go_wp2_with fail
   refine (constI d i u0 c0 u2 c2 ua qa 0 _).mono ?_
   rintro e w1 ⟨rfl, b1⟩
   clear r0 r1 r2 r3 r4 r5 r6 rf
   have F1 := HF0.out.keep b1
   obtain ⟨r0, r1, r2, r3, r4, r5, r6⟩ := F1.cell
   have rf := F1.froz
   have HF1 : Hid (Fo2 d i u0 c0 u2 c2 ua qa w w1) := F1
   clear F1 b1
   go_wp2_with fail
   have hr := (heap_set (o := 6) (v := .slice none 0 0) (heap_set (o := 5) (v := .int .i64 0) (heap_set (o := 4) (v := .int .i64 0) (heap_set (o := 3) (v := .int .i64 0) (heap_set (o := 2) (v := .int .i64 0) (heap_set (o := 1) (v := .int .i64 (instW i)) (heap_set (o := 0) (v := .int .i64 21) HF1.out.r)))))))
   refine bodyPost_ret (v := .tuple #[.agg #[.int .i64 21, .int .i64 (instW i), .int .i64 0, .int .i64 0, .int .i64 0, .int .i64 0, .slice none 0 0], .bool true]) ((results_cell_row_tmp Tryz.results61 _ _ (w.heap.size + 1) _ rfl (run_loadVar_row _ _ 29 _ _ (0, 0) _ hr Tryz.underlying29 rfl (by kernel_rfl))).trans (by rfl)) rfl ⟨told_some (r := constD (instW i) 0) (u := none) (q := 0) (HR2.out) (ints_none _ _) rfl, ?_⟩
   exact (by repeat (first | refine Below.setCell ?_ (by dsimp only; omega) _ | exact HF1.out.f.below))
  ·have HR2 : Hid (rule3 d i = some (constD (instW i) 0)) := by show _ = _; rw [HR.out, h]; rfl
   have q2 : (i.op == 2) = false := by rw [h]; rfl
   have q10 : (i.op == 10) = true := by rw [h]; rfl
   have q15 : (i.op == 15) = false := by rw [h]; rfl
   have q16 : (i.op == 16) = false := by rw [h]; rfl
   have q17 : (i.op == 17) = false := by rw [h]; rfl
   have q14 : (i.op == 14) = false := by rw [h]; rfl
   have q8 : (i.op == 8) = false := by rw [h]; rfl
   have q9 : (i.op == 9) = false := by rw [h]; rfl
   clear h
   go_enter Tryz.func61, Tryz.ntmps61
   go_wp2_with fail
   refine (constI d i u0 c0 u2 c2 ua qa 0 _).mono ?_
   rintro e w1 ⟨rfl, b1⟩
   clear r0 r1 r2 r3 r4 r5 r6 rf
   have F1 := HF0.out.keep b1
   obtain ⟨r0, r1, r2, r3, r4, r5, r6⟩ := F1.cell
   have rf := F1.froz
   have HF1 : Hid (Fo2 d i u0 c0 u2 c2 ua qa w w1) := F1
   clear F1 b1
   go_wp2_with fail
   have hr := (heap_set (o := 6) (v := .slice none 0 0) (heap_set (o := 5) (v := .int .i64 0) (heap_set (o := 4) (v := .int .i64 0) (heap_set (o := 3) (v := .int .i64 0) (heap_set (o := 2) (v := .int .i64 0) (heap_set (o := 1) (v := .int .i64 (instW i)) (heap_set (o := 0) (v := .int .i64 21) HF1.out.r)))))))
   refine bodyPost_ret (v := .tuple #[.agg #[.int .i64 21, .int .i64 (instW i), .int .i64 0, .int .i64 0, .int .i64 0, .int .i64 0, .slice none 0 0], .bool true]) ((results_cell_row_tmp Tryz.results61 _ _ (w.heap.size + 1) _ rfl (run_loadVar_row _ _ 29 _ _ (0, 0) _ hr Tryz.underlying29 rfl (by kernel_rfl))).trans (by rfl)) rfl ⟨told_some (r := constD (instW i) 0) (u := none) (q := 0) (HR2.out) (ints_none _ _) rfl, ?_⟩
   exact (by repeat (first | refine Below.setCell ?_ (by dsimp only; omega) _ | exact HF1.out.f.below))
  ·have HR2 : Hid (rule3 d i = some (constD (instW i) 0)) := by show _ = _; rw [HR.out, h]; rfl
   have q2 : (i.op == 2) = false := by rw [h]; rfl
   have q10 : (i.op == 10) = false := by rw [h]; rfl
   have q15 : (i.op == 15) = true := by rw [h]; rfl
   have q16 : (i.op == 16) = false := by rw [h]; rfl
   have q17 : (i.op == 17) = false := by rw [h]; rfl
   have q14 : (i.op == 14) = false := by rw [h]; rfl
   have q8 : (i.op == 8) = false := by rw [h]; rfl
   have q9 : (i.op == 9) = false := by rw [h]; rfl
   clear h
   go_enter Tryz.func61, Tryz.ntmps61
   go_wp2_with fail
   refine (constI d i u0 c0 u2 c2 ua qa 0 _).mono ?_
   rintro e w1 ⟨rfl, b1⟩
   clear r0 r1 r2 r3 r4 r5 r6 rf
   have F1 := HF0.out.keep b1
   obtain ⟨r0, r1, r2, r3, r4, r5, r6⟩ := F1.cell
   have rf := F1.froz
   have HF1 : Hid (Fo2 d i u0 c0 u2 c2 ua qa w w1) := F1
   clear F1 b1
   go_wp2_with fail
   have hr := (heap_set (o := 6) (v := .slice none 0 0) (heap_set (o := 5) (v := .int .i64 0) (heap_set (o := 4) (v := .int .i64 0) (heap_set (o := 3) (v := .int .i64 0) (heap_set (o := 2) (v := .int .i64 0) (heap_set (o := 1) (v := .int .i64 (instW i)) (heap_set (o := 0) (v := .int .i64 21) HF1.out.r)))))))
   refine bodyPost_ret (v := .tuple #[.agg #[.int .i64 21, .int .i64 (instW i), .int .i64 0, .int .i64 0, .int .i64 0, .int .i64 0, .slice none 0 0], .bool true]) ((results_cell_row_tmp Tryz.results61 _ _ (w.heap.size + 1) _ rfl (run_loadVar_row _ _ 29 _ _ (0, 0) _ hr Tryz.underlying29 rfl (by kernel_rfl))).trans (by rfl)) rfl ⟨told_some (r := constD (instW i) 0) (u := none) (q := 0) (HR2.out) (ints_none _ _) rfl, ?_⟩
   exact (by repeat (first | refine Below.setCell ?_ (by dsimp only; omega) _ | exact HF1.out.f.below))
  ·have HR2 : Hid (rule3 d i = some (constD (instW i) 0)) := by show _ = _; rw [HR.out, h]; rfl
   have q2 : (i.op == 2) = false := by rw [h]; rfl
   have q10 : (i.op == 10) = false := by rw [h]; rfl
   have q15 : (i.op == 15) = false := by rw [h]; rfl
   have q16 : (i.op == 16) = true := by rw [h]; rfl
   have q17 : (i.op == 17) = false := by rw [h]; rfl
   have q14 : (i.op == 14) = false := by rw [h]; rfl
   have q8 : (i.op == 8) = false := by rw [h]; rfl
   have q9 : (i.op == 9) = false := by rw [h]; rfl
   clear h
   go_enter Tryz.func61, Tryz.ntmps61
   go_wp2_with fail
   refine (constI d i u0 c0 u2 c2 ua qa 0 _).mono ?_
   rintro e w1 ⟨rfl, b1⟩
   clear r0 r1 r2 r3 r4 r5 r6 rf
   have F1 := HF0.out.keep b1
   obtain ⟨r0, r1, r2, r3, r4, r5, r6⟩ := F1.cell
   have rf := F1.froz
   have HF1 : Hid (Fo2 d i u0 c0 u2 c2 ua qa w w1) := F1
   clear F1 b1
   go_wp2_with fail
   have hr := (heap_set (o := 6) (v := .slice none 0 0) (heap_set (o := 5) (v := .int .i64 0) (heap_set (o := 4) (v := .int .i64 0) (heap_set (o := 3) (v := .int .i64 0) (heap_set (o := 2) (v := .int .i64 0) (heap_set (o := 1) (v := .int .i64 (instW i)) (heap_set (o := 0) (v := .int .i64 21) HF1.out.r)))))))
   refine bodyPost_ret (v := .tuple #[.agg #[.int .i64 21, .int .i64 (instW i), .int .i64 0, .int .i64 0, .int .i64 0, .int .i64 0, .slice none 0 0], .bool true]) ((results_cell_row_tmp Tryz.results61 _ _ (w.heap.size + 1) _ rfl (run_loadVar_row _ _ 29 _ _ (0, 0) _ hr Tryz.underlying29 rfl (by kernel_rfl))).trans (by rfl)) rfl ⟨told_some (r := constD (instW i) 0) (u := none) (q := 0) (HR2.out) (ints_none _ _) rfl, ?_⟩
   exact (by repeat (first | refine Below.setCell ?_ (by dsimp only; omega) _ | exact HF1.out.f.below))
  ·have HR2 : Hid (rule3 d i = some (constD (instW i) 0)) := by show _ = _; rw [HR.out, h]; rfl
   have q2 : (i.op == 2) = false := by rw [h]; rfl
   have q10 : (i.op == 10) = false := by rw [h]; rfl
   have q15 : (i.op == 15) = false := by rw [h]; rfl
   have q16 : (i.op == 16) = false := by rw [h]; rfl
   have q17 : (i.op == 17) = true := by rw [h]; rfl
   have q14 : (i.op == 14) = false := by rw [h]; rfl
   have q8 : (i.op == 8) = false := by rw [h]; rfl
   have q9 : (i.op == 9) = false := by rw [h]; rfl
   clear h
   go_enter Tryz.func61, Tryz.ntmps61
   go_wp2_with fail
   refine (constI d i u0 c0 u2 c2 ua qa 0 _).mono ?_
   rintro e w1 ⟨rfl, b1⟩
   clear r0 r1 r2 r3 r4 r5 r6 rf
   have F1 := HF0.out.keep b1
   obtain ⟨r0, r1, r2, r3, r4, r5, r6⟩ := F1.cell
   have rf := F1.froz
   have HF1 : Hid (Fo2 d i u0 c0 u2 c2 ua qa w w1) := F1
   clear F1 b1
   go_wp2_with fail
   have hr := (heap_set (o := 6) (v := .slice none 0 0) (heap_set (o := 5) (v := .int .i64 0) (heap_set (o := 4) (v := .int .i64 0) (heap_set (o := 3) (v := .int .i64 0) (heap_set (o := 2) (v := .int .i64 0) (heap_set (o := 1) (v := .int .i64 (instW i)) (heap_set (o := 0) (v := .int .i64 21) HF1.out.r)))))))
   refine bodyPost_ret (v := .tuple #[.agg #[.int .i64 21, .int .i64 (instW i), .int .i64 0, .int .i64 0, .int .i64 0, .int .i64 0, .slice none 0 0], .bool true]) ((results_cell_row_tmp Tryz.results61 _ _ (w.heap.size + 1) _ rfl (run_loadVar_row _ _ 29 _ _ (0, 0) _ hr Tryz.underlying29 rfl (by kernel_rfl))).trans (by rfl)) rfl ⟨told_some (r := constD (instW i) 0) (u := none) (q := 0) (HR2.out) (ints_none _ _) rfl, ?_⟩
   exact (by repeat (first | refine Below.setCell ?_ (by dsimp only; omega) _ | exact HF1.out.f.below))
  ·have HR2 : Hid (rule3 d i = some (constD (instW i) 1)) := by show _ = _; rw [HR.out, h]; rfl
   have q2 : (i.op == 2) = false := by rw [h]; rfl
   have q10 : (i.op == 10) = false := by rw [h]; rfl
   have q15 : (i.op == 15) = false := by rw [h]; rfl
   have q16 : (i.op == 16) = false := by rw [h]; rfl
   have q17 : (i.op == 17) = false := by rw [h]; rfl
   have q14 : (i.op == 14) = true := by rw [h]; rfl
   have q8 : (i.op == 8) = false := by rw [h]; rfl
   have q9 : (i.op == 9) = false := by rw [h]; rfl
   clear h
   go_enter Tryz.func61, Tryz.ntmps61
   go_wp2_with fail
   refine (constI d i u0 c0 u2 c2 ua qa 1 _).mono ?_
   rintro e w1 ⟨rfl, b1⟩
   clear r0 r1 r2 r3 r4 r5 r6 rf
   have F1 := HF0.out.keep b1
   obtain ⟨r0, r1, r2, r3, r4, r5, r6⟩ := F1.cell
   have rf := F1.froz
   have HF1 : Hid (Fo2 d i u0 c0 u2 c2 ua qa w w1) := F1
   clear F1 b1
   go_wp2_with fail
   have hr := (heap_set (o := 6) (v := .slice none 0 0) (heap_set (o := 5) (v := .int .i64 1) (heap_set (o := 4) (v := .int .i64 0) (heap_set (o := 3) (v := .int .i64 0) (heap_set (o := 2) (v := .int .i64 0) (heap_set (o := 1) (v := .int .i64 (instW i)) (heap_set (o := 0) (v := .int .i64 21) HF1.out.r)))))))
   refine bodyPost_ret (v := .tuple #[.agg #[.int .i64 21, .int .i64 (instW i), .int .i64 0, .int .i64 0, .int .i64 0, .int .i64 1, .slice none 0 0], .bool true]) ((results_cell_row_tmp Tryz.results61 _ _ (w.heap.size + 1) _ rfl (run_loadVar_row _ _ 29 _ _ (0, 0) _ hr Tryz.underlying29 rfl (by kernel_rfl))).trans (by rfl)) rfl ⟨told_some (r := constD (instW i) 1) (u := none) (q := 0) (HR2.out) (ints_none _ _) rfl, ?_⟩
   exact (by repeat (first | refine Below.setCell ?_ (by dsimp only; omega) _ | exact HF1.out.f.below))
  ·have HR2 : Hid (rule3 d i = some (copyD (instW i) i.a)) := by show _ = _; rw [HR.out, h]; rfl
   have q2 : (i.op == 2) = false := by rw [h]; rfl
   have q10 : (i.op == 10) = false := by rw [h]; rfl
   have q15 : (i.op == 15) = false := by rw [h]; rfl
   have q16 : (i.op == 16) = false := by rw [h]; rfl
   have q17 : (i.op == 17) = false := by rw [h]; rfl
   have q14 : (i.op == 14) = false := by rw [h]; rfl
   have q8 : (i.op == 8) = true := by rw [h]; rfl
   have q9 : (i.op == 9) = false := by rw [h]; rfl
   clear h
   go_enter Tryz.func61, Tryz.ntmps61
   go_wp2_with fail
   refine (copyOfI d i u0 c0 u2 c2 ua qa i.a _).mono ?_
   rintro e w1 ⟨rfl, b1⟩
   clear r0 r1 r2 r3 r4 r5 r6 rf
   have F1 := HF0.out.keep b1
   obtain ⟨r0, r1, r2, r3, r4, r5, r6⟩ := F1.cell
   have rf := F1.froz
   have HF1 : Hid (Fo2 d i u0 c0 u2 c2 ua qa w w1) := F1
   clear F1 b1
   go_wp2_with fail
   have hr := (heap_set (o := 6) (v := .slice none 0 0) (heap_set (o := 5) (v := .int .i64 0) (heap_set (o := 4) (v := .int .i64 0) (heap_set (o := 3) (v := .int .i64 0) (heap_set (o := 2) (v := .int .i64 i.a) (heap_set (o := 1) (v := .int .i64 (instW i)) (heap_set (o := 0) (v := .int .i64 27) HF1.out.r)))))))
   refine bodyPost_ret (v := .tuple #[.agg #[.int .i64 27, .int .i64 (instW i), .int .i64 i.a, .int .i64 0, .int .i64 0, .int .i64 0, .slice none 0 0], .bool true]) ((results_cell_row_tmp Tryz.results61 _ _ (w.heap.size + 1) _ rfl (run_loadVar_row _ _ 29 _ _ (0, 0) _ hr Tryz.underlying29 rfl (by kernel_rfl))).trans (by rfl)) rfl ⟨told_some (r := copyD (instW i) i.a) (u := none) (q := 0) (HR2.out) (ints_none _ _) rfl, ?_⟩
   exact (by repeat (first | refine Below.setCell ?_ (by dsimp only; omega) _ | exact HF1.out.f.below))
  ·have HR2 : Hid (rule3 d i = some (copyD (instW i) i.a)) := by show _ = _; rw [HR.out, h]; rfl
   have q2 : (i.op == 2) = false := by rw [h]; rfl
   have q10 : (i.op == 10) = false := by rw [h]; rfl
   have q15 : (i.op == 15) = false := by rw [h]; rfl
   have q16 : (i.op == 16) = false := by rw [h]; rfl
   have q17 : (i.op == 17) = false := by rw [h]; rfl
   have q14 : (i.op == 14) = false := by rw [h]; rfl
   have q8 : (i.op == 8) = false := by rw [h]; rfl
   have q9 : (i.op == 9) = true := by rw [h]; rfl
   clear h
   go_enter Tryz.func61, Tryz.ntmps61
   go_wp2_with fail
   refine (copyOfI d i u0 c0 u2 c2 ua qa i.a _).mono ?_
   rintro e w1 ⟨rfl, b1⟩
   clear r0 r1 r2 r3 r4 r5 r6 rf
   have F1 := HF0.out.keep b1
   obtain ⟨r0, r1, r2, r3, r4, r5, r6⟩ := F1.cell
   have rf := F1.froz
   have HF1 : Hid (Fo2 d i u0 c0 u2 c2 ua qa w w1) := F1
   clear F1 b1
   go_wp2_with fail
   have hr := (heap_set (o := 6) (v := .slice none 0 0) (heap_set (o := 5) (v := .int .i64 0) (heap_set (o := 4) (v := .int .i64 0) (heap_set (o := 3) (v := .int .i64 0) (heap_set (o := 2) (v := .int .i64 i.a) (heap_set (o := 1) (v := .int .i64 (instW i)) (heap_set (o := 0) (v := .int .i64 27) HF1.out.r)))))))
   refine bodyPost_ret (v := .tuple #[.agg #[.int .i64 27, .int .i64 (instW i), .int .i64 i.a, .int .i64 0, .int .i64 0, .int .i64 0, .slice none 0 0], .bool true]) ((results_cell_row_tmp Tryz.results61 _ _ (w.heap.size + 1) _ rfl (run_loadVar_row _ _ 29 _ _ (0, 0) _ hr Tryz.underlying29 rfl (by kernel_rfl))).trans (by rfl)) rfl ⟨told_some (r := copyD (instW i) i.a) (u := none) (q := 0) (HR2.out) (ints_none _ _) rfl, ?_⟩
   exact (by repeat (first | refine Below.setCell ?_ (by dsimp only; omega) _ | exact HF1.out.f.below))
  ·have HR2 : Hid (rule3 d i = none) := by show _ = _; rw [HR.out]; unfold idC ruleN; simp [h]
   have q2 : (i.op == 2) = false := by rw [beq_eq_false_iff_ne]; omega
   have q10 : (i.op == 10) = false := by rw [beq_eq_false_iff_ne]; omega
   have q15 : (i.op == 15) = false := by rw [beq_eq_false_iff_ne]; omega
   have q16 : (i.op == 16) = false := by rw [beq_eq_false_iff_ne]; omega
   have q17 : (i.op == 17) = false := by rw [beq_eq_false_iff_ne]; omega
   have q14 : (i.op == 14) = false := by rw [beq_eq_false_iff_ne]; omega
   have q8 : (i.op == 8) = false := by rw [beq_eq_false_iff_ne]; omega
   have q9 : (i.op == 9) = false := by rw [beq_eq_false_iff_ne]; omega
   clear h
   go_enter Tryz.func61, Tryz.ntmps61
   go_wp2_with fail
   refine bodyPost_ret (v := .tuple #[.agg #[.int .i64 0, .int .i64 0, .int .i64 0, .int .i64 0, .int .i64 0, .int .i64 0, .slice none 0 0], .bool false]) ((results_cell_row_tmp Tryz.results61 _ _ (w.heap.size + 1) _ rfl (run_loadVar_row _ _ 29 _ _ (0, 0) _ HF0.out.r Tryz.underlying29 rfl (by kernel_rfl))).trans (by rfl)) rfl ⟨told_none HR2.out rfl, HF0.out.f.below⟩
 ·have qe : (i.a == i.b) = false := by simpa using hab
  have HR : Hid (rule3 d i = none) := by show _ = _; unfold rule3; rw [decide_eq_false hab]; rfl
  clear hab
  go_enter Tryz.func61, Tryz.ntmps61
  go_wp2_with fail
  refine bodyPost_ret (v := .tuple #[.agg #[.int .i64 0, .int .i64 0, .int .i64 0, .int .i64 0, .int .i64 0, .int .i64 0, .slice none 0 0], .bool false]) ((results_cell_row_tmp Tryz.results61 _ _ (w.heap.size + 1) _ rfl (run_loadVar_row _ _ 29 _ _ (0, 0) _ HF0.out.r Tryz.underlying29 rfl (by kernel_rfl))).trans (by rfl)) rfl ⟨told_none HR.out rfl, HF0.out.f.below⟩
set_option maxHeartbeats 4000000 in
set_option maxRecDepth 100000 in
theorem rule6I (lo : Nat) (d : FuncD) (i : InstD) (u0 : Option Addr) (c0 : Nat) (u2 : Option Addr) (c2 : Nat) (ua : Option Addr) (qa : Nat) (w : World) (hs : SmFunc d) (k0 : IntsAt w lo u0 d.params) (k2 : BlocksAt w lo u2 d.blocks) (ku : IntsAt w lo ua i.args) (hi : ISm i) :
  Calls Tryz.prog 64 #[.agg #[.slice u0 d.params.length c0, .int .i64 d.ret, .slice u2 d.blocks.length c2, .int .i64 i.op, .int .i64 i.w, .int .i64 i.a, .int .i64 i.b, .int .i64 i.c, .int .i64 i.imm, .slice ua i.args.length qa]] w fun e w' => InstTold w lo (rule6 d i) e ∧ Below w.heap.size w w' := by
 have F0 := Fo2.start (d := d) (i := i) (u0 := u0) (u2 := u2) (ua := ua) (c0 := c0) (c2 := c2) (qa := qa) (w := w)
 have CO := fun (id : Int) W (k : Below w.heap.size w W) (h : id ≤ 9223372036854775807) => constI_any lo d u0 c0 u2 c2 id W hs (k2.keep (agree_of_below k lo)) h
 have x0 := F0.f.a0
 have x1 := F0.f.a1
 have x2 := F0.f.a2
 have x3 := F0.f.a3
 have x4 := F0.f.a4
 have x5 := F0.f.a5
 have x6 := F0.f.a6
 have x7 := F0.f.a7
 have x8 := F0.f.a8
 have x9 := F0.f.a9
 have HF0 : Hid (Fo2 d i u0 c0 u2 c2 ua qa w _) := F0
 have HKU : Hid (IntsAt w lo ua i.args) := ku
 have HI : Hid (ISm i) := hi
 clear F0 hs k0 k2 ku hi
 go_enter Tryz.func64, Tryz.ntmps64
 go_wp2_with fail
 refine (CO i.a _ HF0.out.f.below HI.out.a).mono ?_
 rintro e w1 ⟨h1, b1⟩
 obtain ⟨p, pb, he1, pc⟩ := const_form h1
 subst he1
 clear h1
 have Hp : Hid (KnownC _ _ _) := pc
 clear pc
 have HF1 : Hid (Fo2 d i u0 c0 u2 c2 ua qa w w1) := HF0.out.keep b1
 clear x0 x1 x2 x3 x4 x5 x6 x7 x8 x9 b1
 have x0 := HF1.out.f.a0
 have x1 := HF1.out.f.a1
 have x2 := HF1.out.f.a2
 have x3 := HF1.out.f.a3
 have x4 := HF1.out.f.a4
 have x5 := HF1.out.f.a5
 have x6 := HF1.out.f.a6
 have x7 := HF1.out.f.a7
 have x8 := HF1.out.f.a8
 have x9 := HF1.out.f.a9
 obtain ⟨r0, r1, r2, r3, r4, r5, r6⟩ := HF1.out.cell
 have rf := HF1.out.froz
 by_cases h27 : i.op = 27
 ·have q27 : (i.op != 27) = false := by rw [bne_eq_false_iff_eq]; exact h27
  have H27 : Hid (i.op = 27) := h27
  clear h27
  cases pb with
  | false =>
   go_wp2_with fail
   have hr := (heap_set (o := 6) (v := .slice none 0 0) (heap_set (o := 5) (v := .int .i64 0) (heap_set (o := 4) (v := .int .i64 0) (heap_set (o := 3) (v := .int .i64 0) (heap_set (o := 2) (v := .int .i64 0) (heap_set (o := 1) (v := .int .i64 0) (heap_set (o := 0) (v := .int .i64 0) HF1.out.r)))))))
   refine bodyPost_ret (v := .tuple #[.agg #[.int .i64 0, .int .i64 0, .int .i64 0, .int .i64 0, .int .i64 0, .int .i64 0, .slice none 0 0], .bool false]) ((results_cell_row_tmp Tryz.results64 _ _ (w.heap.size + 1) _ rfl (run_loadVar_row _ _ 29 _ _ (0, 0) _ hr Tryz.underlying29 rfl (by kernel_rfl))).trans (by rfl)) rfl ⟨told_none (by unfold rule6; rw [const_no Hp.out rfl]) rfl, ?_⟩
   exact (by repeat (first | refine Below.setCell ?_ (by dsimp only; omega) _ | exact HF1.out.f.below))
  | true =>
   have HR : Hid (rule6 d i = if i.op = 27 ∧ valueB i.w p = true then some (constD (instW i) p) else none) := by show _ = _; unfold rule6; rw [const_yes Hp.out rfl]
   go_wp2_with fail
   refine (valueI i.w p _).mono ?_
   rintro e w2 ⟨rfl, hw2⟩
   rw [hw2]
   clear hw2
   cases hv : valueB i.w p with
   | false =>
    go_wp2_with fail
    have hr := (heap_set (o := 6) (v := .slice none 0 0) (heap_set (o := 5) (v := .int .i64 0) (heap_set (o := 4) (v := .int .i64 0) (heap_set (o := 3) (v := .int .i64 0) (heap_set (o := 2) (v := .int .i64 0) (heap_set (o := 1) (v := .int .i64 0) (heap_set (o := 0) (v := .int .i64 0) HF1.out.r)))))))
    refine bodyPost_ret (v := .tuple #[.agg #[.int .i64 0, .int .i64 0, .int .i64 0, .int .i64 0, .int .i64 0, .int .i64 0, .slice none 0 0], .bool false]) ((results_cell_row_tmp Tryz.results64 _ _ (w.heap.size + 1) _ rfl (run_loadVar_row _ _ 29 _ _ (0, 0) _ hr Tryz.underlying29 rfl (by kernel_rfl))).trans (by rfl)) rfl ⟨told_none (by rw [HR.out, if_neg (fun k => by rw [hv] at k; cases k.2)]) rfl, ?_⟩
    exact (by repeat (first | refine Below.setCell ?_ (by dsimp only; omega) _ | exact HF1.out.f.below))
   | true =>
    go_wp2_with fail
    refine (constI d i u0 c0 u2 c2 ua qa p _).mono ?_
    rintro e w3 ⟨rfl, b3⟩
    clear r0 r1 r2 r3 r4 r5 r6 rf
    have F3 := HF1.out.keep b3
    obtain ⟨r0, r1, r2, r3, r4, r5, r6⟩ := F3.cell
    have rf := F3.froz
    have HF3 : Hid (Fo2 d i u0 c0 u2 c2 ua qa w w3) := F3
    clear F3 b3
    go_wp2_with fail
    have hr := (heap_set (o := 6) (v := .slice none 0 0) (heap_set (o := 5) (v := .int .i64 p) (heap_set (o := 4) (v := .int .i64 0) (heap_set (o := 3) (v := .int .i64 0) (heap_set (o := 2) (v := .int .i64 0) (heap_set (o := 1) (v := .int .i64 (instW i)) (heap_set (o := 0) (v := .int .i64 21) HF3.out.r)))))))
    refine bodyPost_ret (v := .tuple #[.agg #[.int .i64 21, .int .i64 (instW i), .int .i64 0, .int .i64 0, .int .i64 0, .int .i64 p, .slice none 0 0], .bool true]) ((results_cell_row_tmp Tryz.results64 _ _ (w.heap.size + 1) _ rfl (run_loadVar_row _ _ 29 _ _ (0, 0) _ hr Tryz.underlying29 rfl (by kernel_rfl))).trans (by rfl)) rfl ⟨told_some (r := constD (instW i) p) (u := none) (q := 0) (by rw [HR.out, if_pos ⟨H27.out, hv⟩]) (ints_none _ _) rfl, ?_⟩
    exact (by repeat (first | refine Below.setCell ?_ (by dsimp only; omega) _ | exact HF3.out.f.below))
 ·have q27 : (i.op != 27) = true := by rw [bne_iff_ne]; exact h27
  have HR : Hid (rule6 d i = none) := by
   show _ = _
   unfold rule6
   split
   ·rw [if_neg (fun k => h27 k.1)]
   ·rfl
  clear h27
  go_wp2_with fail
  have hr := (heap_set (o := 6) (v := .slice none 0 0) (heap_set (o := 5) (v := .int .i64 0) (heap_set (o := 4) (v := .int .i64 0) (heap_set (o := 3) (v := .int .i64 0) (heap_set (o := 2) (v := .int .i64 0) (heap_set (o := 1) (v := .int .i64 0) (heap_set (o := 0) (v := .int .i64 0) HF1.out.r)))))))
  refine bodyPost_ret (v := .tuple #[.agg #[.int .i64 0, .int .i64 0, .int .i64 0, .int .i64 0, .int .i64 0, .int .i64 0, .slice none 0 0], .bool false]) ((results_cell_row_tmp Tryz.results64 _ _ (w.heap.size + 1) _ rfl (run_loadVar_row _ _ 29 _ _ (0, 0) _ hr Tryz.underlying29 rfl (by kernel_rfl))).trans (by rfl)) rfl ⟨told_none (HR.out) rfl, ?_⟩
  exact (by repeat (first | refine Below.setCell ?_ (by dsimp only; omega) _ | exact HF1.out.f.below))
end Go.Proofs.YtoknhppjdmoblaaGreatDoor
