import Derived.Test.YtoknhppjdmoblaaGreatDoorFdPQ
namespace Go.Proofs.YtoknhppjdmoblaaGreatDoor
set_option linter.unusedVariables false
set_option linter.unusedSimpArgs false
open Go.RowKit
theorem nsel {d : FuncD} {i : InstD} (h : isC d i.a 1 = false) (k : ¬ i.b = i.c) : ¬ (isC d i.a 1 = true ∨ i.b = i.c) := fun j => j.elim (fun j => by rw [h] at j; cases j) k
set_option maxHeartbeats 4000000 in
set_option maxRecDepth 100000 in
theorem foldS_sel (lo : Nat) (d : FuncD) (i : InstD) (u0 : Option Addr) (c0 : Nat) (u2 : Option Addr) (c2 : Nat) (ua : Option Addr) (qa : Nat) (w : World) (hs : SmFunc d) (k0 : IntsAt w lo u0 d.params) (k2 : BlocksAt w lo u2 d.blocks) (ku : IntsAt w lo ua i.args) (hm : i.args.length ≤ 1048576) (hi : ISm i) (h22 : i.op = 22) :
  Calls Tryz.prog 39 #[.agg #[.slice u0 d.params.length c0, .int .i64 d.ret, .slice u2 d.blocks.length c2], .agg #[.int .i64 i.op, .int .i64 i.w, .int .i64 i.a, .int .i64 i.b, .int .i64 i.c, .int .i64 i.imm, .slice ua i.args.length qa]] w fun e w' => InstGot w' w.heap.size (foldF d i) e ∧ Below w.heap.size w w' := by
 have CO := fun (id : Int) W (k : Below w.heap.size w W) (h : id ≤ 9223372036854775807) => constS_any lo d u0 c0 u2 c2 id W hs (k2.keep (agree_of_below k lo)) h
 have TY := fun W (k : Below w.heap.size w W) => typeS_any lo d u0 c0 u2 c2 i.a W hs (k0.keep (agree_of_below k lo)) (k2.keep (agree_of_below k lo)) hi.a
 have W9 := fun W => instS_any i ua qa W
 have C9 := fun W (k : Below w.heap.size w W) => copy9S lo i ua qa W hm (ku.keep (agree_of_below k lo))
 have IN1 : Hid ((decide (1 ≤ i.op) && decide (i.op ≤ 17)) = false) := by show _ = _; rw [Bool.and_eq_false_iff, decide_eq_false_iff_not, decide_eq_false_iff_not]; omega
 have IN2 : Hid ((decide (18 ≤ i.op) && decide (i.op ≤ 20)) = false) := by show _ = _; rw [Bool.and_eq_false_iff, decide_eq_false_iff_not, decide_eq_false_iff_not]; omega
 have H22 : Hid (i.op = 22) := h22
 have q22 : (i.op == 22) = true := by rw [beq_iff_eq]; exact h22
 have q27 : (i.op == 27) = false := by rw [beq_eq_false_iff_ne]; omega
 clear h22
 have HI : Hid (ISm i) := hi
 generalize hz : foldF d i = g
 have HZ : Hid (foldF d i = g) := hz
 clear hz hs k0 k2 hi ku hm
 have S0 := Fld.start (d := d) (i := i) (u0 := u0) (u2 := u2) (ua := ua) (c0 := c0) (c2 := c2) (qa := qa) (w := w)
 go_enter Tryz.func39, Tryz.ntmps39
 go_wp2_with fail
 generalize (((w.alloc (.cells #[.slice u0 d.params.length c0, .int .i64 d.ret, .slice u2 d.blocks.length c2] 27)).alloc (.cells #[.int .i64 i.op, .int .i64 i.w, .int .i64 i.a, .int .i64 i.b, .int .i64 i.c, .int .i64 i.imm, .slice ua i.args.length qa] 29)).alloc (.cells #[.int .i64 0, .int .i64 0, .int .i64 0, .int .i64 0, .int .i64 0, .int .i64 0, .slice none 0 0] 29)) = w0 at S0 ⊢
 have r0 : Hid (Fld d i u0 c0 u2 c2 ua qa w w0) := S0
 clear S0
 refine (CO i.a _ r0.out.below HI.out.a).mono ?_
 rintro e w1 ⟨h1, b1⟩
 obtain ⟨a, x, he1, pc⟩ := const_form h1
 subst he1
 have Hp : Hid (KnownC (constF d i.a) a x) := pc
 have r1 : Hid (Fld d i u0 c0 u2 c2 ua qa w w1) := r0.out.keep b1
 clear h1 b1 pc r0
 have x0 : w1.cell? ⟨w.heap.size, 0, none⟩ = some (.slice u0 d.params.length c0) := r1.out.f.cell 0
 have x1 : w1.cell? ⟨w.heap.size, 1, none⟩ = some (.int .i64 d.ret) := r1.out.f.cell 1
 have x2 : w1.cell? ⟨w.heap.size, 2, none⟩ = some (.slice u2 d.blocks.length c2) := r1.out.f.cell 2
 have y0 : w1.cell? ⟨w.heap.size + 1, 0, none⟩ = some (.int .i64 i.op) := r1.out.i.cell 0
 have y1 : w1.cell? ⟨w.heap.size + 1, 1, none⟩ = some (.int .i64 i.w) := r1.out.i.cell 1
 have y2 : w1.cell? ⟨w.heap.size + 1, 2, none⟩ = some (.int .i64 i.a) := r1.out.i.cell 2
 have y3 : w1.cell? ⟨w.heap.size + 1, 3, none⟩ = some (.int .i64 i.b) := r1.out.i.cell 3
 have y4 : w1.cell? ⟨w.heap.size + 1, 4, none⟩ = some (.int .i64 i.c) := r1.out.i.cell 4
 have y5 : w1.cell? ⟨w.heap.size + 1, 5, none⟩ = some (.int .i64 i.imm) := r1.out.i.cell 5
 have y6 : w1.cell? ⟨w.heap.size + 1, 6, none⟩ = some (.slice ua i.args.length qa) := r1.out.i.cell 6
 go_wp2_with fail
 refine (inSv _ _ _ false _ IN1.out).mono ?_
 rintro e w2 ⟨rfl, h9⟩
 have h8 := h9.symm
 clear h9
 subst h8
 go_wp2_with fail
 refine (inSv _ _ _ false _ IN2.out).mono ?_
 rintro e w2 ⟨rfl, h9⟩
 have h8 := h9.symm
 clear h9
 subst h8
 clear IN1 IN2
 have HP : Hid (isC d i.a 1 = (x && a == 1)) := isC_known Hp.out 1
 by_cases hbc : i.b = i.c
 ·have qbc : (i.b == i.c) = true := by rw [beq_iff_eq]; exact hbc
  have HBC : Hid (i.b = i.c) := hbc
  clear hbc
  cases x with
  | false =>
   have HZ2 : Hid (copyD i.w i.b = g) := (f_sel1 H22.out (.inr HBC.out)).trans HZ.out
   go_wp2_with fail
   refine (same9S _ _ _).mono ?_
   rintro e w5 ⟨hg, b5⟩
   rw [HZ2.out] at hg
   obtain ⟨su, sq, rfl, hrow⟩ := hg
   have R5 : Hid (Fld d i u0 c0 u2 c2 ua qa w w5) := r1.out.keep b5
   have HROW : Hid (IntsAt w5 w1.heap.size _ _) := hrow
   have hz9 : w.heap.size + 1 + 1 < w1.heap.size := r1.out.r.lt
   clear hrow x0 x1 x2 y0 y1 y2 y3 y4 y5 y6 b5 C9 HZ HZ2 CO TY W9
   have z0 : w5.cell? ⟨w.heap.size + 1 + 1, 0, none⟩ = some (.int .i64 0) := R5.out.r.cell 0
   have z1 : w5.cell? ⟨w.heap.size + 1 + 1, 1, none⟩ = some (.int .i64 0) := R5.out.r.cell 1
   have z2 : w5.cell? ⟨w.heap.size + 1 + 1, 2, none⟩ = some (.int .i64 0) := R5.out.r.cell 2
   have z3 : w5.cell? ⟨w.heap.size + 1 + 1, 3, none⟩ = some (.int .i64 0) := R5.out.r.cell 3
   have z4 : w5.cell? ⟨w.heap.size + 1 + 1, 4, none⟩ = some (.int .i64 0) := R5.out.r.cell 4
   have z5 : w5.cell? ⟨w.heap.size + 1 + 1, 5, none⟩ = some (.int .i64 0) := R5.out.r.cell 5
   have z6 : w5.cell? ⟨w.heap.size + 1 + 1, 6, none⟩ = some (.slice none 0 0) := R5.out.r.cell 6
   have zf : ∀ o, w5.frozen? ⟨w.heap.size + 1 + 1, o, none⟩ = false := fun o => froz_of_heap R5.out.r
   go_wp2_with fail
   have hr := (heap_set (o := 6) (v := .slice su g.args.length sq) (heap_set (o := 5) (v := .int .i64 g.imm) (heap_set (o := 4) (v := .int .i64 g.c) (heap_set (o := 3) (v := .int .i64 g.b) (heap_set (o := 2) (v := .int .i64 g.a) (heap_set (o := 1) (v := .int .i64 g.w) (heap_set (o := 0) (v := .int .i64 g.op) R5.out.r)))))))
   refine bodyPost_ret (v := .agg #[.int .i64 g.op, .int .i64 g.w, .int .i64 g.a, .int .i64 g.b, .int .i64 g.c, .int .i64 g.imm, .slice su g.args.length sq]) ((results_cell_row Tryz.results39 _ _ (w.heap.size + 1 + 1) 29 _ (0, 0) _ rfl hr Tryz.underlying29 rfl (by kernel_rfl)).trans (by rfl)) rfl ⟨⟨su, sq, rfl, ?_⟩, ?_⟩
   ·exact (HROW.out.keep (by repeat (first | refine Agree.trans ?_ (agree_setCell _ _ _ _ _ (by omega)) | exact Agree.refl _ _))).low (by omega)
   ·exact (by repeat (first | refine Below.setCell ?_ (by dsimp only; omega) _ | exact R5.out.below))
  | true =>
   cases ha : (a == 1) with
   | true =>
    have HZ2 : Hid (copyD i.w i.b = g) := (f_sel1 H22.out (.inr HBC.out)).trans HZ.out
    go_wp2_with fail
    refine (same9S _ _ _).mono ?_
    rintro e w5 ⟨hg, b5⟩
    rw [HZ2.out] at hg
    obtain ⟨su, sq, rfl, hrow⟩ := hg
    have R5 : Hid (Fld d i u0 c0 u2 c2 ua qa w w5) := r1.out.keep b5
    have HROW : Hid (IntsAt w5 w1.heap.size _ _) := hrow
    have hz9 : w.heap.size + 1 + 1 < w1.heap.size := r1.out.r.lt
    clear hrow x0 x1 x2 y0 y1 y2 y3 y4 y5 y6 b5 C9 HZ HZ2 CO TY W9
    have z0 : w5.cell? ⟨w.heap.size + 1 + 1, 0, none⟩ = some (.int .i64 0) := R5.out.r.cell 0
    have z1 : w5.cell? ⟨w.heap.size + 1 + 1, 1, none⟩ = some (.int .i64 0) := R5.out.r.cell 1
    have z2 : w5.cell? ⟨w.heap.size + 1 + 1, 2, none⟩ = some (.int .i64 0) := R5.out.r.cell 2
    have z3 : w5.cell? ⟨w.heap.size + 1 + 1, 3, none⟩ = some (.int .i64 0) := R5.out.r.cell 3
    have z4 : w5.cell? ⟨w.heap.size + 1 + 1, 4, none⟩ = some (.int .i64 0) := R5.out.r.cell 4
    have z5 : w5.cell? ⟨w.heap.size + 1 + 1, 5, none⟩ = some (.int .i64 0) := R5.out.r.cell 5
    have z6 : w5.cell? ⟨w.heap.size + 1 + 1, 6, none⟩ = some (.slice none 0 0) := R5.out.r.cell 6
    have zf : ∀ o, w5.frozen? ⟨w.heap.size + 1 + 1, o, none⟩ = false := fun o => froz_of_heap R5.out.r
    go_wp2_with fail
    have hr := (heap_set (o := 6) (v := .slice su g.args.length sq) (heap_set (o := 5) (v := .int .i64 g.imm) (heap_set (o := 4) (v := .int .i64 g.c) (heap_set (o := 3) (v := .int .i64 g.b) (heap_set (o := 2) (v := .int .i64 g.a) (heap_set (o := 1) (v := .int .i64 g.w) (heap_set (o := 0) (v := .int .i64 g.op) R5.out.r)))))))
    refine bodyPost_ret (v := .agg #[.int .i64 g.op, .int .i64 g.w, .int .i64 g.a, .int .i64 g.b, .int .i64 g.c, .int .i64 g.imm, .slice su g.args.length sq]) ((results_cell_row Tryz.results39 _ _ (w.heap.size + 1 + 1) 29 _ (0, 0) _ rfl hr Tryz.underlying29 rfl (by kernel_rfl)).trans (by rfl)) rfl ⟨⟨su, sq, rfl, ?_⟩, ?_⟩
    ·exact (HROW.out.keep (by repeat (first | refine Agree.trans ?_ (agree_setCell _ _ _ _ _ (by omega)) | exact Agree.refl _ _))).low (by omega)
    ·exact (by repeat (first | refine Below.setCell ?_ (by dsimp only; omega) _ | exact R5.out.below))
   | false =>
    have HZ2 : Hid (copyD i.w i.b = g) := (f_sel1 H22.out (.inr HBC.out)).trans HZ.out
    go_wp2_with fail
    refine (same9S _ _ _).mono ?_
    rintro e w5 ⟨hg, b5⟩
    rw [HZ2.out] at hg
    obtain ⟨su, sq, rfl, hrow⟩ := hg
    have R5 : Hid (Fld d i u0 c0 u2 c2 ua qa w w5) := r1.out.keep b5
    have HROW : Hid (IntsAt w5 w1.heap.size _ _) := hrow
    have hz9 : w.heap.size + 1 + 1 < w1.heap.size := r1.out.r.lt
    clear hrow x0 x1 x2 y0 y1 y2 y3 y4 y5 y6 b5 C9 HZ HZ2 CO TY W9
    have z0 : w5.cell? ⟨w.heap.size + 1 + 1, 0, none⟩ = some (.int .i64 0) := R5.out.r.cell 0
    have z1 : w5.cell? ⟨w.heap.size + 1 + 1, 1, none⟩ = some (.int .i64 0) := R5.out.r.cell 1
    have z2 : w5.cell? ⟨w.heap.size + 1 + 1, 2, none⟩ = some (.int .i64 0) := R5.out.r.cell 2
    have z3 : w5.cell? ⟨w.heap.size + 1 + 1, 3, none⟩ = some (.int .i64 0) := R5.out.r.cell 3
    have z4 : w5.cell? ⟨w.heap.size + 1 + 1, 4, none⟩ = some (.int .i64 0) := R5.out.r.cell 4
    have z5 : w5.cell? ⟨w.heap.size + 1 + 1, 5, none⟩ = some (.int .i64 0) := R5.out.r.cell 5
    have z6 : w5.cell? ⟨w.heap.size + 1 + 1, 6, none⟩ = some (.slice none 0 0) := R5.out.r.cell 6
    have zf : ∀ o, w5.frozen? ⟨w.heap.size + 1 + 1, o, none⟩ = false := fun o => froz_of_heap R5.out.r
    go_wp2_with fail
    have hr := (heap_set (o := 6) (v := .slice su g.args.length sq) (heap_set (o := 5) (v := .int .i64 g.imm) (heap_set (o := 4) (v := .int .i64 g.c) (heap_set (o := 3) (v := .int .i64 g.b) (heap_set (o := 2) (v := .int .i64 g.a) (heap_set (o := 1) (v := .int .i64 g.w) (heap_set (o := 0) (v := .int .i64 g.op) R5.out.r)))))))
    refine bodyPost_ret (v := .agg #[.int .i64 g.op, .int .i64 g.w, .int .i64 g.a, .int .i64 g.b, .int .i64 g.c, .int .i64 g.imm, .slice su g.args.length sq]) ((results_cell_row Tryz.results39 _ _ (w.heap.size + 1 + 1) 29 _ (0, 0) _ rfl hr Tryz.underlying29 rfl (by kernel_rfl)).trans (by rfl)) rfl ⟨⟨su, sq, rfl, ?_⟩, ?_⟩
    ·exact (HROW.out.keep (by repeat (first | refine Agree.trans ?_ (agree_setCell _ _ _ _ _ (by omega)) | exact Agree.refl _ _))).low (by omega)
    ·exact (by repeat (first | refine Below.setCell ?_ (by dsimp only; omega) _ | exact R5.out.below))
 ·have qbc : (i.b == i.c) = false := by rw [beq_eq_false_iff_ne]; exact hbc
  have HBC : Hid (¬ i.b = i.c) := hbc
  clear hbc
  cases x with
  | false =>
   have HZ2 : Hid (i = g) := (f_sel3 H22.out (nsel (by rw [HP.out]; rfl) HBC.out) (const_no Hp.out rfl)).trans HZ.out
   go_wp2_with fail
   refine (C9 _ r1.out.below).mono ?_
   rintro e w5 ⟨hg, b5⟩
   rw [HZ2.out] at hg
   obtain ⟨su, sq, rfl, hrow⟩ := hg
   have R5 : Hid (Fld d i u0 c0 u2 c2 ua qa w w5) := r1.out.keep b5
   have HROW : Hid (IntsAt w5 w1.heap.size _ _) := hrow
   have hz9 : w.heap.size + 1 + 1 < w1.heap.size := r1.out.r.lt
   clear hrow x0 x1 x2 y0 y1 y2 y3 y4 y5 y6 b5 C9 HZ HZ2 CO TY W9
   have z0 : w5.cell? ⟨w.heap.size + 1 + 1, 0, none⟩ = some (.int .i64 0) := R5.out.r.cell 0
   have z1 : w5.cell? ⟨w.heap.size + 1 + 1, 1, none⟩ = some (.int .i64 0) := R5.out.r.cell 1
   have z2 : w5.cell? ⟨w.heap.size + 1 + 1, 2, none⟩ = some (.int .i64 0) := R5.out.r.cell 2
   have z3 : w5.cell? ⟨w.heap.size + 1 + 1, 3, none⟩ = some (.int .i64 0) := R5.out.r.cell 3
   have z4 : w5.cell? ⟨w.heap.size + 1 + 1, 4, none⟩ = some (.int .i64 0) := R5.out.r.cell 4
   have z5 : w5.cell? ⟨w.heap.size + 1 + 1, 5, none⟩ = some (.int .i64 0) := R5.out.r.cell 5
   have z6 : w5.cell? ⟨w.heap.size + 1 + 1, 6, none⟩ = some (.slice none 0 0) := R5.out.r.cell 6
   have zf : ∀ o, w5.frozen? ⟨w.heap.size + 1 + 1, o, none⟩ = false := fun o => froz_of_heap R5.out.r
   go_wp2_with fail
   have hr := (heap_set (o := 6) (v := .slice su g.args.length sq) (heap_set (o := 5) (v := .int .i64 g.imm) (heap_set (o := 4) (v := .int .i64 g.c) (heap_set (o := 3) (v := .int .i64 g.b) (heap_set (o := 2) (v := .int .i64 g.a) (heap_set (o := 1) (v := .int .i64 g.w) (heap_set (o := 0) (v := .int .i64 g.op) R5.out.r)))))))
   refine bodyPost_ret (v := .agg #[.int .i64 g.op, .int .i64 g.w, .int .i64 g.a, .int .i64 g.b, .int .i64 g.c, .int .i64 g.imm, .slice su g.args.length sq]) ((results_cell_row Tryz.results39 _ _ (w.heap.size + 1 + 1) 29 _ (0, 0) _ rfl hr Tryz.underlying29 rfl (by kernel_rfl)).trans (by rfl)) rfl ⟨⟨su, sq, rfl, ?_⟩, ?_⟩
   ·exact (HROW.out.keep (by repeat (first | refine Agree.trans ?_ (agree_setCell _ _ _ _ _ (by omega)) | exact Agree.refl _ _))).low (by omega)
   ·exact (by repeat (first | refine Below.setCell ?_ (by dsimp only; omega) _ | exact R5.out.below))
  | true =>
   cases ha : (a == 1) with
   | true =>
    have HZ2 : Hid (copyD i.w i.b = g) := (f_sel1 H22.out (.inl (by rw [HP.out, ha]; rfl))).trans HZ.out
    go_wp2_with fail
    refine (same9S _ _ _).mono ?_
    rintro e w5 ⟨hg, b5⟩
    rw [HZ2.out] at hg
    obtain ⟨su, sq, rfl, hrow⟩ := hg
    have R5 : Hid (Fld d i u0 c0 u2 c2 ua qa w w5) := r1.out.keep b5
    have HROW : Hid (IntsAt w5 w1.heap.size _ _) := hrow
    have hz9 : w.heap.size + 1 + 1 < w1.heap.size := r1.out.r.lt
    clear hrow x0 x1 x2 y0 y1 y2 y3 y4 y5 y6 b5 C9 HZ HZ2 CO TY W9
    have z0 : w5.cell? ⟨w.heap.size + 1 + 1, 0, none⟩ = some (.int .i64 0) := R5.out.r.cell 0
    have z1 : w5.cell? ⟨w.heap.size + 1 + 1, 1, none⟩ = some (.int .i64 0) := R5.out.r.cell 1
    have z2 : w5.cell? ⟨w.heap.size + 1 + 1, 2, none⟩ = some (.int .i64 0) := R5.out.r.cell 2
    have z3 : w5.cell? ⟨w.heap.size + 1 + 1, 3, none⟩ = some (.int .i64 0) := R5.out.r.cell 3
    have z4 : w5.cell? ⟨w.heap.size + 1 + 1, 4, none⟩ = some (.int .i64 0) := R5.out.r.cell 4
    have z5 : w5.cell? ⟨w.heap.size + 1 + 1, 5, none⟩ = some (.int .i64 0) := R5.out.r.cell 5
    have z6 : w5.cell? ⟨w.heap.size + 1 + 1, 6, none⟩ = some (.slice none 0 0) := R5.out.r.cell 6
    have zf : ∀ o, w5.frozen? ⟨w.heap.size + 1 + 1, o, none⟩ = false := fun o => froz_of_heap R5.out.r
    go_wp2_with fail
    have hr := (heap_set (o := 6) (v := .slice su g.args.length sq) (heap_set (o := 5) (v := .int .i64 g.imm) (heap_set (o := 4) (v := .int .i64 g.c) (heap_set (o := 3) (v := .int .i64 g.b) (heap_set (o := 2) (v := .int .i64 g.a) (heap_set (o := 1) (v := .int .i64 g.w) (heap_set (o := 0) (v := .int .i64 g.op) R5.out.r)))))))
    refine bodyPost_ret (v := .agg #[.int .i64 g.op, .int .i64 g.w, .int .i64 g.a, .int .i64 g.b, .int .i64 g.c, .int .i64 g.imm, .slice su g.args.length sq]) ((results_cell_row Tryz.results39 _ _ (w.heap.size + 1 + 1) 29 _ (0, 0) _ rfl hr Tryz.underlying29 rfl (by kernel_rfl)).trans (by rfl)) rfl ⟨⟨su, sq, rfl, ?_⟩, ?_⟩
    ·exact (HROW.out.keep (by repeat (first | refine Agree.trans ?_ (agree_setCell _ _ _ _ _ (by omega)) | exact Agree.refl _ _))).low (by omega)
    ·exact (by repeat (first | refine Below.setCell ?_ (by dsimp only; omega) _ | exact R5.out.below))
   | false =>
    have HZ2 : Hid (copyD i.w i.c = g) := (f_sel2 H22.out (nsel (by rw [HP.out, ha]; rfl) HBC.out) (by rw [const_yes Hp.out rfl]; rfl)).trans HZ.out
    go_wp2_with fail
    refine (same9S _ _ _).mono ?_
    rintro e w5 ⟨hg, b5⟩
    rw [HZ2.out] at hg
    obtain ⟨su, sq, rfl, hrow⟩ := hg
    have R5 : Hid (Fld d i u0 c0 u2 c2 ua qa w w5) := r1.out.keep b5
    have HROW : Hid (IntsAt w5 w1.heap.size _ _) := hrow
    have hz9 : w.heap.size + 1 + 1 < w1.heap.size := r1.out.r.lt
    clear hrow x0 x1 x2 y0 y1 y2 y3 y4 y5 y6 b5 C9 HZ HZ2 CO TY W9
    have z0 : w5.cell? ⟨w.heap.size + 1 + 1, 0, none⟩ = some (.int .i64 0) := R5.out.r.cell 0
    have z1 : w5.cell? ⟨w.heap.size + 1 + 1, 1, none⟩ = some (.int .i64 0) := R5.out.r.cell 1
    have z2 : w5.cell? ⟨w.heap.size + 1 + 1, 2, none⟩ = some (.int .i64 0) := R5.out.r.cell 2
    have z3 : w5.cell? ⟨w.heap.size + 1 + 1, 3, none⟩ = some (.int .i64 0) := R5.out.r.cell 3
    have z4 : w5.cell? ⟨w.heap.size + 1 + 1, 4, none⟩ = some (.int .i64 0) := R5.out.r.cell 4
    have z5 : w5.cell? ⟨w.heap.size + 1 + 1, 5, none⟩ = some (.int .i64 0) := R5.out.r.cell 5
    have z6 : w5.cell? ⟨w.heap.size + 1 + 1, 6, none⟩ = some (.slice none 0 0) := R5.out.r.cell 6
    have zf : ∀ o, w5.frozen? ⟨w.heap.size + 1 + 1, o, none⟩ = false := fun o => froz_of_heap R5.out.r
    go_wp2_with fail
    have hr := (heap_set (o := 6) (v := .slice su g.args.length sq) (heap_set (o := 5) (v := .int .i64 g.imm) (heap_set (o := 4) (v := .int .i64 g.c) (heap_set (o := 3) (v := .int .i64 g.b) (heap_set (o := 2) (v := .int .i64 g.a) (heap_set (o := 1) (v := .int .i64 g.w) (heap_set (o := 0) (v := .int .i64 g.op) R5.out.r)))))))
    refine bodyPost_ret (v := .agg #[.int .i64 g.op, .int .i64 g.w, .int .i64 g.a, .int .i64 g.b, .int .i64 g.c, .int .i64 g.imm, .slice su g.args.length sq]) ((results_cell_row Tryz.results39 _ _ (w.heap.size + 1 + 1) 29 _ (0, 0) _ rfl hr Tryz.underlying29 rfl (by kernel_rfl)).trans (by rfl)) rfl ⟨⟨su, sq, rfl, ?_⟩, ?_⟩
    ·exact (HROW.out.keep (by repeat (first | refine Agree.trans ?_ (agree_setCell _ _ _ _ _ (by omega)) | exact Agree.refl _ _))).low (by omega)
    ·exact (by repeat (first | refine Below.setCell ?_ (by dsimp only; omega) _ | exact R5.out.below))
set_option maxHeartbeats 4000000 in
set_option maxRecDepth 100000 in
theorem foldS_copy (lo : Nat) (d : FuncD) (i : InstD) (u0 : Option Addr) (c0 : Nat) (u2 : Option Addr) (c2 : Nat) (ua : Option Addr) (qa : Nat) (w : World) (hs : SmFunc d) (k0 : IntsAt w lo u0 d.params) (k2 : BlocksAt w lo u2 d.blocks) (ku : IntsAt w lo ua i.args) (hm : i.args.length ≤ 1048576) (hi : ISm i) (h27 : i.op = 27) :
  Calls Tryz.prog 39 #[.agg #[.slice u0 d.params.length c0, .int .i64 d.ret, .slice u2 d.blocks.length c2], .agg #[.int .i64 i.op, .int .i64 i.w, .int .i64 i.a, .int .i64 i.b, .int .i64 i.c, .int .i64 i.imm, .slice ua i.args.length qa]] w fun e w' => InstGot w' w.heap.size (foldF d i) e ∧ Below w.heap.size w w' := by
 have CO := fun (id : Int) W (k : Below w.heap.size w W) (h : id ≤ 9223372036854775807) => constS_any lo d u0 c0 u2 c2 id W hs (k2.keep (agree_of_below k lo)) h
 have TY := fun W (k : Below w.heap.size w W) => typeS_any lo d u0 c0 u2 c2 i.a W hs (k0.keep (agree_of_below k lo)) (k2.keep (agree_of_below k lo)) hi.a
 have W9 := fun W => instS_any i ua qa W
 have C9 := fun W (k : Below w.heap.size w W) => copy9S lo i ua qa W hm (ku.keep (agree_of_below k lo))
 have IN1 : Hid ((decide (1 ≤ i.op) && decide (i.op ≤ 17)) = false) := by show _ = _; rw [Bool.and_eq_false_iff, decide_eq_false_iff_not, decide_eq_false_iff_not]; omega
 have IN2 : Hid ((decide (18 ≤ i.op) && decide (i.op ≤ 20)) = false) := by show _ = _; rw [Bool.and_eq_false_iff, decide_eq_false_iff_not, decide_eq_false_iff_not]; omega
 have H27 : Hid (i.op = 27) := h27
 have q27 : (i.op == 27) = true := by rw [beq_iff_eq]; exact h27
 have q22 : (i.op == 22) = false := by rw [beq_eq_false_iff_ne]; omega
 clear h27
 have HI : Hid (ISm i) := hi
 generalize hz : foldF d i = g
 have HZ : Hid (foldF d i = g) := hz
 clear hz hs k0 k2 hi ku hm
 have S0 := Fld.start (d := d) (i := i) (u0 := u0) (u2 := u2) (ua := ua) (c0 := c0) (c2 := c2) (qa := qa) (w := w)
 go_enter Tryz.func39, Tryz.ntmps39
 go_wp2_with fail
 generalize (((w.alloc (.cells #[.slice u0 d.params.length c0, .int .i64 d.ret, .slice u2 d.blocks.length c2] 27)).alloc (.cells #[.int .i64 i.op, .int .i64 i.w, .int .i64 i.a, .int .i64 i.b, .int .i64 i.c, .int .i64 i.imm, .slice ua i.args.length qa] 29)).alloc (.cells #[.int .i64 0, .int .i64 0, .int .i64 0, .int .i64 0, .int .i64 0, .int .i64 0, .slice none 0 0] 29)) = w0 at S0 ⊢
 have r0 : Hid (Fld d i u0 c0 u2 c2 ua qa w w0) := S0
 clear S0
 refine (CO i.a _ r0.out.below HI.out.a).mono ?_
 rintro e w1 ⟨h1, b1⟩
 obtain ⟨a, x, he1, pc⟩ := const_form h1
 subst he1
 have Hp : Hid (KnownC (constF d i.a) a x) := pc
 have r1 : Hid (Fld d i u0 c0 u2 c2 ua qa w w1) := r0.out.keep b1
 clear h1 b1 pc r0
 have x0 : w1.cell? ⟨w.heap.size, 0, none⟩ = some (.slice u0 d.params.length c0) := r1.out.f.cell 0
 have x1 : w1.cell? ⟨w.heap.size, 1, none⟩ = some (.int .i64 d.ret) := r1.out.f.cell 1
 have x2 : w1.cell? ⟨w.heap.size, 2, none⟩ = some (.slice u2 d.blocks.length c2) := r1.out.f.cell 2
 have y0 : w1.cell? ⟨w.heap.size + 1, 0, none⟩ = some (.int .i64 i.op) := r1.out.i.cell 0
 have y1 : w1.cell? ⟨w.heap.size + 1, 1, none⟩ = some (.int .i64 i.w) := r1.out.i.cell 1
 have y2 : w1.cell? ⟨w.heap.size + 1, 2, none⟩ = some (.int .i64 i.a) := r1.out.i.cell 2
 have y3 : w1.cell? ⟨w.heap.size + 1, 3, none⟩ = some (.int .i64 i.b) := r1.out.i.cell 3
 have y4 : w1.cell? ⟨w.heap.size + 1, 4, none⟩ = some (.int .i64 i.c) := r1.out.i.cell 4
 have y5 : w1.cell? ⟨w.heap.size + 1, 5, none⟩ = some (.int .i64 i.imm) := r1.out.i.cell 5
 have y6 : w1.cell? ⟨w.heap.size + 1, 6, none⟩ = some (.slice ua i.args.length qa) := r1.out.i.cell 6
 go_wp2_with fail
 refine (inSv _ _ _ false _ IN1.out).mono ?_
 rintro e w2 ⟨rfl, h9⟩
 have h8 := h9.symm
 clear h9
 subst h8
 go_wp2_with fail
 refine (inSv _ _ _ false _ IN2.out).mono ?_
 rintro e w2 ⟨rfl, h9⟩
 have h8 := h9.symm
 clear h9
 subst h8
 clear IN1 IN2
 cases x with
 | false =>
  have HZ2 : Hid (i = g) := (f_copy3 H27.out (const_no Hp.out rfl)).trans HZ.out
  go_wp2_with fail
  refine (C9 _ r1.out.below).mono ?_
  rintro e w5 ⟨hg, b5⟩
  rw [HZ2.out] at hg
  obtain ⟨su, sq, rfl, hrow⟩ := hg
  have R5 : Hid (Fld d i u0 c0 u2 c2 ua qa w w5) := r1.out.keep b5
  have HROW : Hid (IntsAt w5 w1.heap.size _ _) := hrow
  have hz9 : w.heap.size + 1 + 1 < w1.heap.size := r1.out.r.lt
  clear hrow x0 x1 x2 y0 y1 y2 y3 y4 y5 y6 b5 C9 HZ HZ2 CO TY W9
  have z0 : w5.cell? ⟨w.heap.size + 1 + 1, 0, none⟩ = some (.int .i64 0) := R5.out.r.cell 0
  have z1 : w5.cell? ⟨w.heap.size + 1 + 1, 1, none⟩ = some (.int .i64 0) := R5.out.r.cell 1
  have z2 : w5.cell? ⟨w.heap.size + 1 + 1, 2, none⟩ = some (.int .i64 0) := R5.out.r.cell 2
  have z3 : w5.cell? ⟨w.heap.size + 1 + 1, 3, none⟩ = some (.int .i64 0) := R5.out.r.cell 3
  have z4 : w5.cell? ⟨w.heap.size + 1 + 1, 4, none⟩ = some (.int .i64 0) := R5.out.r.cell 4
  have z5 : w5.cell? ⟨w.heap.size + 1 + 1, 5, none⟩ = some (.int .i64 0) := R5.out.r.cell 5
  have z6 : w5.cell? ⟨w.heap.size + 1 + 1, 6, none⟩ = some (.slice none 0 0) := R5.out.r.cell 6
  have zf : ∀ o, w5.frozen? ⟨w.heap.size + 1 + 1, o, none⟩ = false := fun o => froz_of_heap R5.out.r
  go_wp2_with fail
  have hr := (heap_set (o := 6) (v := .slice su g.args.length sq) (heap_set (o := 5) (v := .int .i64 g.imm) (heap_set (o := 4) (v := .int .i64 g.c) (heap_set (o := 3) (v := .int .i64 g.b) (heap_set (o := 2) (v := .int .i64 g.a) (heap_set (o := 1) (v := .int .i64 g.w) (heap_set (o := 0) (v := .int .i64 g.op) R5.out.r)))))))
  refine bodyPost_ret (v := .agg #[.int .i64 g.op, .int .i64 g.w, .int .i64 g.a, .int .i64 g.b, .int .i64 g.c, .int .i64 g.imm, .slice su g.args.length sq]) ((results_cell_row Tryz.results39 _ _ (w.heap.size + 1 + 1) 29 _ (0, 0) _ rfl hr Tryz.underlying29 rfl (by kernel_rfl)).trans (by rfl)) rfl ⟨⟨su, sq, rfl, ?_⟩, ?_⟩
  ·exact (HROW.out.keep (by repeat (first | refine Agree.trans ?_ (agree_setCell _ _ _ _ _ (by omega)) | exact Agree.refl _ _))).low (by omega)
  ·exact (by repeat (first | refine Below.setCell ?_ (by dsimp only; omega) _ | exact R5.out.below))
 | true =>
  have VI := fun W => valueS i.w a W
  cases hv : valueB i.w a with
  | true =>
   rw [hv] at VI
   go_wp2_with fail
   refine (VI _).mono ?_
   rintro e w2 ⟨rfl, h9⟩
   have h8 := h9.symm
   clear h9
   subst h8
   have HZ2 : Hid (constD i.w a = g) := (f_copy1 H27.out (const_yes Hp.out rfl) hv).trans HZ.out
   go_wp2_with fail
   refine (const9S _ _ _).mono ?_
   rintro e w5 ⟨hg, b5⟩
   rw [HZ2.out] at hg
   obtain ⟨su, sq, rfl, hrow⟩ := hg
   have R5 : Hid (Fld d i u0 c0 u2 c2 ua qa w w5) := r1.out.keep b5
   have HROW : Hid (IntsAt w5 w1.heap.size _ _) := hrow
   have hz9 : w.heap.size + 1 + 1 < w1.heap.size := r1.out.r.lt
   clear hrow x0 x1 x2 y0 y1 y2 y3 y4 y5 y6 b5 C9 HZ HZ2 CO TY W9
   have z0 : w5.cell? ⟨w.heap.size + 1 + 1, 0, none⟩ = some (.int .i64 0) := R5.out.r.cell 0
   have z1 : w5.cell? ⟨w.heap.size + 1 + 1, 1, none⟩ = some (.int .i64 0) := R5.out.r.cell 1
   have z2 : w5.cell? ⟨w.heap.size + 1 + 1, 2, none⟩ = some (.int .i64 0) := R5.out.r.cell 2
   have z3 : w5.cell? ⟨w.heap.size + 1 + 1, 3, none⟩ = some (.int .i64 0) := R5.out.r.cell 3
   have z4 : w5.cell? ⟨w.heap.size + 1 + 1, 4, none⟩ = some (.int .i64 0) := R5.out.r.cell 4
   have z5 : w5.cell? ⟨w.heap.size + 1 + 1, 5, none⟩ = some (.int .i64 0) := R5.out.r.cell 5
   have z6 : w5.cell? ⟨w.heap.size + 1 + 1, 6, none⟩ = some (.slice none 0 0) := R5.out.r.cell 6
   have zf : ∀ o, w5.frozen? ⟨w.heap.size + 1 + 1, o, none⟩ = false := fun o => froz_of_heap R5.out.r
   go_wp2_with fail
   have hr := (heap_set (o := 6) (v := .slice su g.args.length sq) (heap_set (o := 5) (v := .int .i64 g.imm) (heap_set (o := 4) (v := .int .i64 g.c) (heap_set (o := 3) (v := .int .i64 g.b) (heap_set (o := 2) (v := .int .i64 g.a) (heap_set (o := 1) (v := .int .i64 g.w) (heap_set (o := 0) (v := .int .i64 g.op) R5.out.r)))))))
   refine bodyPost_ret (v := .agg #[.int .i64 g.op, .int .i64 g.w, .int .i64 g.a, .int .i64 g.b, .int .i64 g.c, .int .i64 g.imm, .slice su g.args.length sq]) ((results_cell_row Tryz.results39 _ _ (w.heap.size + 1 + 1) 29 _ (0, 0) _ rfl hr Tryz.underlying29 rfl (by kernel_rfl)).trans (by rfl)) rfl ⟨⟨su, sq, rfl, ?_⟩, ?_⟩
   ·exact (HROW.out.keep (by repeat (first | refine Agree.trans ?_ (agree_setCell _ _ _ _ _ (by omega)) | exact Agree.refl _ _))).low (by omega)
   ·exact (by repeat (first | refine Below.setCell ?_ (by dsimp only; omega) _ | exact R5.out.below))
  | false =>
   rw [hv] at VI
   go_wp2_with fail
   refine (VI _).mono ?_
   rintro e w2 ⟨rfl, h9⟩
   have h8 := h9.symm
   clear h9
   subst h8
   have HZ2 : Hid (i = g) := (f_copy2 H27.out (const_yes Hp.out rfl) hv).trans HZ.out
   go_wp2_with fail
   refine (C9 _ r1.out.below).mono ?_
   rintro e w5 ⟨hg, b5⟩
   rw [HZ2.out] at hg
   obtain ⟨su, sq, rfl, hrow⟩ := hg
   have R5 : Hid (Fld d i u0 c0 u2 c2 ua qa w w5) := r1.out.keep b5
   have HROW : Hid (IntsAt w5 w1.heap.size _ _) := hrow
   have hz9 : w.heap.size + 1 + 1 < w1.heap.size := r1.out.r.lt
   clear hrow x0 x1 x2 y0 y1 y2 y3 y4 y5 y6 b5 C9 HZ HZ2 CO TY W9
   have z0 : w5.cell? ⟨w.heap.size + 1 + 1, 0, none⟩ = some (.int .i64 0) := R5.out.r.cell 0
   have z1 : w5.cell? ⟨w.heap.size + 1 + 1, 1, none⟩ = some (.int .i64 0) := R5.out.r.cell 1
   have z2 : w5.cell? ⟨w.heap.size + 1 + 1, 2, none⟩ = some (.int .i64 0) := R5.out.r.cell 2
   have z3 : w5.cell? ⟨w.heap.size + 1 + 1, 3, none⟩ = some (.int .i64 0) := R5.out.r.cell 3
   have z4 : w5.cell? ⟨w.heap.size + 1 + 1, 4, none⟩ = some (.int .i64 0) := R5.out.r.cell 4
   have z5 : w5.cell? ⟨w.heap.size + 1 + 1, 5, none⟩ = some (.int .i64 0) := R5.out.r.cell 5
   have z6 : w5.cell? ⟨w.heap.size + 1 + 1, 6, none⟩ = some (.slice none 0 0) := R5.out.r.cell 6
   have zf : ∀ o, w5.frozen? ⟨w.heap.size + 1 + 1, o, none⟩ = false := fun o => froz_of_heap R5.out.r
   go_wp2_with fail
   have hr := (heap_set (o := 6) (v := .slice su g.args.length sq) (heap_set (o := 5) (v := .int .i64 g.imm) (heap_set (o := 4) (v := .int .i64 g.c) (heap_set (o := 3) (v := .int .i64 g.b) (heap_set (o := 2) (v := .int .i64 g.a) (heap_set (o := 1) (v := .int .i64 g.w) (heap_set (o := 0) (v := .int .i64 g.op) R5.out.r)))))))
   refine bodyPost_ret (v := .agg #[.int .i64 g.op, .int .i64 g.w, .int .i64 g.a, .int .i64 g.b, .int .i64 g.c, .int .i64 g.imm, .slice su g.args.length sq]) ((results_cell_row Tryz.results39 _ _ (w.heap.size + 1 + 1) 29 _ (0, 0) _ rfl hr Tryz.underlying29 rfl (by kernel_rfl)).trans (by rfl)) rfl ⟨⟨su, sq, rfl, ?_⟩, ?_⟩
   ·exact (HROW.out.keep (by repeat (first | refine Agree.trans ?_ (agree_setCell _ _ _ _ _ (by omega)) | exact Agree.refl _ _))).low (by omega)
   ·exact (by repeat (first | refine Below.setCell ?_ (by dsimp only; omega) _ | exact R5.out.below))
set_option maxHeartbeats 4000000 in
set_option maxRecDepth 100000 in
theorem foldS_other (lo : Nat) (d : FuncD) (i : InstD) (u0 : Option Addr) (c0 : Nat) (u2 : Option Addr) (c2 : Nat) (ua : Option Addr) (qa : Nat) (w : World) (hs : SmFunc d) (k0 : IntsAt w lo u0 d.params) (k2 : BlocksAt w lo u2 d.blocks) (ku : IntsAt w lo ua i.args) (hm : i.args.length ≤ 1048576) (hi : ISm i) (ho : opB i.op = false) (hc : ¬ (i.op = 18 ∨ i.op = 19 ∨ i.op = 20)) (h22 : ¬ i.op = 22) (h27 : ¬ i.op = 27) :
  Calls Tryz.prog 39 #[.agg #[.slice u0 d.params.length c0, .int .i64 d.ret, .slice u2 d.blocks.length c2], .agg #[.int .i64 i.op, .int .i64 i.w, .int .i64 i.a, .int .i64 i.b, .int .i64 i.c, .int .i64 i.imm, .slice ua i.args.length qa]] w fun e w' => InstGot w' w.heap.size (foldF d i) e ∧ Below w.heap.size w w' := by
 have CO := fun (id : Int) W (k : Below w.heap.size w W) (h : id ≤ 9223372036854775807) => constS_any lo d u0 c0 u2 c2 id W hs (k2.keep (agree_of_below k lo)) h
 have TY := fun W (k : Below w.heap.size w W) => typeS_any lo d u0 c0 u2 c2 i.a W hs (k0.keep (agree_of_below k lo)) (k2.keep (agree_of_below k lo)) hi.a
 have W9 := fun W => instS_any i ua qa W
 have C9 := fun W (k : Below w.heap.size w W) => copy9S lo i ua qa W hm (ku.keep (agree_of_below k lo))
 have IN1 : Hid ((decide (1 ≤ i.op) && decide (i.op ≤ 17)) = false) := ho
 have IN2 : Hid ((decide (18 ≤ i.op) && decide (i.op ≤ 20)) = false) := by show _ = _; rw [Bool.and_eq_false_iff, decide_eq_false_iff_not, decide_eq_false_iff_not]; omega
 have HX : Hid (i = foldF d i) := f_other ho hc h22 h27
 have q27 : (i.op == 27) = false := by rw [beq_eq_false_iff_ne]; exact h27
 have q22 : (i.op == 22) = false := by rw [beq_eq_false_iff_ne]; exact h22
 clear ho hc h22 h27
 have HI : Hid (ISm i) := hi
 generalize hz : foldF d i = g
 have HZ : Hid (foldF d i = g) := hz
 clear hz hs k0 k2 hi ku hm
 have S0 := Fld.start (d := d) (i := i) (u0 := u0) (u2 := u2) (ua := ua) (c0 := c0) (c2 := c2) (qa := qa) (w := w)
 go_enter Tryz.func39, Tryz.ntmps39
 go_wp2_with fail
 generalize (((w.alloc (.cells #[.slice u0 d.params.length c0, .int .i64 d.ret, .slice u2 d.blocks.length c2] 27)).alloc (.cells #[.int .i64 i.op, .int .i64 i.w, .int .i64 i.a, .int .i64 i.b, .int .i64 i.c, .int .i64 i.imm, .slice ua i.args.length qa] 29)).alloc (.cells #[.int .i64 0, .int .i64 0, .int .i64 0, .int .i64 0, .int .i64 0, .int .i64 0, .slice none 0 0] 29)) = w0 at S0 ⊢
 have r0 : Hid (Fld d i u0 c0 u2 c2 ua qa w w0) := S0
 clear S0
 refine (CO i.a _ r0.out.below HI.out.a).mono ?_
 rintro e w1 ⟨h1, b1⟩
 obtain ⟨a, x, he1, pc⟩ := const_form h1
 subst he1
 have Hp : Hid (KnownC (constF d i.a) a x) := pc
 have r1 : Hid (Fld d i u0 c0 u2 c2 ua qa w w1) := r0.out.keep b1
 clear h1 b1 pc r0
 have x0 : w1.cell? ⟨w.heap.size, 0, none⟩ = some (.slice u0 d.params.length c0) := r1.out.f.cell 0
 have x1 : w1.cell? ⟨w.heap.size, 1, none⟩ = some (.int .i64 d.ret) := r1.out.f.cell 1
 have x2 : w1.cell? ⟨w.heap.size, 2, none⟩ = some (.slice u2 d.blocks.length c2) := r1.out.f.cell 2
 have y0 : w1.cell? ⟨w.heap.size + 1, 0, none⟩ = some (.int .i64 i.op) := r1.out.i.cell 0
 have y1 : w1.cell? ⟨w.heap.size + 1, 1, none⟩ = some (.int .i64 i.w) := r1.out.i.cell 1
 have y2 : w1.cell? ⟨w.heap.size + 1, 2, none⟩ = some (.int .i64 i.a) := r1.out.i.cell 2
 have y3 : w1.cell? ⟨w.heap.size + 1, 3, none⟩ = some (.int .i64 i.b) := r1.out.i.cell 3
 have y4 : w1.cell? ⟨w.heap.size + 1, 4, none⟩ = some (.int .i64 i.c) := r1.out.i.cell 4
 have y5 : w1.cell? ⟨w.heap.size + 1, 5, none⟩ = some (.int .i64 i.imm) := r1.out.i.cell 5
 have y6 : w1.cell? ⟨w.heap.size + 1, 6, none⟩ = some (.slice ua i.args.length qa) := r1.out.i.cell 6
 go_wp2_with fail
 refine (inSv _ _ _ false _ IN1.out).mono ?_
 rintro e w2 ⟨rfl, h9⟩
 have h8 := h9.symm
 clear h9
 subst h8
 go_wp2_with fail
 refine (inSv _ _ _ false _ IN2.out).mono ?_
 rintro e w2 ⟨rfl, h9⟩
 have h8 := h9.symm
 clear h9
 subst h8
 clear IN1 IN2
 cases x with
 | false =>
  have HZ2 : Hid (i = g) := (HX.out).trans HZ.out
  go_wp2_with fail
  refine (C9 _ r1.out.below).mono ?_
  rintro e w5 ⟨hg, b5⟩
  rw [HZ2.out] at hg
  obtain ⟨su, sq, rfl, hrow⟩ := hg
  have R5 : Hid (Fld d i u0 c0 u2 c2 ua qa w w5) := r1.out.keep b5
  have HROW : Hid (IntsAt w5 w1.heap.size _ _) := hrow
  have hz9 : w.heap.size + 1 + 1 < w1.heap.size := r1.out.r.lt
  clear hrow x0 x1 x2 y0 y1 y2 y3 y4 y5 y6 b5 C9 HZ HZ2 HX CO TY W9
  have z0 : w5.cell? ⟨w.heap.size + 1 + 1, 0, none⟩ = some (.int .i64 0) := R5.out.r.cell 0
  have z1 : w5.cell? ⟨w.heap.size + 1 + 1, 1, none⟩ = some (.int .i64 0) := R5.out.r.cell 1
  have z2 : w5.cell? ⟨w.heap.size + 1 + 1, 2, none⟩ = some (.int .i64 0) := R5.out.r.cell 2
  have z3 : w5.cell? ⟨w.heap.size + 1 + 1, 3, none⟩ = some (.int .i64 0) := R5.out.r.cell 3
  have z4 : w5.cell? ⟨w.heap.size + 1 + 1, 4, none⟩ = some (.int .i64 0) := R5.out.r.cell 4
  have z5 : w5.cell? ⟨w.heap.size + 1 + 1, 5, none⟩ = some (.int .i64 0) := R5.out.r.cell 5
  have z6 : w5.cell? ⟨w.heap.size + 1 + 1, 6, none⟩ = some (.slice none 0 0) := R5.out.r.cell 6
  have zf : ∀ o, w5.frozen? ⟨w.heap.size + 1 + 1, o, none⟩ = false := fun o => froz_of_heap R5.out.r
  go_wp2_with fail
  have hr := (heap_set (o := 6) (v := .slice su g.args.length sq) (heap_set (o := 5) (v := .int .i64 g.imm) (heap_set (o := 4) (v := .int .i64 g.c) (heap_set (o := 3) (v := .int .i64 g.b) (heap_set (o := 2) (v := .int .i64 g.a) (heap_set (o := 1) (v := .int .i64 g.w) (heap_set (o := 0) (v := .int .i64 g.op) R5.out.r)))))))
  refine bodyPost_ret (v := .agg #[.int .i64 g.op, .int .i64 g.w, .int .i64 g.a, .int .i64 g.b, .int .i64 g.c, .int .i64 g.imm, .slice su g.args.length sq]) ((results_cell_row Tryz.results39 _ _ (w.heap.size + 1 + 1) 29 _ (0, 0) _ rfl hr Tryz.underlying29 rfl (by kernel_rfl)).trans (by rfl)) rfl ⟨⟨su, sq, rfl, ?_⟩, ?_⟩
  ·exact (HROW.out.keep (by repeat (first | refine Agree.trans ?_ (agree_setCell _ _ _ _ _ (by omega)) | exact Agree.refl _ _))).low (by omega)
  ·exact (by repeat (first | refine Below.setCell ?_ (by dsimp only; omega) _ | exact R5.out.below))
 | true =>
  have HZ2 : Hid (i = g) := (HX.out).trans HZ.out
  go_wp2_with fail
  refine (C9 _ r1.out.below).mono ?_
  rintro e w5 ⟨hg, b5⟩
  rw [HZ2.out] at hg
  obtain ⟨su, sq, rfl, hrow⟩ := hg
  have R5 : Hid (Fld d i u0 c0 u2 c2 ua qa w w5) := r1.out.keep b5
  have HROW : Hid (IntsAt w5 w1.heap.size _ _) := hrow
  have hz9 : w.heap.size + 1 + 1 < w1.heap.size := r1.out.r.lt
  clear hrow x0 x1 x2 y0 y1 y2 y3 y4 y5 y6 b5 C9 HZ HZ2 HX CO TY W9
  have z0 : w5.cell? ⟨w.heap.size + 1 + 1, 0, none⟩ = some (.int .i64 0) := R5.out.r.cell 0
  have z1 : w5.cell? ⟨w.heap.size + 1 + 1, 1, none⟩ = some (.int .i64 0) := R5.out.r.cell 1
  have z2 : w5.cell? ⟨w.heap.size + 1 + 1, 2, none⟩ = some (.int .i64 0) := R5.out.r.cell 2
  have z3 : w5.cell? ⟨w.heap.size + 1 + 1, 3, none⟩ = some (.int .i64 0) := R5.out.r.cell 3
  have z4 : w5.cell? ⟨w.heap.size + 1 + 1, 4, none⟩ = some (.int .i64 0) := R5.out.r.cell 4
  have z5 : w5.cell? ⟨w.heap.size + 1 + 1, 5, none⟩ = some (.int .i64 0) := R5.out.r.cell 5
  have z6 : w5.cell? ⟨w.heap.size + 1 + 1, 6, none⟩ = some (.slice none 0 0) := R5.out.r.cell 6
  have zf : ∀ o, w5.frozen? ⟨w.heap.size + 1 + 1, o, none⟩ = false := fun o => froz_of_heap R5.out.r
  go_wp2_with fail
  have hr := (heap_set (o := 6) (v := .slice su g.args.length sq) (heap_set (o := 5) (v := .int .i64 g.imm) (heap_set (o := 4) (v := .int .i64 g.c) (heap_set (o := 3) (v := .int .i64 g.b) (heap_set (o := 2) (v := .int .i64 g.a) (heap_set (o := 1) (v := .int .i64 g.w) (heap_set (o := 0) (v := .int .i64 g.op) R5.out.r)))))))
  refine bodyPost_ret (v := .agg #[.int .i64 g.op, .int .i64 g.w, .int .i64 g.a, .int .i64 g.b, .int .i64 g.c, .int .i64 g.imm, .slice su g.args.length sq]) ((results_cell_row Tryz.results39 _ _ (w.heap.size + 1 + 1) 29 _ (0, 0) _ rfl hr Tryz.underlying29 rfl (by kernel_rfl)).trans (by rfl)) rfl ⟨⟨su, sq, rfl, ?_⟩, ?_⟩
  ·exact (HROW.out.keep (by repeat (first | refine Agree.trans ?_ (agree_setCell _ _ _ _ _ (by omega)) | exact Agree.refl _ _))).low (by omega)
  ·exact (by repeat (first | refine Below.setCell ?_ (by dsimp only; omega) _ | exact R5.out.below))
end Go.Proofs.YtoknhppjdmoblaaGreatDoor
