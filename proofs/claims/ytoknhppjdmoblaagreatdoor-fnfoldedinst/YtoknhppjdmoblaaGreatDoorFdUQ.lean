import Derived.Test.YtoknhppjdmoblaaGreatDoorFdPQ
import Derived.Test.YtoknhppjdmoblaaGreatDoorFdSQ
namespace Go.Proofs.YtoknhppjdmoblaaGreatDoor
set_option linter.unusedVariables false
set_option linter.unusedSimpArgs false
open Go.RowKit
set_option maxHeartbeats 4000000 in
set_option maxRecDepth 100000 in
theorem foldS_two (lo : Nat) (d : FuncD) (i : InstD) (u0 : Option Addr) (c0 : Nat) (u2 : Option Addr) (c2 : Nat) (ua : Option Addr) (qa : Nat) (w : World) (hs : SmFunc d) (k0 : IntsAt w lo u0 d.params) (k2 : BlocksAt w lo u2 d.blocks) (ku : IntsAt w lo ua i.args) (hm : i.args.length ≤ 1048576) (hi : ISm i) (ho : opB i.op = true) :
  Calls Tryz.prog 39 #[.agg #[.slice u0 d.params.length c0, .int .i64 d.ret, .slice u2 d.blocks.length c2], .agg #[.int .i64 i.op, .int .i64 i.w, .int .i64 i.a, .int .i64 i.b, .int .i64 i.c, .int .i64 i.imm, .slice ua i.args.length qa]] w fun e w' => InstGot w' w.heap.size (foldF d i) e ∧ Below w.heap.size w w' := by
 have CO := fun (id : Int) W (k : Below w.heap.size w W) (h : id ≤ 9223372036854775807) => constS_any lo d u0 c0 u2 c2 id W hs (k2.keep (agree_of_below k lo)) h
 have TY := fun W (k : Below w.heap.size w W) => typeS_any lo d u0 c0 u2 c2 i.a W hs (k0.keep (agree_of_below k lo)) (k2.keep (agree_of_below k lo)) hi.a
 have W9 := fun W => instS_any i ua qa W
 have C9 := fun W (k : Below w.heap.size w W) => copy9S lo i ua qa W hm (ku.keep (agree_of_below k lo))
 have TWO := fun (a : Int) (x : Bool) (b : Int) (y : Bool) W (k : Below w.heap.size w W) (hxy : ¬ (x = true ∧ y = true)) => twoS lo i ua qa a x b y (b == 0) (a == 0) (b == 1) (a == 1) (i.a != i.b) W hm (ku.keep (agree_of_below k lo)) ho hxy (by simp; omega) (by simp; omega) rfl rfl rfl rfl rfl
 have HO : Hid (opB i.op = true) := ho
 have HIN : Hid ((decide (1 ≤ i.op) && decide (i.op ≤ 17)) = true) := ho
 clear ho
 have HI : Hid (ISm i) := hi
 generalize hz : foldF d i = g
 have HZ : Hid (foldF d i = g) := hz
 clear hz hs k0 k2 hi ku hm
 have S0 := Fld.start (d := d) (i := i) (u0 := u0) (u2 := u2) (ua := ua) (c0 := c0) (c2 := c2) (qa := qa) (w := w)
 go_enter Tryz.func39, Tryz.ntmps39
 go_wp2_with fail
 generalize (((w.alloc (.cells #[.slice u0 d.params.length c0, .int .i64 d.ret, .slice u2 d.blocks.length c2] 27)).alloc (.cells #[.int .i64 i.op, .int .i64 i.w, .int .i64 i.a, .int .i64 i.b, .int .i64 i.c, .int .i64 i.imm, .slice ua i.args.length qa] 29)).alloc (.cells #[.int .i64 0, .int .i64 0, .int .i64 0, .int .i64 0, .int .i64 0, .int .i64 0, .slice none 0 0] 29)) = w0 at S0 ⊢
 have r0 : Hid (Fld d i u0 c0 u2 c2 ua qa w w0) := S0
 clear S0
 refine (CO i.a _ r0.out.below HI.out.a).mono ?_
 rintro e w1 ⟨h1, b1⟩
 obtain ⟨a, x, he1, pc⟩ := const_form h1
 subst he1
 have Hp : Hid (KnownC (constF d i.a) a x) := pc
 have r1 : Hid (Fld d i u0 c0 u2 c2 ua qa w w1) := r0.out.keep b1
 clear h1 b1 pc r0
 have x0 : w1.cell? ⟨w.heap.size, 0, none⟩ = some (.slice u0 d.params.length c0) := r1.out.f.cell 0
 have x1 : w1.cell? ⟨w.heap.size, 1, none⟩ = some (.int .i64 d.ret) := r1.out.f.cell 1
 have x2 : w1.cell? ⟨w.heap.size, 2, none⟩ = some (.slice u2 d.blocks.length c2) := r1.out.f.cell 2
 have y0 : w1.cell? ⟨w.heap.size + 1, 0, none⟩ = some (.int .i64 i.op) := r1.out.i.cell 0
 have y1 : w1.cell? ⟨w.heap.size + 1, 1, none⟩ = some (.int .i64 i.w) := r1.out.i.cell 1
 have y2 : w1.cell? ⟨w.heap.size + 1, 2, none⟩ = some (.int .i64 i.a) := r1.out.i.cell 2
 have y3 : w1.cell? ⟨w.heap.size + 1, 3, none⟩ = some (.int .i64 i.b) := r1.out.i.cell 3
 have y4 : w1.cell? ⟨w.heap.size + 1, 4, none⟩ = some (.int .i64 i.c) := r1.out.i.cell 4
 have y5 : w1.cell? ⟨w.heap.size + 1, 5, none⟩ = some (.int .i64 i.imm) := r1.out.i.cell 5
 have y6 : w1.cell? ⟨w.heap.size + 1, 6, none⟩ = some (.slice ua i.args.length qa) := r1.out.i.cell 6
 go_wp2_with fail
 refine (inSv _ _ _ true _ HIN.out).mono ?_
 rintro e w2 ⟨rfl, h9⟩
 have h8 := h9.symm
 clear h9
 subst h8
 clear HIN
 go_wp2_with fail
 refine (CO i.b _ r1.out.below HI.out.b).mono ?_
 rintro e w3 ⟨h2, b2⟩
 obtain ⟨b, y, he2, qc⟩ := const_form h2
 subst he2
 have Hq : Hid (KnownC (constF d i.b) b y) := qc
 have r3 : Hid (Fld d i u0 c0 u2 c2 ua qa w w3) := r1.out.keep b2
 clear x0 x1 x2 y0 y1 y2 y3 y4 y5 y6 h2 b2 qc r1
 have x0 : w3.cell? ⟨w.heap.size, 0, none⟩ = some (.slice u0 d.params.length c0) := r3.out.f.cell 0
 have x1 : w3.cell? ⟨w.heap.size, 1, none⟩ = some (.int .i64 d.ret) := r3.out.f.cell 1
 have x2 : w3.cell? ⟨w.heap.size, 2, none⟩ = some (.slice u2 d.blocks.length c2) := r3.out.f.cell 2
 have y0 : w3.cell? ⟨w.heap.size + 1, 0, none⟩ = some (.int .i64 i.op) := r3.out.i.cell 0
 have y1 : w3.cell? ⟨w.heap.size + 1, 1, none⟩ = some (.int .i64 i.w) := r3.out.i.cell 1
 have y2 : w3.cell? ⟨w.heap.size + 1, 2, none⟩ = some (.int .i64 i.a) := r3.out.i.cell 2
 have y3 : w3.cell? ⟨w.heap.size + 1, 3, none⟩ = some (.int .i64 i.b) := r3.out.i.cell 3
 have y4 : w3.cell? ⟨w.heap.size + 1, 4, none⟩ = some (.int .i64 i.c) := r3.out.i.cell 4
 have y5 : w3.cell? ⟨w.heap.size + 1, 5, none⟩ = some (.int .i64 i.imm) := r3.out.i.cell 5
 have y6 : w3.cell? ⟨w.heap.size + 1, 6, none⟩ = some (.slice ua i.args.length qa) := r3.out.i.cell 6
 by_cases hxy : x = true ∧ y = true
 ·obtain ⟨rfl, rfl⟩ := hxy
  have Ha := const_yes Hp.out rfl
  have Hb := const_yes Hq.out rfl
  have HA : Hid (constF d i.a = some a) := Ha
  have HB : Hid (constF d i.b = some b) := Hb
  clear Ha Hb TWO
  obtain ⟨n, hn⟩ : ∃ n, binZ i.op i.w a b = n := ⟨_, rfl⟩
  obtain ⟨c, hc⟩ : ∃ c, binC i.op i.w a b = c := ⟨_, rfl⟩
  have BI := fun W => binS i.op i.w a b W
  rw [hn, hc] at BI
  have HN : Hid (binZ i.op i.w a b = n) := hn
  have HC : Hid (binC i.op i.w a b = c) := hc
  clear hn hc
  go_wp2_with fail
  refine (BI _).mono ?_
  rintro e w4 ⟨rfl, h9⟩
  have h8 := h9.symm
  clear h9
  subst h8
  by_cases hc0 : c = 0
  ·subst hc0
   have HZ2 : Hid (constD (instW i) n = g) := by show _ = _; rw [← HN.out]; exact (f_const HO.out HA.out HB.out HC.out).trans HZ.out
   go_wp2_with fail
   refine (W9 _).mono ?_
   rintro e w6 ⟨rfl, b6⟩
   have r6 : Hid (Fld d i u0 c0 u2 c2 ua qa w w6) := r3.out.keep b6
   clear x0 x1 x2 y0 y1 y2 y3 y4 y5 y6 b6 r3
   have x0 : w6.cell? ⟨w.heap.size, 0, none⟩ = some (.slice u0 d.params.length c0) := r6.out.f.cell 0
   have x1 : w6.cell? ⟨w.heap.size, 1, none⟩ = some (.int .i64 d.ret) := r6.out.f.cell 1
   have x2 : w6.cell? ⟨w.heap.size, 2, none⟩ = some (.slice u2 d.blocks.length c2) := r6.out.f.cell 2
   have y0 : w6.cell? ⟨w.heap.size + 1, 0, none⟩ = some (.int .i64 i.op) := r6.out.i.cell 0
   have y1 : w6.cell? ⟨w.heap.size + 1, 1, none⟩ = some (.int .i64 i.w) := r6.out.i.cell 1
   have y2 : w6.cell? ⟨w.heap.size + 1, 2, none⟩ = some (.int .i64 i.a) := r6.out.i.cell 2
   have y3 : w6.cell? ⟨w.heap.size + 1, 3, none⟩ = some (.int .i64 i.b) := r6.out.i.cell 3
   have y4 : w6.cell? ⟨w.heap.size + 1, 4, none⟩ = some (.int .i64 i.c) := r6.out.i.cell 4
   have y5 : w6.cell? ⟨w.heap.size + 1, 5, none⟩ = some (.int .i64 i.imm) := r6.out.i.cell 5
   have y6 : w6.cell? ⟨w.heap.size + 1, 6, none⟩ = some (.slice ua i.args.length qa) := r6.out.i.cell 6
   go_wp2_with fail
   refine (const9S _ _ _).mono ?_
   rintro e w5 ⟨hg, b5⟩
   rw [HZ2.out] at hg
   obtain ⟨su, sq, rfl, hrow⟩ := hg
   have R5 : Hid (Fld d i u0 c0 u2 c2 ua qa w w5) := r6.out.keep b5
   have HROW : Hid (IntsAt w5 w6.heap.size _ _) := hrow
   have hz9 : w.heap.size + 1 + 1 < w6.heap.size := r6.out.r.lt
   clear hrow x0 x1 x2 y0 y1 y2 y3 y4 y5 y6 b5 C9 HZ HZ2 CO TY W9
   have z0 : w5.cell? ⟨w.heap.size + 1 + 1, 0, none⟩ = some (.int .i64 0) := R5.out.r.cell 0
   have z1 : w5.cell? ⟨w.heap.size + 1 + 1, 1, none⟩ = some (.int .i64 0) := R5.out.r.cell 1
   have z2 : w5.cell? ⟨w.heap.size + 1 + 1, 2, none⟩ = some (.int .i64 0) := R5.out.r.cell 2
   have z3 : w5.cell? ⟨w.heap.size + 1 + 1, 3, none⟩ = some (.int .i64 0) := R5.out.r.cell 3
   have z4 : w5.cell? ⟨w.heap.size + 1 + 1, 4, none⟩ = some (.int .i64 0) := R5.out.r.cell 4
   have z5 : w5.cell? ⟨w.heap.size + 1 + 1, 5, none⟩ = some (.int .i64 0) := R5.out.r.cell 5
   have z6 : w5.cell? ⟨w.heap.size + 1 + 1, 6, none⟩ = some (.slice none 0 0) := R5.out.r.cell 6
   have zf : ∀ o, w5.frozen? ⟨w.heap.size + 1 + 1, o, none⟩ = false := fun o => froz_of_heap R5.out.r
   go_wp2_with fail
   have hr := (heap_set (o := 6) (v := .slice su g.args.length sq) (heap_set (o := 5) (v := .int .i64 g.imm) (heap_set (o := 4) (v := .int .i64 g.c) (heap_set (o := 3) (v := .int .i64 g.b) (heap_set (o := 2) (v := .int .i64 g.a) (heap_set (o := 1) (v := .int .i64 g.w) (heap_set (o := 0) (v := .int .i64 g.op) R5.out.r)))))))
   refine bodyPost_ret (v := .agg #[.int .i64 g.op, .int .i64 g.w, .int .i64 g.a, .int .i64 g.b, .int .i64 g.c, .int .i64 g.imm, .slice su g.args.length sq]) ((results_cell_row Tryz.results39 _ _ (w.heap.size + 1 + 1) 29 _ (0, 0) _ rfl hr Tryz.underlying29 rfl (by kernel_rfl)).trans (by rfl)) rfl ⟨⟨su, sq, rfl, ?_⟩, ?_⟩
   ·exact (HROW.out.keep (by repeat (first | refine Agree.trans ?_ (agree_setCell _ _ _ _ _ (by omega)) | exact Agree.refl _ _))).low (by omega)
   ·exact (by repeat (first | refine Below.setCell ?_ (by dsimp only; omega) _ | exact R5.out.below))
  ·have qc : (c == 0) = false := by rw [beq_eq_false_iff_ne]; exact hc0
   have HZ2 : Hid (i = g) := by show _ = _; exact (f_zero HO.out HA.out HB.out (by rw [HC.out]; exact hc0)).trans HZ.out
   clear hc0
   go_wp2_with fail
   refine (C9 _ r3.out.below).mono ?_
   rintro e w5 ⟨hg, b5⟩
   rw [HZ2.out] at hg
   obtain ⟨su, sq, rfl, hrow⟩ := hg
   have R5 : Hid (Fld d i u0 c0 u2 c2 ua qa w w5) := r3.out.keep b5
   have HROW : Hid (IntsAt w5 w3.heap.size _ _) := hrow
   have hz9 : w.heap.size + 1 + 1 < w3.heap.size := r3.out.r.lt
   clear hrow x0 x1 x2 y0 y1 y2 y3 y4 y5 y6 b5 C9 HZ HZ2 CO TY W9
   have z0 : w5.cell? ⟨w.heap.size + 1 + 1, 0, none⟩ = some (.int .i64 0) := R5.out.r.cell 0
   have z1 : w5.cell? ⟨w.heap.size + 1 + 1, 1, none⟩ = some (.int .i64 0) := R5.out.r.cell 1
   have z2 : w5.cell? ⟨w.heap.size + 1 + 1, 2, none⟩ = some (.int .i64 0) := R5.out.r.cell 2
   have z3 : w5.cell? ⟨w.heap.size + 1 + 1, 3, none⟩ = some (.int .i64 0) := R5.out.r.cell 3
   have z4 : w5.cell? ⟨w.heap.size + 1 + 1, 4, none⟩ = some (.int .i64 0) := R5.out.r.cell 4
   have z5 : w5.cell? ⟨w.heap.size + 1 + 1, 5, none⟩ = some (.int .i64 0) := R5.out.r.cell 5
   have z6 : w5.cell? ⟨w.heap.size + 1 + 1, 6, none⟩ = some (.slice none 0 0) := R5.out.r.cell 6
   have zf : ∀ o, w5.frozen? ⟨w.heap.size + 1 + 1, o, none⟩ = false := fun o => froz_of_heap R5.out.r
   go_wp2_with fail
   have hr := (heap_set (o := 6) (v := .slice su g.args.length sq) (heap_set (o := 5) (v := .int .i64 g.imm) (heap_set (o := 4) (v := .int .i64 g.c) (heap_set (o := 3) (v := .int .i64 g.b) (heap_set (o := 2) (v := .int .i64 g.a) (heap_set (o := 1) (v := .int .i64 g.w) (heap_set (o := 0) (v := .int .i64 g.op) R5.out.r)))))))
   refine bodyPost_ret (v := .agg #[.int .i64 g.op, .int .i64 g.w, .int .i64 g.a, .int .i64 g.b, .int .i64 g.c, .int .i64 g.imm, .slice su g.args.length sq]) ((results_cell_row Tryz.results39 _ _ (w.heap.size + 1 + 1) 29 _ (0, 0) _ rfl hr Tryz.underlying29 rfl (by kernel_rfl)).trans (by rfl)) rfl ⟨⟨su, sq, rfl, ?_⟩, ?_⟩
   ·exact (HROW.out.keep (by repeat (first | refine Agree.trans ?_ (agree_setCell _ _ _ _ _ (by omega)) | exact Agree.refl _ _))).low (by omega)
   ·exact (by repeat (first | refine Below.setCell ?_ (by dsimp only; omega) _ | exact R5.out.below))
 ·have HZ2 : Hid (pickD i (twoC i.op (y && (b == 0)) (x && (a == 0)) (y && (b == 1)) (x && (a == 1)) (!(i.a != i.b))) = g) := (f_pick HO.out Hp.out Hq.out hxy rfl).trans HZ.out
  have TW := TWO a x b y w3 r3.out.below hxy
  rw [HZ2.out] at TW
  have hx : x = false ∨ (x = true ∧ y = false) := by cases x <;> cases y <;> simp_all
  clear hxy HZ HZ2 TWO Hp Hq HO
  rcases hx with rfl | ⟨rfl, rfl⟩
  ·go_wp2_with fail
   refine TW.mono ?_
   rintro e w5 ⟨hg, b5⟩
   obtain ⟨su, sq, rfl, hrow⟩ := hg
   have R5 : Hid (Fld d i u0 c0 u2 c2 ua qa w w5) := r3.out.keep b5
   have HROW : Hid (IntsAt w5 w3.heap.size _ _) := hrow
   have hz9 : w.heap.size + 1 + 1 < w3.heap.size := r3.out.r.lt
   clear hrow x0 x1 x2 y0 y1 y2 y3 y4 y5 y6 b5 C9 TW CO TY W9
   have z0 : w5.cell? ⟨w.heap.size + 1 + 1, 0, none⟩ = some (.int .i64 0) := R5.out.r.cell 0
   have z1 : w5.cell? ⟨w.heap.size + 1 + 1, 1, none⟩ = some (.int .i64 0) := R5.out.r.cell 1
   have z2 : w5.cell? ⟨w.heap.size + 1 + 1, 2, none⟩ = some (.int .i64 0) := R5.out.r.cell 2
   have z3 : w5.cell? ⟨w.heap.size + 1 + 1, 3, none⟩ = some (.int .i64 0) := R5.out.r.cell 3
   have z4 : w5.cell? ⟨w.heap.size + 1 + 1, 4, none⟩ = some (.int .i64 0) := R5.out.r.cell 4
   have z5 : w5.cell? ⟨w.heap.size + 1 + 1, 5, none⟩ = some (.int .i64 0) := R5.out.r.cell 5
   have z6 : w5.cell? ⟨w.heap.size + 1 + 1, 6, none⟩ = some (.slice none 0 0) := R5.out.r.cell 6
   have zf : ∀ o, w5.frozen? ⟨w.heap.size + 1 + 1, o, none⟩ = false := fun o => froz_of_heap R5.out.r
   go_wp2_with fail
   have hr := (heap_set (o := 6) (v := .slice su g.args.length sq) (heap_set (o := 5) (v := .int .i64 g.imm) (heap_set (o := 4) (v := .int .i64 g.c) (heap_set (o := 3) (v := .int .i64 g.b) (heap_set (o := 2) (v := .int .i64 g.a) (heap_set (o := 1) (v := .int .i64 g.w) (heap_set (o := 0) (v := .int .i64 g.op) R5.out.r)))))))
   refine bodyPost_ret (v := .agg #[.int .i64 g.op, .int .i64 g.w, .int .i64 g.a, .int .i64 g.b, .int .i64 g.c, .int .i64 g.imm, .slice su g.args.length sq]) ((results_cell_row Tryz.results39 _ _ (w.heap.size + 1 + 1) 29 _ (0, 0) _ rfl hr Tryz.underlying29 rfl (by kernel_rfl)).trans (by rfl)) rfl ⟨⟨su, sq, rfl, ?_⟩, ?_⟩
   ·exact (HROW.out.keep (by repeat (first | refine Agree.trans ?_ (agree_setCell _ _ _ _ _ (by omega)) | exact Agree.refl _ _))).low (by omega)
   ·exact (by repeat (first | refine Below.setCell ?_ (by dsimp only; omega) _ | exact R5.out.below))
  ·go_wp2_with fail
   refine TW.mono ?_
   rintro e w5 ⟨hg, b5⟩
   obtain ⟨su, sq, rfl, hrow⟩ := hg
   have R5 : Hid (Fld d i u0 c0 u2 c2 ua qa w w5) := r3.out.keep b5
   have HROW : Hid (IntsAt w5 w3.heap.size _ _) := hrow
   have hz9 : w.heap.size + 1 + 1 < w3.heap.size := r3.out.r.lt
   clear hrow x0 x1 x2 y0 y1 y2 y3 y4 y5 y6 b5 C9 TW CO TY W9
   have z0 : w5.cell? ⟨w.heap.size + 1 + 1, 0, none⟩ = some (.int .i64 0) := R5.out.r.cell 0
   have z1 : w5.cell? ⟨w.heap.size + 1 + 1, 1, none⟩ = some (.int .i64 0) := R5.out.r.cell 1
   have z2 : w5.cell? ⟨w.heap.size + 1 + 1, 2, none⟩ = some (.int .i64 0) := R5.out.r.cell 2
   have z3 : w5.cell? ⟨w.heap.size + 1 + 1, 3, none⟩ = some (.int .i64 0) := R5.out.r.cell 3
   have z4 : w5.cell? ⟨w.heap.size + 1 + 1, 4, none⟩ = some (.int .i64 0) := R5.out.r.cell 4
   have z5 : w5.cell? ⟨w.heap.size + 1 + 1, 5, none⟩ = some (.int .i64 0) := R5.out.r.cell 5
   have z6 : w5.cell? ⟨w.heap.size + 1 + 1, 6, none⟩ = some (.slice none 0 0) := R5.out.r.cell 6
   have zf : ∀ o, w5.frozen? ⟨w.heap.size + 1 + 1, o, none⟩ = false := fun o => froz_of_heap R5.out.r
   go_wp2_with fail
   have hr := (heap_set (o := 6) (v := .slice su g.args.length sq) (heap_set (o := 5) (v := .int .i64 g.imm) (heap_set (o := 4) (v := .int .i64 g.c) (heap_set (o := 3) (v := .int .i64 g.b) (heap_set (o := 2) (v := .int .i64 g.a) (heap_set (o := 1) (v := .int .i64 g.w) (heap_set (o := 0) (v := .int .i64 g.op) R5.out.r)))))))
   refine bodyPost_ret (v := .agg #[.int .i64 g.op, .int .i64 g.w, .int .i64 g.a, .int .i64 g.b, .int .i64 g.c, .int .i64 g.imm, .slice su g.args.length sq]) ((results_cell_row Tryz.results39 _ _ (w.heap.size + 1 + 1) 29 _ (0, 0) _ rfl hr Tryz.underlying29 rfl (by kernel_rfl)).trans (by rfl)) rfl ⟨⟨su, sq, rfl, ?_⟩, ?_⟩
   ·exact (HROW.out.keep (by repeat (first | refine Agree.trans ?_ (agree_setCell _ _ _ _ _ (by omega)) | exact Agree.refl _ _))).low (by omega)
   ·exact (by repeat (first | refine Below.setCell ?_ (by dsimp only; omega) _ | exact R5.out.below))
end Go.Proofs.YtoknhppjdmoblaaGreatDoor
namespace Go.Proofs.YtoknhppjdmoblaaGreatDoor
set_option linter.unusedVariables false
set_option linter.unusedSimpArgs false
open Go.RowKit
set_option maxHeartbeats 4000000 in
set_option maxRecDepth 100000 in
theorem foldS_cast (lo : Nat) (d : FuncD) (i : InstD) (u0 : Option Addr) (c0 : Nat) (u2 : Option Addr) (c2 : Nat) (ua : Option Addr) (qa : Nat) (w : World) (hs : SmFunc d) (k0 : IntsAt w lo u0 d.params) (k2 : BlocksAt w lo u2 d.blocks) (ku : IntsAt w lo ua i.args) (hm : i.args.length ≤ 1048576) (hi : ISm i) (ho : opB i.op = false) (hc : i.op = 18 ∨ i.op = 19 ∨ i.op = 20) :
  Calls Tryz.prog 39 #[.agg #[.slice u0 d.params.length c0, .int .i64 d.ret, .slice u2 d.blocks.length c2], .agg #[.int .i64 i.op, .int .i64 i.w, .int .i64 i.a, .int .i64 i.b, .int .i64 i.c, .int .i64 i.imm, .slice ua i.args.length qa]] w fun e w' => InstGot w' w.heap.size (foldF d i) e ∧ Below w.heap.size w w' := by
 have CO := fun (id : Int) W (k : Below w.heap.size w W) (h : id ≤ 9223372036854775807) => constS_any lo d u0 c0 u2 c2 id W hs (k2.keep (agree_of_below k lo)) h
 have TY := fun W (k : Below w.heap.size w W) => typeS_any lo d u0 c0 u2 c2 i.a W hs (k0.keep (agree_of_below k lo)) (k2.keep (agree_of_below k lo)) hi.a
 have W9 := fun W => instS_any i ua qa W
 have C9 := fun W (k : Below w.heap.size w W) => copy9S lo i ua qa W hm (ku.keep (agree_of_below k lo))
 have IN1 : Hid ((decide (1 ≤ i.op) && decide (i.op ≤ 17)) = false) := ho
 have HO : Hid (opB i.op = false) := ho
 have HC : Hid (i.op = 18 ∨ i.op = 19 ∨ i.op = 20) := hc
 have IN2 : Hid ((decide (18 ≤ i.op) && decide (i.op ≤ 20)) = true) := by show _ = _; rw [Bool.and_eq_true, decide_eq_true_eq, decide_eq_true_eq]; omega
 have q22 : (i.op == 22) = false := by rw [beq_eq_false_iff_ne]; omega
 have q27 : (i.op == 27) = false := by rw [beq_eq_false_iff_ne]; omega
 clear ho hc
 have HI : Hid (ISm i) := hi
 generalize hz : foldF d i = g
 have HZ : Hid (foldF d i = g) := hz
 clear hz hs k0 k2 hi ku hm
 have S0 := Fld.start (d := d) (i := i) (u0 := u0) (u2 := u2) (ua := ua) (c0 := c0) (c2 := c2) (qa := qa) (w := w)
 go_enter Tryz.func39, Tryz.ntmps39
 go_wp2_with fail
 generalize (((w.alloc (.cells #[.slice u0 d.params.length c0, .int .i64 d.ret, .slice u2 d.blocks.length c2] 27)).alloc (.cells #[.int .i64 i.op, .int .i64 i.w, .int .i64 i.a, .int .i64 i.b, .int .i64 i.c, .int .i64 i.imm, .slice ua i.args.length qa] 29)).alloc (.cells #[.int .i64 0, .int .i64 0, .int .i64 0, .int .i64 0, .int .i64 0, .int .i64 0, .slice none 0 0] 29)) = w0 at S0 ⊢
 have r0 : Hid (Fld d i u0 c0 u2 c2 ua qa w w0) := S0
 clear S0
 refine (CO i.a _ r0.out.below HI.out.a).mono ?_
 rintro e w1 ⟨h1, b1⟩
 obtain ⟨a, x, he1, pc⟩ := const_form h1
 subst he1
 have Hp : Hid (KnownC (constF d i.a) a x) := pc
 have r1 : Hid (Fld d i u0 c0 u2 c2 ua qa w w1) := r0.out.keep b1
 clear h1 b1 pc r0
 have x0 : w1.cell? ⟨w.heap.size, 0, none⟩ = some (.slice u0 d.params.length c0) := r1.out.f.cell 0
 have x1 : w1.cell? ⟨w.heap.size, 1, none⟩ = some (.int .i64 d.ret) := r1.out.f.cell 1
 have x2 : w1.cell? ⟨w.heap.size, 2, none⟩ = some (.slice u2 d.blocks.length c2) := r1.out.f.cell 2
 have y0 : w1.cell? ⟨w.heap.size + 1, 0, none⟩ = some (.int .i64 i.op) := r1.out.i.cell 0
 have y1 : w1.cell? ⟨w.heap.size + 1, 1, none⟩ = some (.int .i64 i.w) := r1.out.i.cell 1
 have y2 : w1.cell? ⟨w.heap.size + 1, 2, none⟩ = some (.int .i64 i.a) := r1.out.i.cell 2
 have y3 : w1.cell? ⟨w.heap.size + 1, 3, none⟩ = some (.int .i64 i.b) := r1.out.i.cell 3
 have y4 : w1.cell? ⟨w.heap.size + 1, 4, none⟩ = some (.int .i64 i.c) := r1.out.i.cell 4
 have y5 : w1.cell? ⟨w.heap.size + 1, 5, none⟩ = some (.int .i64 i.imm) := r1.out.i.cell 5
 have y6 : w1.cell? ⟨w.heap.size + 1, 6, none⟩ = some (.slice ua i.args.length qa) := r1.out.i.cell 6
 go_wp2_with fail
 refine (inSv _ _ _ false _ IN1.out).mono ?_
 rintro e w2 ⟨rfl, h9⟩
 have h8 := h9.symm
 clear h9
 subst h8
 go_wp2_with fail
 refine (inSv _ _ _ true _ IN2.out).mono ?_
 rintro e w2 ⟨rfl, h9⟩
 have h8 := h9.symm
 clear h9
 subst h8
 clear IN1 IN2
 cases x with
 | false =>
  have HZ2 : Hid (i = g) := (f_cast_un HO.out HC.out (const_no Hp.out rfl)).trans HZ.out
  go_wp2_with fail
  refine (C9 _ r1.out.below).mono ?_
  rintro e w5 ⟨hg, b5⟩
  rw [HZ2.out] at hg
  obtain ⟨su, sq, rfl, hrow⟩ := hg
  have R5 : Hid (Fld d i u0 c0 u2 c2 ua qa w w5) := r1.out.keep b5
  have HROW : Hid (IntsAt w5 w1.heap.size _ _) := hrow
  have hz9 : w.heap.size + 1 + 1 < w1.heap.size := r1.out.r.lt
  clear hrow x0 x1 x2 y0 y1 y2 y3 y4 y5 y6 b5 C9 HZ HZ2 CO TY W9
  have z0 : w5.cell? ⟨w.heap.size + 1 + 1, 0, none⟩ = some (.int .i64 0) := R5.out.r.cell 0
  have z1 : w5.cell? ⟨w.heap.size + 1 + 1, 1, none⟩ = some (.int .i64 0) := R5.out.r.cell 1
  have z2 : w5.cell? ⟨w.heap.size + 1 + 1, 2, none⟩ = some (.int .i64 0) := R5.out.r.cell 2
  have z3 : w5.cell? ⟨w.heap.size + 1 + 1, 3, none⟩ = some (.int .i64 0) := R5.out.r.cell 3
  have z4 : w5.cell? ⟨w.heap.size + 1 + 1, 4, none⟩ = some (.int .i64 0) := R5.out.r.cell 4
  have z5 : w5.cell? ⟨w.heap.size + 1 + 1, 5, none⟩ = some (.int .i64 0) := R5.out.r.cell 5
  have z6 : w5.cell? ⟨w.heap.size + 1 + 1, 6, none⟩ = some (.slice none 0 0) := R5.out.r.cell 6
  have zf : ∀ o, w5.frozen? ⟨w.heap.size + 1 + 1, o, none⟩ = false := fun o => froz_of_heap R5.out.r
  go_wp2_with fail
  have hr := (heap_set (o := 6) (v := .slice su g.args.length sq) (heap_set (o := 5) (v := .int .i64 g.imm) (heap_set (o := 4) (v := .int .i64 g.c) (heap_set (o := 3) (v := .int .i64 g.b) (heap_set (o := 2) (v := .int .i64 g.a) (heap_set (o := 1) (v := .int .i64 g.w) (heap_set (o := 0) (v := .int .i64 g.op) R5.out.r)))))))
  refine bodyPost_ret (v := .agg #[.int .i64 g.op, .int .i64 g.w, .int .i64 g.a, .int .i64 g.b, .int .i64 g.c, .int .i64 g.imm, .slice su g.args.length sq]) ((results_cell_row Tryz.results39 _ _ (w.heap.size + 1 + 1) 29 _ (0, 0) _ rfl hr Tryz.underlying29 rfl (by kernel_rfl)).trans (by rfl)) rfl ⟨⟨su, sq, rfl, ?_⟩, ?_⟩
  ·exact (HROW.out.keep (by repeat (first | refine Agree.trans ?_ (agree_setCell _ _ _ _ _ (by omega)) | exact Agree.refl _ _))).low (by omega)
  ·exact (by repeat (first | refine Below.setCell ?_ (by dsimp only; omega) _ | exact R5.out.below))
 | true =>
  have HA : Hid (constF d i.a = some a) := const_yes Hp.out rfl
  obtain ⟨t, ht⟩ : ∃ t, typeF d i.a = t := ⟨_, rfl⟩
  obtain ⟨n, hn⟩ : ∃ n, castZ i.op t i.w a = n := ⟨_, rfl⟩
  obtain ⟨c, hc⟩ : ∃ c, castB i.op t i.w a = c := ⟨_, rfl⟩
  rw [ht] at TY
  have CI := fun W => castS i.op t i.w a W
  rw [hn, hc] at CI
  have HT : Hid (typeF d i.a = t) := ht
  have HN : Hid (castZ i.op t i.w a = n) := hn
  have HB : Hid (castB i.op t i.w a = c) := hc
  clear ht hn hc
  go_wp2_with fail
  clear x0 x1 x2 y0 y1 y2 y3 y4 y5 y6
  replace r1 := r1.out
  refine wp_region_abv (fun v => Below w1.heap.size w1 v) (by kernel_rfl) (by kernel_rfl) (drew_below (Below.refl _ _)) ?_
  have hne : Nonempty (Abv (fun v => Below w1.heap.size w1 v)) := abv_ne (Below.refl _ _)
  have x0 := fun x : Abv (fun v => Below w1.heap.size w1 v) => (show x.v.cell? ⟨w.heap.size, 0, none⟩ = some (.slice u0 d.params.length c0) from (r1.keep x.ok).f.cell 0)
  have x1 := fun x : Abv (fun v => Below w1.heap.size w1 v) => (show x.v.cell? ⟨w.heap.size, 1, none⟩ = some (.int .i64 d.ret) from (r1.keep x.ok).f.cell 1)
  have x2 := fun x : Abv (fun v => Below w1.heap.size w1 v) => (show x.v.cell? ⟨w.heap.size, 2, none⟩ = some (.slice u2 d.blocks.length c2) from (r1.keep x.ok).f.cell 2)
  have y0 := fun x : Abv (fun v => Below w1.heap.size w1 v) => (show x.v.cell? ⟨w.heap.size + 1, 0, none⟩ = some (.int .i64 i.op) from (r1.keep x.ok).i.cell 0)
  have y1 := fun x : Abv (fun v => Below w1.heap.size w1 v) => (show x.v.cell? ⟨w.heap.size + 1, 1, none⟩ = some (.int .i64 i.w) from (r1.keep x.ok).i.cell 1)
  have y2 := fun x : Abv (fun v => Below w1.heap.size w1 v) => (show x.v.cell? ⟨w.heap.size + 1, 2, none⟩ = some (.int .i64 i.a) from (r1.keep x.ok).i.cell 2)
  have y3 := fun x : Abv (fun v => Below w1.heap.size w1 v) => (show x.v.cell? ⟨w.heap.size + 1, 3, none⟩ = some (.int .i64 i.b) from (r1.keep x.ok).i.cell 3)
  have y4 := fun x : Abv (fun v => Below w1.heap.size w1 v) => (show x.v.cell? ⟨w.heap.size + 1, 4, none⟩ = some (.int .i64 i.c) from (r1.keep x.ok).i.cell 4)
  have y5 := fun x : Abv (fun v => Below w1.heap.size w1 v) => (show x.v.cell? ⟨w.heap.size + 1, 5, none⟩ = some (.int .i64 i.imm) from (r1.keep x.ok).i.cell 5)
  have y6 := fun x : Abv (fun v => Below w1.heap.size w1 v) => (show x.v.cell? ⟨w.heap.size + 1, 6, none⟩ = some (.slice ua i.args.length qa) from (r1.keep x.ok).i.cell 6)
  repeat (go_big_quiet_step ((first | (go_at_call 79; exact abv_call _ (TY _ (r1.keep (Abv.ok _)).below)) | (go_at_call 78; exact abv_call _ (below_same (CI _))) | fail)))
  refine wpQuiet_nil ?_
  rintro w9 ⟨⟨w9, h9⟩, rfl⟩
  have r9 := r1.keep h9
  clear hne x0 x1 x2 y0 y1 y2 y3 y4 y5 y6 h9 r1
  have r3 : Hid (Fld d i u0 c0 u2 c2 ua qa w w9) := r9
  clear r9
  have x0 : w9.cell? ⟨w.heap.size, 0, none⟩ = some (.slice u0 d.params.length c0) := r3.out.f.cell 0
  have x1 : w9.cell? ⟨w.heap.size, 1, none⟩ = some (.int .i64 d.ret) := r3.out.f.cell 1
  have x2 : w9.cell? ⟨w.heap.size, 2, none⟩ = some (.slice u2 d.blocks.length c2) := r3.out.f.cell 2
  have y0 : w9.cell? ⟨w.heap.size + 1, 0, none⟩ = some (.int .i64 i.op) := r3.out.i.cell 0
  have y1 : w9.cell? ⟨w.heap.size + 1, 1, none⟩ = some (.int .i64 i.w) := r3.out.i.cell 1
  have y2 : w9.cell? ⟨w.heap.size + 1, 2, none⟩ = some (.int .i64 i.a) := r3.out.i.cell 2
  have y3 : w9.cell? ⟨w.heap.size + 1, 3, none⟩ = some (.int .i64 i.b) := r3.out.i.cell 3
  have y4 : w9.cell? ⟨w.heap.size + 1, 4, none⟩ = some (.int .i64 i.c) := r3.out.i.cell 4
  have y5 : w9.cell? ⟨w.heap.size + 1, 5, none⟩ = some (.int .i64 i.imm) := r3.out.i.cell 5
  have y6 : w9.cell? ⟨w.heap.size + 1, 6, none⟩ = some (.slice ua i.args.length qa) := r3.out.i.cell 6
  cases c with
  | false =>
   have HZ2 : Hid (i = g) := (f_cast_no HO.out HC.out HA.out (by rw [HT.out]; exact HB.out)).trans HZ.out
   go_wp2_with fail
   refine (C9 _ r3.out.below).mono ?_
   rintro e w5 ⟨hg, b5⟩
   rw [HZ2.out] at hg
   obtain ⟨su, sq, rfl, hrow⟩ := hg
   have R5 : Hid (Fld d i u0 c0 u2 c2 ua qa w w5) := r3.out.keep b5
   have HROW : Hid (IntsAt w5 w9.heap.size _ _) := hrow
   have hz9 : w.heap.size + 1 + 1 < w9.heap.size := r3.out.r.lt
   clear hrow x0 x1 x2 y0 y1 y2 y3 y4 y5 y6 b5 C9 HZ HZ2 CO TY W9
   have z0 : w5.cell? ⟨w.heap.size + 1 + 1, 0, none⟩ = some (.int .i64 0) := R5.out.r.cell 0
   have z1 : w5.cell? ⟨w.heap.size + 1 + 1, 1, none⟩ = some (.int .i64 0) := R5.out.r.cell 1
   have z2 : w5.cell? ⟨w.heap.size + 1 + 1, 2, none⟩ = some (.int .i64 0) := R5.out.r.cell 2
   have z3 : w5.cell? ⟨w.heap.size + 1 + 1, 3, none⟩ = some (.int .i64 0) := R5.out.r.cell 3
   have z4 : w5.cell? ⟨w.heap.size + 1 + 1, 4, none⟩ = some (.int .i64 0) := R5.out.r.cell 4
   have z5 : w5.cell? ⟨w.heap.size + 1 + 1, 5, none⟩ = some (.int .i64 0) := R5.out.r.cell 5
   have z6 : w5.cell? ⟨w.heap.size + 1 + 1, 6, none⟩ = some (.slice none 0 0) := R5.out.r.cell 6
   have zf : ∀ o, w5.frozen? ⟨w.heap.size + 1 + 1, o, none⟩ = false := fun o => froz_of_heap R5.out.r
   go_wp2_with fail
   have hr := (heap_set (o := 6) (v := .slice su g.args.length sq) (heap_set (o := 5) (v := .int .i64 g.imm) (heap_set (o := 4) (v := .int .i64 g.c) (heap_set (o := 3) (v := .int .i64 g.b) (heap_set (o := 2) (v := .int .i64 g.a) (heap_set (o := 1) (v := .int .i64 g.w) (heap_set (o := 0) (v := .int .i64 g.op) R5.out.r)))))))
   refine bodyPost_ret (v := .agg #[.int .i64 g.op, .int .i64 g.w, .int .i64 g.a, .int .i64 g.b, .int .i64 g.c, .int .i64 g.imm, .slice su g.args.length sq]) ((results_cell_row Tryz.results39 _ _ (w.heap.size + 1 + 1) 29 _ (0, 0) _ rfl hr Tryz.underlying29 rfl (by kernel_rfl)).trans (by rfl)) rfl ⟨⟨su, sq, rfl, ?_⟩, ?_⟩
   ·exact (HROW.out.keep (by repeat (first | refine Agree.trans ?_ (agree_setCell _ _ _ _ _ (by omega)) | exact Agree.refl _ _))).low (by omega)
   ·exact (by repeat (first | refine Below.setCell ?_ (by dsimp only; omega) _ | exact R5.out.below))
  | true =>
   have HZ2 : Hid (constD i.w n = g) := by show _ = _; rw [← HN.out, ← HT.out]; exact (f_cast HO.out HC.out HA.out (by rw [HT.out]; exact HB.out)).trans HZ.out
   go_wp2_with fail
   refine (const9S _ _ _).mono ?_
   rintro e w5 ⟨hg, b5⟩
   rw [HZ2.out] at hg
   obtain ⟨su, sq, rfl, hrow⟩ := hg
   have R5 : Hid (Fld d i u0 c0 u2 c2 ua qa w w5) := r3.out.keep b5
   have HROW : Hid (IntsAt w5 w9.heap.size _ _) := hrow
   have hz9 : w.heap.size + 1 + 1 < w9.heap.size := r3.out.r.lt
   clear hrow x0 x1 x2 y0 y1 y2 y3 y4 y5 y6 b5 C9 HZ HZ2 CO TY W9
   have z0 : w5.cell? ⟨w.heap.size + 1 + 1, 0, none⟩ = some (.int .i64 0) := R5.out.r.cell 0
   have z1 : w5.cell? ⟨w.heap.size + 1 + 1, 1, none⟩ = some (.int .i64 0) := R5.out.r.cell 1
   have z2 : w5.cell? ⟨w.heap.size + 1 + 1, 2, none⟩ = some (.int .i64 0) := R5.out.r.cell 2
   have z3 : w5.cell? ⟨w.heap.size + 1 + 1, 3, none⟩ = some (.int .i64 0) := R5.out.r.cell 3
   have z4 : w5.cell? ⟨w.heap.size + 1 + 1, 4, none⟩ = some (.int .i64 0) := R5.out.r.cell 4
   have z5 : w5.cell? ⟨w.heap.size + 1 + 1, 5, none⟩ = some (.int .i64 0) := R5.out.r.cell 5
   have z6 : w5.cell? ⟨w.heap.size + 1 + 1, 6, none⟩ = some (.slice none 0 0) := R5.out.r.cell 6
   have zf : ∀ o, w5.frozen? ⟨w.heap.size + 1 + 1, o, none⟩ = false := fun o => froz_of_heap R5.out.r
   go_wp2_with fail
   have hr := (heap_set (o := 6) (v := .slice su g.args.length sq) (heap_set (o := 5) (v := .int .i64 g.imm) (heap_set (o := 4) (v := .int .i64 g.c) (heap_set (o := 3) (v := .int .i64 g.b) (heap_set (o := 2) (v := .int .i64 g.a) (heap_set (o := 1) (v := .int .i64 g.w) (heap_set (o := 0) (v := .int .i64 g.op) R5.out.r)))))))
   refine bodyPost_ret (v := .agg #[.int .i64 g.op, .int .i64 g.w, .int .i64 g.a, .int .i64 g.b, .int .i64 g.c, .int .i64 g.imm, .slice su g.args.length sq]) ((results_cell_row Tryz.results39 _ _ (w.heap.size + 1 + 1) 29 _ (0, 0) _ rfl hr Tryz.underlying29 rfl (by kernel_rfl)).trans (by rfl)) rfl ⟨⟨su, sq, rfl, ?_⟩, ?_⟩
   ·exact (HROW.out.keep (by repeat (first | refine Agree.trans ?_ (agree_setCell _ _ _ _ _ (by omega)) | exact Agree.refl _ _))).low (by omega)
   ·exact (by repeat (first | refine Below.setCell ?_ (by dsimp only; omega) _ | exact R5.out.below))
end Go.Proofs.YtoknhppjdmoblaaGreatDoor
