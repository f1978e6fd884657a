import Derived.Test.YtoknhppjdmoblaaGreatDoorFdPQ
namespace Go.Proofs.YtoknhppjdmoblaaGreatDoor
set_option linter.unusedVariables false
set_option linter.unusedSimpArgs false
open Go.RowKit
set_option maxHeartbeats 4000000 in
set_option maxRecDepth 100000 in
theorem two_16 (lo : Nat) (i : InstD) (ua : Option Addr) (qa : Nat) (a : Int) (x : Bool) (b : Int) (y : Bool) (B0 A0 B1 A1 NE : Bool) (w : World) (hm : i.args.length ≤ 1048576) (ku : IntsAt w lo ua i.args) (hop : i.op = 16) (hxy : ¬ (x = true ∧ y = true)) (nb : ¬ (B0 = true ∧ B1 = true)) (na : ¬ (A0 = true ∧ A1 = true)) (hB0 : (b == 0) = B0) (hB1 : (b == 1) = B1) (hA0 : (a == 0) = A0) (hA1 : (a == 1) = A1) (hE : (i.a != i.b) = NE) :
  Calls Tryz.prog 77 #[.agg #[.int .i64 i.op, .int .i64 i.w, .int .i64 i.a, .int .i64 i.b, .int .i64 i.c, .int .i64 i.imm, .slice ua i.args.length qa], .int .i64 a, .bool x, .int .i64 b, .bool y] w fun e w' => InstGot w' w.heap.size (pickD i (twoC i.op (y && B0) (x && A0) (y && B1) (x && A1) (!NE))) e ∧ Below w.heap.size w w' := by
 have W9 := fun W => instS_any i ua qa W
 have C9 := fun W (k : Below w.heap.size w W) => copy9S lo i ua qa W hm (ku.keep (agree_of_below k lo))
 have T0 := Tw.start (op := 16) (i := i) (ua := ua) (qa := qa) (w := w)
 rw [hop] at W9 C9 ⊢
 have IN : Hid ((decide (11 ≤ (16 : Int)) && decide ((16 : Int) ≤ 13)) = false) := by show _ = _; decide
 clear hop hm ku
 generalize hz : pickD i (twoC 16 (y && B0) (x && A0) (y && B1) (x && A1) (!NE)) = g
 have HZ : Hid (pickD i (twoC 16 (y && B0) (x && A0) (y && B1) (x && A1) (!NE)) = g) := hz
 clear hz
 rcases two_cases hxy nb na with ⟨rfl, rfl⟩ | ⟨rfl, rfl, rfl, rfl⟩ | ⟨rfl, rfl, rfl, rfl⟩ | ⟨rfl, rfl, rfl, rfl⟩ | ⟨rfl, rfl, rfl, rfl⟩ | ⟨rfl, rfl, rfl, rfl⟩ | ⟨rfl, rfl, rfl, rfl⟩
 cases NE
 rotate_left 2
 cases NE
 rotate_left 2
 cases NE
 rotate_left 2
 cases NE
 rotate_left 2
 cases NE
 rotate_left 2
 cases NE
 rotate_left 2
 cases NE
 rotate_left 2
 all_goals (
 clear hxy nb na
 go_enter Tryz.func77, Tryz.ntmps77
 go_wp2_with fail
 refine (W9 _).mono ?_
 rintro e w1 ⟨rfl, b1⟩
 have T1 : Hid (Tw 16 i ua qa w w1) := T0.keep b1
 clear b1 T0 W9
 have x0 : w1.cell? ⟨w.heap.size, 0, none⟩ = some (.int .i64 16) := T1.out.i.cell 0
 have x1 : w1.cell? ⟨w.heap.size, 1, none⟩ = some (.int .i64 i.w) := T1.out.i.cell 1
 have x2 : w1.cell? ⟨w.heap.size, 2, none⟩ = some (.int .i64 i.a) := T1.out.i.cell 2
 have x3 : w1.cell? ⟨w.heap.size, 3, none⟩ = some (.int .i64 i.b) := T1.out.i.cell 3
 have x4 : w1.cell? ⟨w.heap.size, 4, none⟩ = some (.int .i64 i.c) := T1.out.i.cell 4
 have x5 : w1.cell? ⟨w.heap.size, 5, none⟩ = some (.int .i64 i.imm) := T1.out.i.cell 5
 have x6 : w1.cell? ⟨w.heap.size, 6, none⟩ = some (.slice ua i.args.length qa) := T1.out.i.cell 6
 go_wp2_with (first | (go_at_call 69; refine (inSv _ _ _ _ _ IN.out).mono ?_; rintro e w4 ⟨rfl, h9⟩; have h8 := h9.symm; clear h9; subst h8) | fail)
 first
 | (go_at_call 80; refine (same9S _ _ _).mono ?_; rintro e w5 ⟨hg, b5⟩; rw [(show copyD _ _ = g from HZ.out)] at hg)
 | (go_at_call 74; refine (const9S _ _ _).mono ?_; rintro e w5 ⟨hg, b5⟩; rw [(show constD _ _ = g from HZ.out)] at hg)
 | (go_at_call 76; refine (C9 _ T1.out.below).mono ?_; rintro e w5 ⟨hg, b5⟩; rw [(show i = g from HZ.out)] at hg)
 | fail
 obtain ⟨su, sq, rfl, hrow⟩ := hg
 have T5 : Hid (Tw 16 i ua qa w w5) := T1.out.keep b5
 have HROW : Hid (IntsAt w5 w1.heap.size _ _) := hrow
 have hz1 : w.heap.size + 1 < w1.heap.size := T1.out.r.lt
 clear hrow x0 x1 x2 x3 x4 x5 x6 b5 C9 HZ
 have z0 : w5.cell? ⟨w.heap.size + 1, 0, none⟩ = some (.int .i64 0) := T5.out.r.cell 0
 have z1 : w5.cell? ⟨w.heap.size + 1, 1, none⟩ = some (.int .i64 0) := T5.out.r.cell 1
 have z2 : w5.cell? ⟨w.heap.size + 1, 2, none⟩ = some (.int .i64 0) := T5.out.r.cell 2
 have z3 : w5.cell? ⟨w.heap.size + 1, 3, none⟩ = some (.int .i64 0) := T5.out.r.cell 3
 have z4 : w5.cell? ⟨w.heap.size + 1, 4, none⟩ = some (.int .i64 0) := T5.out.r.cell 4
 have z5 : w5.cell? ⟨w.heap.size + 1, 5, none⟩ = some (.int .i64 0) := T5.out.r.cell 5
 have z6 : w5.cell? ⟨w.heap.size + 1, 6, none⟩ = some (.slice none 0 0) := T5.out.r.cell 6
 have zf : ∀ o, w5.frozen? ⟨w.heap.size + 1, o, none⟩ = false := fun o => froz_of_heap T5.out.r
 go_wp2_with fail
 have hr := (heap_set (o := 6) (v := .slice su g.args.length sq) (heap_set (o := 5) (v := .int .i64 g.imm) (heap_set (o := 4) (v := .int .i64 g.c) (heap_set (o := 3) (v := .int .i64 g.b) (heap_set (o := 2) (v := .int .i64 g.a) (heap_set (o := 1) (v := .int .i64 g.w) (heap_set (o := 0) (v := .int .i64 g.op) T5.out.r)))))))
 refine bodyPost_ret (v := .agg #[.int .i64 g.op, .int .i64 g.w, .int .i64 g.a, .int .i64 g.b, .int .i64 g.c, .int .i64 g.imm, .slice su g.args.length sq]) ((results_cell_row Tryz.results77 _ _ (w.heap.size + 1) 29 _ (0, 0) _ rfl hr Tryz.underlying29 rfl (by kernel_rfl)).trans (by rfl)) rfl ⟨⟨su, sq, rfl, ?_⟩, ?_⟩
 ·exact (HROW.out.keep (by repeat (first | refine Agree.trans ?_ (agree_setCell _ _ _ _ _ (by omega)) | exact Agree.refl _ _))).low (by omega)
 ·exact (by repeat (first | refine Below.setCell ?_ (by dsimp only; omega) _ | exact T5.out.below)))
set_option maxHeartbeats 4000000 in
set_option maxRecDepth 100000 in
theorem two_17 (lo : Nat) (i : InstD) (ua : Option Addr) (qa : Nat) (a : Int) (x : Bool) (b : Int) (y : Bool) (B0 A0 B1 A1 NE : Bool) (w : World) (hm : i.args.length ≤ 1048576) (ku : IntsAt w lo ua i.args) (hop : i.op = 17) (hxy : ¬ (x = true ∧ y = true)) (nb : ¬ (B0 = true ∧ B1 = true)) (na : ¬ (A0 = true ∧ A1 = true)) (hB0 : (b == 0) = B0) (hB1 : (b == 1) = B1) (hA0 : (a == 0) = A0) (hA1 : (a == 1) = A1) (hE : (i.a != i.b) = NE) :
  Calls Tryz.prog 77 #[.agg #[.int .i64 i.op, .int .i64 i.w, .int .i64 i.a, .int .i64 i.b, .int .i64 i.c, .int .i64 i.imm, .slice ua i.args.length qa], .int .i64 a, .bool x, .int .i64 b, .bool y] w fun e w' => InstGot w' w.heap.size (pickD i (twoC i.op (y && B0) (x && A0) (y && B1) (x && A1) (!NE))) e ∧ Below w.heap.size w w' := by
 have W9 := fun W => instS_any i ua qa W
 have C9 := fun W (k : Below w.heap.size w W) => copy9S lo i ua qa W hm (ku.keep (agree_of_below k lo))
 have T0 := Tw.start (op := 17) (i := i) (ua := ua) (qa := qa) (w := w)
 rw [hop] at W9 C9 ⊢
 have IN : Hid ((decide (11 ≤ (17 : Int)) && decide ((17 : Int) ≤ 13)) = false) := by show _ = _; decide
 clear hop hm ku
 generalize hz : pickD i (twoC 17 (y && B0) (x && A0) (y && B1) (x && A1) (!NE)) = g
 have HZ : Hid (pickD i (twoC 17 (y && B0) (x && A0) (y && B1) (x && A1) (!NE)) = g) := hz
 clear hz
 rcases two_cases hxy nb na with ⟨rfl, rfl⟩ | ⟨rfl, rfl, rfl, rfl⟩ | ⟨rfl, rfl, rfl, rfl⟩ | ⟨rfl, rfl, rfl, rfl⟩ | ⟨rfl, rfl, rfl, rfl⟩ | ⟨rfl, rfl, rfl, rfl⟩ | ⟨rfl, rfl, rfl, rfl⟩
 cases NE
 rotate_left 2
 cases NE
 rotate_left 2
 cases NE
 rotate_left 2
 cases NE
 rotate_left 2
 cases NE
 rotate_left 2
 cases NE
 rotate_left 2
 cases NE
 rotate_left 2
 all_goals (
 clear hxy nb na
 go_enter Tryz.func77, Tryz.ntmps77
 go_wp2_with fail
 refine (W9 _).mono ?_
 rintro e w1 ⟨rfl, b1⟩
 have T1 : Hid (Tw 17 i ua qa w w1) := T0.keep b1
 clear b1 T0 W9
 have x0 : w1.cell? ⟨w.heap.size, 0, none⟩ = some (.int .i64 17) := T1.out.i.cell 0
 have x1 : w1.cell? ⟨w.heap.size, 1, none⟩ = some (.int .i64 i.w) := T1.out.i.cell 1
 have x2 : w1.cell? ⟨w.heap.size, 2, none⟩ = some (.int .i64 i.a) := T1.out.i.cell 2
 have x3 : w1.cell? ⟨w.heap.size, 3, none⟩ = some (.int .i64 i.b) := T1.out.i.cell 3
 have x4 : w1.cell? ⟨w.heap.size, 4, none⟩ = some (.int .i64 i.c) := T1.out.i.cell 4
 have x5 : w1.cell? ⟨w.heap.size, 5, none⟩ = some (.int .i64 i.imm) := T1.out.i.cell 5
 have x6 : w1.cell? ⟨w.heap.size, 6, none⟩ = some (.slice ua i.args.length qa) := T1.out.i.cell 6
 go_wp2_with (first | (go_at_call 69; refine (inSv _ _ _ _ _ IN.out).mono ?_; rintro e w4 ⟨rfl, h9⟩; have h8 := h9.symm; clear h9; subst h8) | fail)
 first
 | (go_at_call 80; refine (same9S _ _ _).mono ?_; rintro e w5 ⟨hg, b5⟩; rw [(show copyD _ _ = g from HZ.out)] at hg)
 | (go_at_call 74; refine (const9S _ _ _).mono ?_; rintro e w5 ⟨hg, b5⟩; rw [(show constD _ _ = g from HZ.out)] at hg)
 | (go_at_call 76; refine (C9 _ T1.out.below).mono ?_; rintro e w5 ⟨hg, b5⟩; rw [(show i = g from HZ.out)] at hg)
 | fail
 obtain ⟨su, sq, rfl, hrow⟩ := hg
 have T5 : Hid (Tw 17 i ua qa w w5) := T1.out.keep b5
 have HROW : Hid (IntsAt w5 w1.heap.size _ _) := hrow
 have hz1 : w.heap.size + 1 < w1.heap.size := T1.out.r.lt
 clear hrow x0 x1 x2 x3 x4 x5 x6 b5 C9 HZ
 have z0 : w5.cell? ⟨w.heap.size + 1, 0, none⟩ = some (.int .i64 0) := T5.out.r.cell 0
 have z1 : w5.cell? ⟨w.heap.size + 1, 1, none⟩ = some (.int .i64 0) := T5.out.r.cell 1
 have z2 : w5.cell? ⟨w.heap.size + 1, 2, none⟩ = some (.int .i64 0) := T5.out.r.cell 2
 have z3 : w5.cell? ⟨w.heap.size + 1, 3, none⟩ = some (.int .i64 0) := T5.out.r.cell 3
 have z4 : w5.cell? ⟨w.heap.size + 1, 4, none⟩ = some (.int .i64 0) := T5.out.r.cell 4
 have z5 : w5.cell? ⟨w.heap.size + 1, 5, none⟩ = some (.int .i64 0) := T5.out.r.cell 5
 have z6 : w5.cell? ⟨w.heap.size + 1, 6, none⟩ = some (.slice none 0 0) := T5.out.r.cell 6
 have zf : ∀ o, w5.frozen? ⟨w.heap.size + 1, o, none⟩ = false := fun o => froz_of_heap T5.out.r
 go_wp2_with fail
 have hr := (heap_set (o := 6) (v := .slice su g.args.length sq) (heap_set (o := 5) (v := .int .i64 g.imm) (heap_set (o := 4) (v := .int .i64 g.c) (heap_set (o := 3) (v := .int .i64 g.b) (heap_set (o := 2) (v := .int .i64 g.a) (heap_set (o := 1) (v := .int .i64 g.w) (heap_set (o := 0) (v := .int .i64 g.op) T5.out.r)))))))
 refine bodyPost_ret (v := .agg #[.int .i64 g.op, .int .i64 g.w, .int .i64 g.a, .int .i64 g.b, .int .i64 g.c, .int .i64 g.imm, .slice su g.args.length sq]) ((results_cell_row Tryz.results77 _ _ (w.heap.size + 1) 29 _ (0, 0) _ rfl hr Tryz.underlying29 rfl (by kernel_rfl)).trans (by rfl)) rfl ⟨⟨su, sq, rfl, ?_⟩, ?_⟩
 ·exact (HROW.out.keep (by repeat (first | refine Agree.trans ?_ (agree_setCell _ _ _ _ _ (by omega)) | exact Agree.refl _ _))).low (by omega)
 ·exact (by repeat (first | refine Below.setCell ?_ (by dsimp only; omega) _ | exact T5.out.below)))
end Go.Proofs.YtoknhppjdmoblaaGreatDoor
