import Derived.Test.YtoknhppjdmoblaaGreatDoorFdBQ
namespace Go.Proofs.YtoknhppjdmoblaaGreatDoor
set_option linter.unusedVariables false
set_option linter.unusedSimpArgs false
open Go.RowKit
theorem binI_op (op a x y : Int) (w : World) (ho : opB op = false) : Calls Tryz.prog 98 #[.int .i64 op, .int .i64 a, .int .i64 x, .int .i64 y] w fun e w' => e = .returned (.tuple #[.int .i64 (binZ op a x y), .int .i64 (binC op a x y)]) ∧ Below w.heap.size w w' ∧ Grown w w' := by
 obtain ⟨e1, e2⟩ := bin_form (op := op) (a := a) (x := x) (y := y) (by simp [binOk, ho])
 have E1 : Hid (0 = binZ op a x y) := e1
 have E2 : Hid (_ = binC op a x y) := e2
 clear e1 e2
 go_enter Tryz.func98, Tryz.ntmps98
 go_wp2_with (first | (go_at_call 95; refine (opI _ _).mono ?_; rintro e w' ⟨rfl, rfl⟩))
 go_ret2
 exact ⟨ret_ii E1.out E2.out, ⟨Below.refl _ _, Grown.refl _⟩⟩
theorem binI_x (op a x y : Int) (w : World) (ho : opB op = true) (hx : valueB a x = false) : Calls Tryz.prog 98 #[.int .i64 op, .int .i64 a, .int .i64 x, .int .i64 y] w fun e w' => e = .returned (.tuple #[.int .i64 (binZ op a x y), .int .i64 (binC op a x y)]) ∧ Below w.heap.size w w' ∧ Grown w w' := by
 obtain ⟨e1, e2⟩ := bin_form (op := op) (a := a) (x := x) (y := y) (by simp [binOk, hx])
 have E1 : Hid (0 = binZ op a x y) := e1
 have E2 : Hid (_ = binC op a x y) := e2
 clear e1 e2
 go_enter Tryz.func98, Tryz.ntmps98
 go_wp2_with (first | (go_at_call 95; refine (opI _ _).mono ?_; rintro e w' ⟨rfl, rfl⟩) | (go_at_call 96; refine (valueI _ _ _).mono ?_; rintro e w' ⟨rfl, rfl⟩))
 go_ret2
 exact ⟨ret_ii E1.out E2.out, ⟨Below.refl _ _, Grown.refl _⟩⟩
theorem binI_y (op a x y : Int) (w : World) (ho : opB op = true) (hx : valueB a x = true) (hy : valueB a y = false) : Calls Tryz.prog 98 #[.int .i64 op, .int .i64 a, .int .i64 x, .int .i64 y] w fun e w' => e = .returned (.tuple #[.int .i64 (binZ op a x y), .int .i64 (binC op a x y)]) ∧ Below w.heap.size w w' ∧ Grown w w' := by
 obtain ⟨e1, e2⟩ := bin_form (op := op) (a := a) (x := x) (y := y) (by simp [binOk, hy])
 have E1 : Hid (0 = binZ op a x y) := e1
 have E2 : Hid (_ = binC op a x y) := e2
 clear e1 e2
 go_enter Tryz.func98, Tryz.ntmps98
 go_wp2_with (first | (go_at_call 95; refine (opI _ _).mono ?_; rintro e w' ⟨rfl, rfl⟩) | (go_at_call 96; refine (valueI _ _ _).mono ?_; rintro e w' ⟨rfl, rfl⟩))
 go_ret2
 exact ⟨ret_ii E1.out E2.out, ⟨Below.refl _ _, Grown.refl _⟩⟩
theorem binI_z (op a x y : Int) (w : World) (ho : opB op = true) (hx : valueB a x = true) (hy : valueB a y = true) (hd : divB op = true) (hz : y = 0) : Calls Tryz.prog 98 #[.int .i64 op, .int .i64 a, .int .i64 x, .int .i64 y] w fun e w' => e = .returned (.tuple #[.int .i64 (binZ op a x y), .int .i64 (binC op a x y)]) ∧ Below w.heap.size w w' ∧ Grown w w' := by
 obtain ⟨e1, e2⟩ := bin_zero (op := op) (a := a) (x := x) (y := y) (by simp [binOk, ho, hx, hy]) hd hz
 have E1 : Hid (0 = binZ op a x y) := e1
 have E2 : Hid (_ = binC op a x y) := e2
 clear e1 e2
 subst hz
 have hd4 : 4 ≤ op ∧ op ≤ 7 := by simpa [divB] using hd
 obtain ⟨q1, q2⟩ := hd4
 go_enter Tryz.func98, Tryz.ntmps98
 go_wp2_with (first | (go_at_call 95; refine (opI _ _).mono ?_; rintro e w' ⟨rfl, rfl⟩) | (go_at_call 96; refine (valueI _ _ _).mono ?_; rintro e w' ⟨rfl, rfl⟩))
 go_ret2
 exact ⟨ret_ii E1.out E2.out, ⟨Below.refl _ _, Grown.refl _⟩⟩
theorem binI_1 (a x y : Int) (w : World) (hx : valueB a x = true) (hy : valueB a y = true) : Calls Tryz.prog 98 #[.int .i64 1, .int .i64 a, .int .i64 x, .int .i64 y] w fun e w' => e = .returned (.tuple #[.int .i64 (binZ 1 a x y), .int .i64 (binC 1 a x y)]) ∧ Below w.heap.size w w' ∧ Grown w w' := by
 obtain ⟨e1, e2⟩ := bin_ok (op := 1) (a := a) (x := x) (y := y) (by simp [binOk, hx, hy]; decide) (by simp [divB])
 have E1 : Hid (maskZ a (x + y) = binZ 1 a x y) := by show _ = _; rw [← e1]; simp [twoZ]
 have E2 : Hid (0 = binC 1 a x y) := e2
 clear e1 e2
 have dd : opB 1 = true := by decide
 have hcell := fun (W : World) (o : Obj) => cell_rule W o 1 144 rfl
 go_enter Tryz.func98, Tryz.ntmps98
 go_wp2_with (first | (go_at_call 95; refine (opI _ _).mono ?_; rintro e w' ⟨rfl, rfl⟩) | (go_at_call 96; refine (valueI _ _ _).mono ?_; rintro e w' ⟨rfl, rfl⟩) | (go_at_call 144; refine (addI _ _ _ _ hx hy).mono ?_; rintro e w' ⟨rfl, rfl⟩) | (go_at_call 133; refine (maskI _ _ _).mono ?_; rintro e w' ⟨rfl, rfl⟩) | (go_at_call 132; refine (rulesI _).mono ?_; rintro e w' ⟨rfl, rfl⟩) | (refine wpList_store_row rfl 173 _ _ rfl _ rulesA rfl rfl 173 _ (heap_new2 _ _ _) (by kernel_rfl) rfl (by kernel_rfl) ?_; rw [setRow_new2]))
 go_ret2
 exact ⟨ret_ii E1.out E2.out, two_new _ _ _ _ _⟩
theorem binI_2 (a x y : Int) (w : World) (hx : valueB a x = true) (hy : valueB a y = true) : Calls Tryz.prog 98 #[.int .i64 2, .int .i64 a, .int .i64 x, .int .i64 y] w fun e w' => e = .returned (.tuple #[.int .i64 (binZ 2 a x y), .int .i64 (binC 2 a x y)]) ∧ Below w.heap.size w w' ∧ Grown w w' := by
 obtain ⟨e1, e2⟩ := bin_ok (op := 2) (a := a) (x := x) (y := y) (by simp [binOk, hx, hy]; decide) (by simp [divB])
 have E1 : Hid (maskZ a (x - y) = binZ 2 a x y) := by show _ = _; rw [← e1]; simp [twoZ]
 have E2 : Hid (0 = binC 2 a x y) := e2
 clear e1 e2
 have dd : opB 2 = true := by decide
 have hcell := fun (W : World) (o : Obj) => cell_rule W o 2 145 rfl
 go_enter Tryz.func98, Tryz.ntmps98
 go_wp2_with (first | (go_at_call 95; refine (opI _ _).mono ?_; rintro e w' ⟨rfl, rfl⟩) | (go_at_call 96; refine (valueI _ _ _).mono ?_; rintro e w' ⟨rfl, rfl⟩) | (go_at_call 145; refine (subI _ _ _ _ hx hy).mono ?_; rintro e w' ⟨rfl, rfl⟩) | (go_at_call 133; refine (maskI _ _ _).mono ?_; rintro e w' ⟨rfl, rfl⟩) | (go_at_call 132; refine (rulesI _).mono ?_; rintro e w' ⟨rfl, rfl⟩) | (refine wpList_store_row rfl 173 _ _ rfl _ rulesA rfl rfl 173 _ (heap_new2 _ _ _) (by kernel_rfl) rfl (by kernel_rfl) ?_; rw [setRow_new2]))
 go_ret2
 exact ⟨ret_ii E1.out E2.out, two_new _ _ _ _ _⟩
theorem binI_3 (a x y : Int) (w : World) (hx : valueB a x = true) (hy : valueB a y = true) : Calls Tryz.prog 98 #[.int .i64 3, .int .i64 a, .int .i64 x, .int .i64 y] w fun e w' => e = .returned (.tuple #[.int .i64 (binZ 3 a x y), .int .i64 (binC 3 a x y)]) ∧ Below w.heap.size w w' ∧ Grown w w' := by
 obtain ⟨e1, e2⟩ := bin_ok (op := 3) (a := a) (x := x) (y := y) (by simp [binOk, hx, hy]; decide) (by simp [divB])
 have E1 : Hid (maskZ a (wrap64 (bits BinOp.and IntKind.u64 (IntKind.u64.wrap (x * y)) 4294967295)) = binZ 3 a x y) := by show _ = _; rw [← e1]; simp only [twoZ]; rw [mulI_eq]; exact mask_mulI (value_yes hx).1
 have E2 : Hid (0 = binC 3 a x y) := e2
 clear e1 e2
 have dd : opB 3 = true := by decide
 have hcell := fun (W : World) (o : Obj) => cell_rule W o 3 146 rfl
 go_enter Tryz.func98, Tryz.ntmps98
 go_wp2_with (first | (go_at_call 95; refine (opI _ _).mono ?_; rintro e w' ⟨rfl, rfl⟩) | (go_at_call 96; refine (valueI _ _ _).mono ?_; rintro e w' ⟨rfl, rfl⟩) | (go_at_call 146; refine (mulI _ _ _ _ hx hy).mono ?_; rintro e w' ⟨rfl, rfl⟩) | (go_at_call 133; refine (maskI _ _ _).mono ?_; rintro e w' ⟨rfl, rfl⟩) | (go_at_call 132; refine (rulesI _).mono ?_; rintro e w' ⟨rfl, rfl⟩) | (refine wpList_store_row rfl 173 _ _ rfl _ rulesA rfl rfl 173 _ (heap_new2 _ _ _) (by kernel_rfl) rfl (by kernel_rfl) ?_; rw [setRow_new2]))
 go_ret2
 exact ⟨ret_ii E1.out E2.out, two_new _ _ _ _ _⟩
theorem binI_4 (a x y : Int) (w : World) (hx : valueB a x = true) (hy : valueB a y = true) (hz : ¬ y = 0) : Calls Tryz.prog 98 #[.int .i64 4, .int .i64 a, .int .i64 x, .int .i64 y] w fun e w' => e = .returned (.tuple #[.int .i64 (binZ 4 a x y), .int .i64 (binC 4 a x y)]) ∧ Below w.heap.size w w' ∧ Grown w w' := by
 obtain ⟨e1, e2⟩ := bin_ok (op := 4) (a := a) (x := x) (y := y) (by simp [binOk, hx, hy]; decide) (by simp [divB, hz])
 have E1 : Hid (maskZ a (x / y) = binZ 4 a x y) := by show _ = _; rw [← e1]; simp [twoZ]
 have E2 : Hid (0 = binC 4 a x y) := e2
 clear e1 e2
 have dd : opB 4 = true := by decide
 have hcell := fun (W : World) (o : Obj) => cell_rule W o 4 147 rfl
 have hz' : (y == 0) = false := by simpa using hz
 go_enter Tryz.func98, Tryz.ntmps98
 go_wp2_with (first | (go_at_call 95; refine (opI _ _).mono ?_; rintro e w' ⟨rfl, rfl⟩) | (go_at_call 96; refine (valueI _ _ _).mono ?_; rintro e w' ⟨rfl, rfl⟩) | (go_at_call 147; refine (udivI _ _ _ _ hx hy hz).mono ?_; rintro e w' ⟨rfl, rfl⟩) | (go_at_call 133; refine (maskI _ _ _).mono ?_; rintro e w' ⟨rfl, rfl⟩) | (go_at_call 132; refine (rulesI _).mono ?_; rintro e w' ⟨rfl, rfl⟩) | (refine wpList_store_row rfl 173 _ _ rfl _ rulesA rfl rfl 173 _ (heap_new2 _ _ _) (by kernel_rfl) rfl (by kernel_rfl) ?_; rw [setRow_new2]))
 go_ret2
 exact ⟨ret_ii E1.out E2.out, two_new _ _ _ _ _⟩
theorem binI_5 (a x y : Int) (w : World) (hx : valueB a x = true) (hy : valueB a y = true) (hz : ¬ y = 0) : Calls Tryz.prog 98 #[.int .i64 5, .int .i64 a, .int .i64 x, .int .i64 y] w fun e w' => e = .returned (.tuple #[.int .i64 (binZ 5 a x y), .int .i64 (binC 5 a x y)]) ∧ Below w.heap.size w w' ∧ Grown w w' := by
 obtain ⟨e1, e2⟩ := bin_ok (op := 5) (a := a) (x := x) (y := y) (by simp [binOk, hx, hy]; decide) (by simp [divB, hz])
 have E1 : Hid (maskZ a (wrap64 ((sgnZ a x).tdiv (sgnZ a y))) = binZ 5 a x y) := by show _ = _; rw [← e1, tdiv_bd (sgn_bd hx)]; simp [twoZ]
 have E2 : Hid (0 = binC 5 a x y) := e2
 clear e1 e2
 have dd : opB 5 = true := by decide
 have hcell := fun (W : World) (o : Obj) => cell_rule W o 5 148 rfl
 have hz' : (y == 0) = false := by simpa using hz
 go_enter Tryz.func98, Tryz.ntmps98
 go_wp2_with (first | (go_at_call 95; refine (opI _ _).mono ?_; rintro e w' ⟨rfl, rfl⟩) | (go_at_call 96; refine (valueI _ _ _).mono ?_; rintro e w' ⟨rfl, rfl⟩) | (go_at_call 148; refine (sdivI _ _ _ _ hx hy hz).mono ?_; rintro e w' ⟨rfl, rfl⟩) | (go_at_call 133; refine (maskI _ _ _).mono ?_; rintro e w' ⟨rfl, rfl⟩) | (go_at_call 132; refine (rulesI _).mono ?_; rintro e w' ⟨rfl, rfl⟩) | (refine wpList_store_row rfl 173 _ _ rfl _ rulesA rfl rfl 173 _ (heap_new2 _ _ _) (by kernel_rfl) rfl (by kernel_rfl) ?_; rw [setRow_new2]))
 go_ret2
 exact ⟨ret_ii E1.out E2.out, two_new _ _ _ _ _⟩
theorem binI_6 (a x y : Int) (w : World) (hx : valueB a x = true) (hy : valueB a y = true) (hz : ¬ y = 0) : Calls Tryz.prog 98 #[.int .i64 6, .int .i64 a, .int .i64 x, .int .i64 y] w fun e w' => e = .returned (.tuple #[.int .i64 (binZ 6 a x y), .int .i64 (binC 6 a x y)]) ∧ Below w.heap.size w w' ∧ Grown w w' := by
 obtain ⟨e1, e2⟩ := bin_ok (op := 6) (a := a) (x := x) (y := y) (by simp [binOk, hx, hy]; decide) (by simp [divB, hz])
 have E1 : Hid (maskZ a (x % y) = binZ 6 a x y) := by show _ = _; rw [← e1]; simp [twoZ]
 have E2 : Hid (0 = binC 6 a x y) := e2
 clear e1 e2
 have dd : opB 6 = true := by decide
 have hcell := fun (W : World) (o : Obj) => cell_rule W o 6 149 rfl
 have hz' : (y == 0) = false := by simpa using hz
 go_enter Tryz.func98, Tryz.ntmps98
 go_wp2_with (first | (go_at_call 95; refine (opI _ _).mono ?_; rintro e w' ⟨rfl, rfl⟩) | (go_at_call 96; refine (valueI _ _ _).mono ?_; rintro e w' ⟨rfl, rfl⟩) | (go_at_call 149; refine (uremI _ _ _ _ hx hy hz).mono ?_; rintro e w' ⟨rfl, rfl⟩) | (go_at_call 133; refine (maskI _ _ _).mono ?_; rintro e w' ⟨rfl, rfl⟩) | (go_at_call 132; refine (rulesI _).mono ?_; rintro e w' ⟨rfl, rfl⟩) | (refine wpList_store_row rfl 173 _ _ rfl _ rulesA rfl rfl 173 _ (heap_new2 _ _ _) (by kernel_rfl) rfl (by kernel_rfl) ?_; rw [setRow_new2]))
 go_ret2
 exact ⟨ret_ii E1.out E2.out, two_new _ _ _ _ _⟩
theorem binI_7 (a x y : Int) (w : World) (hx : valueB a x = true) (hy : valueB a y = true) (hz : ¬ y = 0) : Calls Tryz.prog 98 #[.int .i64 7, .int .i64 a, .int .i64 x, .int .i64 y] w fun e w' => e = .returned (.tuple #[.int .i64 (binZ 7 a x y), .int .i64 (binC 7 a x y)]) ∧ Below w.heap.size w w' ∧ Grown w w' := by
 obtain ⟨e1, e2⟩ := bin_ok (op := 7) (a := a) (x := x) (y := y) (by simp [binOk, hx, hy]; decide) (by simp [divB, hz])
 have E1 : Hid (maskZ a ((sgnZ a x).tmod (sgnZ a y)) = binZ 7 a x y) := by show _ = _; rw [← e1]; simp [twoZ]
 have E2 : Hid (0 = binC 7 a x y) := e2
 clear e1 e2
 have dd : opB 7 = true := by decide
 have hcell := fun (W : World) (o : Obj) => cell_rule W o 7 150 rfl
 have hz' : (y == 0) = false := by simpa using hz
 go_enter Tryz.func98, Tryz.ntmps98
 go_wp2_with (first | (go_at_call 95; refine (opI _ _).mono ?_; rintro e w' ⟨rfl, rfl⟩) | (go_at_call 96; refine (valueI _ _ _).mono ?_; rintro e w' ⟨rfl, rfl⟩) | (go_at_call 150; refine (sremI _ _ _ _ hx hy hz).mono ?_; rintro e w' ⟨rfl, rfl⟩) | (go_at_call 133; refine (maskI _ _ _).mono ?_; rintro e w' ⟨rfl, rfl⟩) | (go_at_call 132; refine (rulesI _).mono ?_; rintro e w' ⟨rfl, rfl⟩) | (refine wpList_store_row rfl 173 _ _ rfl _ rulesA rfl rfl 173 _ (heap_new2 _ _ _) (by kernel_rfl) rfl (by kernel_rfl) ?_; rw [setRow_new2]))
 go_ret2
 exact ⟨ret_ii E1.out E2.out, two_new _ _ _ _ _⟩
theorem binI_8 (a x y : Int) (w : World) (hx : valueB a x = true) (hy : valueB a y = true) : Calls Tryz.prog 98 #[.int .i64 8, .int .i64 a, .int .i64 x, .int .i64 y] w fun e w' => e = .returned (.tuple #[.int .i64 (binZ 8 a x y), .int .i64 (binC 8 a x y)]) ∧ Below w.heap.size w w' ∧ Grown w w' := by
 obtain ⟨e1, e2⟩ := bin_ok (op := 8) (a := a) (x := x) (y := y) (by simp [binOk, hx, hy]; decide) (by simp [divB])
 have E1 : Hid (maskZ a (bits .and .i64 x y) = binZ 8 a x y) := by show _ = _; rw [← e1]; simp [twoZ]
 have E2 : Hid (0 = binC 8 a x y) := e2
 clear e1 e2
 have dd : opB 8 = true := by decide
 have hcell := fun (W : World) (o : Obj) => cell_rule W o 8 151 rfl
 go_enter Tryz.func98, Tryz.ntmps98
 go_wp2_with (first | (go_at_call 95; refine (opI _ _).mono ?_; rintro e w' ⟨rfl, rfl⟩) | (go_at_call 96; refine (valueI _ _ _).mono ?_; rintro e w' ⟨rfl, rfl⟩) | (go_at_call 151; refine (andI _ _ _ _ hx hy).mono ?_; rintro e w' ⟨rfl, rfl⟩) | (go_at_call 133; refine (maskI _ _ _).mono ?_; rintro e w' ⟨rfl, rfl⟩) | (go_at_call 132; refine (rulesI _).mono ?_; rintro e w' ⟨rfl, rfl⟩) | (refine wpList_store_row rfl 173 _ _ rfl _ rulesA rfl rfl 173 _ (heap_new2 _ _ _) (by kernel_rfl) rfl (by kernel_rfl) ?_; rw [setRow_new2]))
 go_ret2
 exact ⟨ret_ii E1.out E2.out, two_new _ _ _ _ _⟩
theorem binI_9 (a x y : Int) (w : World) (hx : valueB a x = true) (hy : valueB a y = true) : Calls Tryz.prog 98 #[.int .i64 9, .int .i64 a, .int .i64 x, .int .i64 y] w fun e w' => e = .returned (.tuple #[.int .i64 (binZ 9 a x y), .int .i64 (binC 9 a x y)]) ∧ Below w.heap.size w w' ∧ Grown w w' := by
 obtain ⟨e1, e2⟩ := bin_ok (op := 9) (a := a) (x := x) (y := y) (by simp [binOk, hx, hy]; decide) (by simp [divB])
 have E1 : Hid (maskZ a (bits .or .i64 x y) = binZ 9 a x y) := by show _ = _; rw [← e1]; simp [twoZ]
 have E2 : Hid (0 = binC 9 a x y) := e2
 clear e1 e2
 have dd : opB 9 = true := by decide
 have hcell := fun (W : World) (o : Obj) => cell_rule W o 9 152 rfl
 go_enter Tryz.func98, Tryz.ntmps98
 go_wp2_with (first | (go_at_call 95; refine (opI _ _).mono ?_; rintro e w' ⟨rfl, rfl⟩) | (go_at_call 96; refine (valueI _ _ _).mono ?_; rintro e w' ⟨rfl, rfl⟩) | (go_at_call 152; refine (orI _ _ _ _ hx hy).mono ?_; rintro e w' ⟨rfl, rfl⟩) | (go_at_call 133; refine (maskI _ _ _).mono ?_; rintro e w' ⟨rfl, rfl⟩) | (go_at_call 132; refine (rulesI _).mono ?_; rintro e w' ⟨rfl, rfl⟩) | (refine wpList_store_row rfl 173 _ _ rfl _ rulesA rfl rfl 173 _ (heap_new2 _ _ _) (by kernel_rfl) rfl (by kernel_rfl) ?_; rw [setRow_new2]))
 go_ret2
 exact ⟨ret_ii E1.out E2.out, two_new _ _ _ _ _⟩
theorem binI_10 (a x y : Int) (w : World) (hx : valueB a x = true) (hy : valueB a y = true) : Calls Tryz.prog 98 #[.int .i64 10, .int .i64 a, .int .i64 x, .int .i64 y] w fun e w' => e = .returned (.tuple #[.int .i64 (binZ 10 a x y), .int .i64 (binC 10 a x y)]) ∧ Below w.heap.size w w' ∧ Grown w w' := by
 obtain ⟨e1, e2⟩ := bin_ok (op := 10) (a := a) (x := x) (y := y) (by simp [binOk, hx, hy]; decide) (by simp [divB])
 have E1 : Hid (maskZ a (bits .xor .i64 x y) = binZ 10 a x y) := by show _ = _; rw [← e1]; simp [twoZ]
 have E2 : Hid (0 = binC 10 a x y) := e2
 clear e1 e2
 have dd : opB 10 = true := by decide
 have hcell := fun (W : World) (o : Obj) => cell_rule W o 10 153 rfl
 go_enter Tryz.func98, Tryz.ntmps98
 go_wp2_with (first | (go_at_call 95; refine (opI _ _).mono ?_; rintro e w' ⟨rfl, rfl⟩) | (go_at_call 96; refine (valueI _ _ _).mono ?_; rintro e w' ⟨rfl, rfl⟩) | (go_at_call 153; refine (xorI _ _ _ _ hx hy).mono ?_; rintro e w' ⟨rfl, rfl⟩) | (go_at_call 133; refine (maskI _ _ _).mono ?_; rintro e w' ⟨rfl, rfl⟩) | (go_at_call 132; refine (rulesI _).mono ?_; rintro e w' ⟨rfl, rfl⟩) | (refine wpList_store_row rfl 173 _ _ rfl _ rulesA rfl rfl 173 _ (heap_new2 _ _ _) (by kernel_rfl) rfl (by kernel_rfl) ?_; rw [setRow_new2]))
 go_ret2
 exact ⟨ret_ii E1.out E2.out, two_new _ _ _ _ _⟩
theorem binI_11 (a x y : Int) (w : World) (hx : valueB a x = true) (hy : valueB a y = true) : Calls Tryz.prog 98 #[.int .i64 11, .int .i64 a, .int .i64 x, .int .i64 y] w fun e w' => e = .returned (.tuple #[.int .i64 (binZ 11 a x y), .int .i64 (binC 11 a x y)]) ∧ Below w.heap.size w w' ∧ Grown w w' := by
 obtain ⟨e1, e2⟩ := bin_ok (op := 11) (a := a) (x := x) (y := y) (by simp [binOk, hx, hy]; decide) (by simp [divB])
 have E1 : Hid (maskZ a (shlZ a x y) = binZ 11 a x y) := by show _ = _; rw [← e1]; simp [twoZ]
 have E2 : Hid (0 = binC 11 a x y) := e2
 clear e1 e2
 have dd : opB 11 = true := by decide
 have hcell := fun (W : World) (o : Obj) => cell_rule W o 11 154 rfl
 go_enter Tryz.func98, Tryz.ntmps98
 go_wp2_with (first | (go_at_call 95; refine (opI _ _).mono ?_; rintro e w' ⟨rfl, rfl⟩) | (go_at_call 96; refine (valueI _ _ _).mono ?_; rintro e w' ⟨rfl, rfl⟩) | (go_at_call 154; refine (shlI _ _ _ _ hx hy).mono ?_; rintro e w' ⟨rfl, rfl⟩) | (go_at_call 133; refine (maskI _ _ _).mono ?_; rintro e w' ⟨rfl, rfl⟩) | (go_at_call 132; refine (rulesI _).mono ?_; rintro e w' ⟨rfl, rfl⟩) | (refine wpList_store_row rfl 173 _ _ rfl _ rulesA rfl rfl 173 _ (heap_new2 _ _ _) (by kernel_rfl) rfl (by kernel_rfl) ?_; rw [setRow_new2]))
 go_ret2
 exact ⟨ret_ii E1.out E2.out, two_new _ _ _ _ _⟩
theorem binI_12 (a x y : Int) (w : World) (hx : valueB a x = true) (hy : valueB a y = true) : Calls Tryz.prog 98 #[.int .i64 12, .int .i64 a, .int .i64 x, .int .i64 y] w fun e w' => e = .returned (.tuple #[.int .i64 (binZ 12 a x y), .int .i64 (binC 12 a x y)]) ∧ Below w.heap.size w w' ∧ Grown w w' := by
 obtain ⟨e1, e2⟩ := bin_ok (op := 12) (a := a) (x := x) (y := y) (by simp [binOk, hx, hy]; decide) (by simp [divB])
 have E1 : Hid (maskZ a (lshrZ a x y) = binZ 12 a x y) := by show _ = _; rw [← e1]; simp [twoZ]
 have E2 : Hid (0 = binC 12 a x y) := e2
 clear e1 e2
 have dd : opB 12 = true := by decide
 have hcell := fun (W : World) (o : Obj) => cell_rule W o 12 155 rfl
 go_enter Tryz.func98, Tryz.ntmps98
 go_wp2_with (first | (go_at_call 95; refine (opI _ _).mono ?_; rintro e w' ⟨rfl, rfl⟩) | (go_at_call 96; refine (valueI _ _ _).mono ?_; rintro e w' ⟨rfl, rfl⟩) | (go_at_call 155; refine (lshrI _ _ _ _ hx hy).mono ?_; rintro e w' ⟨rfl, rfl⟩) | (go_at_call 133; refine (maskI _ _ _).mono ?_; rintro e w' ⟨rfl, rfl⟩) | (go_at_call 132; refine (rulesI _).mono ?_; rintro e w' ⟨rfl, rfl⟩) | (refine wpList_store_row rfl 173 _ _ rfl _ rulesA rfl rfl 173 _ (heap_new2 _ _ _) (by kernel_rfl) rfl (by kernel_rfl) ?_; rw [setRow_new2]))
 go_ret2
 exact ⟨ret_ii E1.out E2.out, two_new _ _ _ _ _⟩
theorem binI_13 (a x y : Int) (w : World) (hx : valueB a x = true) (hy : valueB a y = true) : Calls Tryz.prog 98 #[.int .i64 13, .int .i64 a, .int .i64 x, .int .i64 y] w fun e w' => e = .returned (.tuple #[.int .i64 (binZ 13 a x y), .int .i64 (binC 13 a x y)]) ∧ Below w.heap.size w w' ∧ Grown w w' := by
 obtain ⟨e1, e2⟩ := bin_ok (op := 13) (a := a) (x := x) (y := y) (by simp [binOk, hx, hy]; decide) (by simp [divB])
 have E1 : Hid (maskZ a (sgnZ a x / 2 ^ (shB a y).toNat) = binZ 13 a x y) := by show _ = _; rw [← e1]; simp [twoZ]
 have E2 : Hid (0 = binC 13 a x y) := e2
 clear e1 e2
 have dd : opB 13 = true := by decide
 have hcell := fun (W : World) (o : Obj) => cell_rule W o 13 156 rfl
 go_enter Tryz.func98, Tryz.ntmps98
 go_wp2_with (first | (go_at_call 95; refine (opI _ _).mono ?_; rintro e w' ⟨rfl, rfl⟩) | (go_at_call 96; refine (valueI _ _ _).mono ?_; rintro e w' ⟨rfl, rfl⟩) | (go_at_call 156; refine (ashrI _ _ _ _ hx hy).mono ?_; rintro e w' ⟨rfl, rfl⟩) | (go_at_call 133; refine (maskI _ _ _).mono ?_; rintro e w' ⟨rfl, rfl⟩) | (go_at_call 132; refine (rulesI _).mono ?_; rintro e w' ⟨rfl, rfl⟩) | (refine wpList_store_row rfl 173 _ _ rfl _ rulesA rfl rfl 173 _ (heap_new2 _ _ _) (by kernel_rfl) rfl (by kernel_rfl) ?_; rw [setRow_new2]))
 go_ret2
 exact ⟨ret_ii E1.out E2.out, two_new _ _ _ _ _⟩
theorem binI_14 (a x y : Int) (w : World) (hx : valueB a x = true) (hy : valueB a y = true) : Calls Tryz.prog 98 #[.int .i64 14, .int .i64 a, .int .i64 x, .int .i64 y] w fun e w' => e = .returned (.tuple #[.int .i64 (binZ 14 a x y), .int .i64 (binC 14 a x y)]) ∧ Below w.heap.size w w' ∧ Grown w w' := by
 obtain ⟨e1, e2⟩ := bin_ok (op := 14) (a := a) (x := x) (y := y) (by simp [binOk, hx, hy]; decide) (by simp [divB])
 have E1 : Hid (maskZ a (bitZ (x == y)) = binZ 14 a x y) := by show _ = _; rw [← e1]; simp [twoZ]
 have E2 : Hid (0 = binC 14 a x y) := e2
 clear e1 e2
 have dd : opB 14 = true := by decide
 have hcell := fun (W : World) (o : Obj) => cell_rule W o 14 157 rfl
 go_enter Tryz.func98, Tryz.ntmps98
 go_wp2_with (first | (go_at_call 95; refine (opI _ _).mono ?_; rintro e w' ⟨rfl, rfl⟩) | (go_at_call 96; refine (valueI _ _ _).mono ?_; rintro e w' ⟨rfl, rfl⟩) | (go_at_call 157; refine (eqI _ _ _ _ hx hy).mono ?_; rintro e w' ⟨rfl, rfl⟩) | (go_at_call 133; refine (maskI _ _ _).mono ?_; rintro e w' ⟨rfl, rfl⟩) | (go_at_call 132; refine (rulesI _).mono ?_; rintro e w' ⟨rfl, rfl⟩) | (refine wpList_store_row rfl 173 _ _ rfl _ rulesA rfl rfl 173 _ (heap_new2 _ _ _) (by kernel_rfl) rfl (by kernel_rfl) ?_; rw [setRow_new2]))
 go_ret2
 exact ⟨ret_ii E1.out E2.out, two_new _ _ _ _ _⟩
theorem binI_15 (a x y : Int) (w : World) (hx : valueB a x = true) (hy : valueB a y = true) : Calls Tryz.prog 98 #[.int .i64 15, .int .i64 a, .int .i64 x, .int .i64 y] w fun e w' => e = .returned (.tuple #[.int .i64 (binZ 15 a x y), .int .i64 (binC 15 a x y)]) ∧ Below w.heap.size w w' ∧ Grown w w' := by
 obtain ⟨e1, e2⟩ := bin_ok (op := 15) (a := a) (x := x) (y := y) (by simp [binOk, hx, hy]; decide) (by simp [divB])
 have E1 : Hid (maskZ a (bitZ (x != y)) = binZ 15 a x y) := by show _ = _; rw [← e1]; simp [twoZ]
 have E2 : Hid (0 = binC 15 a x y) := e2
 clear e1 e2
 have dd : opB 15 = true := by decide
 have hcell := fun (W : World) (o : Obj) => cell_rule W o 15 158 rfl
 go_enter Tryz.func98, Tryz.ntmps98
 go_wp2_with (first | (go_at_call 95; refine (opI _ _).mono ?_; rintro e w' ⟨rfl, rfl⟩) | (go_at_call 96; refine (valueI _ _ _).mono ?_; rintro e w' ⟨rfl, rfl⟩) | (go_at_call 158; refine (neI _ _ _ _ hx hy).mono ?_; rintro e w' ⟨rfl, rfl⟩) | (go_at_call 133; refine (maskI _ _ _).mono ?_; rintro e w' ⟨rfl, rfl⟩) | (go_at_call 132; refine (rulesI _).mono ?_; rintro e w' ⟨rfl, rfl⟩) | (refine wpList_store_row rfl 173 _ _ rfl _ rulesA rfl rfl 173 _ (heap_new2 _ _ _) (by kernel_rfl) rfl (by kernel_rfl) ?_; rw [setRow_new2]))
 go_ret2
 exact ⟨ret_ii E1.out E2.out, two_new _ _ _ _ _⟩
theorem binI_16 (a x y : Int) (w : World) (hx : valueB a x = true) (hy : valueB a y = true) : Calls Tryz.prog 98 #[.int .i64 16, .int .i64 a, .int .i64 x, .int .i64 y] w fun e w' => e = .returned (.tuple #[.int .i64 (binZ 16 a x y), .int .i64 (binC 16 a x y)]) ∧ Below w.heap.size w w' ∧ Grown w w' := by
 obtain ⟨e1, e2⟩ := bin_ok (op := 16) (a := a) (x := x) (y := y) (by simp [binOk, hx, hy]; decide) (by simp [divB])
 have E1 : Hid (maskZ a (bitZ (decide (x < y))) = binZ 16 a x y) := by show _ = _; rw [← e1]; simp [twoZ]
 have E2 : Hid (0 = binC 16 a x y) := e2
 clear e1 e2
 have dd : opB 16 = true := by decide
 have hcell := fun (W : World) (o : Obj) => cell_rule W o 16 159 rfl
 go_enter Tryz.func98, Tryz.ntmps98
 go_wp2_with (first | (go_at_call 95; refine (opI _ _).mono ?_; rintro e w' ⟨rfl, rfl⟩) | (go_at_call 96; refine (valueI _ _ _).mono ?_; rintro e w' ⟨rfl, rfl⟩) | (go_at_call 159; refine (ultI _ _ _ _ hx hy).mono ?_; rintro e w' ⟨rfl, rfl⟩) | (go_at_call 133; refine (maskI _ _ _).mono ?_; rintro e w' ⟨rfl, rfl⟩) | (go_at_call 132; refine (rulesI _).mono ?_; rintro e w' ⟨rfl, rfl⟩) | (refine wpList_store_row rfl 173 _ _ rfl _ rulesA rfl rfl 173 _ (heap_new2 _ _ _) (by kernel_rfl) rfl (by kernel_rfl) ?_; rw [setRow_new2]))
 go_ret2
 exact ⟨ret_ii E1.out E2.out, two_new _ _ _ _ _⟩
theorem binI_17 (a x y : Int) (w : World) (hx : valueB a x = true) (hy : valueB a y = true) : Calls Tryz.prog 98 #[.int .i64 17, .int .i64 a, .int .i64 x, .int .i64 y] w fun e w' => e = .returned (.tuple #[.int .i64 (binZ 17 a x y), .int .i64 (binC 17 a x y)]) ∧ Below w.heap.size w w' ∧ Grown w w' := by
 obtain ⟨e1, e2⟩ := bin_ok (op := 17) (a := a) (x := x) (y := y) (by simp [binOk, hx, hy]; decide) (by simp [divB])
 have E1 : Hid (maskZ a (bitZ (decide (sgnZ a x < sgnZ a y))) = binZ 17 a x y) := by show _ = _; rw [← e1]; simp [twoZ]
 have E2 : Hid (0 = binC 17 a x y) := e2
 clear e1 e2
 have dd : opB 17 = true := by decide
 have hcell := fun (W : World) (o : Obj) => cell_rule W o 17 160 rfl
 go_enter Tryz.func98, Tryz.ntmps98
 go_wp2_with (first | (go_at_call 95; refine (opI _ _).mono ?_; rintro e w' ⟨rfl, rfl⟩) | (go_at_call 96; refine (valueI _ _ _).mono ?_; rintro e w' ⟨rfl, rfl⟩) | (go_at_call 160; refine (sltI _ _ _ _ hx hy).mono ?_; rintro e w' ⟨rfl, rfl⟩) | (go_at_call 133; refine (maskI _ _ _).mono ?_; rintro e w' ⟨rfl, rfl⟩) | (go_at_call 132; refine (rulesI _).mono ?_; rintro e w' ⟨rfl, rfl⟩) | (refine wpList_store_row rfl 173 _ _ rfl _ rulesA rfl rfl 173 _ (heap_new2 _ _ _) (by kernel_rfl) rfl (by kernel_rfl) ?_; rw [setRow_new2]))
 go_ret2
 exact ⟨ret_ii E1.out E2.out, two_new _ _ _ _ _⟩
theorem binI (op a x y : Int) (w : World) : Calls Tryz.prog 98 #[.int .i64 op, .int .i64 a, .int .i64 x, .int .i64 y] w fun e w' => e = .returned (.tuple #[.int .i64 (binZ op a x y), .int .i64 (binC op a x y)]) ∧ Below w.heap.size w w' ∧ Grown w w' := by
 by_cases ho : opB op = true
 ·by_cases hx : valueB a x = true
  ·by_cases hy : valueB a y = true
   ·by_cases hz : divB op = true ∧ y = 0
    ·exact binI_z op a x y w ho hx hy hz.1 hz.2
    ·rcases op_cases ho with rfl | rfl | rfl | rfl | rfl | rfl | rfl | rfl | rfl | rfl | rfl | rfl | rfl | rfl | rfl | rfl | rfl
     ·exact binI_1 a x y w hx hy
     ·exact binI_2 a x y w hx hy
     ·exact binI_3 a x y w hx hy
     ·exact binI_4 a x y w hx hy (fun h => hz ⟨by decide, h⟩)
     ·exact binI_5 a x y w hx hy (fun h => hz ⟨by decide, h⟩)
     ·exact binI_6 a x y w hx hy (fun h => hz ⟨by decide, h⟩)
     ·exact binI_7 a x y w hx hy (fun h => hz ⟨by decide, h⟩)
     ·exact binI_8 a x y w hx hy
     ·exact binI_9 a x y w hx hy
     ·exact binI_10 a x y w hx hy
     ·exact binI_11 a x y w hx hy
     ·exact binI_12 a x y w hx hy
     ·exact binI_13 a x y w hx hy
     ·exact binI_14 a x y w hx hy
     ·exact binI_15 a x y w hx hy
     ·exact binI_16 a x y w hx hy
     ·exact binI_17 a x y w hx hy
   ·exact binI_y op a x y w ho hx (by simpa using hy)
  ·exact binI_x op a x y w ho (by simpa using hx)
 ·exact binI_op op a x y w (by simpa using ho)
end Go.Proofs.YtoknhppjdmoblaaGreatDoor
