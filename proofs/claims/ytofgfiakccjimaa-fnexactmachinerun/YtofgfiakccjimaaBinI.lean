/- The contract of Binary, the program's. -/
import Derived.Test.YtofgfiakccjimaaArr
namespace Go.Proofs.Ytofgfiakccjimaa
open Go.RowKit
theorem binI_op (op a x y : Int) (w : World) (ho : opB op = false) : Calls Try.prog 89 #[.int .i64 op, .int .i64 a, .int .i64 x, .int .i64 y] w fun e w' => e = .returned (.tuple #[.int .i64 (binZ op a x y), .int .i64 (binC op a x y)]) ∧ Below w.heap.size w w' ∧ Grown w w' := by
  obtain ⟨e1, e2⟩ := bin_form (op := op) (a := a) (x := x) (y := y) (by simp [binOk, ho])
  have E1 : Hid (0 = binZ op a x y) := e1
  have E2 : Hid (_ = binC op a x y) := e2
  clear e1 e2
  go_enter Try.func89, Try.ntmps89
  go_wp2_with (first | (go_at_call 83; refine (opI _ _).mono ?_; rintro e w' ⟨rfl, rfl⟩))
  go_ret2
  exact ⟨ret_ii E1.out E2.out, ⟨Below.refl _ _, Grown.refl _⟩⟩
theorem binI_x (op a x y : Int) (w : World) (ho : opB op = true) (hx : valueB a x = false) : Calls Try.prog 89 #[.int .i64 op, .int .i64 a, .int .i64 x, .int .i64 y] w fun e w' => e = .returned (.tuple #[.int .i64 (binZ op a x y), .int .i64 (binC op a x y)]) ∧ Below w.heap.size w w' ∧ Grown w w' := by
  obtain ⟨e1, e2⟩ := bin_form (op := op) (a := a) (x := x) (y := y) (by simp [binOk, hx])
  have E1 : Hid (0 = binZ op a x y) := e1
  have E2 : Hid (_ = binC op a x y) := e2
  clear e1 e2
  go_enter Try.func89, Try.ntmps89
  go_wp2_with (first | (go_at_call 83; refine (opI _ _).mono ?_; rintro e w' ⟨rfl, rfl⟩) | (go_at_call 65; refine (valueI _ _ _).mono ?_; rintro e w' ⟨rfl, rfl⟩))
  go_ret2
  exact ⟨ret_ii E1.out E2.out, ⟨Below.refl _ _, Grown.refl _⟩⟩
theorem binI_y (op a x y : Int) (w : World) (ho : opB op = true) (hx : valueB a x = true) (hy : valueB a y = false) : Calls Try.prog 89 #[.int .i64 op, .int .i64 a, .int .i64 x, .int .i64 y] w fun e w' => e = .returned (.tuple #[.int .i64 (binZ op a x y), .int .i64 (binC op a x y)]) ∧ Below w.heap.size w w' ∧ Grown w w' := by
  obtain ⟨e1, e2⟩ := bin_form (op := op) (a := a) (x := x) (y := y) (by simp [binOk, hy])
  have E1 : Hid (0 = binZ op a x y) := e1
  have E2 : Hid (_ = binC op a x y) := e2
  clear e1 e2
  go_enter Try.func89, Try.ntmps89
  go_wp2_with (first | (go_at_call 83; refine (opI _ _).mono ?_; rintro e w' ⟨rfl, rfl⟩) | (go_at_call 65; refine (valueI _ _ _).mono ?_; rintro e w' ⟨rfl, rfl⟩))
  go_ret2
  exact ⟨ret_ii E1.out E2.out, ⟨Below.refl _ _, Grown.refl _⟩⟩
theorem binI_z (op a x y : Int) (w : World) (ho : opB op = true) (hx : valueB a x = true) (hy : valueB a y = true) (hd : divB op = true) (hz : y = 0) : Calls Try.prog 89 #[.int .i64 op, .int .i64 a, .int .i64 x, .int .i64 y] w fun e w' => e = .returned (.tuple #[.int .i64 (binZ op a x y), .int .i64 (binC op a x y)]) ∧ Below w.heap.size w w' ∧ Grown w w' := by
  obtain ⟨e1, e2⟩ := bin_zero (op := op) (a := a) (x := x) (y := y) (by simp [binOk, ho, hx, hy]) hd hz
  have E1 : Hid (0 = binZ op a x y) := e1
  have E2 : Hid (_ = binC op a x y) := e2
  clear e1 e2
  subst hz
  have hd4 : 4 ≤ op ∧ op ≤ 7 := by simpa [divB] using hd
  obtain ⟨q1, q2⟩ := hd4
  go_enter Try.func89, Try.ntmps89
  go_wp2_with (first | (go_at_call 83; refine (opI _ _).mono ?_; rintro e w' ⟨rfl, rfl⟩) | (go_at_call 65; refine (valueI _ _ _).mono ?_; rintro e w' ⟨rfl, rfl⟩))
  go_ret2
  exact ⟨ret_ii E1.out E2.out, ⟨Below.refl _ _, Grown.refl _⟩⟩
theorem binI_1 (a x y : Int) (w : World) (hx : valueB a x = true) (hy : valueB a y = true) : Calls Try.prog 89 #[.int .i64 1, .int .i64 a, .int .i64 x, .int .i64 y] w fun e w' => e = .returned (.tuple #[.int .i64 (binZ 1 a x y), .int .i64 (binC 1 a x y)]) ∧ Below w.heap.size w w' ∧ Grown w w' := by
  obtain ⟨e1, e2⟩ := bin_ok (op := 1) (a := a) (x := x) (y := y) (by simp [binOk, hx, hy]; decide) (by simp [divB])
  have E1 : Hid (maskZ a (x + y) = binZ 1 a x y) := by show _ = _; rw [← e1]; simp [twoZ]
  have E2 : Hid (0 = binC 1 a x y) := e2
  clear e1 e2
  have dd : opB 1 = true := by decide
  have hcell := fun (W : World) (o : Obj) => cell_rule W o 1 91 rfl
  go_enter Try.func89, Try.ntmps89
  go_wp2_with (first | (go_at_call 83; refine (opI _ _).mono ?_; rintro e w' ⟨rfl, rfl⟩) | (go_at_call 65; refine (valueI _ _ _).mono ?_; rintro e w' ⟨rfl, rfl⟩) | (go_at_call 91; refine (addI _ _ _ _ hx hy).mono ?_; rintro e w' ⟨rfl, rfl⟩) | (go_at_call 79; refine (maskI _ _ _).mono ?_; rintro e w' ⟨rfl, rfl⟩) | (go_at_call 90; refine (rulesI _).mono ?_; rintro e w' ⟨rfl, rfl⟩) | (refine wpList_store_row rfl 120 _ _ rfl _ rulesA rfl rfl 120 _ (heap_new2 _ _ _) (by kernel_rfl) rfl (by kernel_rfl) ?_; rw [setRow_new2]))
  go_ret2
  exact ⟨ret_ii E1.out E2.out, two_new _ _ _ _ _⟩
theorem binI_2 (a x y : Int) (w : World) (hx : valueB a x = true) (hy : valueB a y = true) : Calls Try.prog 89 #[.int .i64 2, .int .i64 a, .int .i64 x, .int .i64 y] w fun e w' => e = .returned (.tuple #[.int .i64 (binZ 2 a x y), .int .i64 (binC 2 a x y)]) ∧ Below w.heap.size w w' ∧ Grown w w' := by
  obtain ⟨e1, e2⟩ := bin_ok (op := 2) (a := a) (x := x) (y := y) (by simp [binOk, hx, hy]; decide) (by simp [divB])
  have E1 : Hid (maskZ a (x - y) = binZ 2 a x y) := by show _ = _; rw [← e1]; simp [twoZ]
  have E2 : Hid (0 = binC 2 a x y) := e2
  clear e1 e2
  have dd : opB 2 = true := by decide
  have hcell := fun (W : World) (o : Obj) => cell_rule W o 2 92 rfl
  go_enter Try.func89, Try.ntmps89
  go_wp2_with (first | (go_at_call 83; refine (opI _ _).mono ?_; rintro e w' ⟨rfl, rfl⟩) | (go_at_call 65; refine (valueI _ _ _).mono ?_; rintro e w' ⟨rfl, rfl⟩) | (go_at_call 92; refine (subI _ _ _ _ hx hy).mono ?_; rintro e w' ⟨rfl, rfl⟩) | (go_at_call 79; refine (maskI _ _ _).mono ?_; rintro e w' ⟨rfl, rfl⟩) | (go_at_call 90; refine (rulesI _).mono ?_; rintro e w' ⟨rfl, rfl⟩) | (refine wpList_store_row rfl 120 _ _ rfl _ rulesA rfl rfl 120 _ (heap_new2 _ _ _) (by kernel_rfl) rfl (by kernel_rfl) ?_; rw [setRow_new2]))
  go_ret2
  exact ⟨ret_ii E1.out E2.out, two_new _ _ _ _ _⟩
theorem binI_3 (a x y : Int) (w : World) (hx : valueB a x = true) (hy : valueB a y = true) : Calls Try.prog 89 #[.int .i64 3, .int .i64 a, .int .i64 x, .int .i64 y] w fun e w' => e = .returned (.tuple #[.int .i64 (binZ 3 a x y), .int .i64 (binC 3 a x y)]) ∧ Below w.heap.size w w' ∧ Grown w w' := by
  obtain ⟨e1, e2⟩ := bin_ok (op := 3) (a := a) (x := x) (y := y) (by simp [binOk, hx, hy]; decide) (by simp [divB])
  have E1 : Hid (maskZ a (wrap64 (bits BinOp.and IntKind.u64 (IntKind.u64.wrap (x * y)) 4294967295)) = binZ 3 a x y) := by show _ = _; rw [← e1]; simp only [twoZ]; rw [mulI_eq]; exact mask_mulI (value_yes hx).1
  have E2 : Hid (0 = binC 3 a x y) := e2
  clear e1 e2
  have dd : opB 3 = true := by decide
  have hcell := fun (W : World) (o : Obj) => cell_rule W o 3 93 rfl
  go_enter Try.func89, Try.ntmps89
  go_wp2_with (first | (go_at_call 83; refine (opI _ _).mono ?_; rintro e w' ⟨rfl, rfl⟩) | (go_at_call 65; refine (valueI _ _ _).mono ?_; rintro e w' ⟨rfl, rfl⟩) | (go_at_call 93; refine (mulI _ _ _ _ hx hy).mono ?_; rintro e w' ⟨rfl, rfl⟩) | (go_at_call 79; refine (maskI _ _ _).mono ?_; rintro e w' ⟨rfl, rfl⟩) | (go_at_call 90; refine (rulesI _).mono ?_; rintro e w' ⟨rfl, rfl⟩) | (refine wpList_store_row rfl 120 _ _ rfl _ rulesA rfl rfl 120 _ (heap_new2 _ _ _) (by kernel_rfl) rfl (by kernel_rfl) ?_; rw [setRow_new2]))
  go_ret2
  exact ⟨ret_ii E1.out E2.out, two_new _ _ _ _ _⟩
theorem binI_4 (a x y : Int) (w : World) (hx : valueB a x = true) (hy : valueB a y = true) (hz : ¬ y = 0) : Calls Try.prog 89 #[.int .i64 4, .int .i64 a, .int .i64 x, .int .i64 y] w fun e w' => e = .returned (.tuple #[.int .i64 (binZ 4 a x y), .int .i64 (binC 4 a x y)]) ∧ Below w.heap.size w w' ∧ Grown w w' := by
  obtain ⟨e1, e2⟩ := bin_ok (op := 4) (a := a) (x := x) (y := y) (by simp [binOk, hx, hy]; decide) (by simp [divB, hz])
  have E1 : Hid (maskZ a (x / y) = binZ 4 a x y) := by show _ = _; rw [← e1]; simp [twoZ]
  have E2 : Hid (0 = binC 4 a x y) := e2
  clear e1 e2
  have dd : opB 4 = true := by decide
  have hcell := fun (W : World) (o : Obj) => cell_rule W o 4 94 rfl
  have hz' : (y == 0) = false := by simpa using hz
  go_enter Try.func89, Try.ntmps89
  go_wp2_with (first | (go_at_call 83; refine (opI _ _).mono ?_; rintro e w' ⟨rfl, rfl⟩) | (go_at_call 65; refine (valueI _ _ _).mono ?_; rintro e w' ⟨rfl, rfl⟩) | (go_at_call 94; refine (udivI _ _ _ _ hx hy hz).mono ?_; rintro e w' ⟨rfl, rfl⟩) | (go_at_call 79; refine (maskI _ _ _).mono ?_; rintro e w' ⟨rfl, rfl⟩) | (go_at_call 90; refine (rulesI _).mono ?_; rintro e w' ⟨rfl, rfl⟩) | (refine wpList_store_row rfl 120 _ _ rfl _ rulesA rfl rfl 120 _ (heap_new2 _ _ _) (by kernel_rfl) rfl (by kernel_rfl) ?_; rw [setRow_new2]))
  go_ret2
  exact ⟨ret_ii E1.out E2.out, two_new _ _ _ _ _⟩
theorem binI_5 (a x y : Int) (w : World) (hx : valueB a x = true) (hy : valueB a y = true) (hz : ¬ y = 0) : Calls Try.prog 89 #[.int .i64 5, .int .i64 a, .int .i64 x, .int .i64 y] w fun e w' => e = .returned (.tuple #[.int .i64 (binZ 5 a x y), .int .i64 (binC 5 a x y)]) ∧ Below w.heap.size w w' ∧ Grown w w' := by
  obtain ⟨e1, e2⟩ := bin_ok (op := 5) (a := a) (x := x) (y := y) (by simp [binOk, hx, hy]; decide) (by simp [divB, hz])
  have E1 : Hid (maskZ a (wrap64 ((sgnZ a x).tdiv (sgnZ a y))) = binZ 5 a x y) := by show _ = _; rw [← e1, tdiv_bd (sgn_bd hx)]; simp [twoZ]
  have E2 : Hid (0 = binC 5 a x y) := e2
  clear e1 e2
  have dd : opB 5 = true := by decide
  have hcell := fun (W : World) (o : Obj) => cell_rule W o 5 95 rfl
  have hz' : (y == 0) = false := by simpa using hz
  go_enter Try.func89, Try.ntmps89
  go_wp2_with (first | (go_at_call 83; refine (opI _ _).mono ?_; rintro e w' ⟨rfl, rfl⟩) | (go_at_call 65; refine (valueI _ _ _).mono ?_; rintro e w' ⟨rfl, rfl⟩) | (go_at_call 95; refine (sdivI _ _ _ _ hx hy hz).mono ?_; rintro e w' ⟨rfl, rfl⟩) | (go_at_call 79; refine (maskI _ _ _).mono ?_; rintro e w' ⟨rfl, rfl⟩) | (go_at_call 90; refine (rulesI _).mono ?_; rintro e w' ⟨rfl, rfl⟩) | (refine wpList_store_row rfl 120 _ _ rfl _ rulesA rfl rfl 120 _ (heap_new2 _ _ _) (by kernel_rfl) rfl (by kernel_rfl) ?_; rw [setRow_new2]))
  go_ret2
  exact ⟨ret_ii E1.out E2.out, two_new _ _ _ _ _⟩
theorem binI_6 (a x y : Int) (w : World) (hx : valueB a x = true) (hy : valueB a y = true) (hz : ¬ y = 0) : Calls Try.prog 89 #[.int .i64 6, .int .i64 a, .int .i64 x, .int .i64 y] w fun e w' => e = .returned (.tuple #[.int .i64 (binZ 6 a x y), .int .i64 (binC 6 a x y)]) ∧ Below w.heap.size w w' ∧ Grown w w' := by
  obtain ⟨e1, e2⟩ := bin_ok (op := 6) (a := a) (x := x) (y := y) (by simp [binOk, hx, hy]; decide) (by simp [divB, hz])
  have E1 : Hid (maskZ a (x % y) = binZ 6 a x y) := by show _ = _; rw [← e1]; simp [twoZ]
  have E2 : Hid (0 = binC 6 a x y) := e2
  clear e1 e2
  have dd : opB 6 = true := by decide
  have hcell := fun (W : World) (o : Obj) => cell_rule W o 6 96 rfl
  have hz' : (y == 0) = false := by simpa using hz
  go_enter Try.func89, Try.ntmps89
  go_wp2_with (first | (go_at_call 83; refine (opI _ _).mono ?_; rintro e w' ⟨rfl, rfl⟩) | (go_at_call 65; refine (valueI _ _ _).mono ?_; rintro e w' ⟨rfl, rfl⟩) | (go_at_call 96; refine (uremI _ _ _ _ hx hy hz).mono ?_; rintro e w' ⟨rfl, rfl⟩) | (go_at_call 79; refine (maskI _ _ _).mono ?_; rintro e w' ⟨rfl, rfl⟩) | (go_at_call 90; refine (rulesI _).mono ?_; rintro e w' ⟨rfl, rfl⟩) | (refine wpList_store_row rfl 120 _ _ rfl _ rulesA rfl rfl 120 _ (heap_new2 _ _ _) (by kernel_rfl) rfl (by kernel_rfl) ?_; rw [setRow_new2]))
  go_ret2
  exact ⟨ret_ii E1.out E2.out, two_new _ _ _ _ _⟩
theorem binI_7 (a x y : Int) (w : World) (hx : valueB a x = true) (hy : valueB a y = true) (hz : ¬ y = 0) : Calls Try.prog 89 #[.int .i64 7, .int .i64 a, .int .i64 x, .int .i64 y] w fun e w' => e = .returned (.tuple #[.int .i64 (binZ 7 a x y), .int .i64 (binC 7 a x y)]) ∧ Below w.heap.size w w' ∧ Grown w w' := by
  obtain ⟨e1, e2⟩ := bin_ok (op := 7) (a := a) (x := x) (y := y) (by simp [binOk, hx, hy]; decide) (by simp [divB, hz])
  have E1 : Hid (maskZ a ((sgnZ a x).tmod (sgnZ a y)) = binZ 7 a x y) := by show _ = _; rw [← e1]; simp [twoZ]
  have E2 : Hid (0 = binC 7 a x y) := e2
  clear e1 e2
  have dd : opB 7 = true := by decide
  have hcell := fun (W : World) (o : Obj) => cell_rule W o 7 97 rfl
  have hz' : (y == 0) = false := by simpa using hz
  go_enter Try.func89, Try.ntmps89
  go_wp2_with (first | (go_at_call 83; refine (opI _ _).mono ?_; rintro e w' ⟨rfl, rfl⟩) | (go_at_call 65; refine (valueI _ _ _).mono ?_; rintro e w' ⟨rfl, rfl⟩) | (go_at_call 97; refine (sremI _ _ _ _ hx hy hz).mono ?_; rintro e w' ⟨rfl, rfl⟩) | (go_at_call 79; refine (maskI _ _ _).mono ?_; rintro e w' ⟨rfl, rfl⟩) | (go_at_call 90; refine (rulesI _).mono ?_; rintro e w' ⟨rfl, rfl⟩) | (refine wpList_store_row rfl 120 _ _ rfl _ rulesA rfl rfl 120 _ (heap_new2 _ _ _) (by kernel_rfl) rfl (by kernel_rfl) ?_; rw [setRow_new2]))
  go_ret2
  exact ⟨ret_ii E1.out E2.out, two_new _ _ _ _ _⟩
theorem binI_8 (a x y : Int) (w : World) (hx : valueB a x = true) (hy : valueB a y = true) : Calls Try.prog 89 #[.int .i64 8, .int .i64 a, .int .i64 x, .int .i64 y] w fun e w' => e = .returned (.tuple #[.int .i64 (binZ 8 a x y), .int .i64 (binC 8 a x y)]) ∧ Below w.heap.size w w' ∧ Grown w w' := by
  obtain ⟨e1, e2⟩ := bin_ok (op := 8) (a := a) (x := x) (y := y) (by simp [binOk, hx, hy]; decide) (by simp [divB])
  have E1 : Hid (maskZ a (bits .and .i64 x y) = binZ 8 a x y) := by show _ = _; rw [← e1]; simp [twoZ]
  have E2 : Hid (0 = binC 8 a x y) := e2
  clear e1 e2
  have dd : opB 8 = true := by decide
  have hcell := fun (W : World) (o : Obj) => cell_rule W o 8 98 rfl
  go_enter Try.func89, Try.ntmps89
  go_wp2_with (first | (go_at_call 83; refine (opI _ _).mono ?_; rintro e w' ⟨rfl, rfl⟩) | (go_at_call 65; refine (valueI _ _ _).mono ?_; rintro e w' ⟨rfl, rfl⟩) | (go_at_call 98; refine (andI _ _ _ _ hx hy).mono ?_; rintro e w' ⟨rfl, rfl⟩) | (go_at_call 79; refine (maskI _ _ _).mono ?_; rintro e w' ⟨rfl, rfl⟩) | (go_at_call 90; refine (rulesI _).mono ?_; rintro e w' ⟨rfl, rfl⟩) | (refine wpList_store_row rfl 120 _ _ rfl _ rulesA rfl rfl 120 _ (heap_new2 _ _ _) (by kernel_rfl) rfl (by kernel_rfl) ?_; rw [setRow_new2]))
  go_ret2
  exact ⟨ret_ii E1.out E2.out, two_new _ _ _ _ _⟩
theorem binI_9 (a x y : Int) (w : World) (hx : valueB a x = true) (hy : valueB a y = true) : Calls Try.prog 89 #[.int .i64 9, .int .i64 a, .int .i64 x, .int .i64 y] w fun e w' => e = .returned (.tuple #[.int .i64 (binZ 9 a x y), .int .i64 (binC 9 a x y)]) ∧ Below w.heap.size w w' ∧ Grown w w' := by
  obtain ⟨e1, e2⟩ := bin_ok (op := 9) (a := a) (x := x) (y := y) (by simp [binOk, hx, hy]; decide) (by simp [divB])
  have E1 : Hid (maskZ a (bits .or .i64 x y) = binZ 9 a x y) := by show _ = _; rw [← e1]; simp [twoZ]
  have E2 : Hid (0 = binC 9 a x y) := e2
  clear e1 e2
  have dd : opB 9 = true := by decide
  have hcell := fun (W : World) (o : Obj) => cell_rule W o 9 99 rfl
  go_enter Try.func89, Try.ntmps89
  go_wp2_with (first | (go_at_call 83; refine (opI _ _).mono ?_; rintro e w' ⟨rfl, rfl⟩) | (go_at_call 65; refine (valueI _ _ _).mono ?_; rintro e w' ⟨rfl, rfl⟩) | (go_at_call 99; refine (orI _ _ _ _ hx hy).mono ?_; rintro e w' ⟨rfl, rfl⟩) | (go_at_call 79; refine (maskI _ _ _).mono ?_; rintro e w' ⟨rfl, rfl⟩) | (go_at_call 90; refine (rulesI _).mono ?_; rintro e w' ⟨rfl, rfl⟩) | (refine wpList_store_row rfl 120 _ _ rfl _ rulesA rfl rfl 120 _ (heap_new2 _ _ _) (by kernel_rfl) rfl (by kernel_rfl) ?_; rw [setRow_new2]))
  go_ret2
  exact ⟨ret_ii E1.out E2.out, two_new _ _ _ _ _⟩
theorem binI_10 (a x y : Int) (w : World) (hx : valueB a x = true) (hy : valueB a y = true) : Calls Try.prog 89 #[.int .i64 10, .int .i64 a, .int .i64 x, .int .i64 y] w fun e w' => e = .returned (.tuple #[.int .i64 (binZ 10 a x y), .int .i64 (binC 10 a x y)]) ∧ Below w.heap.size w w' ∧ Grown w w' := by
  obtain ⟨e1, e2⟩ := bin_ok (op := 10) (a := a) (x := x) (y := y) (by simp [binOk, hx, hy]; decide) (by simp [divB])
  have E1 : Hid (maskZ a (bits .xor .i64 x y) = binZ 10 a x y) := by show _ = _; rw [← e1]; simp [twoZ]
  have E2 : Hid (0 = binC 10 a x y) := e2
  clear e1 e2
  have dd : opB 10 = true := by decide
  have hcell := fun (W : World) (o : Obj) => cell_rule W o 10 100 rfl
  go_enter Try.func89, Try.ntmps89
  go_wp2_with (first | (go_at_call 83; refine (opI _ _).mono ?_; rintro e w' ⟨rfl, rfl⟩) | (go_at_call 65; refine (valueI _ _ _).mono ?_; rintro e w' ⟨rfl, rfl⟩) | (go_at_call 100; refine (xorI _ _ _ _ hx hy).mono ?_; rintro e w' ⟨rfl, rfl⟩) | (go_at_call 79; refine (maskI _ _ _).mono ?_; rintro e w' ⟨rfl, rfl⟩) | (go_at_call 90; refine (rulesI _).mono ?_; rintro e w' ⟨rfl, rfl⟩) | (refine wpList_store_row rfl 120 _ _ rfl _ rulesA rfl rfl 120 _ (heap_new2 _ _ _) (by kernel_rfl) rfl (by kernel_rfl) ?_; rw [setRow_new2]))
  go_ret2
  exact ⟨ret_ii E1.out E2.out, two_new _ _ _ _ _⟩
theorem binI_11 (a x y : Int) (w : World) (hx : valueB a x = true) (hy : valueB a y = true) : Calls Try.prog 89 #[.int .i64 11, .int .i64 a, .int .i64 x, .int .i64 y] w fun e w' => e = .returned (.tuple #[.int .i64 (binZ 11 a x y), .int .i64 (binC 11 a x y)]) ∧ Below w.heap.size w w' ∧ Grown w w' := by
  obtain ⟨e1, e2⟩ := bin_ok (op := 11) (a := a) (x := x) (y := y) (by simp [binOk, hx, hy]; decide) (by simp [divB])
  have E1 : Hid (maskZ a (shlZ a x y) = binZ 11 a x y) := by show _ = _; rw [← e1]; simp [twoZ]
  have E2 : Hid (0 = binC 11 a x y) := e2
  clear e1 e2
  have dd : opB 11 = true := by decide
  have hcell := fun (W : World) (o : Obj) => cell_rule W o 11 101 rfl
  go_enter Try.func89, Try.ntmps89
  go_wp2_with (first | (go_at_call 83; refine (opI _ _).mono ?_; rintro e w' ⟨rfl, rfl⟩) | (go_at_call 65; refine (valueI _ _ _).mono ?_; rintro e w' ⟨rfl, rfl⟩) | (go_at_call 101; refine (shlI _ _ _ _ hx hy).mono ?_; rintro e w' ⟨rfl, rfl⟩) | (go_at_call 79; refine (maskI _ _ _).mono ?_; rintro e w' ⟨rfl, rfl⟩) | (go_at_call 90; refine (rulesI _).mono ?_; rintro e w' ⟨rfl, rfl⟩) | (refine wpList_store_row rfl 120 _ _ rfl _ rulesA rfl rfl 120 _ (heap_new2 _ _ _) (by kernel_rfl) rfl (by kernel_rfl) ?_; rw [setRow_new2]))
  go_ret2
  exact ⟨ret_ii E1.out E2.out, two_new _ _ _ _ _⟩
theorem binI_12 (a x y : Int) (w : World) (hx : valueB a x = true) (hy : valueB a y = true) : Calls Try.prog 89 #[.int .i64 12, .int .i64 a, .int .i64 x, .int .i64 y] w fun e w' => e = .returned (.tuple #[.int .i64 (binZ 12 a x y), .int .i64 (binC 12 a x y)]) ∧ Below w.heap.size w w' ∧ Grown w w' := by
  obtain ⟨e1, e2⟩ := bin_ok (op := 12) (a := a) (x := x) (y := y) (by simp [binOk, hx, hy]; decide) (by simp [divB])
  have E1 : Hid (maskZ a (lshrZ a x y) = binZ 12 a x y) := by show _ = _; rw [← e1]; simp [twoZ]
  have E2 : Hid (0 = binC 12 a x y) := e2
  clear e1 e2
  have dd : opB 12 = true := by decide
  have hcell := fun (W : World) (o : Obj) => cell_rule W o 12 102 rfl
  go_enter Try.func89, Try.ntmps89
  go_wp2_with (first | (go_at_call 83; refine (opI _ _).mono ?_; rintro e w' ⟨rfl, rfl⟩) | (go_at_call 65; refine (valueI _ _ _).mono ?_; rintro e w' ⟨rfl, rfl⟩) | (go_at_call 102; refine (lshrI _ _ _ _ hx hy).mono ?_; rintro e w' ⟨rfl, rfl⟩) | (go_at_call 79; refine (maskI _ _ _).mono ?_; rintro e w' ⟨rfl, rfl⟩) | (go_at_call 90; refine (rulesI _).mono ?_; rintro e w' ⟨rfl, rfl⟩) | (refine wpList_store_row rfl 120 _ _ rfl _ rulesA rfl rfl 120 _ (heap_new2 _ _ _) (by kernel_rfl) rfl (by kernel_rfl) ?_; rw [setRow_new2]))
  go_ret2
  exact ⟨ret_ii E1.out E2.out, two_new _ _ _ _ _⟩
theorem binI_13 (a x y : Int) (w : World) (hx : valueB a x = true) (hy : valueB a y = true) : Calls Try.prog 89 #[.int .i64 13, .int .i64 a, .int .i64 x, .int .i64 y] w fun e w' => e = .returned (.tuple #[.int .i64 (binZ 13 a x y), .int .i64 (binC 13 a x y)]) ∧ Below w.heap.size w w' ∧ Grown w w' := by
  obtain ⟨e1, e2⟩ := bin_ok (op := 13) (a := a) (x := x) (y := y) (by simp [binOk, hx, hy]; decide) (by simp [divB])
  have E1 : Hid (maskZ a (sgnZ a x / 2 ^ (shB a y).toNat) = binZ 13 a x y) := by show _ = _; rw [← e1]; simp [twoZ]
  have E2 : Hid (0 = binC 13 a x y) := e2
  clear e1 e2
  have dd : opB 13 = true := by decide
  have hcell := fun (W : World) (o : Obj) => cell_rule W o 13 103 rfl
  go_enter Try.func89, Try.ntmps89
  go_wp2_with (first | (go_at_call 83; refine (opI _ _).mono ?_; rintro e w' ⟨rfl, rfl⟩) | (go_at_call 65; refine (valueI _ _ _).mono ?_; rintro e w' ⟨rfl, rfl⟩) | (go_at_call 103; refine (ashrI _ _ _ _ hx hy).mono ?_; rintro e w' ⟨rfl, rfl⟩) | (go_at_call 79; refine (maskI _ _ _).mono ?_; rintro e w' ⟨rfl, rfl⟩) | (go_at_call 90; refine (rulesI _).mono ?_; rintro e w' ⟨rfl, rfl⟩) | (refine wpList_store_row rfl 120 _ _ rfl _ rulesA rfl rfl 120 _ (heap_new2 _ _ _) (by kernel_rfl) rfl (by kernel_rfl) ?_; rw [setRow_new2]))
  go_ret2
  exact ⟨ret_ii E1.out E2.out, two_new _ _ _ _ _⟩
theorem binI_14 (a x y : Int) (w : World) (hx : valueB a x = true) (hy : valueB a y = true) : Calls Try.prog 89 #[.int .i64 14, .int .i64 a, .int .i64 x, .int .i64 y] w fun e w' => e = .returned (.tuple #[.int .i64 (binZ 14 a x y), .int .i64 (binC 14 a x y)]) ∧ Below w.heap.size w w' ∧ Grown w w' := by
  obtain ⟨e1, e2⟩ := bin_ok (op := 14) (a := a) (x := x) (y := y) (by simp [binOk, hx, hy]; decide) (by simp [divB])
  have E1 : Hid (maskZ a (bitZ (x == y)) = binZ 14 a x y) := by show _ = _; rw [← e1]; simp [twoZ]
  have E2 : Hid (0 = binC 14 a x y) := e2
  clear e1 e2
  have dd : opB 14 = true := by decide
  have hcell := fun (W : World) (o : Obj) => cell_rule W o 14 104 rfl
  go_enter Try.func89, Try.ntmps89
  go_wp2_with (first | (go_at_call 83; refine (opI _ _).mono ?_; rintro e w' ⟨rfl, rfl⟩) | (go_at_call 65; refine (valueI _ _ _).mono ?_; rintro e w' ⟨rfl, rfl⟩) | (go_at_call 104; refine (eqI _ _ _ _ hx hy).mono ?_; rintro e w' ⟨rfl, rfl⟩) | (go_at_call 79; refine (maskI _ _ _).mono ?_; rintro e w' ⟨rfl, rfl⟩) | (go_at_call 90; refine (rulesI _).mono ?_; rintro e w' ⟨rfl, rfl⟩) | (refine wpList_store_row rfl 120 _ _ rfl _ rulesA rfl rfl 120 _ (heap_new2 _ _ _) (by kernel_rfl) rfl (by kernel_rfl) ?_; rw [setRow_new2]))
  go_ret2
  exact ⟨ret_ii E1.out E2.out, two_new _ _ _ _ _⟩
theorem binI_15 (a x y : Int) (w : World) (hx : valueB a x = true) (hy : valueB a y = true) : Calls Try.prog 89 #[.int .i64 15, .int .i64 a, .int .i64 x, .int .i64 y] w fun e w' => e = .returned (.tuple #[.int .i64 (binZ 15 a x y), .int .i64 (binC 15 a x y)]) ∧ Below w.heap.size w w' ∧ Grown w w' := by
  obtain ⟨e1, e2⟩ := bin_ok (op := 15) (a := a) (x := x) (y := y) (by simp [binOk, hx, hy]; decide) (by simp [divB])
  have E1 : Hid (maskZ a (bitZ (x != y)) = binZ 15 a x y) := by show _ = _; rw [← e1]; simp [twoZ]
  have E2 : Hid (0 = binC 15 a x y) := e2
  clear e1 e2
  have dd : opB 15 = true := by decide
  have hcell := fun (W : World) (o : Obj) => cell_rule W o 15 105 rfl
  go_enter Try.func89, Try.ntmps89
  go_wp2_with (first | (go_at_call 83; refine (opI _ _).mono ?_; rintro e w' ⟨rfl, rfl⟩) | (go_at_call 65; refine (valueI _ _ _).mono ?_; rintro e w' ⟨rfl, rfl⟩) | (go_at_call 105; refine (neI _ _ _ _ hx hy).mono ?_; rintro e w' ⟨rfl, rfl⟩) | (go_at_call 79; refine (maskI _ _ _).mono ?_; rintro e w' ⟨rfl, rfl⟩) | (go_at_call 90; refine (rulesI _).mono ?_; rintro e w' ⟨rfl, rfl⟩) | (refine wpList_store_row rfl 120 _ _ rfl _ rulesA rfl rfl 120 _ (heap_new2 _ _ _) (by kernel_rfl) rfl (by kernel_rfl) ?_; rw [setRow_new2]))
  go_ret2
  exact ⟨ret_ii E1.out E2.out, two_new _ _ _ _ _⟩
theorem binI_16 (a x y : Int) (w : World) (hx : valueB a x = true) (hy : valueB a y = true) : Calls Try.prog 89 #[.int .i64 16, .int .i64 a, .int .i64 x, .int .i64 y] w fun e w' => e = .returned (.tuple #[.int .i64 (binZ 16 a x y), .int .i64 (binC 16 a x y)]) ∧ Below w.heap.size w w' ∧ Grown w w' := by
  obtain ⟨e1, e2⟩ := bin_ok (op := 16) (a := a) (x := x) (y := y) (by simp [binOk, hx, hy]; decide) (by simp [divB])
  have E1 : Hid (maskZ a (bitZ (decide (x < y))) = binZ 16 a x y) := by show _ = _; rw [← e1]; simp [twoZ]
  have E2 : Hid (0 = binC 16 a x y) := e2
  clear e1 e2
  have dd : opB 16 = true := by decide
  have hcell := fun (W : World) (o : Obj) => cell_rule W o 16 106 rfl
  go_enter Try.func89, Try.ntmps89
  go_wp2_with (first | (go_at_call 83; refine (opI _ _).mono ?_; rintro e w' ⟨rfl, rfl⟩) | (go_at_call 65; refine (valueI _ _ _).mono ?_; rintro e w' ⟨rfl, rfl⟩) | (go_at_call 106; refine (ultI _ _ _ _ hx hy).mono ?_; rintro e w' ⟨rfl, rfl⟩) | (go_at_call 79; refine (maskI _ _ _).mono ?_; rintro e w' ⟨rfl, rfl⟩) | (go_at_call 90; refine (rulesI _).mono ?_; rintro e w' ⟨rfl, rfl⟩) | (refine wpList_store_row rfl 120 _ _ rfl _ rulesA rfl rfl 120 _ (heap_new2 _ _ _) (by kernel_rfl) rfl (by kernel_rfl) ?_; rw [setRow_new2]))
  go_ret2
  exact ⟨ret_ii E1.out E2.out, two_new _ _ _ _ _⟩
theorem binI_17 (a x y : Int) (w : World) (hx : valueB a x = true) (hy : valueB a y = true) : Calls Try.prog 89 #[.int .i64 17, .int .i64 a, .int .i64 x, .int .i64 y] w fun e w' => e = .returned (.tuple #[.int .i64 (binZ 17 a x y), .int .i64 (binC 17 a x y)]) ∧ Below w.heap.size w w' ∧ Grown w w' := by
  obtain ⟨e1, e2⟩ := bin_ok (op := 17) (a := a) (x := x) (y := y) (by simp [binOk, hx, hy]; decide) (by simp [divB])
  have E1 : Hid (maskZ a (bitZ (decide (sgnZ a x < sgnZ a y))) = binZ 17 a x y) := by show _ = _; rw [← e1]; simp [twoZ]
  have E2 : Hid (0 = binC 17 a x y) := e2
  clear e1 e2
  have dd : opB 17 = true := by decide
  have hcell := fun (W : World) (o : Obj) => cell_rule W o 17 107 rfl
  go_enter Try.func89, Try.ntmps89
  go_wp2_with (first | (go_at_call 83; refine (opI _ _).mono ?_; rintro e w' ⟨rfl, rfl⟩) | (go_at_call 65; refine (valueI _ _ _).mono ?_; rintro e w' ⟨rfl, rfl⟩) | (go_at_call 107; refine (sltI _ _ _ _ hx hy).mono ?_; rintro e w' ⟨rfl, rfl⟩) | (go_at_call 79; refine (maskI _ _ _).mono ?_; rintro e w' ⟨rfl, rfl⟩) | (go_at_call 90; refine (rulesI _).mono ?_; rintro e w' ⟨rfl, rfl⟩) | (refine wpList_store_row rfl 120 _ _ rfl _ rulesA rfl rfl 120 _ (heap_new2 _ _ _) (by kernel_rfl) rfl (by kernel_rfl) ?_; rw [setRow_new2]))
  go_ret2
  exact ⟨ret_ii E1.out E2.out, two_new _ _ _ _ _⟩
theorem binI (op a x y : Int) (w : World) : Calls Try.prog 89 #[.int .i64 op, .int .i64 a, .int .i64 x, .int .i64 y] w fun e w' => e = .returned (.tuple #[.int .i64 (binZ op a x y), .int .i64 (binC op a x y)]) ∧ Below w.heap.size w w' ∧ Grown w w' := by
  by_cases ho : opB op = true
  · by_cases hx : valueB a x = true
    · by_cases hy : valueB a y = true
      · by_cases hz : divB op = true ∧ y = 0
        · exact binI_z op a x y w ho hx hy hz.1 hz.2
        · rcases op_cases ho with rfl | rfl | rfl | rfl | rfl | rfl | rfl | rfl | rfl | rfl | rfl | rfl | rfl | rfl | rfl | rfl | rfl
          · exact binI_1 a x y w hx hy
          · exact binI_2 a x y w hx hy
          · exact binI_3 a x y w hx hy
          · exact binI_4 a x y w hx hy (fun h => hz ⟨by decide, h⟩)
          · exact binI_5 a x y w hx hy (fun h => hz ⟨by decide, h⟩)
          · exact binI_6 a x y w hx hy (fun h => hz ⟨by decide, h⟩)
          · exact binI_7 a x y w hx hy (fun h => hz ⟨by decide, h⟩)
          · exact binI_8 a x y w hx hy
          · exact binI_9 a x y w hx hy
          · exact binI_10 a x y w hx hy
          · exact binI_11 a x y w hx hy
          · exact binI_12 a x y w hx hy
          · exact binI_13 a x y w hx hy
          · exact binI_14 a x y w hx hy
          · exact binI_15 a x y w hx hy
          · exact binI_16 a x y w hx hy
          · exact binI_17 a x y w hx hy
      · exact binI_y op a x y w ho hx (by simpa using hy)
    · exact binI_x op a x y w ho (by simpa using hx)
  · exact binI_op op a x y w (by simpa using ho)
end Go.Proofs.Ytofgfiakccjimaa
