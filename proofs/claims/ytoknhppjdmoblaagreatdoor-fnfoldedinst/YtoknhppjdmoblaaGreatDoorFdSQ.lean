import Derived.Test.YtoknhppjdmoblaaGreatDoorFdR1
import Derived.Test.YtoknhppjdmoblaaGreatDoorFdR2
import Derived.Test.YtoknhppjdmoblaaGreatDoorFdR3
import Derived.Test.YtoknhppjdmoblaaGreatDoorFdR4
import Derived.Test.YtoknhppjdmoblaaGreatDoorFdR5
import Derived.Test.YtoknhppjdmoblaaGreatDoorRulQ
namespace Go.Proofs.YtoknhppjdmoblaaGreatDoor
set_option linter.unusedVariables false
set_option linter.unusedSimpArgs false
open Go.RowKit
theorem twoS (lo : Nat) (i : InstD) (ua : Option Addr) (qa : Nat) (a : Int) (x : Bool) (b : Int) (y : Bool) (B0 A0 B1 A1 NE : Bool) (w : World) (hm : i.args.length ≤ 1048576) (ku : IntsAt w lo ua i.args) (ho : opB i.op = true) (hxy : ¬ (x = true ∧ y = true)) (nb : ¬ (B0 = true ∧ B1 = true)) (na : ¬ (A0 = true ∧ A1 = true)) (hB0 : (b == 0) = B0) (hB1 : (b == 1) = B1) (hA0 : (a == 0) = A0) (hA1 : (a == 1) = A1) (hE : (i.a != i.b) = NE) :
  Calls Tryz.prog 77 #[.agg #[.int .i64 i.op, .int .i64 i.w, .int .i64 i.a, .int .i64 i.b, .int .i64 i.c, .int .i64 i.imm, .slice ua i.args.length qa], .int .i64 a, .bool x, .int .i64 b, .bool y] w fun e w' => InstGot w' w.heap.size (pickD i (twoC i.op (y && B0) (x && A0) (y && B1) (x && A1) (!NE))) e ∧ Below w.heap.size w w' := by
 obtain ⟨h1, h2⟩ := op_yes ho
 have h3 : i.op = 1 ∨ i.op = 2 ∨ i.op = 3 ∨ i.op = 4 ∨ i.op = 5 ∨ i.op = 6 ∨ i.op = 7 ∨ i.op = 8 ∨ i.op = 9 ∨ i.op = 10 ∨ i.op = 11 ∨ i.op = 12 ∨ i.op = 13 ∨ i.op = 14 ∨ i.op = 15 ∨ i.op = 16 ∨ i.op = 17 := by omega
 rcases h3 with h | h | h | h | h | h | h | h | h | h | h | h | h | h | h | h | h
 ·exact two_1 lo i ua qa a x b y B0 A0 B1 A1 NE w hm ku h hxy nb na hB0 hB1 hA0 hA1 hE
 ·exact two_2 lo i ua qa a x b y B0 A0 B1 A1 NE w hm ku h hxy nb na hB0 hB1 hA0 hA1 hE
 ·exact two_3 lo i ua qa a x b y B0 A0 B1 A1 NE w hm ku h hxy nb na hB0 hB1 hA0 hA1 hE
 ·exact two_4 lo i ua qa a x b y B0 A0 B1 A1 NE w hm ku h hxy nb na hB0 hB1 hA0 hA1 hE
 ·exact two_5_6_7 lo i ua qa a x b y B0 A0 B1 A1 NE w hm ku (.inl h) hxy nb na hB0 hB1 hA0 hA1 hE
 ·exact two_5_6_7 lo i ua qa a x b y B0 A0 B1 A1 NE w hm ku (.inr (.inl h)) hxy nb na hB0 hB1 hA0 hA1 hE
 ·exact two_5_6_7 lo i ua qa a x b y B0 A0 B1 A1 NE w hm ku (.inr (.inr h)) hxy nb na hB0 hB1 hA0 hA1 hE
 ·exact two_8 lo i ua qa a x b y B0 A0 B1 A1 NE w hm ku h hxy nb na hB0 hB1 hA0 hA1 hE
 ·exact two_9 lo i ua qa a x b y B0 A0 B1 A1 NE w hm ku h hxy nb na hB0 hB1 hA0 hA1 hE
 ·exact two_10 lo i ua qa a x b y B0 A0 B1 A1 NE w hm ku h hxy nb na hB0 hB1 hA0 hA1 hE
 ·exact two_11_12_13 lo i ua qa a x b y B0 A0 B1 A1 NE w hm ku (.inl h) hxy nb na hB0 hB1 hA0 hA1 hE
 ·exact two_11_12_13 lo i ua qa a x b y B0 A0 B1 A1 NE w hm ku (.inr (.inl h)) hxy nb na hB0 hB1 hA0 hA1 hE
 ·exact two_11_12_13 lo i ua qa a x b y B0 A0 B1 A1 NE w hm ku (.inr (.inr h)) hxy nb na hB0 hB1 hA0 hA1 hE
 ·exact two_14 lo i ua qa a x b y B0 A0 B1 A1 NE w hm ku h hxy nb na hB0 hB1 hA0 hA1 hE
 ·exact two_15 lo i ua qa a x b y B0 A0 B1 A1 NE w hm ku h hxy nb na hB0 hB1 hA0 hA1 hE
 ·exact two_16 lo i ua qa a x b y B0 A0 B1 A1 NE w hm ku h hxy nb na hB0 hB1 hA0 hA1 hE
 ·exact two_17 lo i ua qa a x b y B0 A0 B1 A1 NE w hm ku h hxy nb na hB0 hB1 hA0 hA1 hE
end Go.Proofs.YtoknhppjdmoblaaGreatDoor
namespace Go.Proofs.YtoknhppjdmoblaaGreatDoor
set_option linter.unusedVariables false
set_option linter.unusedSimpArgs false
open Go.RowKit
theorem binS_op (op a x y : Int) (w : World) (ho : opB op = false) : Calls Tryz.prog 73 #[.int .i64 op, .int .i64 a, .int .i64 x, .int .i64 y] w fun e w' => e = .returned (.tuple #[.int .i64 (binZ op a x y), .int .i64 (binC op a x y)]) ∧ w' = w := by
 obtain ⟨e1, e2⟩ := bin_form (op := op) (a := a) (x := x) (y := y) (by simp [binOk, ho])
 have E1 : Hid (0 = binZ op a x y) := e1
 have E2 : Hid (_ = binC op a x y) := e2
 clear e1 e2
 have d : (decide (1 ≤ op) && decide (op ≤ 17)) = false := ho
 go_enter Tryz.func73, Tryz.ntmps73
 go_wp2_with (first | (go_at_call 69; refine (inS _ _ _ _).mono ?_; rintro e w' ⟨rfl, rfl⟩))
 go_ret2
 exact ⟨ret_ii E1.out E2.out, rfl⟩
theorem binS_x (op a x y : Int) (w : World) (ho : opB op = true) (hx : valueB a x = false) : Calls Tryz.prog 73 #[.int .i64 op, .int .i64 a, .int .i64 x, .int .i64 y] w fun e w' => e = .returned (.tuple #[.int .i64 (binZ op a x y), .int .i64 (binC op a x y)]) ∧ w' = w := by
 obtain ⟨e1, e2⟩ := bin_form (op := op) (a := a) (x := x) (y := y) (by simp [binOk, hx])
 have E1 : Hid (0 = binZ op a x y) := e1
 have E2 : Hid (_ = binC op a x y) := e2
 clear e1 e2
 have d : (decide (1 ≤ op) && decide (op ≤ 17)) = true := ho
 go_enter Tryz.func73, Tryz.ntmps73
 go_wp2_with (first | (go_at_call 69; refine (inS _ _ _ _).mono ?_; rintro e w' ⟨rfl, rfl⟩) | (go_at_call 72; refine (valueS _ _ _).mono ?_; rintro e w' ⟨rfl, rfl⟩))
 go_ret2
 exact ⟨ret_ii E1.out E2.out, rfl⟩
theorem binS_y (op a x y : Int) (w : World) (ho : opB op = true) (hx : valueB a x = true) (hy : valueB a y = false) : Calls Tryz.prog 73 #[.int .i64 op, .int .i64 a, .int .i64 x, .int .i64 y] w fun e w' => e = .returned (.tuple #[.int .i64 (binZ op a x y), .int .i64 (binC op a x y)]) ∧ w' = w := by
 obtain ⟨e1, e2⟩ := bin_form (op := op) (a := a) (x := x) (y := y) (by simp [binOk, hy])
 have E1 : Hid (0 = binZ op a x y) := e1
 have E2 : Hid (_ = binC op a x y) := e2
 clear e1 e2
 have d : (decide (1 ≤ op) && decide (op ≤ 17)) = true := ho
 go_enter Tryz.func73, Tryz.ntmps73
 go_wp2_with (first | (go_at_call 69; refine (inS _ _ _ _).mono ?_; rintro e w' ⟨rfl, rfl⟩) | (go_at_call 72; refine (valueS _ _ _).mono ?_; rintro e w' ⟨rfl, rfl⟩))
 go_ret2
 exact ⟨ret_ii E1.out E2.out, rfl⟩
theorem binS_z (op a x y : Int) (w : World) (ho : opB op = true) (hx : valueB a x = true) (hy : valueB a y = true) (hd : divB op = true) (hz : y = 0) : Calls Tryz.prog 73 #[.int .i64 op, .int .i64 a, .int .i64 x, .int .i64 y] w fun e w' => e = .returned (.tuple #[.int .i64 (binZ op a x y), .int .i64 (binC op a x y)]) ∧ w' = w := by
 obtain ⟨e1, e2⟩ := bin_zero (op := op) (a := a) (x := x) (y := y) (by simp [binOk, ho, hx, hy]) hd hz
 have E1 : Hid (0 = binZ op a x y) := e1
 have E2 : Hid (_ = binC op a x y) := e2
 clear e1 e2
 subst hz
 have d : (decide (1 ≤ op) && decide (op ≤ 17)) = true := ho
 go_enter Tryz.func73, Tryz.ntmps73
 go_wp2_with (first | (go_at_call 69; refine (inS _ _ _ _).mono ?_; rintro e w' ⟨rfl, rfl⟩) | (go_at_call 72; refine (valueS _ _ _).mono ?_; rintro e w' ⟨rfl, rfl⟩) | (go_at_call 111; refine (divS _ _).mono ?_; rintro e w' ⟨rfl, rfl⟩))
 go_ret2
 exact ⟨ret_ii E1.out E2.out, rfl⟩
theorem binS_1 (a x y : Int) (w : World) (hx : valueB a x = true) (hy : valueB a y = true) : Calls Tryz.prog 73 #[.int .i64 1, .int .i64 a, .int .i64 x, .int .i64 y] w fun e w' => e = .returned (.tuple #[.int .i64 (binZ 1 a x y), .int .i64 (binC 1 a x y)]) ∧ w' = w := by
 obtain ⟨e1, e2⟩ := bin_ok (op := 1) (a := a) (x := x) (y := y) (by simp [binOk, hx, hy]; decide) (by simp [divB])
 have E1 : Hid (maskZ a (x + y) = binZ 1 a x y) := by show _ = _; rw [← e1]; simp [twoZ]
 have E2 : Hid (0 = binC 1 a x y) := e2
 clear e1 e2
 have d : (decide (1 ≤ (1 : Int)) && decide ((1 : Int) ≤ 17)) = true := by decide
 have dd : divB 1 = false := by decide
 go_enter Tryz.func73, Tryz.ntmps73
 go_wp2_with (first | (go_at_call 69; refine (inS _ _ _ _).mono ?_; rintro e w' ⟨rfl, rfl⟩) | (go_at_call 72; refine (valueS _ _ _).mono ?_; rintro e w' ⟨rfl, rfl⟩) | (go_at_call 111; refine (divS _ _).mono ?_; rintro e w' ⟨rfl, rfl⟩) | (go_at_call 113; refine (addS _ _ _ _ hx hy).mono ?_; rintro e w' ⟨rfl, rfl⟩) | (go_at_call 112; refine (maskS _ _ _).mono ?_; rintro e w' ⟨rfl, rfl⟩))
 go_ret2
 exact ⟨ret_ii E1.out E2.out, rfl⟩
theorem binS_2 (a x y : Int) (w : World) (hx : valueB a x = true) (hy : valueB a y = true) : Calls Tryz.prog 73 #[.int .i64 2, .int .i64 a, .int .i64 x, .int .i64 y] w fun e w' => e = .returned (.tuple #[.int .i64 (binZ 2 a x y), .int .i64 (binC 2 a x y)]) ∧ w' = w := by
 obtain ⟨e1, e2⟩ := bin_ok (op := 2) (a := a) (x := x) (y := y) (by simp [binOk, hx, hy]; decide) (by simp [divB])
 have E1 : Hid (maskZ a (x - y) = binZ 2 a x y) := by show _ = _; rw [← e1]; simp [twoZ]
 have E2 : Hid (0 = binC 2 a x y) := e2
 clear e1 e2
 have d : (decide (1 ≤ (2 : Int)) && decide ((2 : Int) ≤ 17)) = true := by decide
 have dd : divB 2 = false := by decide
 go_enter Tryz.func73, Tryz.ntmps73
 go_wp2_with (first | (go_at_call 69; refine (inS _ _ _ _).mono ?_; rintro e w' ⟨rfl, rfl⟩) | (go_at_call 72; refine (valueS _ _ _).mono ?_; rintro e w' ⟨rfl, rfl⟩) | (go_at_call 111; refine (divS _ _).mono ?_; rintro e w' ⟨rfl, rfl⟩) | (go_at_call 113; refine (subS _ _ _ _ hx hy).mono ?_; rintro e w' ⟨rfl, rfl⟩) | (go_at_call 112; refine (maskS _ _ _).mono ?_; rintro e w' ⟨rfl, rfl⟩))
 go_ret2
 exact ⟨ret_ii E1.out E2.out, rfl⟩
theorem binS_3 (a x y : Int) (w : World) (hx : valueB a x = true) (hy : valueB a y = true) : Calls Tryz.prog 73 #[.int .i64 3, .int .i64 a, .int .i64 x, .int .i64 y] w fun e w' => e = .returned (.tuple #[.int .i64 (binZ 3 a x y), .int .i64 (binC 3 a x y)]) ∧ w' = w := by
 obtain ⟨e1, e2⟩ := bin_ok (op := 3) (a := a) (x := x) (y := y) (by simp [binOk, hx, hy]; decide) (by simp [divB])
 have E1 : Hid (maskZ a (wrap64 (sgnZ a x * sgnZ a y)) = binZ 3 a x y) := by show _ = _; rw [← e1]; simp only [twoZ]; exact mulS_eq hx hy
 have E2 : Hid (0 = binC 3 a x y) := e2
 clear e1 e2
 have d : (decide (1 ≤ (3 : Int)) && decide ((3 : Int) ≤ 17)) = true := by decide
 have dd : divB 3 = false := by decide
 go_enter Tryz.func73, Tryz.ntmps73
 go_wp2_with (first | (go_at_call 69; refine (inS _ _ _ _).mono ?_; rintro e w' ⟨rfl, rfl⟩) | (go_at_call 72; refine (valueS _ _ _).mono ?_; rintro e w' ⟨rfl, rfl⟩) | (go_at_call 111; refine (divS _ _).mono ?_; rintro e w' ⟨rfl, rfl⟩) | (go_at_call 113; refine (mulS _ _ _ _ hx hy).mono ?_; rintro e w' ⟨rfl, rfl⟩) | (go_at_call 112; refine (maskS _ _ _).mono ?_; rintro e w' ⟨rfl, rfl⟩))
 go_ret2
 exact ⟨ret_ii E1.out E2.out, rfl⟩
theorem binS_4 (a x y : Int) (w : World) (hx : valueB a x = true) (hy : valueB a y = true) (hz : ¬ y = 0) : Calls Tryz.prog 73 #[.int .i64 4, .int .i64 a, .int .i64 x, .int .i64 y] w fun e w' => e = .returned (.tuple #[.int .i64 (binZ 4 a x y), .int .i64 (binC 4 a x y)]) ∧ w' = w := by
 obtain ⟨e1, e2⟩ := bin_ok (op := 4) (a := a) (x := x) (y := y) (by simp [binOk, hx, hy]; decide) (by simp [divB, hz])
 have E1 : Hid (maskZ a (x / y) = binZ 4 a x y) := by show _ = _; rw [← e1]; simp [twoZ]
 have E2 : Hid (0 = binC 4 a x y) := e2
 clear e1 e2
 have d : (decide (1 ≤ (4 : Int)) && decide ((4 : Int) ≤ 17)) = true := by decide
 have dd : divB 4 = true := by decide
 have hz' : (y == 0) = false := by simpa using hz
 go_enter Tryz.func73, Tryz.ntmps73
 go_wp2_with (first | (go_at_call 69; refine (inS _ _ _ _).mono ?_; rintro e w' ⟨rfl, rfl⟩) | (go_at_call 72; refine (valueS _ _ _).mono ?_; rintro e w' ⟨rfl, rfl⟩) | (go_at_call 111; refine (divS _ _).mono ?_; rintro e w' ⟨rfl, rfl⟩) | (go_at_call 113; refine (udivS _ _ _ _ hx hy hz).mono ?_; rintro e w' ⟨rfl, rfl⟩) | (go_at_call 112; refine (maskS _ _ _).mono ?_; rintro e w' ⟨rfl, rfl⟩))
 go_ret2
 exact ⟨ret_ii E1.out E2.out, rfl⟩
theorem binS_5 (a x y : Int) (w : World) (hx : valueB a x = true) (hy : valueB a y = true) (hz : ¬ y = 0) : Calls Tryz.prog 73 #[.int .i64 5, .int .i64 a, .int .i64 x, .int .i64 y] w fun e w' => e = .returned (.tuple #[.int .i64 (binZ 5 a x y), .int .i64 (binC 5 a x y)]) ∧ w' = w := by
 obtain ⟨e1, e2⟩ := bin_ok (op := 5) (a := a) (x := x) (y := y) (by simp [binOk, hx, hy]; decide) (by simp [divB, hz])
 have E1 : Hid (maskZ a (wrap64 ((sgnZ a x).tdiv (sgnZ a y))) = binZ 5 a x y) := by show _ = _; rw [← e1, tdiv_bd (sgn_bd hx)]; simp [twoZ]
 have E2 : Hid (0 = binC 5 a x y) := e2
 clear e1 e2
 have d : (decide (1 ≤ (5 : Int)) && decide ((5 : Int) ≤ 17)) = true := by decide
 have dd : divB 5 = true := by decide
 have hz' : (y == 0) = false := by simpa using hz
 go_enter Tryz.func73, Tryz.ntmps73
 go_wp2_with (first | (go_at_call 69; refine (inS _ _ _ _).mono ?_; rintro e w' ⟨rfl, rfl⟩) | (go_at_call 72; refine (valueS _ _ _).mono ?_; rintro e w' ⟨rfl, rfl⟩) | (go_at_call 111; refine (divS _ _).mono ?_; rintro e w' ⟨rfl, rfl⟩) | (go_at_call 113; refine (sdivS _ _ _ _ hx hy hz).mono ?_; rintro e w' ⟨rfl, rfl⟩) | (go_at_call 112; refine (maskS _ _ _).mono ?_; rintro e w' ⟨rfl, rfl⟩))
 go_ret2
 exact ⟨ret_ii E1.out E2.out, rfl⟩
theorem binS_6 (a x y : Int) (w : World) (hx : valueB a x = true) (hy : valueB a y = true) (hz : ¬ y = 0) : Calls Tryz.prog 73 #[.int .i64 6, .int .i64 a, .int .i64 x, .int .i64 y] w fun e w' => e = .returned (.tuple #[.int .i64 (binZ 6 a x y), .int .i64 (binC 6 a x y)]) ∧ w' = w := by
 obtain ⟨e1, e2⟩ := bin_ok (op := 6) (a := a) (x := x) (y := y) (by simp [binOk, hx, hy]; decide) (by simp [divB, hz])
 have E1 : Hid (maskZ a (x % y) = binZ 6 a x y) := by show _ = _; rw [← e1]; simp [twoZ]
 have E2 : Hid (0 = binC 6 a x y) := e2
 clear e1 e2
 have d : (decide (1 ≤ (6 : Int)) && decide ((6 : Int) ≤ 17)) = true := by decide
 have dd : divB 6 = true := by decide
 have hz' : (y == 0) = false := by simpa using hz
 go_enter Tryz.func73, Tryz.ntmps73
 go_wp2_with (first | (go_at_call 69; refine (inS _ _ _ _).mono ?_; rintro e w' ⟨rfl, rfl⟩) | (go_at_call 72; refine (valueS _ _ _).mono ?_; rintro e w' ⟨rfl, rfl⟩) | (go_at_call 111; refine (divS _ _).mono ?_; rintro e w' ⟨rfl, rfl⟩) | (go_at_call 113; refine (uremS _ _ _ _ hx hy hz).mono ?_; rintro e w' ⟨rfl, rfl⟩) | (go_at_call 112; refine (maskS _ _ _).mono ?_; rintro e w' ⟨rfl, rfl⟩))
 go_ret2
 exact ⟨ret_ii E1.out E2.out, rfl⟩
theorem binS_7 (a x y : Int) (w : World) (hx : valueB a x = true) (hy : valueB a y = true) (hz : ¬ y = 0) : Calls Tryz.prog 73 #[.int .i64 7, .int .i64 a, .int .i64 x, .int .i64 y] w fun e w' => e = .returned (.tuple #[.int .i64 (binZ 7 a x y), .int .i64 (binC 7 a x y)]) ∧ w' = w := by
 obtain ⟨e1, e2⟩ := bin_ok (op := 7) (a := a) (x := x) (y := y) (by simp [binOk, hx, hy]; decide) (by simp [divB, hz])
 have E1 : Hid (maskZ a ((sgnZ a x).tmod (sgnZ a y)) = binZ 7 a x y) := by show _ = _; rw [← e1]; simp [twoZ]
 have E2 : Hid (0 = binC 7 a x y) := e2
 clear e1 e2
 have d : (decide (1 ≤ (7 : Int)) && decide ((7 : Int) ≤ 17)) = true := by decide
 have dd : divB 7 = true := by decide
 have hz' : (y == 0) = false := by simpa using hz
 go_enter Tryz.func73, Tryz.ntmps73
 go_wp2_with (first | (go_at_call 69; refine (inS _ _ _ _).mono ?_; rintro e w' ⟨rfl, rfl⟩) | (go_at_call 72; refine (valueS _ _ _).mono ?_; rintro e w' ⟨rfl, rfl⟩) | (go_at_call 111; refine (divS _ _).mono ?_; rintro e w' ⟨rfl, rfl⟩) | (go_at_call 113; refine (sremS _ _ _ _ hx hy hz).mono ?_; rintro e w' ⟨rfl, rfl⟩) | (go_at_call 112; refine (maskS _ _ _).mono ?_; rintro e w' ⟨rfl, rfl⟩))
 go_ret2
 exact ⟨ret_ii E1.out E2.out, rfl⟩
theorem binS_8 (a x y : Int) (w : World) (hx : valueB a x = true) (hy : valueB a y = true) : Calls Tryz.prog 73 #[.int .i64 8, .int .i64 a, .int .i64 x, .int .i64 y] w fun e w' => e = .returned (.tuple #[.int .i64 (binZ 8 a x y), .int .i64 (binC 8 a x y)]) ∧ w' = w := by
 obtain ⟨e1, e2⟩ := bin_ok (op := 8) (a := a) (x := x) (y := y) (by simp [binOk, hx, hy]; decide) (by simp [divB])
 have E1 : Hid (maskZ a (bits .and .i64 x y) = binZ 8 a x y) := by show _ = _; rw [← e1]; simp [twoZ]
 have E2 : Hid (0 = binC 8 a x y) := e2
 clear e1 e2
 have d : (decide (1 ≤ (8 : Int)) && decide ((8 : Int) ≤ 17)) = true := by decide
 have dd : divB 8 = false := by decide
 go_enter Tryz.func73, Tryz.ntmps73
 go_wp2_with (first | (go_at_call 69; refine (inS _ _ _ _).mono ?_; rintro e w' ⟨rfl, rfl⟩) | (go_at_call 72; refine (valueS _ _ _).mono ?_; rintro e w' ⟨rfl, rfl⟩) | (go_at_call 111; refine (divS _ _).mono ?_; rintro e w' ⟨rfl, rfl⟩) | (go_at_call 113; refine (andS _ _ _ _ hx hy).mono ?_; rintro e w' ⟨rfl, rfl⟩) | (go_at_call 112; refine (maskS _ _ _).mono ?_; rintro e w' ⟨rfl, rfl⟩))
 go_ret2
 exact ⟨ret_ii E1.out E2.out, rfl⟩
theorem binS_9 (a x y : Int) (w : World) (hx : valueB a x = true) (hy : valueB a y = true) : Calls Tryz.prog 73 #[.int .i64 9, .int .i64 a, .int .i64 x, .int .i64 y] w fun e w' => e = .returned (.tuple #[.int .i64 (binZ 9 a x y), .int .i64 (binC 9 a x y)]) ∧ w' = w := by
 obtain ⟨e1, e2⟩ := bin_ok (op := 9) (a := a) (x := x) (y := y) (by simp [binOk, hx, hy]; decide) (by simp [divB])
 have E1 : Hid (maskZ a (bits .or .i64 x y) = binZ 9 a x y) := by show _ = _; rw [← e1]; simp [twoZ]
 have E2 : Hid (0 = binC 9 a x y) := e2
 clear e1 e2
 have d : (decide (1 ≤ (9 : Int)) && decide ((9 : Int) ≤ 17)) = true := by decide
 have dd : divB 9 = false := by decide
 go_enter Tryz.func73, Tryz.ntmps73
 go_wp2_with (first | (go_at_call 69; refine (inS _ _ _ _).mono ?_; rintro e w' ⟨rfl, rfl⟩) | (go_at_call 72; refine (valueS _ _ _).mono ?_; rintro e w' ⟨rfl, rfl⟩) | (go_at_call 111; refine (divS _ _).mono ?_; rintro e w' ⟨rfl, rfl⟩) | (go_at_call 113; refine (orS _ _ _ _ hx hy).mono ?_; rintro e w' ⟨rfl, rfl⟩) | (go_at_call 112; refine (maskS _ _ _).mono ?_; rintro e w' ⟨rfl, rfl⟩))
 go_ret2
 exact ⟨ret_ii E1.out E2.out, rfl⟩
theorem binS_10 (a x y : Int) (w : World) (hx : valueB a x = true) (hy : valueB a y = true) : Calls Tryz.prog 73 #[.int .i64 10, .int .i64 a, .int .i64 x, .int .i64 y] w fun e w' => e = .returned (.tuple #[.int .i64 (binZ 10 a x y), .int .i64 (binC 10 a x y)]) ∧ w' = w := by
 obtain ⟨e1, e2⟩ := bin_ok (op := 10) (a := a) (x := x) (y := y) (by simp [binOk, hx, hy]; decide) (by simp [divB])
 have E1 : Hid (maskZ a (bits .xor .i64 x y) = binZ 10 a x y) := by show _ = _; rw [← e1]; simp [twoZ]
 have E2 : Hid (0 = binC 10 a x y) := e2
 clear e1 e2
 have d : (decide (1 ≤ (10 : Int)) && decide ((10 : Int) ≤ 17)) = true := by decide
 have dd : divB 10 = false := by decide
 go_enter Tryz.func73, Tryz.ntmps73
 go_wp2_with (first | (go_at_call 69; refine (inS _ _ _ _).mono ?_; rintro e w' ⟨rfl, rfl⟩) | (go_at_call 72; refine (valueS _ _ _).mono ?_; rintro e w' ⟨rfl, rfl⟩) | (go_at_call 111; refine (divS _ _).mono ?_; rintro e w' ⟨rfl, rfl⟩) | (go_at_call 113; refine (xorS _ _ _ _ hx hy).mono ?_; rintro e w' ⟨rfl, rfl⟩) | (go_at_call 112; refine (maskS _ _ _).mono ?_; rintro e w' ⟨rfl, rfl⟩))
 go_ret2
 exact ⟨ret_ii E1.out E2.out, rfl⟩
theorem binS_11 (a x y : Int) (w : World) (hx : valueB a x = true) (hy : valueB a y = true) : Calls Tryz.prog 73 #[.int .i64 11, .int .i64 a, .int .i64 x, .int .i64 y] w fun e w' => e = .returned (.tuple #[.int .i64 (binZ 11 a x y), .int .i64 (binC 11 a x y)]) ∧ w' = w := by
 obtain ⟨e1, e2⟩ := bin_ok (op := 11) (a := a) (x := x) (y := y) (by simp [binOk, hx, hy]; decide) (by simp [divB])
 have E1 : Hid (maskZ a (shlZ a x y) = binZ 11 a x y) := by show _ = _; rw [← e1]; simp [twoZ]
 have E2 : Hid (0 = binC 11 a x y) := e2
 clear e1 e2
 have d : (decide (1 ≤ (11 : Int)) && decide ((11 : Int) ≤ 17)) = true := by decide
 have dd : divB 11 = false := by decide
 go_enter Tryz.func73, Tryz.ntmps73
 go_wp2_with (first | (go_at_call 69; refine (inS _ _ _ _).mono ?_; rintro e w' ⟨rfl, rfl⟩) | (go_at_call 72; refine (valueS _ _ _).mono ?_; rintro e w' ⟨rfl, rfl⟩) | (go_at_call 111; refine (divS _ _).mono ?_; rintro e w' ⟨rfl, rfl⟩) | (go_at_call 113; refine (shlS _ _ _ _ hx hy).mono ?_; rintro e w' ⟨rfl, rfl⟩) | (go_at_call 112; refine (maskS _ _ _).mono ?_; rintro e w' ⟨rfl, rfl⟩))
 go_ret2
 exact ⟨ret_ii E1.out E2.out, rfl⟩
theorem binS_12 (a x y : Int) (w : World) (hx : valueB a x = true) (hy : valueB a y = true) : Calls Tryz.prog 73 #[.int .i64 12, .int .i64 a, .int .i64 x, .int .i64 y] w fun e w' => e = .returned (.tuple #[.int .i64 (binZ 12 a x y), .int .i64 (binC 12 a x y)]) ∧ w' = w := by
 obtain ⟨e1, e2⟩ := bin_ok (op := 12) (a := a) (x := x) (y := y) (by simp [binOk, hx, hy]; decide) (by simp [divB])
 have E1 : Hid (maskZ a (lshrZ a x y) = binZ 12 a x y) := by show _ = _; rw [← e1]; simp [twoZ]
 have E2 : Hid (0 = binC 12 a x y) := e2
 clear e1 e2
 have d : (decide (1 ≤ (12 : Int)) && decide ((12 : Int) ≤ 17)) = true := by decide
 have dd : divB 12 = false := by decide
 go_enter Tryz.func73, Tryz.ntmps73
 go_wp2_with (first | (go_at_call 69; refine (inS _ _ _ _).mono ?_; rintro e w' ⟨rfl, rfl⟩) | (go_at_call 72; refine (valueS _ _ _).mono ?_; rintro e w' ⟨rfl, rfl⟩) | (go_at_call 111; refine (divS _ _).mono ?_; rintro e w' ⟨rfl, rfl⟩) | (go_at_call 113; refine (lshrS _ _ _ _ hx hy).mono ?_; rintro e w' ⟨rfl, rfl⟩) | (go_at_call 112; refine (maskS _ _ _).mono ?_; rintro e w' ⟨rfl, rfl⟩))
 go_ret2
 exact ⟨ret_ii E1.out E2.out, rfl⟩
theorem binS_13 (a x y : Int) (w : World) (hx : valueB a x = true) (hy : valueB a y = true) : Calls Tryz.prog 73 #[.int .i64 13, .int .i64 a, .int .i64 x, .int .i64 y] w fun e w' => e = .returned (.tuple #[.int .i64 (binZ 13 a x y), .int .i64 (binC 13 a x y)]) ∧ w' = w := by
 obtain ⟨e1, e2⟩ := bin_ok (op := 13) (a := a) (x := x) (y := y) (by simp [binOk, hx, hy]; decide) (by simp [divB])
 have E1 : Hid (maskZ a (sgnZ a x / 2 ^ (shB a y).toNat) = binZ 13 a x y) := by show _ = _; rw [← e1]; simp [twoZ]
 have E2 : Hid (0 = binC 13 a x y) := e2
 clear e1 e2
 have d : (decide (1 ≤ (13 : Int)) && decide ((13 : Int) ≤ 17)) = true := by decide
 have dd : divB 13 = false := by decide
 go_enter Tryz.func73, Tryz.ntmps73
 go_wp2_with (first | (go_at_call 69; refine (inS _ _ _ _).mono ?_; rintro e w' ⟨rfl, rfl⟩) | (go_at_call 72; refine (valueS _ _ _).mono ?_; rintro e w' ⟨rfl, rfl⟩) | (go_at_call 111; refine (divS _ _).mono ?_; rintro e w' ⟨rfl, rfl⟩) | (go_at_call 113; refine (ashrS _ _ _ _ hx hy).mono ?_; rintro e w' ⟨rfl, rfl⟩) | (go_at_call 112; refine (maskS _ _ _).mono ?_; rintro e w' ⟨rfl, rfl⟩))
 go_ret2
 exact ⟨ret_ii E1.out E2.out, rfl⟩
theorem binS_14 (a x y : Int) (w : World) (hx : valueB a x = true) (hy : valueB a y = true) : Calls Tryz.prog 73 #[.int .i64 14, .int .i64 a, .int .i64 x, .int .i64 y] w fun e w' => e = .returned (.tuple #[.int .i64 (binZ 14 a x y), .int .i64 (binC 14 a x y)]) ∧ w' = w := by
 obtain ⟨e1, e2⟩ := bin_ok (op := 14) (a := a) (x := x) (y := y) (by simp [binOk, hx, hy]; decide) (by simp [divB])
 have E1 : Hid (maskZ a (bitZ (x == y)) = binZ 14 a x y) := by show _ = _; rw [← e1]; simp [twoZ]
 have E2 : Hid (0 = binC 14 a x y) := e2
 clear e1 e2
 have d : (decide (1 ≤ (14 : Int)) && decide ((14 : Int) ≤ 17)) = true := by decide
 have dd : divB 14 = false := by decide
 go_enter Tryz.func73, Tryz.ntmps73
 go_wp2_with (first | (go_at_call 69; refine (inS _ _ _ _).mono ?_; rintro e w' ⟨rfl, rfl⟩) | (go_at_call 72; refine (valueS _ _ _).mono ?_; rintro e w' ⟨rfl, rfl⟩) | (go_at_call 111; refine (divS _ _).mono ?_; rintro e w' ⟨rfl, rfl⟩) | (go_at_call 113; refine (eqS _ _ _ _ hx hy).mono ?_; rintro e w' ⟨rfl, rfl⟩) | (go_at_call 112; refine (maskS _ _ _).mono ?_; rintro e w' ⟨rfl, rfl⟩))
 go_ret2
 exact ⟨ret_ii E1.out E2.out, rfl⟩
theorem binS_15 (a x y : Int) (w : World) (hx : valueB a x = true) (hy : valueB a y = true) : Calls Tryz.prog 73 #[.int .i64 15, .int .i64 a, .int .i64 x, .int .i64 y] w fun e w' => e = .returned (.tuple #[.int .i64 (binZ 15 a x y), .int .i64 (binC 15 a x y)]) ∧ w' = w := by
 obtain ⟨e1, e2⟩ := bin_ok (op := 15) (a := a) (x := x) (y := y) (by simp [binOk, hx, hy]; decide) (by simp [divB])
 have E1 : Hid (maskZ a (bitZ (x != y)) = binZ 15 a x y) := by show _ = _; rw [← e1]; simp [twoZ]
 have E2 : Hid (0 = binC 15 a x y) := e2
 clear e1 e2
 have d : (decide (1 ≤ (15 : Int)) && decide ((15 : Int) ≤ 17)) = true := by decide
 have dd : divB 15 = false := by decide
 go_enter Tryz.func73, Tryz.ntmps73
 go_wp2_with (first | (go_at_call 69; refine (inS _ _ _ _).mono ?_; rintro e w' ⟨rfl, rfl⟩) | (go_at_call 72; refine (valueS _ _ _).mono ?_; rintro e w' ⟨rfl, rfl⟩) | (go_at_call 111; refine (divS _ _).mono ?_; rintro e w' ⟨rfl, rfl⟩) | (go_at_call 113; refine (neS _ _ _ _ hx hy).mono ?_; rintro e w' ⟨rfl, rfl⟩) | (go_at_call 112; refine (maskS _ _ _).mono ?_; rintro e w' ⟨rfl, rfl⟩))
 go_ret2
 exact ⟨ret_ii E1.out E2.out, rfl⟩
theorem binS_16 (a x y : Int) (w : World) (hx : valueB a x = true) (hy : valueB a y = true) : Calls Tryz.prog 73 #[.int .i64 16, .int .i64 a, .int .i64 x, .int .i64 y] w fun e w' => e = .returned (.tuple #[.int .i64 (binZ 16 a x y), .int .i64 (binC 16 a x y)]) ∧ w' = w := by
 obtain ⟨e1, e2⟩ := bin_ok (op := 16) (a := a) (x := x) (y := y) (by simp [binOk, hx, hy]; decide) (by simp [divB])
 have E1 : Hid (maskZ a (bitZ (decide (x < y))) = binZ 16 a x y) := by show _ = _; rw [← e1]; simp [twoZ]
 have E2 : Hid (0 = binC 16 a x y) := e2
 clear e1 e2
 have d : (decide (1 ≤ (16 : Int)) && decide ((16 : Int) ≤ 17)) = true := by decide
 have dd : divB 16 = false := by decide
 go_enter Tryz.func73, Tryz.ntmps73
 go_wp2_with (first | (go_at_call 69; refine (inS _ _ _ _).mono ?_; rintro e w' ⟨rfl, rfl⟩) | (go_at_call 72; refine (valueS _ _ _).mono ?_; rintro e w' ⟨rfl, rfl⟩) | (go_at_call 111; refine (divS _ _).mono ?_; rintro e w' ⟨rfl, rfl⟩) | (go_at_call 113; refine (ultS _ _ _ _ hx hy).mono ?_; rintro e w' ⟨rfl, rfl⟩) | (go_at_call 112; refine (maskS _ _ _).mono ?_; rintro e w' ⟨rfl, rfl⟩))
 go_ret2
 exact ⟨ret_ii E1.out E2.out, rfl⟩
theorem binS_17 (a x y : Int) (w : World) (hx : valueB a x = true) (hy : valueB a y = true) : Calls Tryz.prog 73 #[.int .i64 17, .int .i64 a, .int .i64 x, .int .i64 y] w fun e w' => e = .returned (.tuple #[.int .i64 (binZ 17 a x y), .int .i64 (binC 17 a x y)]) ∧ w' = w := by
 obtain ⟨e1, e2⟩ := bin_ok (op := 17) (a := a) (x := x) (y := y) (by simp [binOk, hx, hy]; decide) (by simp [divB])
 have E1 : Hid (maskZ a (bitZ (decide (sgnZ a x < sgnZ a y))) = binZ 17 a x y) := by show _ = _; rw [← e1]; simp [twoZ]
 have E2 : Hid (0 = binC 17 a x y) := e2
 clear e1 e2
 have d : (decide (1 ≤ (17 : Int)) && decide ((17 : Int) ≤ 17)) = true := by decide
 have dd : divB 17 = false := by decide
 go_enter Tryz.func73, Tryz.ntmps73
 go_wp2_with (first | (go_at_call 69; refine (inS _ _ _ _).mono ?_; rintro e w' ⟨rfl, rfl⟩) | (go_at_call 72; refine (valueS _ _ _).mono ?_; rintro e w' ⟨rfl, rfl⟩) | (go_at_call 111; refine (divS _ _).mono ?_; rintro e w' ⟨rfl, rfl⟩) | (go_at_call 113; refine (sltS _ _ _ _ hx hy).mono ?_; rintro e w' ⟨rfl, rfl⟩) | (go_at_call 112; refine (maskS _ _ _).mono ?_; rintro e w' ⟨rfl, rfl⟩))
 go_ret2
 exact ⟨ret_ii E1.out E2.out, rfl⟩
theorem binS (op a x y : Int) (w : World) : Calls Tryz.prog 73 #[.int .i64 op, .int .i64 a, .int .i64 x, .int .i64 y] w fun e w' => e = .returned (.tuple #[.int .i64 (binZ op a x y), .int .i64 (binC op a x y)]) ∧ w' = w := by
 by_cases ho : opB op = true
 ·by_cases hx : valueB a x = true
  ·by_cases hy : valueB a y = true
   ·by_cases hz : divB op = true ∧ y = 0
    ·exact binS_z op a x y w ho hx hy hz.1 hz.2
    ·rcases op_cases ho with rfl | rfl | rfl | rfl | rfl | rfl | rfl | rfl | rfl | rfl | rfl | rfl | rfl | rfl | rfl | rfl | rfl
     ·exact binS_1 a x y w hx hy
     ·exact binS_2 a x y w hx hy
     ·exact binS_3 a x y w hx hy
     ·exact binS_4 a x y w hx hy (fun h => hz ⟨by decide, h⟩)
     ·exact binS_5 a x y w hx hy (fun h => hz ⟨by decide, h⟩)
     ·exact binS_6 a x y w hx hy (fun h => hz ⟨by decide, h⟩)
     ·exact binS_7 a x y w hx hy (fun h => hz ⟨by decide, h⟩)
     ·exact binS_8 a x y w hx hy
     ·exact binS_9 a x y w hx hy
     ·exact binS_10 a x y w hx hy
     ·exact binS_11 a x y w hx hy
     ·exact binS_12 a x y w hx hy
     ·exact binS_13 a x y w hx hy
     ·exact binS_14 a x y w hx hy
     ·exact binS_15 a x y w hx hy
     ·exact binS_16 a x y w hx hy
     ·exact binS_17 a x y w hx hy
   ·exact binS_y op a x y w ho hx (by simpa using hy)
  ·exact binS_x op a x y w ho (by simpa using hx)
 ·exact binS_op op a x y w (by simpa using ho)
end Go.Proofs.YtoknhppjdmoblaaGreatDoor
