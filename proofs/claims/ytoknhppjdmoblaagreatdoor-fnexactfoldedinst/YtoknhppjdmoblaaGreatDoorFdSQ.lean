/- Folding an instruction: the model's l9Two, whole. -/
import Derived.Test.YtoknhppjdmoblaaGreatDoorFdR1Q
import Derived.Test.YtoknhppjdmoblaaGreatDoorFdR2Q
import Derived.Test.YtoknhppjdmoblaaGreatDoorFdR3Q
import Derived.Test.YtoknhppjdmoblaaGreatDoorFdR4Q
import Derived.Test.YtoknhppjdmoblaaGreatDoorFdR5Q
namespace Go.Proofs.YtoknhppjdmoblaaGreatDoor
open Go.RowKit
set_option linter.unusedVariables false
theorem twoS (lo : Nat) (i : InstD) (ua : Option Addr) (qa : Nat) (a : Int) (x : Bool) (b : Int) (y : Bool) (B0 A0 B1 A1 NE : Bool) (w : World) (hm : i.args.length ≤ 1048576) (ku : IntsAt w lo ua i.args) (ho : opB i.op = true) (hxy : ¬ (x = true ∧ y = true)) (nb : ¬ (B0 = true ∧ B1 = true)) (na : ¬ (A0 = true ∧ A1 = true)) (hB0 : (b == 0) = B0) (hB1 : (b == 1) = B1) (hA0 : (a == 0) = A0) (hA1 : (a == 1) = A1) (hE : (i.a != i.b) = NE) :
    Calls Tryz.prog 77 #[.agg #[.int .i64 i.op, .int .i64 i.w, .int .i64 i.a, .int .i64 i.b, .int .i64 i.c, .int .i64 i.imm, .slice ua i.args.length qa], .int .i64 a, .bool x, .int .i64 b, .bool y] w fun e w' => InstGot w' w.heap.size (pickD i (twoC i.op (y && B0) (x && A0) (y && B1) (x && A1) (!NE))) e ∧ Below w.heap.size w w' := by
  obtain ⟨h1, h2⟩ := op_yes ho
  have h3 : i.op = 1 ∨ i.op = 2 ∨ i.op = 3 ∨ i.op = 4 ∨ i.op = 5 ∨ i.op = 6 ∨ i.op = 7 ∨ i.op = 8 ∨ i.op = 9 ∨ i.op = 10 ∨ i.op = 11 ∨ i.op = 12 ∨ i.op = 13 ∨ i.op = 14 ∨ i.op = 15 ∨ i.op = 16 ∨ i.op = 17 := by omega
  rcases h3 with h | h | h | h | h | h | h | h | h | h | h | h | h | h | h | h | h
  · exact two_1 lo i ua qa a x b y B0 A0 B1 A1 NE w hm ku h hxy nb na hB0 hB1 hA0 hA1 hE
  · exact two_2 lo i ua qa a x b y B0 A0 B1 A1 NE w hm ku h hxy nb na hB0 hB1 hA0 hA1 hE
  · exact two_3 lo i ua qa a x b y B0 A0 B1 A1 NE w hm ku h hxy nb na hB0 hB1 hA0 hA1 hE
  · exact two_4 lo i ua qa a x b y B0 A0 B1 A1 NE w hm ku h hxy nb na hB0 hB1 hA0 hA1 hE
  · exact two_5_6_7 lo i ua qa a x b y B0 A0 B1 A1 NE w hm ku (.inl h) hxy nb na hB0 hB1 hA0 hA1 hE
  · exact two_5_6_7 lo i ua qa a x b y B0 A0 B1 A1 NE w hm ku (.inr (.inl h)) hxy nb na hB0 hB1 hA0 hA1 hE
  · exact two_5_6_7 lo i ua qa a x b y B0 A0 B1 A1 NE w hm ku (.inr (.inr h)) hxy nb na hB0 hB1 hA0 hA1 hE
  · exact two_8 lo i ua qa a x b y B0 A0 B1 A1 NE w hm ku h hxy nb na hB0 hB1 hA0 hA1 hE
  · exact two_9 lo i ua qa a x b y B0 A0 B1 A1 NE w hm ku h hxy nb na hB0 hB1 hA0 hA1 hE
  · exact two_10 lo i ua qa a x b y B0 A0 B1 A1 NE w hm ku h hxy nb na hB0 hB1 hA0 hA1 hE
  · exact two_11_12_13 lo i ua qa a x b y B0 A0 B1 A1 NE w hm ku (.inl h) hxy nb na hB0 hB1 hA0 hA1 hE
  · exact two_11_12_13 lo i ua qa a x b y B0 A0 B1 A1 NE w hm ku (.inr (.inl h)) hxy nb na hB0 hB1 hA0 hA1 hE
  · exact two_11_12_13 lo i ua qa a x b y B0 A0 B1 A1 NE w hm ku (.inr (.inr h)) hxy nb na hB0 hB1 hA0 hA1 hE
  · exact two_14 lo i ua qa a x b y B0 A0 B1 A1 NE w hm ku h hxy nb na hB0 hB1 hA0 hA1 hE
  · exact two_15 lo i ua qa a x b y B0 A0 B1 A1 NE w hm ku h hxy nb na hB0 hB1 hA0 hA1 hE
  · exact two_16 lo i ua qa a x b y B0 A0 B1 A1 NE w hm ku h hxy nb na hB0 hB1 hA0 hA1 hE
  · exact two_17 lo i ua qa a x b y B0 A0 B1 A1 NE w hm ku h hxy nb na hB0 hB1 hA0 hA1 hE
end Go.Proofs.YtoknhppjdmoblaaGreatDoor
