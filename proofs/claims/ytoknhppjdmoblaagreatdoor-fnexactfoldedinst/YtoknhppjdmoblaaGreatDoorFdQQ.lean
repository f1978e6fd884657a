/- Folding an instruction: the model's l9Two. -/
import Derived.Test.YtoknhppjdmoblaaGreatDoorFdPQ
namespace Go.Proofs.YtoknhppjdmoblaaGreatDoor
open Go.RowKit
set_option linter.unusedVariables false
structure Tw (op : Int) (i : InstD) (ua : Option Addr) (qa : Nat) (w w1 : World) : Prop where
  i : At w1 w.heap.size #[.int .i64 op, .int .i64 i.w, .int .i64 i.a, .int .i64 i.b, .int .i64 i.c, .int .i64 i.imm, .slice ua i.args.length qa] 29
  r : At w1 (w.heap.size + 1) #[.int .i64 0, .int .i64 0, .int .i64 0, .int .i64 0, .int .i64 0, .int .i64 0, .slice none 0 0] 29
  below : Below w.heap.size w w1
theorem Tw.keep {op : Int} {i : InstD} {ua : Option Addr} {qa : Nat} {w w1 w2 : World} (h : Tw op i ua qa w w1) (k : Below w1.heap.size w1 w2) : Tw op i ua qa w w2 := ⟨h.i.below k, h.r.below k, h.below.trans (k.mono h.below.size)⟩
theorem Tw.start {op : Int} {i : InstD} {ua : Option Addr} {qa : Nat} {w : World} : Tw op i ua qa w ((w.alloc (.cells #[.int .i64 op, .int .i64 i.w, .int .i64 i.a, .int .i64 i.b, .int .i64 i.c, .int .i64 i.imm, .slice ua i.args.length qa] 29)).alloc (.cells #[.int .i64 0, .int .i64 0, .int .i64 0, .int .i64 0, .int .i64 0, .int .i64 0, .slice none 0 0] 29)) := by
  have e1 : (w.alloc (.cells #[.int .i64 op, .int .i64 i.w, .int .i64 i.a, .int .i64 i.b, .int .i64 i.c, .int .i64 i.imm, .slice ua i.args.length qa] 29)).heap.size = w.heap.size + 1 := by simp
  have h1 := heap_alloc_last w (.cells #[.int .i64 op, .int .i64 i.w, .int .i64 i.a, .int .i64 i.b, .int .i64 i.c, .int .i64 i.imm, .slice ua i.args.length qa] 29)
  have h2 := heap_alloc_last (w.alloc (.cells #[.int .i64 op, .int .i64 i.w, .int .i64 i.a, .int .i64 i.b, .int .i64 i.c, .int .i64 i.imm, .slice ua i.args.length qa] 29)) (.cells #[.int .i64 0, .int .i64 0, .int .i64 0, .int .i64 0, .int .i64 0, .int .i64 0, .slice none 0 0] 29)
  rw [e1] at h2
  exact ⟨(Below.heap_alloc _ _ _ (by rw [e1]; omega)).trans h1, h2, ((Below.refl _ _).alloc (Nat.le_refl _) _).alloc (by rw [e1]; omega) _⟩
theorem two_cases {x y B0 A0 B1 A1 : Bool} (hxy : ¬ (x = true ∧ y = true)) (nb : ¬ (B0 = true ∧ B1 = true)) (na : ¬ (A0 = true ∧ A1 = true)) :
    (x = false ∧ y = false) ∨ (x = false ∧ y = true ∧ B0 = true ∧ B1 = false) ∨ (x = false ∧ y = true ∧ B0 = false ∧ B1 = true) ∨ (x = false ∧ y = true ∧ B0 = false ∧ B1 = false) ∨ (x = true ∧ y = false ∧ A0 = true ∧ A1 = false) ∨ (x = true ∧ y = false ∧ A0 = false ∧ A1 = true) ∨ (x = true ∧ y = false ∧ A0 = false ∧ A1 = false) := by
  cases x <;> cases y <;> cases B0 <;> cases B1 <;> cases A0 <;> cases A1 <;> simp_all
end Go.Proofs.YtoknhppjdmoblaaGreatDoor
