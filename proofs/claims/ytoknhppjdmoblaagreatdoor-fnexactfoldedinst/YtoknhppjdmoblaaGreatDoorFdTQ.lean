/- Folding an instruction: the model's l9Fold, pure. -/
import Derived.Test.YtoknhppjdmoblaaGreatDoorFdPQ
namespace Go.Proofs.YtoknhppjdmoblaaGreatDoor
open Go.RowKit
set_option linter.unusedVariables false
theorem inSv (n lo hi : Int) (v : Bool) (w : World) (h : (decide (lo ≤ n) && decide (n ≤ hi)) = v) : Calls Tryz.prog 69 #[.int .i64 n, .int .i64 lo, .int .i64 hi] w fun e w' => e = .returned (.bool v) ∧ w' = w := by
  rw [← h]; exact inS n lo hi w
theorem isC_known {d : FuncD} {id x : Int} {b : Bool} (h : KnownC (constF d id) x b) (v : Int) : isC d id v = (b && x == v) := by
  unfold isC
  rcases h with ⟨h1, h2⟩ | ⟨h1, h2, h3⟩
  · rw [h1, h2]; simp
  · rw [h1, h2]; simp
theorem f_const {d : FuncD} {i : InstD} {x y : Int} (ho : opB i.op = true) (h1 : constF d i.a = some x) (h2 : constF d i.b = some y) (h3 : binC i.op i.w x y = 0) : constD (instW i) (binZ i.op i.w x y) = foldF d i := by
  unfold foldF; rw [if_pos ho, h1, h2]; simp only [if_pos h3]
theorem f_zero {d : FuncD} {i : InstD} {x y : Int} (ho : opB i.op = true) (h1 : constF d i.a = some x) (h2 : constF d i.b = some y) (h3 : ¬ binC i.op i.w x y = 0) : i = foldF d i := by
  unfold foldF; rw [if_pos ho, h1, h2]; simp only [if_neg h3]
theorem f_pick {d : FuncD} {i : InstD} {a b : Int} {x y NE : Bool} (ho : opB i.op = true) (h1 : KnownC (constF d i.a) a x) (h2 : KnownC (constF d i.b) b y) (hn : ¬ (x = true ∧ y = true)) (hE : (i.a != i.b) = NE) : pickD i (twoC i.op (y && (b == 0)) (x && (a == 0)) (y && (b == 1)) (x && (a == 1)) (!NE)) = foldF d i := by
  have e : decide (i.a = i.b) = !NE := by rw [← hE]; by_cases k : i.a = i.b <;> simp [k]
  unfold foldF
  rw [if_pos ho, ← isC_known h1, ← isC_known h1, ← isC_known h2, ← isC_known h2, e]
  rcases h1 with ⟨p1, p2⟩ | ⟨p1, p2, p3⟩
  · rcases h2 with ⟨q1, q2⟩ | ⟨q1, q2, q3⟩
    · exact absurd ⟨p1, q1⟩ hn
    · rw [p2, q2]
  · rw [p2]
theorem f_cast {d : FuncD} {i : InstD} {x : Int} (ho : opB i.op = false) (hc : i.op = 18 ∨ i.op = 19 ∨ i.op = 20) (h1 : constF d i.a = some x) (h3 : castB i.op (typeF d i.a) i.w x = true) : constD i.w (castZ i.op (typeF d i.a) i.w x) = foldF d i := by
  unfold foldF; rw [if_neg (by rw [ho]; decide), if_pos hc, h1]; simp only [if_pos h3]
theorem f_cast_no {d : FuncD} {i : InstD} {x : Int} (ho : opB i.op = false) (hc : i.op = 18 ∨ i.op = 19 ∨ i.op = 20) (h1 : constF d i.a = some x) (h3 : castB i.op (typeF d i.a) i.w x = false) : i = foldF d i := by
  unfold foldF; rw [if_neg (by rw [ho]; decide), if_pos hc, h1]; simp [h3]
theorem f_cast_un {d : FuncD} {i : InstD} (ho : opB i.op = false) (hc : i.op = 18 ∨ i.op = 19 ∨ i.op = 20) (h1 : constF d i.a = none) : i = foldF d i := by
  unfold foldF; rw [if_neg (by rw [ho]; decide), if_pos hc, h1]
theorem f_sel {d : FuncD} {i : InstD} (h22 : i.op = 22) : foldF d i = (if isC d i.a 1 = true ∨ i.b = i.c then copyD i.w i.b else if (constF d i.a).isSome = true then copyD i.w i.c else i) := by
  unfold foldF; rw [if_neg (by simp [opB]; omega), if_neg (by omega), if_pos h22]
theorem f_copy {d : FuncD} {i : InstD} (h27 : i.op = 27) : foldF d i = (match constF d i.a with
    | some v => if valueB i.w v = true then constD i.w v else i
    | none => i) := by
  unfold foldF; rw [if_neg (by simp [opB]; omega), if_neg (by omega), if_neg (by omega), if_pos h27]; rfl
theorem f_other {d : FuncD} {i : InstD} (ho : opB i.op = false) (hc : ¬ (i.op = 18 ∨ i.op = 19 ∨ i.op = 20)) (h22 : ¬ i.op = 22) (h27 : ¬ i.op = 27) : i = foldF d i := by
  unfold foldF; rw [if_neg (by rw [ho]; decide), if_neg hc, if_neg h22, if_neg h27]
theorem f_sel1 {d : FuncD} {i : InstD} (h22 : i.op = 22) (h : isC d i.a 1 = true ∨ i.b = i.c) : copyD i.w i.b = foldF d i := by rw [f_sel h22, if_pos h]
theorem f_sel2 {d : FuncD} {i : InstD} (h22 : i.op = 22) (h : ¬ (isC d i.a 1 = true ∨ i.b = i.c)) (h1 : (constF d i.a).isSome = true) : copyD i.w i.c = foldF d i := by rw [f_sel h22, if_neg h, if_pos h1]
theorem f_sel3 {d : FuncD} {i : InstD} (h22 : i.op = 22) (h : ¬ (isC d i.a 1 = true ∨ i.b = i.c)) (h1 : constF d i.a = none) : i = foldF d i := by rw [f_sel h22, if_neg h, h1]; rfl
theorem f_copy1 {d : FuncD} {i : InstD} {v : Int} (h27 : i.op = 27) (h1 : constF d i.a = some v) (h2 : valueB i.w v = true) : constD i.w v = foldF d i := by rw [f_copy h27, h1]; simp [h2]
theorem f_copy2 {d : FuncD} {i : InstD} {v : Int} (h27 : i.op = 27) (h1 : constF d i.a = some v) (h2 : valueB i.w v = false) : i = foldF d i := by rw [f_copy h27, h1]; simp [h2]
theorem f_copy3 {d : FuncD} {i : InstD} (h27 : i.op = 27) (h1 : constF d i.a = none) : i = foldF d i := by rw [f_copy h27, h1]
theorem below_same {P : Program} {f : FuncId} {args : Array Value} {w : World} {v : Value} (h : Calls P f args w fun e w' => e = .returned v ∧ w' = w) : Calls P f args w fun e w' => e = .returned v ∧ Below w.heap.size w w' :=
  h.mono fun _ w' ⟨he, hb⟩ => ⟨he, by rw [hb]; exact Below.refl _ _⟩
end Go.Proofs.YtoknhppjdmoblaaGreatDoor
