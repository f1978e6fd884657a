/- Folding an instruction: without a program. -/
import Derived.Test.YtoknhppjdmoblaaGreatDoorKndQ
import Derived.Test.YtoknhppjdmoblaaGreatDoorRulQ
import Derived.Test.YtoknhppjdmoblaaGreatDoorFmAQ
import Derived.Test.YtoknhppjdmoblaaGreatDoorFmDQ
import Derived.Test.YtoknhppjdmoblaaGreatDoorArrQ
namespace Go.Proofs.YtoknhppjdmoblaaGreatDoor
open Go.RowKit
set_option linter.unusedVariables false

def constD (w v : Int) : InstD := ⟨21, w, 0, 0, 0, v, []⟩
def copyD (w a : Int) : InstD := ⟨27, w, a, 0, 0, 0, []⟩
def isC (d : FuncD) (id v : Int) : Bool := constF d id == some v
/-- Which: 0 as it was, 1 a copy of the first operand, 2 of the second, 3 nought, 4 one. -/
def twoC (op : Int) (b0 a0 b1 a1 e : Bool) : Nat :=
  if b0 && (op == 1 || op == 2 || op == 9 || op == 10 || op == 11 || op == 12 || op == 13) then 1
  else if a0 && (op == 1 || op == 9 || op == 10) then 2
  else if b1 && (op == 3 || op == 4) then 1
  else if a1 && op == 3 then 2
  else if (op == 3 || op == 8) && (a0 || b0) then 3
  else if !e then 0
  else if op == 2 || op == 10 || op == 15 || op == 16 || op == 17 then 3
  else if op == 14 then 4
  else if op == 8 || op == 9 then 1
  else 0
def oneC (op : Int) (b0 a0 b1 a1 : Bool) : Nat :=
  if op == 1 || op == 9 || op == 10 then (if b0 then 1 else if a0 then 2 else 0)
  else if op == 2 || op == 11 || op == 12 || op == 13 then (if b0 then 1 else 0)
  else if op == 4 then (if b1 then 1 else 0)
  else if op == 3 then (if b1 then 1 else if a1 then 2 else if a0 || b0 then 3 else 0)
  else if op == 8 then (if a0 || b0 then 3 else 0)
  else 0
def idC (op : Int) (e : Bool) : Nat :=
  if !e then 0
  else if op == 2 || op == 10 || op == 15 || op == 16 || op == 17 then 3
  else if op == 14 then 4
  else if op == 8 || op == 9 then 1
  else 0
def pickD (i : InstD) : Nat → InstD
  | 1 => copyD (instW i) i.a
  | 2 => copyD (instW i) i.b
  | 3 => constD (instW i) 0
  | 4 => constD (instW i) 1
  | _ => i
theorem two_rules {op : Int} (h : opB op = true) (b0 a0 b1 a1 e : Bool) : twoC op b0 a0 b1 a1 e = (if oneC op b0 a0 b1 a1 = 0 then idC op e else oneC op b0 a0 b1 a1) := by
  obtain ⟨h1, h2⟩ := op_yes h
  obtain ⟨n, rfl⟩ : ∃ n : Nat, op = n := ⟨op.toNat, by omega⟩
  have h3 : n = 1 ∨ n = 2 ∨ n = 3 ∨ n = 4 ∨ n = 5 ∨ n = 6 ∨ n = 7 ∨ n = 8 ∨ n = 9 ∨ n = 10 ∨ n = 11 ∨ n = 12 ∨ n = 13 ∨ n = 14 ∨ n = 15 ∨ n = 16 ∨ n = 17 := by omega
  rcases h3 with rfl | rfl | rfl | rfl | rfl | rfl | rfl | rfl | rfl | rfl | rfl | rfl | rfl | rfl | rfl | rfl | rfl <;>
    cases b0 <;> cases a0 <;> cases b1 <;> cases a1 <;> cases e <;> rfl
/-- The rules, one by one. -/
def rule1 (d : FuncD) (i : InstD) : Option InstD := if opB i.op = true then (match constF d i.a, constF d i.b with
  | some x, some y => if binC i.op i.w x y = 0 then some (constD (instW i) (binZ i.op i.w x y)) else some i
  | _, _ => none) else none
def ruleN (i : InstD) (n : Nat) : Option InstD := if n = 0 then none else some (pickD i n)
def rule2 (d : FuncD) (i : InstD) : Option InstD := ruleN i (oneC i.op (isC d i.b 0) (isC d i.a 0) (isC d i.b 1) (isC d i.a 1))
def rule3 (d : FuncD) (i : InstD) : Option InstD := ruleN i (idC i.op (decide (i.a = i.b)))
def rule4 (d : FuncD) (i : InstD) : Option InstD := match constF d i.a with
  | some v => if castB i.op (typeF d i.a) i.w v = true then some (constD (instW i) (castZ i.op (typeF d i.a) i.w v)) else none
  | none => none
def rule5 (d : FuncD) (i : InstD) : Option InstD := if i.op = 22 then (if isC d i.a 1 = true ∨ i.b = i.c then some (copyD (instW i) i.b) else if (constF d i.a).isSome = true then some (copyD (instW i) i.c) else none) else none
def rule6 (d : FuncD) (i : InstD) : Option InstD := match constF d i.a with
  | some v => if i.op = 27 ∧ valueB i.w v = true then some (constD (instW i) v) else none
  | none => none
def ruleK (d : FuncD) (i : InstD) : Nat → Option InstD
  | 0 => rule1 d i
  | 1 => rule2 d i
  | 2 => rule3 d i
  | 3 => rule4 d i
  | 4 => rule5 d i
  | 5 => rule6 d i
  | _ => none
/-- By the first rule that fits, from the k-th on. -/
def byFrom (d : FuncD) (i : InstD) : Nat → Nat → InstD
  | _, 0 => i
  | k, n + 1 => match ruleK d i k with
    | some r => r
    | none => byFrom d i (k + 1) n
def foldP (d : FuncD) (i : InstD) : InstD := byFrom d i 0 6
/-- As the model has it. -/
def foldF (d : FuncD) (i : InstD) : InstD :=
  if opB i.op = true then (match constF d i.a, constF d i.b with
    | some x, some y => if binC i.op i.w x y = 0 then constD (instW i) (binZ i.op i.w x y) else i
    | _, _ => pickD i (twoC i.op (isC d i.b 0) (isC d i.a 0) (isC d i.b 1) (isC d i.a 1) (decide (i.a = i.b))))
  else if i.op = 18 ∨ i.op = 19 ∨ i.op = 20 then (match constF d i.a with
    | some v => if castB i.op (typeF d i.a) i.w v = true then constD i.w (castZ i.op (typeF d i.a) i.w v) else i
    | none => i)
  else if i.op = 22 then (if isC d i.a 1 = true ∨ i.b = i.c then copyD i.w i.b else if (constF d i.a).isSome = true then copyD i.w i.c else i)
  else if i.op = 27 then (match constF d i.a with
    | some v => if valueB i.w v = true then constD i.w v else i
    | none => i)
  else i
theorem cast_no {op f t v : Int} (h : ¬ (op = 18 ∨ op = 19 ∨ op = 20)) : castB op f t v = false := by
  unfold castB
  have h1 : ¬ (op = 18 ∧ f < t) := fun k => h (.inl k.1)
  have h2 : ¬ (op = 19 ∧ f < t) := fun k => h (.inr (.inl k.1))
  have h3 : ¬ (op = 20 ∧ t < f) := fun k => h (.inr (.inr k.1))
  rw [decide_eq_false h1, decide_eq_false h2, decide_eq_false h3]
  simp
theorem one_no {op : Int} (h : opB op = false) (b0 a0 b1 a1 : Bool) : oneC op b0 a0 b1 a1 = 0 := by
  have h1 : ¬ (1 ≤ op ∧ op ≤ 17) := by simpa [opB] using h
  unfold oneC
  have n1 : (op == 1) = false := by simp; omega
  have n2 : (op == 2) = false := by simp; omega
  have n3 : (op == 3) = false := by simp; omega
  have n4 : (op == 4) = false := by simp; omega
  have n8 : (op == 8) = false := by simp; omega
  have n9 : (op == 9) = false := by simp; omega
  have n10 : (op == 10) = false := by simp; omega
  have n11 : (op == 11) = false := by simp; omega
  have n12 : (op == 12) = false := by simp; omega
  have n13 : (op == 13) = false := by simp; omega
  simp [n1, n2, n3, n4, n8, n9, n10, n11, n12, n13]
theorem id_no {op : Int} (h : opB op = false) (e : Bool) : idC op e = 0 := by
  have h1 : ¬ (1 ≤ op ∧ op ≤ 17) := by simpa [opB] using h
  unfold idC
  have n2 : (op == 2) = false := by simp; omega
  have n8 : (op == 8) = false := by simp; omega
  have n9 : (op == 9) = false := by simp; omega
  have n10 : (op == 10) = false := by simp; omega
  have n14 : (op == 14) = false := by simp; omega
  have n15 : (op == 15) = false := by simp; omega
  have n16 : (op == 16) = false := by simp; omega
  have n17 : (op == 17) = false := by simp; omega
  simp [n2, n8, n9, n10, n14, n15, n16, n17]
theorem fold_same (d : FuncD) (i : InstD) : foldP d i = foldF d i := by
  unfold foldP
  by_cases ho : opB i.op = true
  · have hn : ¬ (i.op = 18 ∨ i.op = 19 ∨ i.op = 20) := by have := op_yes ho; omega
    have hn2 : ¬ i.op = 22 := by have := op_yes ho; omega
    have hn3 : ¬ i.op = 27 := by have := op_yes ho; omega
    have r4 : rule4 d i = none := by
      unfold rule4
      split
      · rw [cast_no hn]; rfl
      · rfl
    have r5 : rule5 d i = none := by unfold rule5; rw [if_neg hn2]
    have r6 : rule6 d i = none := by
      unfold rule6
      split
      · rw [if_neg (fun k => hn3 k.1)]
      · rfl
    have tail : byFrom d i 1 5 = pickD i (twoC i.op (isC d i.b 0) (isC d i.a 0) (isC d i.b 1) (isC d i.a 1) (decide (i.a = i.b))) := by
      rw [two_rules ho]
      simp only [byFrom, ruleK, r4, r5, r6, rule2, rule3, ruleN]
      by_cases h1 : oneC i.op (isC d i.b 0) (isC d i.a 0) (isC d i.b 1) (isC d i.a 1) = 0
      · rw [if_pos h1, if_pos h1]
        by_cases h2 : idC i.op (decide (i.a = i.b)) = 0
        · rw [if_pos h2, h2]; rfl
        · rw [if_neg h2]
      · rw [if_neg h1, if_neg h1]
    show (match rule1 d i with | some r => r | none => byFrom d i 1 5) = _
    rw [tail]
    unfold rule1 foldF
    rw [if_pos ho, if_pos ho]
    cases constF d i.a with
    | none => rfl
    | some x =>
      cases constF d i.b with
      | none => rfl
      | some y =>
        by_cases hb : binC i.op i.w x y = 0
        · simp only [if_pos hb]
        · simp only [if_neg hb]
  · have ho' : opB i.op = false := by simpa using ho
    have r1 : rule1 d i = none := by unfold rule1; rw [if_neg ho]
    have r2 : rule2 d i = none := by unfold rule2; rw [one_no ho']; rfl
    have r3 : rule3 d i = none := by unfold rule3; rw [id_no ho']; rfl
    have hw : instW i = i.w := by unfold instW; rw [if_neg ho]
    simp only [byFrom, ruleK, r1, r2, r3]
    unfold foldF
    rw [if_neg ho]
    by_cases hc : i.op = 18 ∨ i.op = 19 ∨ i.op = 20
    · rw [if_pos hc]
      have r5 : rule5 d i = none := by unfold rule5; rw [if_neg (by omega)]
      have r6 : rule6 d i = none := by
        unfold rule6
        split
        · rw [if_neg (fun k => by have := k.1; omega)]
        · rfl
      rw [r5, r6]
      unfold rule4
      rw [hw]
      cases constF d i.a with
      | none => rfl
      | some v =>
        by_cases hb : castB i.op (typeF d i.a) i.w v = true
        · simp only [if_pos hb]
        · simp only [if_neg hb]
    · rw [if_neg hc]
      have r4 : rule4 d i = none := by
        unfold rule4
        split
        · rw [cast_no hc]; rfl
        · rfl
      rw [r4]
      by_cases h22 : i.op = 22
      · rw [if_pos h22]
        have r6 : rule6 d i = none := by
          unfold rule6
          split
          · rw [if_neg (fun k => by have := k.1; omega)]
          · rfl
        rw [r6]
        unfold rule5
        rw [if_pos h22, hw]
        by_cases h1 : isC d i.a 1 = true ∨ i.b = i.c
        · simp only [if_pos h1]
        · simp only [if_neg h1]
          by_cases h2 : (constF d i.a).isSome = true
          · simp only [if_pos h2]
          · simp only [if_neg h2]
      · rw [if_neg h22]
        have r5 : rule5 d i = none := by unfold rule5; rw [if_neg h22]
        rw [r5]
        unfold rule6
        rw [hw]
        by_cases h27 : i.op = 27
        · rw [if_pos h27]
          cases constF d i.a with
          | none => rfl
          | some v =>
            by_cases hb : valueB i.w v = true
            · simp only [if_pos hb, if_pos (And.intro h27 hb)]
            · simp only [if_neg hb, if_neg (fun k : i.op = 27 ∧ valueB i.w v = true => hb k.2)]
        · rw [if_neg h27]
          cases constF d i.a with
          | none => rfl
          | some v => simp only [if_neg (fun k : i.op = 27 ∧ valueB i.w v = true => h27 k.1)]
end Go.Proofs.YtoknhppjdmoblaaGreatDoor
namespace Go.Proofs.YtoknhppjdmoblaaGreatDoor
open Go.RowKit
set_option linter.unusedVariables false

/-- Numbers that are of their kind. -/
structure ISm (i : InstD) : Prop where
  a : i.a ≤ 9223372036854775807
  b : i.b ≤ 9223372036854775807
  c : i.c ≤ 9223372036854775807
structure FoBox (d : FuncD) (i : InstD) (u0 : Option Addr) (c0 : Nat) (u2 : Option Addr) (c2 : Nat) (ua : Option Addr) (qa : Nat) (w w1 : World) : Prop where
  a0 : w1.cell? ⟨w.heap.size, 0, none⟩ = some (.slice u0 d.params.length c0)
  a1 : w1.cell? ⟨w.heap.size, 1, none⟩ = some (.int .i64 d.ret)
  a2 : w1.cell? ⟨w.heap.size, 2, none⟩ = some (.slice u2 d.blocks.length c2)
  a3 : w1.cell? ⟨w.heap.size, 3, none⟩ = some (.int .i64 i.op)
  a4 : w1.cell? ⟨w.heap.size, 4, none⟩ = some (.int .i64 i.w)
  a5 : w1.cell? ⟨w.heap.size, 5, none⟩ = some (.int .i64 i.a)
  a6 : w1.cell? ⟨w.heap.size, 6, none⟩ = some (.int .i64 i.b)
  a7 : w1.cell? ⟨w.heap.size, 7, none⟩ = some (.int .i64 i.c)
  a8 : w1.cell? ⟨w.heap.size, 8, none⟩ = some (.int .i64 i.imm)
  a9 : w1.cell? ⟨w.heap.size, 9, none⟩ = some (.slice ua i.args.length qa)
  below : Below w.heap.size w w1
  size : w.heap.size + 1 ≤ w1.heap.size
theorem FoBox.keep {d : FuncD} {i : InstD} {u0 u2 ua : Option Addr} {c0 c2 qa : Nat} {w w1 w2 : World} (h : FoBox d i u0 c0 u2 c2 ua qa w w1) (k : Below w1.heap.size w1 w2) : FoBox d i u0 c0 u2 c2 ua qa w w2 := by
  have hz := h.size
  have hb : w2.heap[w.heap.size]? = w1.heap[w.heap.size]? := k.block _ (by omega)
  exact ⟨(cell_block hb).trans h.a0, (cell_block hb).trans h.a1, (cell_block hb).trans h.a2, (cell_block hb).trans h.a3, (cell_block hb).trans h.a4, (cell_block hb).trans h.a5, (cell_block hb).trans h.a6, (cell_block hb).trans h.a7, (cell_block hb).trans h.a8, (cell_block hb).trans h.a9, h.below.trans (k.mono (by omega)), Nat.le_trans hz k.size⟩
theorem FoBox.start {d : FuncD} {i : InstD} {u0 u2 ua : Option Addr} {c0 c2 qa : Nat} {w : World} {T : TypeId} : FoBox d i u0 c0 u2 c2 ua qa w (w.alloc (.cells #[.slice u0 d.params.length c0, .int .i64 d.ret, .slice u2 d.blocks.length c2, .int .i64 i.op, .int .i64 i.w, .int .i64 i.a, .int .i64 i.b, .int .i64 i.c, .int .i64 i.imm, .slice ua i.args.length qa] T)) := by
  have hb := heap_alloc_last w (.cells #[.slice u0 d.params.length c0, .int .i64 d.ret, .slice u2 d.blocks.length c2, .int .i64 i.op, .int .i64 i.w, .int .i64 i.a, .int .i64 i.b, .int .i64 i.c, .int .i64 i.imm, .slice ua i.args.length qa] T)
  exact ⟨(cell_of_heap hb).trans rfl, (cell_of_heap hb).trans rfl, (cell_of_heap hb).trans rfl, (cell_of_heap hb).trans rfl, (cell_of_heap hb).trans rfl, (cell_of_heap hb).trans rfl, (cell_of_heap hb).trans rfl, (cell_of_heap hb).trans rfl, (cell_of_heap hb).trans rfl, (cell_of_heap hb).trans rfl, (Below.refl _ _).alloc (Nat.le_refl _) _, by simp⟩
theorem heap_two2 (w : World) (o p : Obj) : ((w.alloc o).alloc p).heap[w.heap.size + 1]? = some p := by
  have h := heap_alloc_last (w.alloc o) p
  have e : (w.alloc o).heap.size = w.heap.size + 1 := by simp
  rw [e] at h
  exact h
/-- The box and the answer's cell. -/
structure Fo2 (d : FuncD) (i : InstD) (u0 : Option Addr) (c0 : Nat) (u2 : Option Addr) (c2 : Nat) (ua : Option Addr) (qa : Nat) (w w1 : World) : Prop where
  f : FoBox d i u0 c0 u2 c2 ua qa w w1
  r : w1.heap[w.heap.size + 1]? = some (.cells #[.int .i64 0, .int .i64 0, .int .i64 0, .int .i64 0, .int .i64 0, .int .i64 0, .slice none 0 0] 29 (0, 0))
theorem Fo2.keep {d : FuncD} {i : InstD} {u0 u2 ua : Option Addr} {c0 c2 qa : Nat} {w w1 w2 : World} (h : Fo2 d i u0 c0 u2 c2 ua qa w w1) (k : Below w1.heap.size w1 w2) : Fo2 d i u0 c0 u2 c2 ua qa w w2 :=
  ⟨h.f.keep k, (k.block _ (Array.getElem?_eq_some_iff.1 h.r).1).trans h.r⟩
theorem Fo2.start {d : FuncD} {i : InstD} {u0 u2 ua : Option Addr} {c0 c2 qa : Nat} {w : World} : Fo2 d i u0 c0 u2 c2 ua qa w ((w.alloc (.cells #[.slice u0 d.params.length c0, .int .i64 d.ret, .slice u2 d.blocks.length c2, .int .i64 i.op, .int .i64 i.w, .int .i64 i.a, .int .i64 i.b, .int .i64 i.c, .int .i64 i.imm, .slice ua i.args.length qa] 73)).alloc (.cells #[.int .i64 0, .int .i64 0, .int .i64 0, .int .i64 0, .int .i64 0, .int .i64 0, .slice none 0 0] 29)) :=
  ⟨FoBox.start.keep ((Below.refl _ _).alloc (Nat.le_refl _) _), heap_two2 _ _ _⟩
theorem Fo2.froz {d : FuncD} {i : InstD} {u0 u2 ua : Option Addr} {c0 c2 qa : Nat} {w w1 : World} (h : Fo2 d i u0 c0 u2 c2 ua qa w w1) (o : Nat) : w1.frozen? ⟨w.heap.size + 1, o, none⟩ = false := froz_of_heap h.r
theorem Fo2.cell {d : FuncD} {i : InstD} {u0 u2 ua : Option Addr} {c0 c2 qa : Nat} {w w1 : World} (h : Fo2 d i u0 c0 u2 c2 ua qa w w1) :
    w1.cell? ⟨w.heap.size + 1, 0, none⟩ = some (.int .i64 0) ∧ w1.cell? ⟨w.heap.size + 1, 1, none⟩ = some (.int .i64 0) ∧ w1.cell? ⟨w.heap.size + 1, 2, none⟩ = some (.int .i64 0) ∧ w1.cell? ⟨w.heap.size + 1, 3, none⟩ = some (.int .i64 0) ∧ w1.cell? ⟨w.heap.size + 1, 4, none⟩ = some (.int .i64 0) ∧ w1.cell? ⟨w.heap.size + 1, 5, none⟩ = some (.int .i64 0) ∧ w1.cell? ⟨w.heap.size + 1, 6, none⟩ = some (.slice none 0 0) :=
  ⟨(cell_of_heap h.r).trans rfl, (cell_of_heap h.r).trans rfl, (cell_of_heap h.r).trans rfl, (cell_of_heap h.r).trans rfl, (cell_of_heap h.r).trans rfl, (cell_of_heap h.r).trans rfl, (cell_of_heap h.r).trans rfl⟩
set_option maxHeartbeats 4000000 in
set_option maxRecDepth 100000 in
theorem isI (lo : Nat) (d : FuncD) (i : InstD) (u0 : Option Addr) (c0 : Nat) (u2 : Option Addr) (c2 : Nat) (ua : Option Addr) (qa : Nat) (id v : Int) (w : World) (hs : SmFunc d) (k2 : BlocksAt w lo u2 d.blocks) (hid : id ≤ 9223372036854775807) :
    Calls Tryz.prog 101 #[.agg #[.slice u0 d.params.length c0, .int .i64 d.ret, .slice u2 d.blocks.length c2, .int .i64 i.op, .int .i64 i.w, .int .i64 i.a, .int .i64 i.b, .int .i64 i.c, .int .i64 i.imm, .slice ua i.args.length qa], .int .i64 id, .int .i64 v] w fun e w' => e = .returned (.bool (isC d id v)) ∧ Below w.heap.size w w' := by
  have F0 := FoBox.start (d := d) (i := i) (u0 := u0) (u2 := u2) (ua := ua) (c0 := c0) (c2 := c2) (qa := qa) (w := w) (T := 73)
  have P := constI_any lo d u0 c0 u2 c2 id _ hs (k2.keep (agree_of_below F0.below lo)) hid
  have x0 := F0.a0
  have x1 := F0.a1
  have x2 := F0.a2
  have HF0 : Hid (FoBox d i u0 c0 u2 c2 ua qa w _) := F0
  clear F0 hs k2
  go_enter Tryz.func101, Tryz.ntmps101
  go_wp2_with fail
  refine P.mono ?_
  rintro e w1 ⟨h1, b1⟩
  have HB : Hid (Below w.heap.size w w1) := (HF0.out.keep b1).below
  cases hc : constF d id with
  | none =>
    rw [hc] at h1
    have h2 : e = .returned (.tuple #[.int .i64 0, .bool false]) := h1
    subst h2
    have E : Hid (false = isC d id v) := by show _ = _; unfold isC; rw [hc]; rfl
    go_wp2_with fail
    go_ret
    exact ⟨ret_bool E.out, HB.out⟩
  | some x =>
    rw [hc] at h1
    have h2 : e = .returned (.tuple #[.int .i64 x, .bool true]) := h1
    subst h2
    have E : Hid ((x == v) = isC d id v) := by show _ = _; unfold isC; rw [hc]; rfl
    go_wp2_with fail
    go_ret
    exact ⟨ret_bool E.out, HB.out⟩
set_option maxHeartbeats 4000000 in
set_option maxRecDepth 100000 in
theorem constI (d : FuncD) (i : InstD) (u0 : Option Addr) (c0 : Nat) (u2 : Option Addr) (c2 : Nat) (ua : Option Addr) (qa : Nat) (v : Int) (w : World) :
    Calls Tryz.prog 99 #[.agg #[.slice u0 d.params.length c0, .int .i64 d.ret, .slice u2 d.blocks.length c2, .int .i64 i.op, .int .i64 i.w, .int .i64 i.a, .int .i64 i.b, .int .i64 i.c, .int .i64 i.imm, .slice ua i.args.length qa], .int .i64 v] w fun e w' => e = .returned (.agg #[.int .i64 21, .int .i64 (instW i), .int .i64 0, .int .i64 0, .int .i64 0, .int .i64 v, .slice none 0 0]) ∧ Below w.heap.size w w' := by
  have F0 := Fo2.start (d := d) (i := i) (u0 := u0) (u2 := u2) (ua := ua) (c0 := c0) (c2 := c2) (qa := qa) (w := w)
  have x3 := F0.f.a3
  have x4 := F0.f.a4
  have x5 := F0.f.a5
  have x6 := F0.f.a6
  have x7 := F0.f.a7
  have x8 := F0.f.a8
  have x9 := F0.f.a9
  have HF0 : Hid (Fo2 d i u0 c0 u2 c2 ua qa w _) := F0
  clear F0
  go_enter Tryz.func99, Tryz.ntmps99
  go_wp2_with fail
  refine (instI_any i ua qa _).mono ?_
  rintro e w1 ⟨rfl, b1⟩
  have F1 := HF0.out.keep b1
  obtain ⟨r0, r1, r2, r3, r4, r5, r6⟩ := F1.cell
  have rf := F1.froz
  have HF1 : Hid (Fo2 d i u0 c0 u2 c2 ua qa w w1) := F1
  clear F1 b1
  go_wp2_with fail
  have hr := (heap_set (o := 6) (v := .slice none 0 0) (heap_set (o := 5) (v := .int .i64 v) (heap_set (o := 4) (v := .int .i64 0) (heap_set (o := 3) (v := .int .i64 0) (heap_set (o := 2) (v := .int .i64 0) (heap_set (o := 1) (v := .int .i64 (instW i)) (heap_set (o := 0) (v := .int .i64 21) HF1.out.r)))))))
  refine bodyPost_ret (v := .agg #[.int .i64 21, .int .i64 (instW i), .int .i64 0, .int .i64 0, .int .i64 0, .int .i64 v, .slice none 0 0]) ((results_cell_row Tryz.results99 _ _ (w.heap.size + 1) 29 _ (0, 0) _ rfl hr Tryz.underlying29 rfl (by kernel_rfl)).trans (by rfl)) rfl ⟨rfl, ?_⟩
  exact (by repeat (first | refine Below.setCell ?_ (by dsimp only; omega) _ | exact HF1.out.f.below))
set_option maxHeartbeats 4000000 in
set_option maxRecDepth 100000 in
theorem copyOfI (d : FuncD) (i : InstD) (u0 : Option Addr) (c0 : Nat) (u2 : Option Addr) (c2 : Nat) (ua : Option Addr) (qa : Nat) (v : Int) (w : World) :
    Calls Tryz.prog 103 #[.agg #[.slice u0 d.params.length c0, .int .i64 d.ret, .slice u2 d.blocks.length c2, .int .i64 i.op, .int .i64 i.w, .int .i64 i.a, .int .i64 i.b, .int .i64 i.c, .int .i64 i.imm, .slice ua i.args.length qa], .int .i64 v] w fun e w' => e = .returned (.agg #[.int .i64 27, .int .i64 (instW i), .int .i64 v, .int .i64 0, .int .i64 0, .int .i64 0, .slice none 0 0]) ∧ Below w.heap.size w w' := by
  have F0 := Fo2.start (d := d) (i := i) (u0 := u0) (u2 := u2) (ua := ua) (c0 := c0) (c2 := c2) (qa := qa) (w := w)
  have x3 := F0.f.a3
  have x4 := F0.f.a4
  have x5 := F0.f.a5
  have x6 := F0.f.a6
  have x7 := F0.f.a7
  have x8 := F0.f.a8
  have x9 := F0.f.a9
  have HF0 : Hid (Fo2 d i u0 c0 u2 c2 ua qa w _) := F0
  clear F0
  go_enter Tryz.func103, Tryz.ntmps103
  go_wp2_with fail
  refine (instI_any i ua qa _).mono ?_
  rintro e w1 ⟨rfl, b1⟩
  have F1 := HF0.out.keep b1
  obtain ⟨r0, r1, r2, r3, r4, r5, r6⟩ := F1.cell
  have rf := F1.froz
  have HF1 : Hid (Fo2 d i u0 c0 u2 c2 ua qa w w1) := F1
  clear F1 b1
  go_wp2_with fail
  have hr := (heap_set (o := 6) (v := .slice none 0 0) (heap_set (o := 5) (v := .int .i64 0) (heap_set (o := 4) (v := .int .i64 0) (heap_set (o := 3) (v := .int .i64 0) (heap_set (o := 2) (v := .int .i64 v) (heap_set (o := 1) (v := .int .i64 (instW i)) (heap_set (o := 0) (v := .int .i64 27) HF1.out.r)))))))
  refine bodyPost_ret (v := .agg #[.int .i64 27, .int .i64 (instW i), .int .i64 v, .int .i64 0, .int .i64 0, .int .i64 0, .slice none 0 0]) ((results_cell_row Tryz.results103 _ _ (w.heap.size + 1) 29 _ (0, 0) _ rfl hr Tryz.underlying29 rfl (by kernel_rfl)).trans (by rfl)) rfl ⟨rfl, ?_⟩
  exact (by repeat (first | refine Below.setCell ?_ (by dsimp only; omega) _ | exact HF1.out.f.below))
theorem told_none {w : World} {lo : Nat} {e : Ending} {o : Option InstD} (h : o = none) (he : e = .returned (.tuple #[.agg #[.int .i64 0, .int .i64 0, .int .i64 0, .int .i64 0, .int .i64 0, .int .i64 0, .slice none 0 0], .bool false])) : InstTold w lo o e := by subst h; exact he
theorem told_some {w : World} {lo : Nat} {e : Ending} {o : Option InstD} {r : InstD} {u : Option Addr} {q : Nat} (h : o = some r) (hu : IntsAt w lo u r.args) (he : e = .returned (.tuple #[.agg #[.int .i64 r.op, .int .i64 r.w, .int .i64 r.a, .int .i64 r.b, .int .i64 r.c, .int .i64 r.imm, .slice u r.args.length q], .bool true])) : InstTold w lo o e := by subst h; exact ⟨u, q, he, hu⟩
theorem ints_none (w : World) (lo : Nat) : IntsAt w lo none [] := ⟨by simp, .inl rfl⟩
def neuC (la lb : Bool) : Nat := if la then 1 else if lb then 2 else 0
def nouC (d : FuncD) (i : InstD) : Nat := if isC d i.a 0 || isC d i.b 0 then 3 else 0
set_option maxHeartbeats 4000000 in
set_option maxRecDepth 100000 in
theorem neutralI (lo : Nat) (d : FuncD) (i : InstD) (u0 : Option Addr) (c0 : Nat) (u2 : Option Addr) (c2 : Nat) (ua : Option Addr) (qa : Nat) (la lb : Bool) (w : World) :
    Calls Tryz.prog 100 #[.agg #[.slice u0 d.params.length c0, .int .i64 d.ret, .slice u2 d.blocks.length c2, .int .i64 i.op, .int .i64 i.w, .int .i64 i.a, .int .i64 i.b, .int .i64 i.c, .int .i64 i.imm, .slice ua i.args.length qa], .bool la, .bool lb] w fun e w' => InstTold w lo (ruleN i (neuC la lb)) e ∧ Below w.heap.size w w' := by
  have F0 := Fo2.start (d := d) (i := i) (u0 := u0) (u2 := u2) (ua := ua) (c0 := c0) (c2 := c2) (qa := qa) (w := w)
  have x0 := F0.f.a0
  have x1 := F0.f.a1
  have x2 := F0.f.a2
  have x3 := F0.f.a3
  have x4 := F0.f.a4
  have x5 := F0.f.a5
  have x6 := F0.f.a6
  have x7 := F0.f.a7
  have x8 := F0.f.a8
  have x9 := F0.f.a9
  obtain ⟨r0, r1, r2, r3, r4, r5, r6⟩ := F0.cell
  have rf := F0.froz
  have HF0 : Hid (Fo2 d i u0 c0 u2 c2 ua qa w _) := F0
  clear F0
  cases la with
  | true =>
    go_enter Tryz.func100, Tryz.ntmps100
    go_wp2_with fail
    refine (copyOfI d i u0 c0 u2 c2 ua qa i.a _).mono ?_
    rintro e w1 ⟨rfl, b1⟩
    have F1 := HF0.out.keep b1
    clear r0 r1 r2 r3 r4 r5 r6 rf
    obtain ⟨r0, r1, r2, r3, r4, r5, r6⟩ := F1.cell
    have rf := F1.froz
    have HF1 : Hid (Fo2 d i u0 c0 u2 c2 ua qa w w1) := F1
    clear F1 b1
    go_wp2_with fail
    have hr := (heap_set (o := 6) (v := .slice none 0 0) (heap_set (o := 5) (v := .int .i64 0) (heap_set (o := 4) (v := .int .i64 0) (heap_set (o := 3) (v := .int .i64 0) (heap_set (o := 2) (v := .int .i64 i.a) (heap_set (o := 1) (v := .int .i64 (instW i)) (heap_set (o := 0) (v := .int .i64 27) HF1.out.r)))))))
    refine bodyPost_ret (v := .tuple #[.agg #[.int .i64 27, .int .i64 (instW i), .int .i64 i.a, .int .i64 0, .int .i64 0, .int .i64 0, .slice none 0 0], .bool true]) ((results_cell_row_tmp Tryz.results100 _ _ (w.heap.size + 1) _ rfl (run_loadVar_row _ _ 29 _ _ (0, 0) _ hr Tryz.underlying29 rfl (by kernel_rfl))).trans (by rfl)) rfl ⟨told_some (r := copyD (instW i) i.a) (u := none) (q := 0) rfl (ints_none _ _) rfl, ?_⟩
    exact (by repeat (first | refine Below.setCell ?_ (by dsimp only; omega) _ | exact HF1.out.f.below))
  | false =>
    cases lb with
    | true =>
      go_enter Tryz.func100, Tryz.ntmps100
      go_wp2_with fail
      refine (copyOfI d i u0 c0 u2 c2 ua qa i.b _).mono ?_
      rintro e w1 ⟨rfl, b1⟩
      have F1 := HF0.out.keep b1
      clear r0 r1 r2 r3 r4 r5 r6 rf
      obtain ⟨r0, r1, r2, r3, r4, r5, r6⟩ := F1.cell
      have rf := F1.froz
      have HF1 : Hid (Fo2 d i u0 c0 u2 c2 ua qa w w1) := F1
      clear F1 b1
      go_wp2_with fail
      have hr := (heap_set (o := 6) (v := .slice none 0 0) (heap_set (o := 5) (v := .int .i64 0) (heap_set (o := 4) (v := .int .i64 0) (heap_set (o := 3) (v := .int .i64 0) (heap_set (o := 2) (v := .int .i64 i.b) (heap_set (o := 1) (v := .int .i64 (instW i)) (heap_set (o := 0) (v := .int .i64 27) HF1.out.r)))))))
      refine bodyPost_ret (v := .tuple #[.agg #[.int .i64 27, .int .i64 (instW i), .int .i64 i.b, .int .i64 0, .int .i64 0, .int .i64 0, .slice none 0 0], .bool true]) ((results_cell_row_tmp Tryz.results100 _ _ (w.heap.size + 1) _ rfl (run_loadVar_row _ _ 29 _ _ (0, 0) _ hr Tryz.underlying29 rfl (by kernel_rfl))).trans (by rfl)) rfl ⟨told_some (r := copyD (instW i) i.b) (u := none) (q := 0) rfl (ints_none _ _) rfl, ?_⟩
      exact (by repeat (first | refine Below.setCell ?_ (by dsimp only; omega) _ | exact HF1.out.f.below))
    | false =>
      go_enter Tryz.func100, Tryz.ntmps100
      go_wp2_with fail
      refine bodyPost_ret (v := .tuple #[.agg #[.int .i64 0, .int .i64 0, .int .i64 0, .int .i64 0, .int .i64 0, .int .i64 0, .slice none 0 0], .bool false]) ((results_cell_row_tmp Tryz.results100 _ _ (w.heap.size + 1) _ rfl (run_loadVar_row _ _ 29 _ _ (0, 0) _ HF0.out.r Tryz.underlying29 rfl (by kernel_rfl))).trans (by rfl)) rfl ⟨told_none rfl rfl, HF0.out.f.below⟩
set_option maxHeartbeats 4000000 in
set_option maxRecDepth 100000 in
theorem noughtI (lo : Nat) (d : FuncD) (i : InstD) (u0 : Option Addr) (c0 : Nat) (u2 : Option Addr) (c2 : Nat) (ua : Option Addr) (qa : Nat) (w : World) (hs : SmFunc d) (k2 : BlocksAt w lo u2 d.blocks) (hi : ISm i) :
    Calls Tryz.prog 102 #[.agg #[.slice u0 d.params.length c0, .int .i64 d.ret, .slice u2 d.blocks.length c2, .int .i64 i.op, .int .i64 i.w, .int .i64 i.a, .int .i64 i.b, .int .i64 i.c, .int .i64 i.imm, .slice ua i.args.length qa]] w fun e w' => InstTold w lo (ruleN i (nouC d i)) e ∧ Below w.heap.size w w' := by
  have F0 := Fo2.start (d := d) (i := i) (u0 := u0) (u2 := u2) (ua := ua) (c0 := c0) (c2 := c2) (qa := qa) (w := w)
  have IS := fun (id : Int) W (k : Below w.heap.size w W) (h : id ≤ 9223372036854775807) => isI lo d i u0 c0 u2 c2 ua qa id 0 W hs (k2.keep (agree_of_below k lo)) h
  have x0 := F0.f.a0
  have x1 := F0.f.a1
  have x2 := F0.f.a2
  have x3 := F0.f.a3
  have x4 := F0.f.a4
  have x5 := F0.f.a5
  have x6 := F0.f.a6
  have x7 := F0.f.a7
  have x8 := F0.f.a8
  have x9 := F0.f.a9
  have HF0 : Hid (Fo2 d i u0 c0 u2 c2 ua qa w _) := F0
  clear F0 hs k2
  go_enter Tryz.func102, Tryz.ntmps102
  go_wp2_with fail
  refine (IS i.a _ HF0.out.f.below hi.a).mono ?_
  rintro e w1 ⟨rfl, b1⟩
  have HF1 : Hid (Fo2 d i u0 c0 u2 c2 ua qa w w1) := HF0.out.keep b1
  clear x0 x1 x2 x3 x4 x5 x6 x7 x8 x9 b1 HF0
  have x0 := HF1.out.f.a0
  have x1 := HF1.out.f.a1
  have x2 := HF1.out.f.a2
  have x3 := HF1.out.f.a3
  have x4 := HF1.out.f.a4
  have x5 := HF1.out.f.a5
  have x6 := HF1.out.f.a6
  have x7 := HF1.out.f.a7
  have x8 := HF1.out.f.a8
  have x9 := HF1.out.f.a9
  cases h1 : isC d i.a 0 with
  | true =>
    go_wp2_with fail
    refine (constI d i u0 c0 u2 c2 ua qa 0 _).mono ?_
    rintro e w9 ⟨rfl, b9⟩
    have F9 := HF1.out.keep b9
    obtain ⟨r0, r1, r2, r3, r4, r5, r6⟩ := F9.cell
    have rf := F9.froz
    have HF9 : Hid (Fo2 d i u0 c0 u2 c2 ua qa w w9) := F9
    clear F9 b9
    go_wp2_with fail
    have hr := (heap_set (o := 6) (v := .slice none 0 0) (heap_set (o := 5) (v := .int .i64 0) (heap_set (o := 4) (v := .int .i64 0) (heap_set (o := 3) (v := .int .i64 0) (heap_set (o := 2) (v := .int .i64 0) (heap_set (o := 1) (v := .int .i64 (instW i)) (heap_set (o := 0) (v := .int .i64 21) HF9.out.r)))))))
    refine bodyPost_ret (v := .tuple #[.agg #[.int .i64 21, .int .i64 (instW i), .int .i64 0, .int .i64 0, .int .i64 0, .int .i64 0, .slice none 0 0], .bool true]) ((results_cell_row_tmp Tryz.results102 _ _ (w.heap.size + 1) _ rfl (run_loadVar_row _ _ 29 _ _ (0, 0) _ hr Tryz.underlying29 rfl (by kernel_rfl))).trans (by rfl)) rfl ⟨told_some (r := constD (instW i) 0) (u := none) (q := 0) (by unfold nouC; rw [h1, Bool.true_or]; rfl) (ints_none _ _) rfl, ?_⟩
    exact (by repeat (first | refine Below.setCell ?_ (by dsimp only; omega) _ | exact HF9.out.f.below))
  | false =>
    go_wp2_with fail
    refine (IS i.b _ HF1.out.f.below hi.b).mono ?_
    rintro e w2 ⟨rfl, b2⟩
    have HF2 : Hid (Fo2 d i u0 c0 u2 c2 ua qa w w2) := HF1.out.keep b2
    clear x0 x1 x2 x3 x4 x5 x6 x7 x8 x9 b2 HF1
    have x0 := HF2.out.f.a0
    have x1 := HF2.out.f.a1
    have x2 := HF2.out.f.a2
    have x3 := HF2.out.f.a3
    have x4 := HF2.out.f.a4
    have x5 := HF2.out.f.a5
    have x6 := HF2.out.f.a6
    have x7 := HF2.out.f.a7
    have x8 := HF2.out.f.a8
    have x9 := HF2.out.f.a9
    obtain ⟨r0, r1, r2, r3, r4, r5, r6⟩ := HF2.out.cell
    have rf := HF2.out.froz
    cases h2 : isC d i.b 0 with
    | true =>
      clear r0 r1 r2 r3 r4 r5 r6 rf
      go_wp2_with fail
      refine (constI d i u0 c0 u2 c2 ua qa 0 _).mono ?_
      rintro e w9 ⟨rfl, b9⟩
      have F9 := HF2.out.keep b9
      obtain ⟨r0, r1, r2, r3, r4, r5, r6⟩ := F9.cell
      have rf := F9.froz
      have HF9 : Hid (Fo2 d i u0 c0 u2 c2 ua qa w w9) := F9
      clear F9 b9
      go_wp2_with fail
      have hr := (heap_set (o := 6) (v := .slice none 0 0) (heap_set (o := 5) (v := .int .i64 0) (heap_set (o := 4) (v := .int .i64 0) (heap_set (o := 3) (v := .int .i64 0) (heap_set (o := 2) (v := .int .i64 0) (heap_set (o := 1) (v := .int .i64 (instW i)) (heap_set (o := 0) (v := .int .i64 21) HF9.out.r)))))))
      refine bodyPost_ret (v := .tuple #[.agg #[.int .i64 21, .int .i64 (instW i), .int .i64 0, .int .i64 0, .int .i64 0, .int .i64 0, .slice none 0 0], .bool true]) ((results_cell_row_tmp Tryz.results102 _ _ (w.heap.size + 1) _ rfl (run_loadVar_row _ _ 29 _ _ (0, 0) _ hr Tryz.underlying29 rfl (by kernel_rfl))).trans (by rfl)) rfl ⟨told_some (r := constD (instW i) 0) (u := none) (q := 0) (by unfold nouC; rw [h1, h2, Bool.false_or]; rfl) (ints_none _ _) rfl, ?_⟩
      exact (by repeat (first | refine Below.setCell ?_ (by dsimp only; omega) _ | exact HF9.out.f.below))
    | false =>
      go_wp2_with fail
      have hr := (heap_set (o := 6) (v := .slice none 0 0) (heap_set (o := 5) (v := .int .i64 0) (heap_set (o := 4) (v := .int .i64 0) (heap_set (o := 3) (v := .int .i64 0) (heap_set (o := 2) (v := .int .i64 0) (heap_set (o := 1) (v := .int .i64 0) (heap_set (o := 0) (v := .int .i64 0) HF2.out.r)))))))
      refine bodyPost_ret (v := .tuple #[.agg #[.int .i64 0, .int .i64 0, .int .i64 0, .int .i64 0, .int .i64 0, .int .i64 0, .slice none 0 0], .bool false]) ((results_cell_row_tmp Tryz.results102 _ _ (w.heap.size + 1) _ rfl (run_loadVar_row _ _ 29 _ _ (0, 0) _ hr Tryz.underlying29 rfl (by kernel_rfl))).trans (by rfl)) rfl ⟨told_none (by unfold nouC; rw [h1, h2]; rfl) rfl, ?_⟩
      exact (by repeat (first | refine Below.setCell ?_ (by dsimp only; omega) _ | exact HF2.out.f.below))
end Go.Proofs.YtoknhppjdmoblaaGreatDoor
namespace Go.Proofs.YtoknhppjdmoblaaGreatDoor
open Go.RowKit
set_option linter.unusedVariables false

/-- What is known of a number: it, and whether. -/
def KnownC (o : Option Int) (x : Int) (b : Bool) : Prop := (b = true ∧ o = some x) ∨ (b = false ∧ o = none ∧ x = 0)
theorem const_form {o : Option Int} {e : Ending} (h : ConstTold o e) : ∃ x b, e = .returned (.tuple #[.int .i64 x, .bool b]) ∧ KnownC o x b := by
  cases o with
  | none => exact ⟨0, false, h, .inr ⟨rfl, rfl, rfl⟩⟩
  | some x => exact ⟨x, true, h, .inl ⟨rfl, rfl⟩⟩
theorem const_yes {o : Option Int} {x : Int} {b : Bool} (h : KnownC o x b) (hb : b = true) : o = some x := by
  rcases h with h | h
  · exact h.2
  · rw [h.1] at hb; cases hb
theorem const_no {o : Option Int} {x : Int} {b : Bool} (h : KnownC o x b) (hb : b = false) : o = none := by
  rcases h with h | h
  · rw [h.1] at hb; cases hb
  · exact h.2.1
set_option maxHeartbeats 4000000 in
set_option maxRecDepth 100000 in
theorem rule1I (lo : Nat) (d : FuncD) (i : InstD) (u0 : Option Addr) (c0 : Nat) (u2 : Option Addr) (c2 : Nat) (ua : Option Addr) (qa : Nat) (w : World) (hs : SmFunc d) (k0 : IntsAt w lo u0 d.params) (k2 : BlocksAt w lo u2 d.blocks) (ku : IntsAt w lo ua i.args) (hi : ISm i) :
    Calls Tryz.prog 59 #[.agg #[.slice u0 d.params.length c0, .int .i64 d.ret, .slice u2 d.blocks.length c2, .int .i64 i.op, .int .i64 i.w, .int .i64 i.a, .int .i64 i.b, .int .i64 i.c, .int .i64 i.imm, .slice ua i.args.length qa]] w fun e w' => InstTold w lo (rule1 d i) e ∧ Below w.heap.size w w' := by
  have F0 := Fo2.start (d := d) (i := i) (u0 := u0) (u2 := u2) (ua := ua) (c0 := c0) (c2 := c2) (qa := qa) (w := w)
  have CO := fun (id : Int) W (k : Below w.heap.size w W) (h : id ≤ 9223372036854775807) => constI_any lo d u0 c0 u2 c2 id W hs (k2.keep (agree_of_below k lo)) h
  have x0 := F0.f.a0
  have x1 := F0.f.a1
  have x2 := F0.f.a2
  have x3 := F0.f.a3
  have x4 := F0.f.a4
  have x5 := F0.f.a5
  have x6 := F0.f.a6
  have x7 := F0.f.a7
  have x8 := F0.f.a8
  have x9 := F0.f.a9
  have HF0 : Hid (Fo2 d i u0 c0 u2 c2 ua qa w _) := F0
  have HKU : Hid (IntsAt w lo ua i.args) := ku
  have HI : Hid (ISm i) := hi
  clear F0 hs k0 k2 ku hi
  go_enter Tryz.func59, Tryz.ntmps59
  go_wp2_with fail
  refine (CO i.a _ HF0.out.f.below HI.out.a).mono ?_
  rintro e w1 ⟨h1, b1⟩
  obtain ⟨p, pb, he1, pc⟩ := const_form h1
  subst he1
  clear h1
  have Hp : Hid (KnownC _ _ _) := pc
  clear pc
  have HF1 : Hid (Fo2 d i u0 c0 u2 c2 ua qa w w1) := HF0.out.keep b1
  clear x0 x1 x2 x3 x4 x5 x6 x7 x8 x9 b1
  have x0 := HF1.out.f.a0
  have x1 := HF1.out.f.a1
  have x2 := HF1.out.f.a2
  have x3 := HF1.out.f.a3
  have x4 := HF1.out.f.a4
  have x5 := HF1.out.f.a5
  have x6 := HF1.out.f.a6
  have x7 := HF1.out.f.a7
  have x8 := HF1.out.f.a8
  have x9 := HF1.out.f.a9
  go_wp2_with fail
  refine (CO i.b _ HF1.out.f.below HI.out.b).mono ?_
  rintro e w2 ⟨h2, b2⟩
  obtain ⟨t, tb, he2, tc⟩ := const_form h2
  subst he2
  clear h2
  have Ht : Hid (KnownC _ _ _) := tc
  clear tc
  have HF2 : Hid (Fo2 d i u0 c0 u2 c2 ua qa w w2) := HF1.out.keep b2
  clear x0 x1 x2 x3 x4 x5 x6 x7 x8 x9 b2
  have x0 := HF2.out.f.a0
  have x1 := HF2.out.f.a1
  have x2 := HF2.out.f.a2
  have x3 := HF2.out.f.a3
  have x4 := HF2.out.f.a4
  have x5 := HF2.out.f.a5
  have x6 := HF2.out.f.a6
  have x7 := HF2.out.f.a7
  have x8 := HF2.out.f.a8
  have x9 := HF2.out.f.a9
  obtain ⟨r0, r1, r2, r3, r4, r5, r6⟩ := HF2.out.cell
  have rf := HF2.out.froz
  go_wp2_with fail
  refine (opI i.op _).mono ?_
  rintro e w3 ⟨rfl, hw3⟩
  rw [hw3]
  clear hw3
  cases ho : opB i.op with
  | false =>
    go_wp2_with fail
    have hr := (heap_set (o := 6) (v := .slice none 0 0) (heap_set (o := 5) (v := .int .i64 0) (heap_set (o := 4) (v := .int .i64 0) (heap_set (o := 3) (v := .int .i64 0) (heap_set (o := 2) (v := .int .i64 0) (heap_set (o := 1) (v := .int .i64 0) (heap_set (o := 0) (v := .int .i64 0) HF2.out.r)))))))
    refine bodyPost_ret (v := .tuple #[.agg #[.int .i64 0, .int .i64 0, .int .i64 0, .int .i64 0, .int .i64 0, .int .i64 0, .slice none 0 0], .bool false]) ((results_cell_row_tmp Tryz.results59 _ _ (w.heap.size + 1) _ rfl (run_loadVar_row _ _ 29 _ _ (0, 0) _ hr Tryz.underlying29 rfl (by kernel_rfl))).trans (by rfl)) rfl ⟨told_none (by unfold rule1; rw [if_neg (by rw [ho]; simp)]) rfl, ?_⟩
    exact (by repeat (first | refine Below.setCell ?_ (by dsimp only; omega) _ | exact HF2.out.f.below))
  | true =>
    cases pb with
    | false =>
      go_wp2_with fail
      have hr := (heap_set (o := 6) (v := .slice none 0 0) (heap_set (o := 5) (v := .int .i64 0) (heap_set (o := 4) (v := .int .i64 0) (heap_set (o := 3) (v := .int .i64 0) (heap_set (o := 2) (v := .int .i64 0) (heap_set (o := 1) (v := .int .i64 0) (heap_set (o := 0) (v := .int .i64 0) HF2.out.r)))))))
      refine bodyPost_ret (v := .tuple #[.agg #[.int .i64 0, .int .i64 0, .int .i64 0, .int .i64 0, .int .i64 0, .int .i64 0, .slice none 0 0], .bool false]) ((results_cell_row_tmp Tryz.results59 _ _ (w.heap.size + 1) _ rfl (run_loadVar_row _ _ 29 _ _ (0, 0) _ hr Tryz.underlying29 rfl (by kernel_rfl))).trans (by rfl)) rfl ⟨told_none (by unfold rule1; rw [if_pos ho, const_no Hp.out rfl]) rfl, ?_⟩
      exact (by repeat (first | refine Below.setCell ?_ (by dsimp only; omega) _ | exact HF2.out.f.below))
    | true =>
      cases tb with
      | false =>
        go_wp2_with fail
        have hr := (heap_set (o := 6) (v := .slice none 0 0) (heap_set (o := 5) (v := .int .i64 0) (heap_set (o := 4) (v := .int .i64 0) (heap_set (o := 3) (v := .int .i64 0) (heap_set (o := 2) (v := .int .i64 0) (heap_set (o := 1) (v := .int .i64 0) (heap_set (o := 0) (v := .int .i64 0) HF2.out.r)))))))
        refine bodyPost_ret (v := .tuple #[.agg #[.int .i64 0, .int .i64 0, .int .i64 0, .int .i64 0, .int .i64 0, .int .i64 0, .slice none 0 0], .bool false]) ((results_cell_row_tmp Tryz.results59 _ _ (w.heap.size + 1) _ rfl (run_loadVar_row _ _ 29 _ _ (0, 0) _ hr Tryz.underlying29 rfl (by kernel_rfl))).trans (by rfl)) rfl ⟨told_none (by unfold rule1; rw [if_pos ho, const_yes Hp.out rfl, const_no Ht.out rfl]) rfl, ?_⟩
        exact (by repeat (first | refine Below.setCell ?_ (by dsimp only; omega) _ | exact HF2.out.f.below))
      | true =>
        go_wp2_with fail
        refine (binI i.op i.w p t _).mono ?_
        rintro e w4 ⟨rfl, b4, _⟩
        clear r0 r1 r2 r3 r4 r5 r6 rf
        have HF4 : Hid (Fo2 d i u0 c0 u2 c2 ua qa w w4) := HF2.out.keep b4
        clear x0 x1 x2 x3 x4 x5 x6 x7 x8 x9 b4
        have x0 := HF4.out.f.a0
        have x1 := HF4.out.f.a1
        have x2 := HF4.out.f.a2
        have x3 := HF4.out.f.a3
        have x4 := HF4.out.f.a4
        have x5 := HF4.out.f.a5
        have x6 := HF4.out.f.a6
        have x7 := HF4.out.f.a7
        have x8 := HF4.out.f.a8
        have x9 := HF4.out.f.a9
        obtain ⟨r0, r1, r2, r3, r4, r5, r6⟩ := HF4.out.cell
        have rf := HF4.out.froz
        have HR : Hid (rule1 d i = if binC i.op i.w p t = 0 then some (constD (instW i) (binZ i.op i.w p t)) else some i) := by show _ = _; unfold rule1; rw [if_pos ho, const_yes Hp.out rfl, const_yes Ht.out rfl]
        by_cases hb : binC i.op i.w p t = 0
        · rw [hb]
          go_wp2_with fail
          refine (constI d i u0 c0 u2 c2 ua qa (binZ i.op i.w p t) _).mono ?_
          rintro e w5 ⟨rfl, b5⟩
          clear r0 r1 r2 r3 r4 r5 r6 rf
          have F5 := HF4.out.keep b5
          obtain ⟨r0, r1, r2, r3, r4, r5, r6⟩ := F5.cell
          have rf := F5.froz
          have HF5 : Hid (Fo2 d i u0 c0 u2 c2 ua qa w w5) := F5
          clear F5 b5
          go_wp2_with fail
          have hr := (heap_set (o := 6) (v := .slice none 0 0) (heap_set (o := 5) (v := .int .i64 (binZ i.op i.w p t)) (heap_set (o := 4) (v := .int .i64 0) (heap_set (o := 3) (v := .int .i64 0) (heap_set (o := 2) (v := .int .i64 0) (heap_set (o := 1) (v := .int .i64 (instW i)) (heap_set (o := 0) (v := .int .i64 21) HF5.out.r)))))))
          refine bodyPost_ret (v := .tuple #[.agg #[.int .i64 21, .int .i64 (instW i), .int .i64 0, .int .i64 0, .int .i64 0, .int .i64 (binZ i.op i.w p t), .slice none 0 0], .bool true]) ((results_cell_row_tmp Tryz.results59 _ _ (w.heap.size + 1) _ rfl (run_loadVar_row _ _ 29 _ _ (0, 0) _ hr Tryz.underlying29 rfl (by kernel_rfl))).trans (by rfl)) rfl ⟨told_some (r := constD (instW i) (binZ i.op i.w p t)) (u := none) (q := 0) (by rw [HR.out, if_pos hb]) (ints_none _ _) rfl, ?_⟩
          exact (by repeat (first | refine Below.setCell ?_ (by dsimp only; omega) _ | exact HF5.out.f.below))
        · have qb : (binC i.op i.w p t == 0) = false := by simpa using hb
          go_wp2_with fail
          have hr := (heap_set (o := 6) (v := .slice ua i.args.length qa) (heap_set (o := 5) (v := .int .i64 i.imm) (heap_set (o := 4) (v := .int .i64 i.c) (heap_set (o := 3) (v := .int .i64 i.b) (heap_set (o := 2) (v := .int .i64 i.a) (heap_set (o := 1) (v := .int .i64 i.w) (heap_set (o := 0) (v := .int .i64 i.op) HF4.out.r)))))))
          refine bodyPost_ret (v := .tuple #[.agg #[.int .i64 i.op, .int .i64 i.w, .int .i64 i.a, .int .i64 i.b, .int .i64 i.c, .int .i64 i.imm, .slice ua i.args.length qa], .bool true]) ((results_cell_row_tmp Tryz.results59 _ _ (w.heap.size + 1) _ rfl (run_loadVar_row _ _ 29 _ _ (0, 0) _ hr Tryz.underlying29 rfl (by kernel_rfl))).trans (by rfl)) rfl ⟨told_some (r := i) (u := ua) (q := qa) (by rw [HR.out, if_neg hb]) HKU.out rfl, ?_⟩
          exact (by repeat (first | refine Below.setCell ?_ (by dsimp only; omega) _ | exact HF4.out.f.below))
set_option maxHeartbeats 4000000 in
set_option maxRecDepth 100000 in
theorem rule3I (lo : Nat) (d : FuncD) (i : InstD) (u0 : Option Addr) (c0 : Nat) (u2 : Option Addr) (c2 : Nat) (ua : Option Addr) (qa : Nat) (w : World) (hs : SmFunc d) (k0 : IntsAt w lo u0 d.params) (k2 : BlocksAt w lo u2 d.blocks) (ku : IntsAt w lo ua i.args) (hi : ISm i) :
    Calls Tryz.prog 61 #[.agg #[.slice u0 d.params.length c0, .int .i64 d.ret, .slice u2 d.blocks.length c2, .int .i64 i.op, .int .i64 i.w, .int .i64 i.a, .int .i64 i.b, .int .i64 i.c, .int .i64 i.imm, .slice ua i.args.length qa]] w fun e w' => InstTold w lo (rule3 d i) e ∧ Below w.heap.size w w' := by
  have F0 := Fo2.start (d := d) (i := i) (u0 := u0) (u2 := u2) (ua := ua) (c0 := c0) (c2 := c2) (qa := qa) (w := w)
  have CO := fun (id : Int) W (k : Below w.heap.size w W) (h : id ≤ 9223372036854775807) => constI_any lo d u0 c0 u2 c2 id W hs (k2.keep (agree_of_below k lo)) h
  have x0 := F0.f.a0
  have x1 := F0.f.a1
  have x2 := F0.f.a2
  have x3 := F0.f.a3
  have x4 := F0.f.a4
  have x5 := F0.f.a5
  have x6 := F0.f.a6
  have x7 := F0.f.a7
  have x8 := F0.f.a8
  have x9 := F0.f.a9
  have HF0 : Hid (Fo2 d i u0 c0 u2 c2 ua qa w _) := F0
  have HKU : Hid (IntsAt w lo ua i.args) := ku
  have HI : Hid (ISm i) := hi
  obtain ⟨r0, r1, r2, r3, r4, r5, r6⟩ := F0.cell
  have rf := F0.froz
  clear F0 hs k0 k2 ku hi CO
  by_cases hab : i.a = i.b
  · have qe : (i.a == i.b) = true := by simpa using hab
    have HR : Hid (rule3 d i = ruleN i (idC i.op true)) := by show _ = _; unfold rule3; rw [decide_eq_true hab]
    have HAB : Hid (i.a = i.b) := hab
    clear hab
    have hop : i.op = 2 ∨ i.op = 10 ∨ i.op = 15 ∨ i.op = 16 ∨ i.op = 17 ∨ i.op = 14 ∨ i.op = 8 ∨ i.op = 9 ∨ (¬ i.op = 2 ∧ ¬ i.op = 10 ∧ ¬ i.op = 15 ∧ ¬ i.op = 16 ∧ ¬ i.op = 17 ∧ ¬ i.op = 14 ∧ ¬ i.op = 8 ∧ ¬ i.op = 9) := by omega
    have HOP : Hid (i.op = i.op) := rfl
    rcases hop with h | h | h | h | h | h | h | h | h
    · have HR2 : Hid (rule3 d i = some (constD (instW i) 0)) := by show _ = _; rw [HR.out, h]; rfl
      have q2 : (i.op == 2) = true := by rw [h]; rfl
      have q10 : (i.op == 10) = false := by rw [h]; rfl
      have q15 : (i.op == 15) = false := by rw [h]; rfl
      have q16 : (i.op == 16) = false := by rw [h]; rfl
      have q17 : (i.op == 17) = false := by rw [h]; rfl
      have q14 : (i.op == 14) = false := by rw [h]; rfl
      have q8 : (i.op == 8) = false := by rw [h]; rfl
      have q9 : (i.op == 9) = false := by rw [h]; rfl
      clear h
      go_enter Tryz.func61, Tryz.ntmps61
      go_wp2_with fail
      refine (constI d i u0 c0 u2 c2 ua qa 0 _).mono ?_
      rintro e w1 ⟨rfl, b1⟩
      clear r0 r1 r2 r3 r4 r5 r6 rf
      have F1 := HF0.out.keep b1
      obtain ⟨r0, r1, r2, r3, r4, r5, r6⟩ := F1.cell
      have rf := F1.froz
      have HF1 : Hid (Fo2 d i u0 c0 u2 c2 ua qa w w1) := F1
      clear F1 b1
      go_wp2_with fail
      have hr := (heap_set (o := 6) (v := .slice none 0 0) (heap_set (o := 5) (v := .int .i64 0) (heap_set (o := 4) (v := .int .i64 0) (heap_set (o := 3) (v := .int .i64 0) (heap_set (o := 2) (v := .int .i64 0) (heap_set (o := 1) (v := .int .i64 (instW i)) (heap_set (o := 0) (v := .int .i64 21) HF1.out.r)))))))
      refine bodyPost_ret (v := .tuple #[.agg #[.int .i64 21, .int .i64 (instW i), .int .i64 0, .int .i64 0, .int .i64 0, .int .i64 0, .slice none 0 0], .bool true]) ((results_cell_row_tmp Tryz.results61 _ _ (w.heap.size + 1) _ rfl (run_loadVar_row _ _ 29 _ _ (0, 0) _ hr Tryz.underlying29 rfl (by kernel_rfl))).trans (by rfl)) rfl ⟨told_some (r := constD (instW i) 0) (u := none) (q := 0) (HR2.out) (ints_none _ _) rfl, ?_⟩
      exact (by repeat (first | refine Below.setCell ?_ (by dsimp only; omega) _ | exact HF1.out.f.below))
    · have HR2 : Hid (rule3 d i = some (constD (instW i) 0)) := by show _ = _; rw [HR.out, h]; rfl
      have q2 : (i.op == 2) = false := by rw [h]; rfl
      have q10 : (i.op == 10) = true := by rw [h]; rfl
      have q15 : (i.op == 15) = false := by rw [h]; rfl
      have q16 : (i.op == 16) = false := by rw [h]; rfl
      have q17 : (i.op == 17) = false := by rw [h]; rfl
      have q14 : (i.op == 14) = false := by rw [h]; rfl
      have q8 : (i.op == 8) = false := by rw [h]; rfl
      have q9 : (i.op == 9) = false := by rw [h]; rfl
      clear h
      go_enter Tryz.func61, Tryz.ntmps61
      go_wp2_with fail
      refine (constI d i u0 c0 u2 c2 ua qa 0 _).mono ?_
      rintro e w1 ⟨rfl, b1⟩
      clear r0 r1 r2 r3 r4 r5 r6 rf
      have F1 := HF0.out.keep b1
      obtain ⟨r0, r1, r2, r3, r4, r5, r6⟩ := F1.cell
      have rf := F1.froz
      have HF1 : Hid (Fo2 d i u0 c0 u2 c2 ua qa w w1) := F1
      clear F1 b1
      go_wp2_with fail
      have hr := (heap_set (o := 6) (v := .slice none 0 0) (heap_set (o := 5) (v := .int .i64 0) (heap_set (o := 4) (v := .int .i64 0) (heap_set (o := 3) (v := .int .i64 0) (heap_set (o := 2) (v := .int .i64 0) (heap_set (o := 1) (v := .int .i64 (instW i)) (heap_set (o := 0) (v := .int .i64 21) HF1.out.r)))))))
      refine bodyPost_ret (v := .tuple #[.agg #[.int .i64 21, .int .i64 (instW i), .int .i64 0, .int .i64 0, .int .i64 0, .int .i64 0, .slice none 0 0], .bool true]) ((results_cell_row_tmp Tryz.results61 _ _ (w.heap.size + 1) _ rfl (run_loadVar_row _ _ 29 _ _ (0, 0) _ hr Tryz.underlying29 rfl (by kernel_rfl))).trans (by rfl)) rfl ⟨told_some (r := constD (instW i) 0) (u := none) (q := 0) (HR2.out) (ints_none _ _) rfl, ?_⟩
      exact (by repeat (first | refine Below.setCell ?_ (by dsimp only; omega) _ | exact HF1.out.f.below))
    · have HR2 : Hid (rule3 d i = some (constD (instW i) 0)) := by show _ = _; rw [HR.out, h]; rfl
      have q2 : (i.op == 2) = false := by rw [h]; rfl
      have q10 : (i.op == 10) = false := by rw [h]; rfl
      have q15 : (i.op == 15) = true := by rw [h]; rfl
      have q16 : (i.op == 16) = false := by rw [h]; rfl
      have q17 : (i.op == 17) = false := by rw [h]; rfl
      have q14 : (i.op == 14) = false := by rw [h]; rfl
      have q8 : (i.op == 8) = false := by rw [h]; rfl
      have q9 : (i.op == 9) = false := by rw [h]; rfl
      clear h
      go_enter Tryz.func61, Tryz.ntmps61
      go_wp2_with fail
      refine (constI d i u0 c0 u2 c2 ua qa 0 _).mono ?_
      rintro e w1 ⟨rfl, b1⟩
      clear r0 r1 r2 r3 r4 r5 r6 rf
      have F1 := HF0.out.keep b1
      obtain ⟨r0, r1, r2, r3, r4, r5, r6⟩ := F1.cell
      have rf := F1.froz
      have HF1 : Hid (Fo2 d i u0 c0 u2 c2 ua qa w w1) := F1
      clear F1 b1
      go_wp2_with fail
      have hr := (heap_set (o := 6) (v := .slice none 0 0) (heap_set (o := 5) (v := .int .i64 0) (heap_set (o := 4) (v := .int .i64 0) (heap_set (o := 3) (v := .int .i64 0) (heap_set (o := 2) (v := .int .i64 0) (heap_set (o := 1) (v := .int .i64 (instW i)) (heap_set (o := 0) (v := .int .i64 21) HF1.out.r)))))))
      refine bodyPost_ret (v := .tuple #[.agg #[.int .i64 21, .int .i64 (instW i), .int .i64 0, .int .i64 0, .int .i64 0, .int .i64 0, .slice none 0 0], .bool true]) ((results_cell_row_tmp Tryz.results61 _ _ (w.heap.size + 1) _ rfl (run_loadVar_row _ _ 29 _ _ (0, 0) _ hr Tryz.underlying29 rfl (by kernel_rfl))).trans (by rfl)) rfl ⟨told_some (r := constD (instW i) 0) (u := none) (q := 0) (HR2.out) (ints_none _ _) rfl, ?_⟩
      exact (by repeat (first | refine Below.setCell ?_ (by dsimp only; omega) _ | exact HF1.out.f.below))
    · have HR2 : Hid (rule3 d i = some (constD (instW i) 0)) := by show _ = _; rw [HR.out, h]; rfl
      have q2 : (i.op == 2) = false := by rw [h]; rfl
      have q10 : (i.op == 10) = false := by rw [h]; rfl
      have q15 : (i.op == 15) = false := by rw [h]; rfl
      have q16 : (i.op == 16) = true := by rw [h]; rfl
      have q17 : (i.op == 17) = false := by rw [h]; rfl
      have q14 : (i.op == 14) = false := by rw [h]; rfl
      have q8 : (i.op == 8) = false := by rw [h]; rfl
      have q9 : (i.op == 9) = false := by rw [h]; rfl
      clear h
      go_enter Tryz.func61, Tryz.ntmps61
      go_wp2_with fail
      refine (constI d i u0 c0 u2 c2 ua qa 0 _).mono ?_
      rintro e w1 ⟨rfl, b1⟩
      clear r0 r1 r2 r3 r4 r5 r6 rf
      have F1 := HF0.out.keep b1
      obtain ⟨r0, r1, r2, r3, r4, r5, r6⟩ := F1.cell
      have rf := F1.froz
      have HF1 : Hid (Fo2 d i u0 c0 u2 c2 ua qa w w1) := F1
      clear F1 b1
      go_wp2_with fail
      have hr := (heap_set (o := 6) (v := .slice none 0 0) (heap_set (o := 5) (v := .int .i64 0) (heap_set (o := 4) (v := .int .i64 0) (heap_set (o := 3) (v := .int .i64 0) (heap_set (o := 2) (v := .int .i64 0) (heap_set (o := 1) (v := .int .i64 (instW i)) (heap_set (o := 0) (v := .int .i64 21) HF1.out.r)))))))
      refine bodyPost_ret (v := .tuple #[.agg #[.int .i64 21, .int .i64 (instW i), .int .i64 0, .int .i64 0, .int .i64 0, .int .i64 0, .slice none 0 0], .bool true]) ((results_cell_row_tmp Tryz.results61 _ _ (w.heap.size + 1) _ rfl (run_loadVar_row _ _ 29 _ _ (0, 0) _ hr Tryz.underlying29 rfl (by kernel_rfl))).trans (by rfl)) rfl ⟨told_some (r := constD (instW i) 0) (u := none) (q := 0) (HR2.out) (ints_none _ _) rfl, ?_⟩
      exact (by repeat (first | refine Below.setCell ?_ (by dsimp only; omega) _ | exact HF1.out.f.below))
    · have HR2 : Hid (rule3 d i = some (constD (instW i) 0)) := by show _ = _; rw [HR.out, h]; rfl
      have q2 : (i.op == 2) = false := by rw [h]; rfl
      have q10 : (i.op == 10) = false := by rw [h]; rfl
      have q15 : (i.op == 15) = false := by rw [h]; rfl
      have q16 : (i.op == 16) = false := by rw [h]; rfl
      have q17 : (i.op == 17) = true := by rw [h]; rfl
      have q14 : (i.op == 14) = false := by rw [h]; rfl
      have q8 : (i.op == 8) = false := by rw [h]; rfl
      have q9 : (i.op == 9) = false := by rw [h]; rfl
      clear h
      go_enter Tryz.func61, Tryz.ntmps61
      go_wp2_with fail
      refine (constI d i u0 c0 u2 c2 ua qa 0 _).mono ?_
      rintro e w1 ⟨rfl, b1⟩
      clear r0 r1 r2 r3 r4 r5 r6 rf
      have F1 := HF0.out.keep b1
      obtain ⟨r0, r1, r2, r3, r4, r5, r6⟩ := F1.cell
      have rf := F1.froz
      have HF1 : Hid (Fo2 d i u0 c0 u2 c2 ua qa w w1) := F1
      clear F1 b1
      go_wp2_with fail
      have hr := (heap_set (o := 6) (v := .slice none 0 0) (heap_set (o := 5) (v := .int .i64 0) (heap_set (o := 4) (v := .int .i64 0) (heap_set (o := 3) (v := .int .i64 0) (heap_set (o := 2) (v := .int .i64 0) (heap_set (o := 1) (v := .int .i64 (instW i)) (heap_set (o := 0) (v := .int .i64 21) HF1.out.r)))))))
      refine bodyPost_ret (v := .tuple #[.agg #[.int .i64 21, .int .i64 (instW i), .int .i64 0, .int .i64 0, .int .i64 0, .int .i64 0, .slice none 0 0], .bool true]) ((results_cell_row_tmp Tryz.results61 _ _ (w.heap.size + 1) _ rfl (run_loadVar_row _ _ 29 _ _ (0, 0) _ hr Tryz.underlying29 rfl (by kernel_rfl))).trans (by rfl)) rfl ⟨told_some (r := constD (instW i) 0) (u := none) (q := 0) (HR2.out) (ints_none _ _) rfl, ?_⟩
      exact (by repeat (first | refine Below.setCell ?_ (by dsimp only; omega) _ | exact HF1.out.f.below))
    · have HR2 : Hid (rule3 d i = some (constD (instW i) 1)) := by show _ = _; rw [HR.out, h]; rfl
      have q2 : (i.op == 2) = false := by rw [h]; rfl
      have q10 : (i.op == 10) = false := by rw [h]; rfl
      have q15 : (i.op == 15) = false := by rw [h]; rfl
      have q16 : (i.op == 16) = false := by rw [h]; rfl
      have q17 : (i.op == 17) = false := by rw [h]; rfl
      have q14 : (i.op == 14) = true := by rw [h]; rfl
      have q8 : (i.op == 8) = false := by rw [h]; rfl
      have q9 : (i.op == 9) = false := by rw [h]; rfl
      clear h
      go_enter Tryz.func61, Tryz.ntmps61
      go_wp2_with fail
      refine (constI d i u0 c0 u2 c2 ua qa 1 _).mono ?_
      rintro e w1 ⟨rfl, b1⟩
      clear r0 r1 r2 r3 r4 r5 r6 rf
      have F1 := HF0.out.keep b1
      obtain ⟨r0, r1, r2, r3, r4, r5, r6⟩ := F1.cell
      have rf := F1.froz
      have HF1 : Hid (Fo2 d i u0 c0 u2 c2 ua qa w w1) := F1
      clear F1 b1
      go_wp2_with fail
      have hr := (heap_set (o := 6) (v := .slice none 0 0) (heap_set (o := 5) (v := .int .i64 1) (heap_set (o := 4) (v := .int .i64 0) (heap_set (o := 3) (v := .int .i64 0) (heap_set (o := 2) (v := .int .i64 0) (heap_set (o := 1) (v := .int .i64 (instW i)) (heap_set (o := 0) (v := .int .i64 21) HF1.out.r)))))))
      refine bodyPost_ret (v := .tuple #[.agg #[.int .i64 21, .int .i64 (instW i), .int .i64 0, .int .i64 0, .int .i64 0, .int .i64 1, .slice none 0 0], .bool true]) ((results_cell_row_tmp Tryz.results61 _ _ (w.heap.size + 1) _ rfl (run_loadVar_row _ _ 29 _ _ (0, 0) _ hr Tryz.underlying29 rfl (by kernel_rfl))).trans (by rfl)) rfl ⟨told_some (r := constD (instW i) 1) (u := none) (q := 0) (HR2.out) (ints_none _ _) rfl, ?_⟩
      exact (by repeat (first | refine Below.setCell ?_ (by dsimp only; omega) _ | exact HF1.out.f.below))
    · have HR2 : Hid (rule3 d i = some (copyD (instW i) i.a)) := by show _ = _; rw [HR.out, h]; rfl
      have q2 : (i.op == 2) = false := by rw [h]; rfl
      have q10 : (i.op == 10) = false := by rw [h]; rfl
      have q15 : (i.op == 15) = false := by rw [h]; rfl
      have q16 : (i.op == 16) = false := by rw [h]; rfl
      have q17 : (i.op == 17) = false := by rw [h]; rfl
      have q14 : (i.op == 14) = false := by rw [h]; rfl
      have q8 : (i.op == 8) = true := by rw [h]; rfl
      have q9 : (i.op == 9) = false := by rw [h]; rfl
      clear h
      go_enter Tryz.func61, Tryz.ntmps61
      go_wp2_with fail
      refine (copyOfI d i u0 c0 u2 c2 ua qa i.a _).mono ?_
      rintro e w1 ⟨rfl, b1⟩
      clear r0 r1 r2 r3 r4 r5 r6 rf
      have F1 := HF0.out.keep b1
      obtain ⟨r0, r1, r2, r3, r4, r5, r6⟩ := F1.cell
      have rf := F1.froz
      have HF1 : Hid (Fo2 d i u0 c0 u2 c2 ua qa w w1) := F1
      clear F1 b1
      go_wp2_with fail
      have hr := (heap_set (o := 6) (v := .slice none 0 0) (heap_set (o := 5) (v := .int .i64 0) (heap_set (o := 4) (v := .int .i64 0) (heap_set (o := 3) (v := .int .i64 0) (heap_set (o := 2) (v := .int .i64 i.a) (heap_set (o := 1) (v := .int .i64 (instW i)) (heap_set (o := 0) (v := .int .i64 27) HF1.out.r)))))))
      refine bodyPost_ret (v := .tuple #[.agg #[.int .i64 27, .int .i64 (instW i), .int .i64 i.a, .int .i64 0, .int .i64 0, .int .i64 0, .slice none 0 0], .bool true]) ((results_cell_row_tmp Tryz.results61 _ _ (w.heap.size + 1) _ rfl (run_loadVar_row _ _ 29 _ _ (0, 0) _ hr Tryz.underlying29 rfl (by kernel_rfl))).trans (by rfl)) rfl ⟨told_some (r := copyD (instW i) i.a) (u := none) (q := 0) (HR2.out) (ints_none _ _) rfl, ?_⟩
      exact (by repeat (first | refine Below.setCell ?_ (by dsimp only; omega) _ | exact HF1.out.f.below))
    · have HR2 : Hid (rule3 d i = some (copyD (instW i) i.a)) := by show _ = _; rw [HR.out, h]; rfl
      have q2 : (i.op == 2) = false := by rw [h]; rfl
      have q10 : (i.op == 10) = false := by rw [h]; rfl
      have q15 : (i.op == 15) = false := by rw [h]; rfl
      have q16 : (i.op == 16) = false := by rw [h]; rfl
      have q17 : (i.op == 17) = false := by rw [h]; rfl
      have q14 : (i.op == 14) = false := by rw [h]; rfl
      have q8 : (i.op == 8) = false := by rw [h]; rfl
      have q9 : (i.op == 9) = true := by rw [h]; rfl
      clear h
      go_enter Tryz.func61, Tryz.ntmps61
      go_wp2_with fail
      refine (copyOfI d i u0 c0 u2 c2 ua qa i.a _).mono ?_
      rintro e w1 ⟨rfl, b1⟩
      clear r0 r1 r2 r3 r4 r5 r6 rf
      have F1 := HF0.out.keep b1
      obtain ⟨r0, r1, r2, r3, r4, r5, r6⟩ := F1.cell
      have rf := F1.froz
      have HF1 : Hid (Fo2 d i u0 c0 u2 c2 ua qa w w1) := F1
      clear F1 b1
      go_wp2_with fail
      have hr := (heap_set (o := 6) (v := .slice none 0 0) (heap_set (o := 5) (v := .int .i64 0) (heap_set (o := 4) (v := .int .i64 0) (heap_set (o := 3) (v := .int .i64 0) (heap_set (o := 2) (v := .int .i64 i.a) (heap_set (o := 1) (v := .int .i64 (instW i)) (heap_set (o := 0) (v := .int .i64 27) HF1.out.r)))))))
      refine bodyPost_ret (v := .tuple #[.agg #[.int .i64 27, .int .i64 (instW i), .int .i64 i.a, .int .i64 0, .int .i64 0, .int .i64 0, .slice none 0 0], .bool true]) ((results_cell_row_tmp Tryz.results61 _ _ (w.heap.size + 1) _ rfl (run_loadVar_row _ _ 29 _ _ (0, 0) _ hr Tryz.underlying29 rfl (by kernel_rfl))).trans (by rfl)) rfl ⟨told_some (r := copyD (instW i) i.a) (u := none) (q := 0) (HR2.out) (ints_none _ _) rfl, ?_⟩
      exact (by repeat (first | refine Below.setCell ?_ (by dsimp only; omega) _ | exact HF1.out.f.below))
    · have HR2 : Hid (rule3 d i = none) := by show _ = _; rw [HR.out]; unfold idC ruleN; simp [h]
      have q2 : (i.op == 2) = false := by rw [beq_eq_false_iff_ne]; omega
      have q10 : (i.op == 10) = false := by rw [beq_eq_false_iff_ne]; omega
      have q15 : (i.op == 15) = false := by rw [beq_eq_false_iff_ne]; omega
      have q16 : (i.op == 16) = false := by rw [beq_eq_false_iff_ne]; omega
      have q17 : (i.op == 17) = false := by rw [beq_eq_false_iff_ne]; omega
      have q14 : (i.op == 14) = false := by rw [beq_eq_false_iff_ne]; omega
      have q8 : (i.op == 8) = false := by rw [beq_eq_false_iff_ne]; omega
      have q9 : (i.op == 9) = false := by rw [beq_eq_false_iff_ne]; omega
      clear h
      go_enter Tryz.func61, Tryz.ntmps61
      go_wp2_with fail
      refine bodyPost_ret (v := .tuple #[.agg #[.int .i64 0, .int .i64 0, .int .i64 0, .int .i64 0, .int .i64 0, .int .i64 0, .slice none 0 0], .bool false]) ((results_cell_row_tmp Tryz.results61 _ _ (w.heap.size + 1) _ rfl (run_loadVar_row _ _ 29 _ _ (0, 0) _ HF0.out.r Tryz.underlying29 rfl (by kernel_rfl))).trans (by rfl)) rfl ⟨told_none HR2.out rfl, HF0.out.f.below⟩
  · have qe : (i.a == i.b) = false := by simpa using hab
    have HR : Hid (rule3 d i = none) := by show _ = _; unfold rule3; rw [decide_eq_false hab]; rfl
    clear hab
    go_enter Tryz.func61, Tryz.ntmps61
    go_wp2_with fail
    refine bodyPost_ret (v := .tuple #[.agg #[.int .i64 0, .int .i64 0, .int .i64 0, .int .i64 0, .int .i64 0, .int .i64 0, .slice none 0 0], .bool false]) ((results_cell_row_tmp Tryz.results61 _ _ (w.heap.size + 1) _ rfl (run_loadVar_row _ _ 29 _ _ (0, 0) _ HF0.out.r Tryz.underlying29 rfl (by kernel_rfl))).trans (by rfl)) rfl ⟨told_none HR.out rfl, HF0.out.f.below⟩
set_option maxHeartbeats 4000000 in
set_option maxRecDepth 100000 in
theorem rule6I (lo : Nat) (d : FuncD) (i : InstD) (u0 : Option Addr) (c0 : Nat) (u2 : Option Addr) (c2 : Nat) (ua : Option Addr) (qa : Nat) (w : World) (hs : SmFunc d) (k0 : IntsAt w lo u0 d.params) (k2 : BlocksAt w lo u2 d.blocks) (ku : IntsAt w lo ua i.args) (hi : ISm i) :
    Calls Tryz.prog 64 #[.agg #[.slice u0 d.params.length c0, .int .i64 d.ret, .slice u2 d.blocks.length c2, .int .i64 i.op, .int .i64 i.w, .int .i64 i.a, .int .i64 i.b, .int .i64 i.c, .int .i64 i.imm, .slice ua i.args.length qa]] w fun e w' => InstTold w lo (rule6 d i) e ∧ Below w.heap.size w w' := by
  have F0 := Fo2.start (d := d) (i := i) (u0 := u0) (u2 := u2) (ua := ua) (c0 := c0) (c2 := c2) (qa := qa) (w := w)
  have CO := fun (id : Int) W (k : Below w.heap.size w W) (h : id ≤ 9223372036854775807) => constI_any lo d u0 c0 u2 c2 id W hs (k2.keep (agree_of_below k lo)) h
  have x0 := F0.f.a0
  have x1 := F0.f.a1
  have x2 := F0.f.a2
  have x3 := F0.f.a3
  have x4 := F0.f.a4
  have x5 := F0.f.a5
  have x6 := F0.f.a6
  have x7 := F0.f.a7
  have x8 := F0.f.a8
  have x9 := F0.f.a9
  have HF0 : Hid (Fo2 d i u0 c0 u2 c2 ua qa w _) := F0
  have HKU : Hid (IntsAt w lo ua i.args) := ku
  have HI : Hid (ISm i) := hi
  clear F0 hs k0 k2 ku hi
  go_enter Tryz.func64, Tryz.ntmps64
  go_wp2_with fail
  refine (CO i.a _ HF0.out.f.below HI.out.a).mono ?_
  rintro e w1 ⟨h1, b1⟩
  obtain ⟨p, pb, he1, pc⟩ := const_form h1
  subst he1
  clear h1
  have Hp : Hid (KnownC _ _ _) := pc
  clear pc
  have HF1 : Hid (Fo2 d i u0 c0 u2 c2 ua qa w w1) := HF0.out.keep b1
  clear x0 x1 x2 x3 x4 x5 x6 x7 x8 x9 b1
  have x0 := HF1.out.f.a0
  have x1 := HF1.out.f.a1
  have x2 := HF1.out.f.a2
  have x3 := HF1.out.f.a3
  have x4 := HF1.out.f.a4
  have x5 := HF1.out.f.a5
  have x6 := HF1.out.f.a6
  have x7 := HF1.out.f.a7
  have x8 := HF1.out.f.a8
  have x9 := HF1.out.f.a9
  obtain ⟨r0, r1, r2, r3, r4, r5, r6⟩ := HF1.out.cell
  have rf := HF1.out.froz
  by_cases h27 : i.op = 27
  · have q27 : (i.op != 27) = false := by rw [bne_eq_false_iff_eq]; exact h27
    have H27 : Hid (i.op = 27) := h27
    clear h27
    cases pb with
    | false =>
      go_wp2_with fail
      have hr := (heap_set (o := 6) (v := .slice none 0 0) (heap_set (o := 5) (v := .int .i64 0) (heap_set (o := 4) (v := .int .i64 0) (heap_set (o := 3) (v := .int .i64 0) (heap_set (o := 2) (v := .int .i64 0) (heap_set (o := 1) (v := .int .i64 0) (heap_set (o := 0) (v := .int .i64 0) HF1.out.r)))))))
      refine bodyPost_ret (v := .tuple #[.agg #[.int .i64 0, .int .i64 0, .int .i64 0, .int .i64 0, .int .i64 0, .int .i64 0, .slice none 0 0], .bool false]) ((results_cell_row_tmp Tryz.results64 _ _ (w.heap.size + 1) _ rfl (run_loadVar_row _ _ 29 _ _ (0, 0) _ hr Tryz.underlying29 rfl (by kernel_rfl))).trans (by rfl)) rfl ⟨told_none (by unfold rule6; rw [const_no Hp.out rfl]) rfl, ?_⟩
      exact (by repeat (first | refine Below.setCell ?_ (by dsimp only; omega) _ | exact HF1.out.f.below))
    | true =>
      have HR : Hid (rule6 d i = if i.op = 27 ∧ valueB i.w p = true then some (constD (instW i) p) else none) := by show _ = _; unfold rule6; rw [const_yes Hp.out rfl]
      go_wp2_with fail
      refine (valueI i.w p _).mono ?_
      rintro e w2 ⟨rfl, hw2⟩
      rw [hw2]
      clear hw2
      cases hv : valueB i.w p with
      | false =>
        go_wp2_with fail
        have hr := (heap_set (o := 6) (v := .slice none 0 0) (heap_set (o := 5) (v := .int .i64 0) (heap_set (o := 4) (v := .int .i64 0) (heap_set (o := 3) (v := .int .i64 0) (heap_set (o := 2) (v := .int .i64 0) (heap_set (o := 1) (v := .int .i64 0) (heap_set (o := 0) (v := .int .i64 0) HF1.out.r)))))))
        refine bodyPost_ret (v := .tuple #[.agg #[.int .i64 0, .int .i64 0, .int .i64 0, .int .i64 0, .int .i64 0, .int .i64 0, .slice none 0 0], .bool false]) ((results_cell_row_tmp Tryz.results64 _ _ (w.heap.size + 1) _ rfl (run_loadVar_row _ _ 29 _ _ (0, 0) _ hr Tryz.underlying29 rfl (by kernel_rfl))).trans (by rfl)) rfl ⟨told_none (by rw [HR.out, if_neg (fun k => by rw [hv] at k; cases k.2)]) rfl, ?_⟩
        exact (by repeat (first | refine Below.setCell ?_ (by dsimp only; omega) _ | exact HF1.out.f.below))
      | true =>
        go_wp2_with fail
        refine (constI d i u0 c0 u2 c2 ua qa p _).mono ?_
        rintro e w3 ⟨rfl, b3⟩
        clear r0 r1 r2 r3 r4 r5 r6 rf
        have F3 := HF1.out.keep b3
        obtain ⟨r0, r1, r2, r3, r4, r5, r6⟩ := F3.cell
        have rf := F3.froz
        have HF3 : Hid (Fo2 d i u0 c0 u2 c2 ua qa w w3) := F3
        clear F3 b3
        go_wp2_with fail
        have hr := (heap_set (o := 6) (v := .slice none 0 0) (heap_set (o := 5) (v := .int .i64 p) (heap_set (o := 4) (v := .int .i64 0) (heap_set (o := 3) (v := .int .i64 0) (heap_set (o := 2) (v := .int .i64 0) (heap_set (o := 1) (v := .int .i64 (instW i)) (heap_set (o := 0) (v := .int .i64 21) HF3.out.r)))))))
        refine bodyPost_ret (v := .tuple #[.agg #[.int .i64 21, .int .i64 (instW i), .int .i64 0, .int .i64 0, .int .i64 0, .int .i64 p, .slice none 0 0], .bool true]) ((results_cell_row_tmp Tryz.results64 _ _ (w.heap.size + 1) _ rfl (run_loadVar_row _ _ 29 _ _ (0, 0) _ hr Tryz.underlying29 rfl (by kernel_rfl))).trans (by rfl)) rfl ⟨told_some (r := constD (instW i) p) (u := none) (q := 0) (by rw [HR.out, if_pos ⟨H27.out, hv⟩]) (ints_none _ _) rfl, ?_⟩
        exact (by repeat (first | refine Below.setCell ?_ (by dsimp only; omega) _ | exact HF3.out.f.below))
  · have q27 : (i.op != 27) = true := by rw [bne_iff_ne]; exact h27
    have HR : Hid (rule6 d i = none) := by
      show _ = _
      unfold rule6
      split
      · rw [if_neg (fun k => h27 k.1)]
      · rfl
    clear h27
    go_wp2_with fail
    have hr := (heap_set (o := 6) (v := .slice none 0 0) (heap_set (o := 5) (v := .int .i64 0) (heap_set (o := 4) (v := .int .i64 0) (heap_set (o := 3) (v := .int .i64 0) (heap_set (o := 2) (v := .int .i64 0) (heap_set (o := 1) (v := .int .i64 0) (heap_set (o := 0) (v := .int .i64 0) HF1.out.r)))))))
    refine bodyPost_ret (v := .tuple #[.agg #[.int .i64 0, .int .i64 0, .int .i64 0, .int .i64 0, .int .i64 0, .int .i64 0, .slice none 0 0], .bool false]) ((results_cell_row_tmp Tryz.results64 _ _ (w.heap.size + 1) _ rfl (run_loadVar_row _ _ 29 _ _ (0, 0) _ hr Tryz.underlying29 rfl (by kernel_rfl))).trans (by rfl)) rfl ⟨told_none (HR.out) rfl, ?_⟩
    exact (by repeat (first | refine Below.setCell ?_ (by dsimp only; omega) _ | exact HF1.out.f.below))
end Go.Proofs.YtoknhppjdmoblaaGreatDoor
