import Derived.Test.YtoknhppjdmoblaaGreatDoorIns
import Derived.Test.YtoknhppjdmoblaaGreatDoorRulQ
import Derived.Test.YtoknhppjdmoblaaGreatDoorFmAQ
import Derived.Test.YtoknhppjdmoblaaGreatDoorRows
import Derived.WalkKit
import Derived.Below
import Derived.Deep.QuietTactic
import Derived.BigQuiet
import Derived.Deep.RegionHeld2
namespace Go.Proofs.YtoknhppjdmoblaaGreatDoor
set_option linter.unusedVariables false
set_option linter.unusedSimpArgs false
open Go.RowKit
def constD (w v : Int) : InstD := ⟨21, w, 0, 0, 0, v, []⟩
def copyD (w a : Int) : InstD := ⟨27, w, a, 0, 0, 0, []⟩
def isC (d : FuncD) (id v : Int) : Bool := constF d id == some v
def twoC (op : Int) (b0 a0 b1 a1 e : Bool) : Nat :=
 if b0 && (op == 1 || op == 2 || op == 9 || op == 10 || op == 11 || op == 12 || op == 13) then 1
 else if a0 && (op == 1 || op == 9 || op == 10) then 2
 else if b1 && (op == 3 || op == 4) then 1
 else if a1 && op == 3 then 2
 else if (op == 3 || op == 8) && (a0 || b0) then 3
 else if !e then 0
 else if op == 2 || op == 10 || op == 15 || op == 16 || op == 17 then 3
 else if op == 14 then 4
 else if op == 8 || op == 9 then 1
 else 0
def oneC (op : Int) (b0 a0 b1 a1 : Bool) : Nat :=
 if op == 1 || op == 9 || op == 10 then (if b0 then 1 else if a0 then 2 else 0)
 else if op == 2 || op == 11 || op == 12 || op == 13 then (if b0 then 1 else 0)
 else if op == 4 then (if b1 then 1 else 0)
 else if op == 3 then (if b1 then 1 else if a1 then 2 else if a0 || b0 then 3 else 0)
 else if op == 8 then (if a0 || b0 then 3 else 0)
 else 0
def idC (op : Int) (e : Bool) : Nat :=
 if !e then 0
 else if op == 2 || op == 10 || op == 15 || op == 16 || op == 17 then 3
 else if op == 14 then 4
 else if op == 8 || op == 9 then 1
 else 0
def pickD (i : InstD) : Nat → InstD
 | 1 => copyD (instW i) i.a
 | 2 => copyD (instW i) i.b
 | 3 => constD (instW i) 0
 | 4 => constD (instW i) 1
 | _ => i
theorem two_rules {op : Int} (h : opB op = true) (b0 a0 b1 a1 e : Bool) : twoC op b0 a0 b1 a1 e = (if oneC op b0 a0 b1 a1 = 0 then idC op e else oneC op b0 a0 b1 a1) := by
 obtain ⟨h1, h2⟩ := op_yes h
 obtain ⟨n, rfl⟩ : ∃ n : Nat, op = n := ⟨op.toNat, by omega⟩
 have h3 : n = 1 ∨ n = 2 ∨ n = 3 ∨ n = 4 ∨ n = 5 ∨ n = 6 ∨ n = 7 ∨ n = 8 ∨ n = 9 ∨ n = 10 ∨ n = 11 ∨ n = 12 ∨ n = 13 ∨ n = 14 ∨ n = 15 ∨ n = 16 ∨ n = 17 := by omega
 rcases h3 with rfl | rfl | rfl | rfl | rfl | rfl | rfl | rfl | rfl | rfl | rfl | rfl | rfl | rfl | rfl | rfl | rfl <;>
  cases b0 <;> cases a0 <;> cases b1 <;> cases a1 <;> cases e <;> rfl
def rule1 (d : FuncD) (i : InstD) : Option InstD := if opB i.op = true then (match constF d i.a, constF d i.b with
 | some x, some y => if binC i.op i.w x y = 0 then some (constD (instW i) (binZ i.op i.w x y)) else some i
 | _, _ => none) else none
def ruleN (i : InstD) (n : Nat) : Option InstD := if n = 0 then none else some (pickD i n)
def rule2 (d : FuncD) (i : InstD) : Option InstD := ruleN i (oneC i.op (isC d i.b 0) (isC d i.a 0) (isC d i.b 1) (isC d i.a 1))
def rule3 (d : FuncD) (i : InstD) : Option InstD := ruleN i (idC i.op (decide (i.a = i.b)))
def rule4 (d : FuncD) (i : InstD) : Option InstD := match constF d i.a with
 | some v => if castB i.op (typeF d i.a) i.w v = true then some (constD (instW i) (castZ i.op (typeF d i.a) i.w v)) else none
 | none => none
def rule5 (d : FuncD) (i : InstD) : Option InstD := if i.op = 22 then (if isC d i.a 1 = true ∨ i.b = i.c then some (copyD (instW i) i.b) else if (constF d i.a).isSome = true then some (copyD (instW i) i.c) else none) else none
def rule6 (d : FuncD) (i : InstD) : Option InstD := match constF d i.a with
 | some v => if i.op = 27 ∧ valueB i.w v = true then some (constD (instW i) v) else none
 | none => none
def ruleK (d : FuncD) (i : InstD) : Nat → Option InstD
 | 0 => rule1 d i
 | 1 => rule2 d i
 | 2 => rule3 d i
 | 3 => rule4 d i
 | 4 => rule5 d i
 | 5 => rule6 d i
 | _ => none
def byFrom (d : FuncD) (i : InstD) : Nat → Nat → InstD
 | _, 0 => i
 | k, n + 1 => match ruleK d i k with
  | some r => r
  | none => byFrom d i (k + 1) n
def foldP (d : FuncD) (i : InstD) : InstD := byFrom d i 0 6
def foldF (d : FuncD) (i : InstD) : InstD :=
 if opB i.op = true then (match constF d i.a, constF d i.b with
  | some x, some y => if binC i.op i.w x y = 0 then constD (instW i) (binZ i.op i.w x y) else i
  | _, _ => pickD i (twoC i.op (isC d i.b 0) (isC d i.a 0) (isC d i.b 1) (isC d i.a 1) (decide (i.a = i.b))))
 else if i.op = 18 ∨ i.op = 19 ∨ i.op = 20 then (match constF d i.a with
  | some v => if castB i.op (typeF d i.a) i.w v = true then constD i.w (castZ i.op (typeF d i.a) i.w v) else i
  | none => i)
 else if i.op = 22 then (if isC d i.a 1 = true ∨ i.b = i.c then copyD i.w i.b else if (constF d i.a).isSome = true then copyD i.w i.c else i)
 else if i.op = 27 then (match constF d i.a with
  | some v => if valueB i.w v = true then constD i.w v else i
  | none => i)
 else i
theorem cast_no {op f t v : Int} (h : ¬ (op = 18 ∨ op = 19 ∨ op = 20)) : castB op f t v = false := by
 unfold castB
 have h1 : ¬ (op = 18 ∧ f < t) := fun k => h (.inl k.1)
 have h2 : ¬ (op = 19 ∧ f < t) := fun k => h (.inr (.inl k.1))
 have h3 : ¬ (op = 20 ∧ t < f) := fun k => h (.inr (.inr k.1))
 rw [decide_eq_false h1, decide_eq_false h2, decide_eq_false h3]
 simp
theorem one_no {op : Int} (h : opB op = false) (b0 a0 b1 a1 : Bool) : oneC op b0 a0 b1 a1 = 0 := by
 have h1 : ¬ (1 ≤ op ∧ op ≤ 17) := by simpa [opB] using h
 unfold oneC
 have n1 : (op == 1) = false := by simp; omega
 have n2 : (op == 2) = false := by simp; omega
 have n3 : (op == 3) = false := by simp; omega
 have n4 : (op == 4) = false := by simp; omega
 have n8 : (op == 8) = false := by simp; omega
 have n9 : (op == 9) = false := by simp; omega
 have n10 : (op == 10) = false := by simp; omega
 have n11 : (op == 11) = false := by simp; omega
 have n12 : (op == 12) = false := by simp; omega
 have n13 : (op == 13) = false := by simp; omega
 simp [n1, n2, n3, n4, n8, n9, n10, n11, n12, n13]
theorem id_no {op : Int} (h : opB op = false) (e : Bool) : idC op e = 0 := by
 have h1 : ¬ (1 ≤ op ∧ op ≤ 17) := by simpa [opB] using h
 unfold idC
 have n2 : (op == 2) = false := by simp; omega
 have n8 : (op == 8) = false := by simp; omega
 have n9 : (op == 9) = false := by simp; omega
 have n10 : (op == 10) = false := by simp; omega
 have n14 : (op == 14) = false := by simp; omega
 have n15 : (op == 15) = false := by simp; omega
 have n16 : (op == 16) = false := by simp; omega
 have n17 : (op == 17) = false := by simp; omega
 simp [n2, n8, n9, n10, n14, n15, n16, n17]
theorem fold_same (d : FuncD) (i : InstD) : foldP d i = foldF d i := by
 unfold foldP
 by_cases ho : opB i.op = true
 ·have hn : ¬ (i.op = 18 ∨ i.op = 19 ∨ i.op = 20) := by have := op_yes ho; omega
  have hn2 : ¬ i.op = 22 := by have := op_yes ho; omega
  have hn3 : ¬ i.op = 27 := by have := op_yes ho; omega
  have r4 : rule4 d i = none := by
   unfold rule4
   split
   ·rw [cast_no hn]; rfl
   ·rfl
  have r5 : rule5 d i = none := by unfold rule5; rw [if_neg hn2]
  have r6 : rule6 d i = none := by
   unfold rule6
   split
   ·rw [if_neg (fun k => hn3 k.1)]
   ·rfl
  have tail : byFrom d i 1 5 = pickD i (twoC i.op (isC d i.b 0) (isC d i.a 0) (isC d i.b 1) (isC d i.a 1) (decide (i.a = i.b))) := by
   rw [two_rules ho]
   simp only [byFrom, ruleK, r4, r5, r6, rule2, rule3, ruleN]
   by_cases h1 : oneC i.op (isC d i.b 0) (isC d i.a 0) (isC d i.b 1) (isC d i.a 1) = 0
   ·rw [if_pos h1, if_pos h1]
    by_cases h2 : idC i.op (decide (i.a = i.b)) = 0
    ·rw [if_pos h2, h2]; rfl
    ·rw [if_neg h2]
   ·rw [if_neg h1, if_neg h1]
  show (match rule1 d i with | some r => r | none => byFrom d i 1 5) = _
  rw [tail]
  unfold rule1 foldF
  rw [if_pos ho, if_pos ho]
  cases constF d i.a with
  | none => rfl
  | some x =>
   cases constF d i.b with
   | none => rfl
   | some y =>
    by_cases hb : binC i.op i.w x y = 0
    ·simp only [if_pos hb]
    ·simp only [if_neg hb]
 ·have ho' : opB i.op = false := by simpa using ho
  have r1 : rule1 d i = none := by unfold rule1; rw [if_neg ho]
  have r2 : rule2 d i = none := by unfold rule2; rw [one_no ho']; rfl
  have r3 : rule3 d i = none := by unfold rule3; rw [id_no ho']; rfl
  have hw : instW i = i.w := by unfold instW; rw [if_neg ho]
  simp only [byFrom, ruleK, r1, r2, r3]
  unfold foldF
  rw [if_neg ho]
  by_cases hc : i.op = 18 ∨ i.op = 19 ∨ i.op = 20
  ·rw [if_pos hc]
   have r5 : rule5 d i = none := by unfold rule5; rw [if_neg (by omega)]
   have r6 : rule6 d i = none := by
    unfold rule6
    split
    ·rw [if_neg (fun k => by have := k.1; omega)]
    ·rfl
   rw [r5, r6]
   unfold rule4
   rw [hw]
   cases constF d i.a with
   | none => rfl
   | some v =>
    by_cases hb : castB i.op (typeF d i.a) i.w v = true
    ·simp only [if_pos hb]
    ·simp only [if_neg hb]
  ·rw [if_neg hc]
   have r4 : rule4 d i = none := by
    unfold rule4
    split
    ·rw [cast_no hc]; rfl
    ·rfl
   rw [r4]
   by_cases h22 : i.op = 22
   ·rw [if_pos h22]
    have r6 : rule6 d i = none := by
     unfold rule6
     split
     ·rw [if_neg (fun k => by have := k.1; omega)]
     ·rfl
    rw [r6]
    unfold rule5
    rw [if_pos h22, hw]
    by_cases h1 : isC d i.a 1 = true ∨ i.b = i.c
    ·simp only [if_pos h1]
    ·simp only [if_neg h1]
     by_cases h2 : (constF d i.a).isSome = true
     ·simp only [if_pos h2]
     ·simp only [if_neg h2]
   ·rw [if_neg h22]
    have r5 : rule5 d i = none := by unfold rule5; rw [if_neg h22]
    rw [r5]
    unfold rule6
    rw [hw]
    by_cases h27 : i.op = 27
    ·rw [if_pos h27]
     cases constF d i.a with
     | none => rfl
     | some v =>
      by_cases hb : valueB i.w v = true
      ·simp only [if_pos hb, if_pos (And.intro h27 hb)]
      ·simp only [if_neg hb, if_neg (fun k : i.op = 27 ∧ valueB i.w v = true => hb k.2)]
    ·rw [if_neg h27]
     cases constF d i.a with
     | none => rfl
     | some v => simp only [if_neg (fun k : i.op = 27 ∧ valueB i.w v = true => h27 k.1)]
end Go.Proofs.YtoknhppjdmoblaaGreatDoor
namespace Go.Proofs.YtoknhppjdmoblaaGreatDoor
set_option linter.unusedVariables false
set_option linter.unusedSimpArgs false
open Go.RowKit
structure Noughts (n k : Nat) (a b c : Int) : Prop where
 f0 : n ≤ 0 → 0 < k → a = 0
 f1 : n ≤ 1 → 1 < k → b = 0
 f2 : n ≤ 2 → 2 < k → c = 0
theorem Noughts.start (n : Nat) (a b c : Int) : Noughts n n a b c := ⟨fun _ _ => by omega, fun _ _ => by omega, fun _ _ => by omega⟩
theorem Noughts.next0 {n : Nat} {a b c : Int} (h : Noughts n 0 a b c) (e : a = 0) : Noughts n 1 a b c := ⟨fun _ _ => e, fun _ _ => by omega, fun _ _ => by omega⟩
theorem Noughts.next1 {n : Nat} {a b c : Int} (h : Noughts n 1 a b c) (e : b = 0) : Noughts n 2 a b c := ⟨fun h1 _ => h.f0 h1 (by omega), fun _ _ => e, fun _ _ => by omega⟩
theorem Noughts.next2 {n : Nat} {a b c : Int} (h : Noughts n 2 a b c) (e : c = 0) : Noughts n 3 a b c := ⟨fun h1 _ => h.f0 h1 (by omega), fun h1 _ => h.f1 h1 (by omega), fun _ _ => e⟩
theorem Noughts.full {n k : Nat} {a b c : Int} (h : Noughts n k a b c) (hk : 3 ≤ k) : Noughts n 3 a b c := ⟨fun h1 _ => h.f0 h1 (by omega), fun h1 _ => h.f1 h1 (by omega), fun h1 _ => h.f2 h1 (by omega)⟩
theorem flds_yes {n : Nat} {a b c : Int} (h : Noughts n 3 a b c) : (true && (decide (1 ≤ n) || a == 0) && (decide (2 ≤ n) || b == 0) && (decide (3 ≤ n) || c == 0)) = true := by
 simp only [Bool.true_and, Bool.and_eq_true, Bool.or_eq_true, decide_eq_true_eq, beq_iff_eq]
 refine ⟨⟨?_, ?_⟩, ?_⟩
 ·by_cases e : 1 ≤ n
  ·exact .inl e
  ·exact .inr (h.f0 (by omega) (by omega))
 ·by_cases e : 2 ≤ n
  ·exact .inl e
  ·exact .inr (h.f1 (by omega) (by omega))
 ·by_cases e : 3 ≤ n
  ·exact .inl e
  ·exact .inr (h.f2 (by omega) (by omega))
theorem cells3 {w w' : World} {o : Obj} {a b c : Int} {T : TypeId} (h : Below ((w.alloc o).alloc (.cells #[.int .i64 a, .int .i64 b, .int .i64 c] T)).heap.size ((w.alloc o).alloc (.cells #[.int .i64 a, .int .i64 b, .int .i64 c] T)) w') :
  w'.cell? ⟨w.heap.size + 1, 0, none⟩ = some (.int .i64 a) ∧ w'.cell? ⟨w.heap.size + 1, 1, none⟩ = some (.int .i64 b) ∧ w'.cell? ⟨w.heap.size + 1, 2, none⟩ = some (.int .i64 c) ∧ Below w.heap.size w w' := by
 have hl := heap_alloc_last (w.alloc o) (.cells #[.int .i64 a, .int .i64 b, .int .i64 c] T)
 have e : (w.alloc o).heap.size = w.heap.size + 1 := by simp
 rw [e] at hl
 have hb := (h.block (w.heap.size + 1) (by simp)).trans hl
 exact ⟨(cell_of_heap hb).trans rfl, (cell_of_heap hb).trans rfl, (cell_of_heap hb).trans rfl, (((Below.refl _ _).alloc (Nat.le_refl _) _).alloc (by simp) _).trans (h.mono (by simp; omega))⟩
set_option maxHeartbeats 1000000 in
set_option maxRecDepth 100000 in
theorem fldI_more (lo : Nat) (d : InstD) (u : Option Addr) (q : Nat) (w : World) (h6 : ¬ d.op = 26) (hz : d.args.length = 0) (hk : IntsAt w lo u d.args) : Calls Tryz.prog 56 #[.agg #[.int .i64 d.op, .int .i64 d.w, .int .i64 d.a, .int .i64 d.b, .int .i64 d.c, .int .i64 d.imm, .slice u d.args.length q], kindV d u q] w fun e w' => e = .returned (.bool (fB d)) ∧ Below w.heap.size w w' := by
 obtain ⟨T, v, f, D⟩ := disp d u q
 rw [D.kv]
 have A2 := D.as_call h6
 have M := D.meth
 have C := fun w => D.con lo w (by omega)
 have F := D.call
 have yes' : Noughts (opsD d).length 3 d.a d.b d.c → true = fB d := fun h => by
  rw [fB, if_neg h6, decide_eq_true hz]
  exact (flds_yes h).symm
 have no0' : (opsD d).length ≤ 0 → ¬ d.a = 0 → false = fB d := fun h e => by
  rw [fB, if_neg h6]; simp [show ¬ 1 ≤ (opsD d).length by omega, e]
 have no1' : (opsD d).length ≤ 1 → ¬ d.b = 0 → false = fB d := fun h e => by
  rw [fB, if_neg h6]; simp [show ¬ 2 ≤ (opsD d).length by omega, e]
 have no2' : (opsD d).length ≤ 2 → ¬ d.c = 0 → false = fB d := fun h e => by
  rw [fB, if_neg h6]; simp [show ¬ 3 ≤ (opsD d).length by omega, e]
 have yes : Hid (Noughts (opsD d).length 3 d.a d.b d.c → true = fB d) := yes'
 have no0 : Hid ((opsD d).length ≤ 0 → ¬ d.a = 0 → false = fB d) := no0'
 have no1 : Hid ((opsD d).length ≤ 1 → ¬ d.b = 0 → false = fB d) := no1'
 have no2 : Hid ((opsD d).length ≤ 2 → ¬ d.c = 0 → false = fB d) := no2'
 clear yes' no0' no1' no2'
 clear D
 go_enter Tryz.func56, Tryz.ntmps56
 go_wp2_with fail
 refine (C _ (hk.keep ((agree_alloc _ _ _).trans (agree_alloc _ _ _)))).mono ?_
 rintro e w1 ⟨a, r, rfl, _, hb1⟩
 obtain ⟨x0, x1, x2, hB⟩ := cells3 hb1
 clear hb1 C F M A2
 go_wp2_with fail
 go_loop [9] (fun i => ∃ k : Nat, i = .int .i64 k ∧ (opsD d).length ≤ k ∧ (k ≤ 3 ∨ k ≤ (opsD d).length) ∧ Hid (Noughts (opsD d).length k d.a d.b d.c)) (fun i => 3 - (intOf i).toNat)
 case atStart => exact ⟨(opsD d).length, by go_num, by omega, by omega, Noughts.start _ _ _ _⟩
 case round =>
  obtain ⟨k, rfl, hk0, hk1, HN⟩ := hrel
  by_cases hlt : k < 3
  ·rcases (show k = 0 ∨ k = 1 ∨ k = 2 by omega) with rfl | rfl | rfl
   ·by_cases h0 : d.a = 0
    ·have HM : Hid (Noughts (opsD d).length 1 d.a d.b d.c) := HN.out.next0 h0
     go_wp2_with fail
     exact ⟨⟨1, by go_num, by omega, by omega, HM.out⟩, by simp only [intOf]; omega⟩
    ·have HF : Hid (false = fB d) := no0.out (by omega) h0
     go_wp2_with fail
     go_ret
     exact ⟨ret_bool HF.out, hB⟩
   ·by_cases h0 : d.b = 0
    ·have HM : Hid (Noughts (opsD d).length 2 d.a d.b d.c) := HN.out.next1 h0
     go_wp2_with fail
     exact ⟨⟨2, by go_num, by omega, by omega, HM.out⟩, by simp only [intOf]; omega⟩
    ·have HF : Hid (false = fB d) := no1.out (by omega) h0
     go_wp2_with fail
     go_ret
     exact ⟨ret_bool HF.out, hB⟩
   ·by_cases h0 : d.c = 0
    ·have HM : Hid (Noughts (opsD d).length 3 d.a d.b d.c) := HN.out.next2 h0
     go_wp2_with fail
     exact ⟨⟨3, by go_num, by omega, by omega, HM.out⟩, by simp only [intOf]; omega⟩
    ·have HF : Hid (false = fB d) := no2.out (by omega) h0
     go_wp2_with fail
     go_ret
     exact ⟨ret_bool HF.out, hB⟩
  ·have HF : Hid (true = fB d) := yes.out (HN.out.full (by omega))
   go_wp2_with fail
   go_ret
   exact ⟨ret_bool HF.out, hB⟩
end Go.Proofs.YtoknhppjdmoblaaGreatDoor
namespace Go.Proofs.YtoknhppjdmoblaaGreatDoor
set_option linter.unusedVariables false
set_option linter.unusedSimpArgs false
open Go.RowKit
set_option maxHeartbeats 1000000 in
set_option maxRecDepth 100000 in
theorem fldI_full (d : InstD) (u : Option Addr) (q : Nat) (w : World) (h6 : ¬ d.op = 26) (hz : ¬ d.args.length = 0) (hm : d.args.length ≤ 1048576) : Calls Tryz.prog 56 #[.agg #[.int .i64 d.op, .int .i64 d.w, .int .i64 d.a, .int .i64 d.b, .int .i64 d.c, .int .i64 d.imm, .slice u d.args.length q], kindV d u q] w fun e w' => e = .returned (.bool (fB d)) ∧ Below w.heap.size w w' := by
 obtain ⟨T, v, f, D⟩ := disp d u q
 rw [D.kv]
 have A2 := D.as_call h6
 have HF : Hid (false = fB d) := by show _ = _; rw [fB, if_neg h6, decide_eq_false hz]; rfl
 have hz2 : (0 : Int) < d.args.length := by omega
 clear D
 go_enter Tryz.func56, Tryz.ntmps56
 go_wp2_with fail
 go_ret
 exact ⟨ret_bool HF.out, ((Below.refl _ _).alloc (Nat.le_refl _) _).alloc (by simp) _⟩
set_option maxHeartbeats 1000000 in
set_option maxRecDepth 100000 in
theorem fldI_26 (d : InstD) (u : Option Addr) (q : Nat) (w : World) (h6 : d.op = 26) (hm : d.args.length ≤ 1048576) : Calls Tryz.prog 56 #[.agg #[.int .i64 d.op, .int .i64 d.w, .int .i64 d.a, .int .i64 d.b, .int .i64 d.c, .int .i64 d.imm, .slice u d.args.length q], kindV d u q] w fun e w' => e = .returned (.bool (fB d)) ∧ Below w.heap.size w w' := by
 rw [kv_26 h6]
 have A2 := as_callKind_callKind
 by_cases h4 : 4 < d.args.length
 ·have HF : Hid (false = fB d) := by show _ = _; rw [fB, if_pos h6, decide_eq_false (by omega)]; rfl
  have h42 : (4 : Int) < d.args.length := by omega
  go_enter Tryz.func56, Tryz.ntmps56
  go_wp2_with fail
  go_ret
  exact ⟨ret_bool HF.out, by first | exact ((Below.refl _ _).alloc (Nat.le_refl _) _).alloc (by simp) _ | exact (((Below.refl _ _).alloc (Nat.le_refl _) _).alloc (by simp) _).alloc (by simp; omega) _ | exact (Below.refl _ _).alloc (Nat.le_refl _) _⟩
 ·have yes' : Noughts 0 3 d.a d.b d.c → true = fB d := fun h => by
   rw [fB, if_pos h6, decide_eq_true (by omega), h.f0 (by omega) (by omega), h.f1 (by omega) (by omega), h.f2 (by omega) (by omega)]; rfl
  have no0' : 0 ≤ 0 → ¬ d.a = 0 → false = fB d := fun _ e => by rw [fB, if_pos h6]; simp [e]
  have no1' : 0 ≤ 1 → ¬ d.b = 0 → false = fB d := fun _ e => by rw [fB, if_pos h6]; simp [e]
  have no2' : 0 ≤ 2 → ¬ d.c = 0 → false = fB d := fun _ e => by rw [fB, if_pos h6]; simp [e]
  have yes : Hid (Noughts 0 3 d.a d.b d.c → true = fB d) := yes'
  have no0 : Hid (0 ≤ 0 → ¬ d.a = 0 → false = fB d) := no0'
  have no1 : Hid (0 ≤ 1 → ¬ d.b = 0 → false = fB d) := no1'
  have no2 : Hid (0 ≤ 2 → ¬ d.c = 0 → false = fB d) := no2'
  clear yes' no0' no1' no2'
  have h42 : ¬ (4 : Int) < d.args.length := by omega
  go_enter Tryz.func56, Tryz.ntmps56
  go_wp2_with fail
  go_loop [9] (fun i => ∃ k : Nat, i = .int .i64 k ∧ k ≤ 3 ∧ Hid (Noughts 0 k d.a d.b d.c)) (fun i => 3 - (intOf i).toNat)
  case atStart => exact ⟨0, by go_num, by omega, Noughts.start _ _ _ _⟩
  case round =>
   obtain ⟨k, rfl, hk1, HN⟩ := hrel
   by_cases hlt : k < 3
   ·rcases (show k = 0 ∨ k = 1 ∨ k = 2 by omega) with rfl | rfl | rfl
    ·by_cases h0 : d.a = 0
     ·have HM : Hid (Noughts 0 1 d.a d.b d.c) := HN.out.next0 h0
      go_wp2_with fail
      exact ⟨⟨1, by go_num, by omega, by first | exact HM.out | (have hm := HM.out; rw [h0] at hm; exact hm)⟩, by simp only [intOf]; omega⟩
     ·have HF : Hid (false = fB d) := no0.out (by omega) h0
      go_wp2_with fail
      go_ret
      exact ⟨ret_bool HF.out, by first | exact ((Below.refl _ _).alloc (Nat.le_refl _) _).alloc (by simp) _ | exact (((Below.refl _ _).alloc (Nat.le_refl _) _).alloc (by simp) _).alloc (by simp; omega) _ | exact (Below.refl _ _).alloc (Nat.le_refl _) _⟩
    ·by_cases h0 : d.b = 0
     ·have HM : Hid (Noughts 0 2 d.a d.b d.c) := HN.out.next1 h0
      go_wp2_with fail
      exact ⟨⟨2, by go_num, by omega, by first | exact HM.out | (have hm := HM.out; rw [h0] at hm; exact hm)⟩, by simp only [intOf]; omega⟩
     ·have HF : Hid (false = fB d) := no1.out (by omega) h0
      go_wp2_with fail
      go_ret
      exact ⟨ret_bool HF.out, by first | exact ((Below.refl _ _).alloc (Nat.le_refl _) _).alloc (by simp) _ | exact (((Below.refl _ _).alloc (Nat.le_refl _) _).alloc (by simp) _).alloc (by simp; omega) _ | exact (Below.refl _ _).alloc (Nat.le_refl _) _⟩
    ·by_cases h0 : d.c = 0
     ·have HM : Hid (Noughts 0 3 d.a d.b d.c) := HN.out.next2 h0
      go_wp2_with fail
      exact ⟨⟨3, by go_num, by omega, by first | exact HM.out | (have hm := HM.out; rw [h0] at hm; exact hm)⟩, by simp only [intOf]; omega⟩
     ·have HF : Hid (false = fB d) := no2.out (by omega) h0
      go_wp2_with fail
      go_ret
      exact ⟨ret_bool HF.out, by first | exact ((Below.refl _ _).alloc (Nat.le_refl _) _).alloc (by simp) _ | exact (((Below.refl _ _).alloc (Nat.le_refl _) _).alloc (by simp) _).alloc (by simp; omega) _ | exact (Below.refl _ _).alloc (Nat.le_refl _) _⟩
   ·have HF : Hid (true = fB d) := yes.out (HN.out.full (by omega))
    go_wp2_with fail
    go_ret
    exact ⟨ret_bool HF.out, by first | exact ((Below.refl _ _).alloc (Nat.le_refl _) _).alloc (by simp) _ | exact (((Below.refl _ _).alloc (Nat.le_refl _) _).alloc (by simp) _).alloc (by simp; omega) _ | exact (Below.refl _ _).alloc (Nat.le_refl _) _⟩
theorem fldI (lo : Nat) (d : InstD) (u : Option Addr) (q : Nat) (w : World) (hm : d.args.length ≤ 1048576) (hk : IntsAt w lo u d.args) : Calls Tryz.prog 56 #[.agg #[.int .i64 d.op, .int .i64 d.w, .int .i64 d.a, .int .i64 d.b, .int .i64 d.c, .int .i64 d.imm, .slice u d.args.length q], kindV d u q] w fun e w' => e = .returned (.bool (fB d)) ∧ Below w.heap.size w w' := by
 by_cases h6 : d.op = 26
 ·exact fldI_26 d u q w h6 hm
 by_cases hz : d.args.length = 0
 ·exact fldI_more lo d u q w h6 hz hk
 exact fldI_full d u q w h6 hz hm
end Go.Proofs.YtoknhppjdmoblaaGreatDoor
namespace Go.Proofs.YtoknhppjdmoblaaGreatDoor
set_option linter.unusedVariables false
set_option linter.unusedSimpArgs false
open Go.RowKit
structure Abv (C : World → Prop) where
 v : World
 ok : C v
theorem wp_region_abv {P : Program} {id : Nat} {Q : Exit → Act → World → Prop} {a : Act} {w : World} {l : List Oper} (C : World → Prop) (hm : P.follows .mixedOrders = true) (hB : Region.lexB .any l.toArray = true) (h0 : C w.drew)
  (h : wpQuiet P l.toArray (fun w' => ∃ x : Abv C, w' = x.v) (fun a' => ∀ w', (∃ x : Abv C, w' = x.v) → Q .normal a' w') l a) : (Code.region id l.toArray true).wp P Q a w :=
 wp_region_quiet (C := fun w' => ∃ x : Abv C, w' = x.v) hm hB ⟨⟨w.drew, h0⟩, rfl⟩ (by simpa using h)
theorem abv_ne {C : World → Prop} {w : World} (h : C w) : Nonempty (Abv C) := ⟨⟨w, h⟩⟩
theorem drew_below {b : Nat} {w w' : World} (h : Below b w w') : Below b w w'.drew := ⟨h.os, h.tape, h.output, h.size, h.block⟩
theorem abv_call {P : Program} {f : FuncId} {args : Array Value} {w : World} {v : Value} (x : Abv (fun v => Below w.heap.size w v))
  (h : Calls P f args x.v fun e w' => e = .returned v ∧ Below x.v.heap.size x.v w') : Calls P f args x.v fun e w'' => e = .returned v ∧ ∃ y : Abv (fun v => Below w.heap.size w v), w'' = y.v :=
 h.mono fun _ w' ⟨he, hb⟩ => ⟨he, ⟨w', x.ok.trans (hb.mono x.ok.size)⟩, rfl⟩
end Go.Proofs.YtoknhppjdmoblaaGreatDoor
namespace Go.Proofs.YtoknhppjdmoblaaGreatDoor
set_option linter.unusedVariables false
set_option linter.unusedSimpArgs false
open Go.RowKit
structure Room (d : InstD) (u : Option Addr) (q : Nat) (ids blocks funcs : Int) (w w1 : World) : Prop where
 cells : w1.cell? ⟨w.heap.size, 0, none⟩ = some (.int .i64 d.op) ∧ w1.cell? ⟨w.heap.size, 1, none⟩ = some (.int .i64 d.w) ∧ w1.cell? ⟨w.heap.size, 2, none⟩ = some (.int .i64 d.a) ∧ w1.cell? ⟨w.heap.size, 3, none⟩ = some (.int .i64 d.b) ∧ w1.cell? ⟨w.heap.size, 4, none⟩ = some (.int .i64 d.c) ∧ w1.cell? ⟨w.heap.size, 5, none⟩ = some (.int .i64 d.imm) ∧ w1.cell? ⟨w.heap.size, 6, none⟩ = some (.slice u d.args.length q) ∧ w1.cell? ⟨w.heap.size + 1, 0, none⟩ = some (.int .i64 ids) ∧ w1.cell? ⟨w.heap.size + 1, 1, none⟩ = some (.int .i64 blocks) ∧ w1.cell? ⟨w.heap.size + 1, 2, none⟩ = some (.int .i64 funcs)
 below : Below w.heap.size w w1
 size : w.heap.size + 2 ≤ w1.heap.size
theorem Room.keep {d : InstD} {u : Option Addr} {q : Nat} {ids blocks funcs : Int} {w w1 w2 : World} (h : Room d u q ids blocks funcs w w1) (k : Below w1.heap.size w1 w2) : Room d u q ids blocks funcs w w2 := by
 have hz := h.size
 have e0 : ∀ o, w2.cell? ⟨w.heap.size, o, none⟩ = w1.cell? ⟨w.heap.size, o, none⟩ := fun o => cell_block (k.block _ (by omega))
 have e1 : ∀ o, w2.cell? ⟨w.heap.size + 1, o, none⟩ = w1.cell? ⟨w.heap.size + 1, o, none⟩ := fun o => cell_block (k.block _ (by omega))
 refine ⟨?_, h.below.trans (k.mono (by omega)), Nat.le_trans hz k.size⟩
 simp only [e0, e1]
 exact h.cells
theorem Room.start {d : InstD} {u : Option Addr} {q : Nat} {ids blocks funcs : Int} {w w1 : World} (k : Below ((w.alloc (.cells #[.int .i64 d.op, .int .i64 d.w, .int .i64 d.a, .int .i64 d.b, .int .i64 d.c, .int .i64 d.imm, .slice u d.args.length q] 29)).alloc (.cells #[.int .i64 ids, .int .i64 blocks, .int .i64 funcs] 70)).heap.size ((w.alloc (.cells #[.int .i64 d.op, .int .i64 d.w, .int .i64 d.a, .int .i64 d.b, .int .i64 d.c, .int .i64 d.imm, .slice u d.args.length q] 29)).alloc (.cells #[.int .i64 ids, .int .i64 blocks, .int .i64 funcs] 70)) w1) : Room d u q ids blocks funcs w w1 := by
 refine Room.keep (w1 := (w.alloc (.cells #[.int .i64 d.op, .int .i64 d.w, .int .i64 d.a, .int .i64 d.b, .int .i64 d.c, .int .i64 d.imm, .slice u d.args.length q] 29)).alloc (.cells #[.int .i64 ids, .int .i64 blocks, .int .i64 funcs] 70)) ⟨?_, ((Below.refl _ _).alloc (Nat.le_refl _) _).alloc (by simp) _, by simp⟩ k
 have hb := (Below.heap_alloc _ (.cells #[.int .i64 ids, .int .i64 blocks, .int .i64 funcs] 70) _ (by simp)).trans (heap_alloc_last w (.cells #[.int .i64 d.op, .int .i64 d.w, .int .i64 d.a, .int .i64 d.b, .int .i64 d.c, .int .i64 d.imm, .slice u d.args.length q] 29))
 have hl := heap_alloc_last (w.alloc (.cells #[.int .i64 d.op, .int .i64 d.w, .int .i64 d.a, .int .i64 d.b, .int .i64 d.c, .int .i64 d.imm, .slice u d.args.length q] 29)) (.cells #[.int .i64 ids, .int .i64 blocks, .int .i64 funcs] 70)
 have e : (w.alloc (.cells #[.int .i64 d.op, .int .i64 d.w, .int .i64 d.a, .int .i64 d.b, .int .i64 d.c, .int .i64 d.imm, .slice u d.args.length q] 29)).heap.size = w.heap.size + 1 := by simp
 rw [e] at hl
 exact ⟨(cell_of_heap hb).trans rfl, (cell_of_heap hb).trans rfl, (cell_of_heap hb).trans rfl, (cell_of_heap hb).trans rfl, (cell_of_heap hb).trans rfl, (cell_of_heap hb).trans rfl, (cell_of_heap hb).trans rfl, (cell_of_heap hl).trans rfl, (cell_of_heap hl).trans rfl, (cell_of_heap hl).trans rfl⟩
theorem drop_drew {w w' : World} (h : Below w.drew.heap.size w.drew w') : Below w.heap.size w w' := ⟨h.os, h.tape, h.output, h.size, h.block⟩
set_option maxHeartbeats 2000000 in
set_option maxRecDepth 100000 in
theorem instShI_w (lo : Nat) (d : InstD) (u : Option Addr) (q : Nat) (ids blocks funcs : Int) (w : World) (hm : d.args.length ≤ 1048576) (hk : IntsAt w lo u d.args) (hw : wB d = false) :
  Calls Tryz.prog 30 #[.agg #[.int .i64 d.op, .int .i64 d.w, .int .i64 d.a, .int .i64 d.b, .int .i64 d.c, .int .i64 d.imm, .slice u d.args.length q], .agg #[.int .i64 ids, .int .i64 blocks, .int .i64 funcs]] w fun e w' => e = .returned (.bool (instB d ids funcs)) ∧ Below w.heap.size w w' := by
 obtain ⟨T, v, f, D⟩ := disp d u q
 have M := D.meth
 have C := fun lo w => D.con lo w hm
 have F := D.call
 have W := fun w => wI d u q w
 have N := fun w => immI d u q ids blocks funcs w
 have G := fun lo w => fldI lo d u q w hm
 have K := fun w => kind_any d u q w
 rw [D.kv] at W N G K
 rw [hw] at W
 have hol := opsD_len d hm
 have HR : Hid (false = instB d ids funcs) := by show _ = _; simp [instB, hw]
 clear D
 go_enter Tryz.func30, Tryz.ntmps30
 go_wp2_with fail
 refine (K _).mono ?_
 rintro e w1 ⟨rfl, hb1⟩
 have r1 := Room.start hb1
 clear hb1
 go_wp2_with fail
 refine wp_region_abv (fun v => Below w1.heap.size w1 v) (by kernel_rfl) (by kernel_rfl) (drew_below (Below.refl _ _)) ?_
 have hne : Nonempty (Abv (fun v => Below w1.heap.size w1 v)) := abv_ne (Below.refl _ _)
 have z0 := fun x : Abv (fun v => Below w1.heap.size w1 v) => (r1.keep x.ok).cells.1
 have z1 := fun x : Abv (fun v => Below w1.heap.size w1 v) => (r1.keep x.ok).cells.2.1
 have z2 := fun x : Abv (fun v => Below w1.heap.size w1 v) => (r1.keep x.ok).cells.2.2.1
 have z3 := fun x : Abv (fun v => Below w1.heap.size w1 v) => (r1.keep x.ok).cells.2.2.2.1
 have z4 := fun x : Abv (fun v => Below w1.heap.size w1 v) => (r1.keep x.ok).cells.2.2.2.2.1
 have z5 := fun x : Abv (fun v => Below w1.heap.size w1 v) => (r1.keep x.ok).cells.2.2.2.2.2.1
 have z6 := fun x : Abv (fun v => Below w1.heap.size w1 v) => (r1.keep x.ok).cells.2.2.2.2.2.2.1
 have z7 := fun x : Abv (fun v => Below w1.heap.size w1 v) => (r1.keep x.ok).cells.2.2.2.2.2.2.2.1
 have z8 := fun x : Abv (fun v => Below w1.heap.size w1 v) => (r1.keep x.ok).cells.2.2.2.2.2.2.2.2.1
 have z9 := fun x : Abv (fun v => Below w1.heap.size w1 v) => (r1.keep x.ok).cells.2.2.2.2.2.2.2.2.2
 repeat (go_big_quiet_step ((go_at_call 54; exact abv_call _ (W _))))
 refine wpQuiet_nil ?_
 rintro w9 ⟨⟨w9, h9⟩, rfl⟩
 have r9 := r1.keep h9
 clear hne z0 z1 z2 z3 z4 z5 z6 z7 z8 z9
 go_wp2_with fail
 go_ret
 exact ⟨ret_bool HR.out, r9.below⟩
set_option maxHeartbeats 2000000 in
set_option maxRecDepth 100000 in
theorem instShI_i (lo : Nat) (d : InstD) (u : Option Addr) (q : Nat) (ids blocks funcs : Int) (w : World) (hm : d.args.length ≤ 1048576) (hk : IntsAt w lo u d.args) (hw : wB d = true) (hi : iB d funcs = false) :
  Calls Tryz.prog 30 #[.agg #[.int .i64 d.op, .int .i64 d.w, .int .i64 d.a, .int .i64 d.b, .int .i64 d.c, .int .i64 d.imm, .slice u d.args.length q], .agg #[.int .i64 ids, .int .i64 blocks, .int .i64 funcs]] w fun e w' => e = .returned (.bool (instB d ids funcs)) ∧ Below w.heap.size w w' := by
 obtain ⟨T, v, f, D⟩ := disp d u q
 have M := D.meth
 have C := fun lo w => D.con lo w hm
 have F := D.call
 have W := fun w => wI d u q w
 have N := fun w => immI d u q ids blocks funcs w
 have G := fun lo w => fldI lo d u q w hm
 have K := fun w => kind_any d u q w
 rw [D.kv] at W N G K
 rw [hw] at W
 rw [hi] at N
 have hol := opsD_len d hm
 have HR : Hid (false = instB d ids funcs) := by show _ = _; simp [instB, hw, hi]
 clear D
 go_enter Tryz.func30, Tryz.ntmps30
 go_wp2_with fail
 refine (K _).mono ?_
 rintro e w1 ⟨rfl, hb1⟩
 have r1 := Room.start hb1
 clear hb1
 go_wp2_with fail
 refine wp_region_abv (fun v => Below w1.heap.size w1 v) (by kernel_rfl) (by kernel_rfl) (drew_below (Below.refl _ _)) ?_
 have hne : Nonempty (Abv (fun v => Below w1.heap.size w1 v)) := abv_ne (Below.refl _ _)
 have z0 := fun x : Abv (fun v => Below w1.heap.size w1 v) => (r1.keep x.ok).cells.1
 have z1 := fun x : Abv (fun v => Below w1.heap.size w1 v) => (r1.keep x.ok).cells.2.1
 have z2 := fun x : Abv (fun v => Below w1.heap.size w1 v) => (r1.keep x.ok).cells.2.2.1
 have z3 := fun x : Abv (fun v => Below w1.heap.size w1 v) => (r1.keep x.ok).cells.2.2.2.1
 have z4 := fun x : Abv (fun v => Below w1.heap.size w1 v) => (r1.keep x.ok).cells.2.2.2.2.1
 have z5 := fun x : Abv (fun v => Below w1.heap.size w1 v) => (r1.keep x.ok).cells.2.2.2.2.2.1
 have z6 := fun x : Abv (fun v => Below w1.heap.size w1 v) => (r1.keep x.ok).cells.2.2.2.2.2.2.1
 have z7 := fun x : Abv (fun v => Below w1.heap.size w1 v) => (r1.keep x.ok).cells.2.2.2.2.2.2.2.1
 have z8 := fun x : Abv (fun v => Below w1.heap.size w1 v) => (r1.keep x.ok).cells.2.2.2.2.2.2.2.2.1
 have z9 := fun x : Abv (fun v => Below w1.heap.size w1 v) => (r1.keep x.ok).cells.2.2.2.2.2.2.2.2.2
 repeat (go_big_quiet_step ((first | (go_at_call 54; exact abv_call _ (W _)) | (go_at_call 55; exact abv_call _ (N _)))))
 refine wpQuiet_nil ?_
 rintro w9 ⟨⟨w9, h9⟩, rfl⟩
 have r9 := r1.keep h9
 clear hne z0 z1 z2 z3 z4 z5 z6 z7 z8 z9
 go_wp2_with fail
 go_ret
 exact ⟨ret_bool HR.out, r9.below⟩
set_option maxHeartbeats 2000000 in
set_option maxRecDepth 100000 in
theorem instShI_f (lo : Nat) (d : InstD) (u : Option Addr) (q : Nat) (ids blocks funcs : Int) (w : World) (hm : d.args.length ≤ 1048576) (hk : IntsAt w lo u d.args) (hw : wB d = true) (hi : iB d funcs = true) (hf : fB d = false) :
  Calls Tryz.prog 30 #[.agg #[.int .i64 d.op, .int .i64 d.w, .int .i64 d.a, .int .i64 d.b, .int .i64 d.c, .int .i64 d.imm, .slice u d.args.length q], .agg #[.int .i64 ids, .int .i64 blocks, .int .i64 funcs]] w fun e w' => e = .returned (.bool (instB d ids funcs)) ∧ Below w.heap.size w w' := by
 obtain ⟨T, v, f, D⟩ := disp d u q
 have M := D.meth
 have C := fun lo w => D.con lo w hm
 have F := D.call
 have W := fun w => wI d u q w
 have N := fun w => immI d u q ids blocks funcs w
 have G := fun lo w => fldI lo d u q w hm
 have K := fun w => kind_any d u q w
 rw [D.kv] at W N G K
 rw [hw] at W
 rw [hi] at N
 rw [hf] at G
 have hol := opsD_len d hm
 have HR : Hid (false = instB d ids funcs) := by show _ = _; simp [instB, hw, hi, hf]
 clear D
 go_enter Tryz.func30, Tryz.ntmps30
 go_wp2_with fail
 refine (K _).mono ?_
 rintro e w1 ⟨rfl, hb1⟩
 have r1 := Room.start hb1
 clear hb1
 go_wp2_with fail
 refine wp_region_abv (fun v => Below w1.heap.size w1 v) (by kernel_rfl) (by kernel_rfl) (drew_below (Below.refl _ _)) ?_
 have hne : Nonempty (Abv (fun v => Below w1.heap.size w1 v)) := abv_ne (Below.refl _ _)
 have z0 := fun x : Abv (fun v => Below w1.heap.size w1 v) => (r1.keep x.ok).cells.1
 have z1 := fun x : Abv (fun v => Below w1.heap.size w1 v) => (r1.keep x.ok).cells.2.1
 have z2 := fun x : Abv (fun v => Below w1.heap.size w1 v) => (r1.keep x.ok).cells.2.2.1
 have z3 := fun x : Abv (fun v => Below w1.heap.size w1 v) => (r1.keep x.ok).cells.2.2.2.1
 have z4 := fun x : Abv (fun v => Below w1.heap.size w1 v) => (r1.keep x.ok).cells.2.2.2.2.1
 have z5 := fun x : Abv (fun v => Below w1.heap.size w1 v) => (r1.keep x.ok).cells.2.2.2.2.2.1
 have z6 := fun x : Abv (fun v => Below w1.heap.size w1 v) => (r1.keep x.ok).cells.2.2.2.2.2.2.1
 have z7 := fun x : Abv (fun v => Below w1.heap.size w1 v) => (r1.keep x.ok).cells.2.2.2.2.2.2.2.1
 have z8 := fun x : Abv (fun v => Below w1.heap.size w1 v) => (r1.keep x.ok).cells.2.2.2.2.2.2.2.2.1
 have z9 := fun x : Abv (fun v => Below w1.heap.size w1 v) => (r1.keep x.ok).cells.2.2.2.2.2.2.2.2.2
 repeat (go_big_quiet_step ((first | (go_at_call 54; exact abv_call _ (W _)) | (go_at_call 55; exact abv_call _ (N _)) | (go_at_call 56; exact abv_call _ (G lo _ (hk.keep (agree_of_below (r1.keep (Abv.ok _)).below _)))))))
 refine wpQuiet_nil ?_
 rintro w9 ⟨⟨w9, h9⟩, rfl⟩
 have r9 := r1.keep h9
 clear hne z0 z1 z2 z3 z4 z5 z6 z7 z8 z9
 go_wp2_with fail
 go_ret
 exact ⟨ret_bool HR.out, r9.below⟩
set_option maxHeartbeats 2000000 in
set_option maxRecDepth 100000 in
theorem instShI_b (lo : Nat) (d : InstD) (u : Option Addr) (q : Nat) (ids blocks funcs : Int) (w : World) (hm : d.args.length ≤ 1048576) (hk : IntsAt w lo u d.args) (hw : wB d = true) (hi : iB d funcs = true) (hf : fB d = true) :
  Calls Tryz.prog 30 #[.agg #[.int .i64 d.op, .int .i64 d.w, .int .i64 d.a, .int .i64 d.b, .int .i64 d.c, .int .i64 d.imm, .slice u d.args.length q], .agg #[.int .i64 ids, .int .i64 blocks, .int .i64 funcs]] w fun e w' => e = .returned (.bool (instB d ids funcs)) ∧ Below w.heap.size w w' := by
 obtain ⟨T, v, f, D⟩ := disp d u q
 have M := D.meth
 have C := fun lo w => D.con lo w hm
 have F := D.call
 have W := fun w => wI d u q w
 have N := fun w => immI d u q ids blocks funcs w
 have G := fun lo w => fldI lo d u q w hm
 have K := fun w => kind_any d u q w
 rw [D.kv] at W N G K
 rw [hw] at W
 rw [hi] at N
 rw [hf] at G
 have hol := opsD_len d hm
 have HR : Hid (((opsD d).all fun n => belowB n ids) = instB d ids funcs) := by show _ = _; simp [instB, hw, hi, hf]
 clear D
 go_enter Tryz.func30, Tryz.ntmps30
 go_wp2_with fail
 refine (K _).mono ?_
 rintro e w1 ⟨rfl, hb1⟩
 have r1 := Room.start hb1
 have s1 := (r1.keep (Below.refl _ _).drew).cells
 clear hb1
 go_wp2_with fail
 go_region_held2 (fun w' => w'.cell? ⟨w.heap.size, 0, none⟩ = some (.int .i64 d.op) ∧ w'.cell? ⟨w.heap.size, 1, none⟩ = some (.int .i64 d.w) ∧ w'.cell? ⟨w.heap.size, 2, none⟩ = some (.int .i64 d.a) ∧ w'.cell? ⟨w.heap.size, 3, none⟩ = some (.int .i64 d.b) ∧ w'.cell? ⟨w.heap.size, 4, none⟩ = some (.int .i64 d.c) ∧ w'.cell? ⟨w.heap.size, 5, none⟩ = some (.int .i64 d.imm) ∧ w'.cell? ⟨w.heap.size, 6, none⟩ = some (.slice u d.args.length q) ∧ w'.cell? ⟨w.heap.size + 1, 0, none⟩ = some (.int .i64 ids) ∧ w'.cell? ⟨w.heap.size + 1, 1, none⟩ = some (.int .i64 blocks) ∧ w'.cell? ⟨w.heap.size + 1, 2, none⟩ = some (.int .i64 funcs)) (first | with_reducible exact s1 | with_reducible exact s2 | with_reducible exact s3 | with_reducible exact s4 | with_reducible exact s5) (first | (go_at_call 54; refine (W _).mono ?_; rintro e w2 ⟨rfl, hb2⟩; have r2 := r1.keep (drop_drew hb2); have s2 := r2.cells) | (go_at_call 55; refine (N _).mono ?_; rintro e w3 ⟨rfl, hb3⟩; have r3 := r2.keep hb3; have s3 := r3.cells) | (go_at_call 56; refine (G lo _ (by exact hk.keep (agree_of_below r3.below _))).mono ?_; rintro e w4 ⟨rfl, hb4⟩; have r4 := r3.keep hb4; have s4 := r4.cells) | (go_at_call 57; refine (allBelowI _ _ _ _ _ _ n5.ints).mono ?_; rintro e w6 ⟨rfl, rfl⟩) | (refine (C lo _ (by exact hk.keep (agree_of_below r4.below _))).mono ?_; rintro e w5 ⟨a5, c5, rfl, n5, hb5⟩; have r5 := r4.keep hb5; have s5 := r5.cells))
 all_goals
  go_wp2_with fail
  go_ret
  exact ⟨ret_bool HR.out, r5.below⟩
theorem instShI (lo : Nat) (d : InstD) (u : Option Addr) (q : Nat) (ids blocks funcs : Int) (w : World) (hm : d.args.length ≤ 1048576) (hk : IntsAt w lo u d.args) :
  Calls Tryz.prog 30 #[.agg #[.int .i64 d.op, .int .i64 d.w, .int .i64 d.a, .int .i64 d.b, .int .i64 d.c, .int .i64 d.imm, .slice u d.args.length q], .agg #[.int .i64 ids, .int .i64 blocks, .int .i64 funcs]] w fun e w' => e = .returned (.bool (instB d ids funcs)) ∧ Below w.heap.size w w' := by
 cases hw : wB d with
 | false => exact instShI_w lo d u q ids blocks funcs w hm hk hw
 | true =>
  cases hi : iB d funcs with
  | false => exact instShI_i lo d u q ids blocks funcs w hm hk hw hi
  | true =>
   cases hf : fB d with
   | false => exact instShI_f lo d u q ids blocks funcs w hm hk hw hi hf
   | true => exact instShI_b lo d u q ids blocks funcs w hm hk hw hi hf
end Go.Proofs.YtoknhppjdmoblaaGreatDoor
