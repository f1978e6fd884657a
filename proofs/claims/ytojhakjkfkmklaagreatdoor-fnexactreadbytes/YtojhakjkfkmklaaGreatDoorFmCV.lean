import Derived.Test.YtojhakjkfkmklaaGreatDoorFmAV
import Derived.Test.YtojhakjkfkmklaaGreatDoorRows
import Derived.WalkKit
import Derived.Below
import Derived.Deep.QuietTactic
import Derived.BigQuiet
namespace Go.Proofs.YtojhakjkfkmklaaGreatDoor
open Go.RowKit
set_option linter.unusedVariables false
structure Noughts (n k : Nat) (a b c : Int) : Prop where
 f0 : n ≤ 0 → 0 < k → a = 0
 f1 : n ≤ 1 → 1 < k → b = 0
 f2 : n ≤ 2 → 2 < k → c = 0
theorem Noughts.start (n : Nat) (a b c : Int) : Noughts n n a b c := ⟨fun _ _ => by omega, fun _ _ => by omega, fun _ _ => by omega⟩
theorem Noughts.next0 {n : Nat} {a b c : Int} (h : Noughts n 0 a b c) (e : a = 0) : Noughts n 1 a b c := ⟨fun _ _ => e, fun _ _ => by omega, fun _ _ => by omega⟩
theorem Noughts.next1 {n : Nat} {a b c : Int} (h : Noughts n 1 a b c) (e : b = 0) : Noughts n 2 a b c := ⟨fun h1 _ => h.f0 h1 (by omega), fun _ _ => e, fun _ _ => by omega⟩
theorem Noughts.next2 {n : Nat} {a b c : Int} (h : Noughts n 2 a b c) (e : c = 0) : Noughts n 3 a b c := ⟨fun h1 _ => h.f0 h1 (by omega), fun h1 _ => h.f1 h1 (by omega), fun _ _ => e⟩
theorem Noughts.full {n k : Nat} {a b c : Int} (h : Noughts n k a b c) (hk : 3 ≤ k) : Noughts n 3 a b c := ⟨fun h1 _ => h.f0 h1 (by omega), fun h1 _ => h.f1 h1 (by omega), fun h1 _ => h.f2 h1 (by omega)⟩
theorem flds_yes {n : Nat} {a b c : Int} (h : Noughts n 3 a b c) : (true && (decide (1 ≤ n) || a == 0) && (decide (2 ≤ n) || b == 0) && (decide (3 ≤ n) || c == 0)) = true := by
 simp only [Bool.true_and, Bool.and_eq_true, Bool.or_eq_true, decide_eq_true_eq, beq_iff_eq]
 refine ⟨⟨?_, ?_⟩, ?_⟩
 ·by_cases e : 1 ≤ n
  ·exact .inl e
  ·exact .inr (h.f0 (by omega) (by omega))
 ·by_cases e : 2 ≤ n
  ·exact .inl e
  ·exact .inr (h.f1 (by omega) (by omega))
 ·by_cases e : 3 ≤ n
  ·exact .inl e
  ·exact .inr (h.f2 (by omega) (by omega))
theorem cells3 {w w' : World} {o : Obj} {a b c : Int} {T : TypeId} (h : Below ((w.alloc o).alloc (.cells #[.int .i64 a, .int .i64 b, .int .i64 c] T)).heap.size ((w.alloc o).alloc (.cells #[.int .i64 a, .int .i64 b, .int .i64 c] T)) w') :
  w'.cell? ⟨w.heap.size + 1, 0, none⟩ = some (.int .i64 a) ∧ w'.cell? ⟨w.heap.size + 1, 1, none⟩ = some (.int .i64 b) ∧ w'.cell? ⟨w.heap.size + 1, 2, none⟩ = some (.int .i64 c) ∧ Below w.heap.size w w' := by
 have hl := heap_alloc_last (w.alloc o) (.cells #[.int .i64 a, .int .i64 b, .int .i64 c] T)
 have e : (w.alloc o).heap.size = w.heap.size + 1 := by simp
 rw [e] at hl
 have hb := (h.block (w.heap.size + 1) (by simp)).trans hl
 exact ⟨(cell_of_heap hb).trans rfl, (cell_of_heap hb).trans rfl, (cell_of_heap hb).trans rfl, (((Below.refl _ _).alloc (Nat.le_refl _) _).alloc (by simp) _).trans (h.mono (by simp; omega))⟩
set_option maxHeartbeats 1000000 in
set_option maxRecDepth 100000 in
theorem fldI_more (lo : Nat) (d : InstD) (u : Option Addr) (q : Nat) (w : World) (h6 : ¬ d.op = 26) (hz : d.args.length = 0) (hk : IntsAt w lo u d.args) : Calls Tryz.prog 139 #[.agg #[.int .i64 d.op, .int .i64 d.w, .int .i64 d.a, .int .i64 d.b, .int .i64 d.c, .int .i64 d.imm, .slice u d.args.length q], kindV d u q] w fun e w' => e = .returned (.bool (fB d)) ∧ Below w.heap.size w w' := by
 obtain ⟨T, v, f, D⟩ := disp d u q
 rw [D.kv]
 have A2 := D.as_call h6
 have M := D.meth
 have C := fun w => D.con lo w (by omega)
 have F := D.call
 have yes' : Noughts (opsD d).length 3 d.a d.b d.c → true = fB d := fun h => by
  rw [fB, if_neg h6, decide_eq_true hz]
  exact (flds_yes h).symm
 have no0' : (opsD d).length ≤ 0 → ¬ d.a = 0 → false = fB d := fun h e => by
  rw [fB, if_neg h6]; simp [show ¬ 1 ≤ (opsD d).length by omega, e]
 have no1' : (opsD d).length ≤ 1 → ¬ d.b = 0 → false = fB d := fun h e => by
  rw [fB, if_neg h6]; simp [show ¬ 2 ≤ (opsD d).length by omega, e]
 have no2' : (opsD d).length ≤ 2 → ¬ d.c = 0 → false = fB d := fun h e => by
  rw [fB, if_neg h6]; simp [show ¬ 3 ≤ (opsD d).length by omega, e]
 have yes : Hid (Noughts (opsD d).length 3 d.a d.b d.c → true = fB d) := yes'
 have no0 : Hid ((opsD d).length ≤ 0 → ¬ d.a = 0 → false = fB d) := no0'
 have no1 : Hid ((opsD d).length ≤ 1 → ¬ d.b = 0 → false = fB d) := no1'
 have no2 : Hid ((opsD d).length ≤ 2 → ¬ d.c = 0 → false = fB d) := no2'
 clear yes' no0' no1' no2'
 clear D
 go_enter Tryz.func139, Tryz.ntmps139
 go_wp2_with fail
 refine (C _ (hk.keep ((agree_alloc _ _ _).trans (agree_alloc _ _ _)))).mono ?_
 rintro e w1 ⟨a, r, rfl, _, hb1⟩
 obtain ⟨x0, x1, x2, hB⟩ := cells3 hb1
 clear hb1 C F M A2
 go_wp2_with fail
 go_loop [9] (fun i => ∃ k : Nat, i = .int .i64 k ∧ (opsD d).length ≤ k ∧ (k ≤ 3 ∨ k ≤ (opsD d).length) ∧ Hid (Noughts (opsD d).length k d.a d.b d.c)) (fun i => 3 - (intOf i).toNat)
 case atStart => exact ⟨(opsD d).length, by go_num, by omega, by omega, Noughts.start _ _ _ _⟩
 case round =>
  obtain ⟨k, rfl, hk0, hk1, HN⟩ := hrel
  by_cases hlt : k < 3
  ·rcases (show k = 0 ∨ k = 1 ∨ k = 2 by omega) with rfl | rfl | rfl
   ·by_cases h0 : d.a = 0
    ·have HM : Hid (Noughts (opsD d).length 1 d.a d.b d.c) := HN.out.next0 h0
     go_wp2_with fail
     exact ⟨⟨1, by go_num, by omega, by omega, HM.out⟩, by simp only [intOf]; omega⟩
    ·have HF : Hid (false = fB d) := no0.out (by omega) h0
     go_wp2_with fail
     go_ret
     exact ⟨ret_bool HF.out, hB⟩
   ·by_cases h0 : d.b = 0
    ·have HM : Hid (Noughts (opsD d).length 2 d.a d.b d.c) := HN.out.next1 h0
     go_wp2_with fail
     exact ⟨⟨2, by go_num, by omega, by omega, HM.out⟩, by simp only [intOf]; omega⟩
    ·have HF : Hid (false = fB d) := no1.out (by omega) h0
     go_wp2_with fail
     go_ret
     exact ⟨ret_bool HF.out, hB⟩
   ·by_cases h0 : d.c = 0
    ·have HM : Hid (Noughts (opsD d).length 3 d.a d.b d.c) := HN.out.next2 h0
     go_wp2_with fail
     exact ⟨⟨3, by go_num, by omega, by omega, HM.out⟩, by simp only [intOf]; omega⟩
    ·have HF : Hid (false = fB d) := no2.out (by omega) h0
     go_wp2_with fail
     go_ret
     exact ⟨ret_bool HF.out, hB⟩
  ·have HF : Hid (true = fB d) := yes.out (HN.out.full (by omega))
   go_wp2_with fail
   go_ret
   exact ⟨ret_bool HF.out, hB⟩
end Go.Proofs.YtojhakjkfkmklaaGreatDoor
namespace Go.Proofs.YtojhakjkfkmklaaGreatDoor
open Go.RowKit
set_option linter.unusedVariables false
set_option maxHeartbeats 1000000 in
set_option maxRecDepth 100000 in
theorem fldI_full (d : InstD) (u : Option Addr) (q : Nat) (w : World) (h6 : ¬ d.op = 26) (hz : ¬ d.args.length = 0) (hm : d.args.length ≤ 1048576) : Calls Tryz.prog 139 #[.agg #[.int .i64 d.op, .int .i64 d.w, .int .i64 d.a, .int .i64 d.b, .int .i64 d.c, .int .i64 d.imm, .slice u d.args.length q], kindV d u q] w fun e w' => e = .returned (.bool (fB d)) ∧ Below w.heap.size w w' := by
 obtain ⟨T, v, f, D⟩ := disp d u q
 rw [D.kv]
 have A2 := D.as_call h6
 have HF : Hid (false = fB d) := by show _ = _; rw [fB, if_neg h6, decide_eq_false hz]; rfl
 have hz2 : (0 : Int) < d.args.length := by omega
 clear D
 go_enter Tryz.func139, Tryz.ntmps139
 go_wp2_with fail
 go_ret
 exact ⟨ret_bool HF.out, ((Below.refl _ _).alloc (Nat.le_refl _) _).alloc (by simp) _⟩
set_option maxHeartbeats 1000000 in
set_option maxRecDepth 100000 in
theorem fldI_26 (d : InstD) (u : Option Addr) (q : Nat) (w : World) (h6 : d.op = 26) (hm : d.args.length ≤ 1048576) : Calls Tryz.prog 139 #[.agg #[.int .i64 d.op, .int .i64 d.w, .int .i64 d.a, .int .i64 d.b, .int .i64 d.c, .int .i64 d.imm, .slice u d.args.length q], kindV d u q] w fun e w' => e = .returned (.bool (fB d)) ∧ Below w.heap.size w w' := by
 rw [kv_26 h6]
 have A2 := as_callKind_callKind
 by_cases h4 : 4 < d.args.length
 ·have HF : Hid (false = fB d) := by show _ = _; rw [fB, if_pos h6, decide_eq_false (by omega)]; rfl
  have h42 : (4 : Int) < d.args.length := by omega
  go_enter Tryz.func139, Tryz.ntmps139
  go_wp2_with fail
  go_ret
  exact ⟨ret_bool HF.out, by first | exact ((Below.refl _ _).alloc (Nat.le_refl _) _).alloc (by simp) _ | exact (((Below.refl _ _).alloc (Nat.le_refl _) _).alloc (by simp) _).alloc (by simp; omega) _ | exact (Below.refl _ _).alloc (Nat.le_refl _) _⟩
 ·have yes' : Noughts 0 3 d.a d.b d.c → true = fB d := fun h => by
   rw [fB, if_pos h6, decide_eq_true (by omega), h.f0 (by omega) (by omega), h.f1 (by omega) (by omega), h.f2 (by omega) (by omega)]; rfl
  have no0' : 0 ≤ 0 → ¬ d.a = 0 → false = fB d := fun _ e => by rw [fB, if_pos h6]; simp [e]
  have no1' : 0 ≤ 1 → ¬ d.b = 0 → false = fB d := fun _ e => by rw [fB, if_pos h6]; simp [e]
  have no2' : 0 ≤ 2 → ¬ d.c = 0 → false = fB d := fun _ e => by rw [fB, if_pos h6]; simp [e]
  have yes : Hid (Noughts 0 3 d.a d.b d.c → true = fB d) := yes'
  have no0 : Hid (0 ≤ 0 → ¬ d.a = 0 → false = fB d) := no0'
  have no1 : Hid (0 ≤ 1 → ¬ d.b = 0 → false = fB d) := no1'
  have no2 : Hid (0 ≤ 2 → ¬ d.c = 0 → false = fB d) := no2'
  clear yes' no0' no1' no2'
  have h42 : ¬ (4 : Int) < d.args.length := by omega
  go_enter Tryz.func139, Tryz.ntmps139
  go_wp2_with fail
  go_loop [9] (fun i => ∃ k : Nat, i = .int .i64 k ∧ k ≤ 3 ∧ Hid (Noughts 0 k d.a d.b d.c)) (fun i => 3 - (intOf i).toNat)
  case atStart => exact ⟨0, by go_num, by omega, Noughts.start _ _ _ _⟩
  case round =>
   obtain ⟨k, rfl, hk1, HN⟩ := hrel
   by_cases hlt : k < 3
   ·rcases (show k = 0 ∨ k = 1 ∨ k = 2 by omega) with rfl | rfl | rfl
    ·by_cases h0 : d.a = 0
     ·have HM : Hid (Noughts 0 1 d.a d.b d.c) := HN.out.next0 h0
      go_wp2_with fail
      exact ⟨⟨1, by go_num, by omega, by first | exact HM.out | (have hm := HM.out; rw [h0] at hm; exact hm)⟩, by simp only [intOf]; omega⟩
     ·have HF : Hid (false = fB d) := no0.out (by omega) h0
      go_wp2_with fail
      go_ret
      exact ⟨ret_bool HF.out, by first | exact ((Below.refl _ _).alloc (Nat.le_refl _) _).alloc (by simp) _ | exact (((Below.refl _ _).alloc (Nat.le_refl _) _).alloc (by simp) _).alloc (by simp; omega) _ | exact (Below.refl _ _).alloc (Nat.le_refl _) _⟩
    ·by_cases h0 : d.b = 0
     ·have HM : Hid (Noughts 0 2 d.a d.b d.c) := HN.out.next1 h0
      go_wp2_with fail
      exact ⟨⟨2, by go_num, by omega, by first | exact HM.out | (have hm := HM.out; rw [h0] at hm; exact hm)⟩, by simp only [intOf]; omega⟩
     ·have HF : Hid (false = fB d) := no1.out (by omega) h0
      go_wp2_with fail
      go_ret
      exact ⟨ret_bool HF.out, by first | exact ((Below.refl _ _).alloc (Nat.le_refl _) _).alloc (by simp) _ | exact (((Below.refl _ _).alloc (Nat.le_refl _) _).alloc (by simp) _).alloc (by simp; omega) _ | exact (Below.refl _ _).alloc (Nat.le_refl _) _⟩
    ·by_cases h0 : d.c = 0
     ·have HM : Hid (Noughts 0 3 d.a d.b d.c) := HN.out.next2 h0
      go_wp2_with fail
      exact ⟨⟨3, by go_num, by omega, by first | exact HM.out | (have hm := HM.out; rw [h0] at hm; exact hm)⟩, by simp only [intOf]; omega⟩
     ·have HF : Hid (false = fB d) := no2.out (by omega) h0
      go_wp2_with fail
      go_ret
      exact ⟨ret_bool HF.out, by first | exact ((Below.refl _ _).alloc (Nat.le_refl _) _).alloc (by simp) _ | exact (((Below.refl _ _).alloc (Nat.le_refl _) _).alloc (by simp) _).alloc (by simp; omega) _ | exact (Below.refl _ _).alloc (Nat.le_refl _) _⟩
   ·have HF : Hid (true = fB d) := yes.out (HN.out.full (by omega))
    go_wp2_with fail
    go_ret
    exact ⟨ret_bool HF.out, by first | exact ((Below.refl _ _).alloc (Nat.le_refl _) _).alloc (by simp) _ | exact (((Below.refl _ _).alloc (Nat.le_refl _) _).alloc (by simp) _).alloc (by simp; omega) _ | exact (Below.refl _ _).alloc (Nat.le_refl _) _⟩
theorem fldI (lo : Nat) (d : InstD) (u : Option Addr) (q : Nat) (w : World) (hm : d.args.length ≤ 1048576) (hk : IntsAt w lo u d.args) : Calls Tryz.prog 139 #[.agg #[.int .i64 d.op, .int .i64 d.w, .int .i64 d.a, .int .i64 d.b, .int .i64 d.c, .int .i64 d.imm, .slice u d.args.length q], kindV d u q] w fun e w' => e = .returned (.bool (fB d)) ∧ Below w.heap.size w w' := by
 by_cases h6 : d.op = 26
 ·exact fldI_26 d u q w h6 hm
 by_cases hz : d.args.length = 0
 ·exact fldI_more lo d u q w h6 hz hk
 exact fldI_full d u q w h6 hz hm
end Go.Proofs.YtojhakjkfkmklaaGreatDoor
namespace Go.Proofs.YtojhakjkfkmklaaGreatDoor
open Go.RowKit
structure Abv (C : World → Prop) where
 v : World
 ok : C v
theorem wp_region_abv {P : Program} {id : Nat} {Q : Exit → Act → World → Prop} {a : Act} {w : World} {l : List Oper} (C : World → Prop) (hm : P.follows .mixedOrders = true) (hB : Region.lexB .any l.toArray = true) (h0 : C w.drew)
  (h : wpQuiet P l.toArray (fun w' => ∃ x : Abv C, w' = x.v) (fun a' => ∀ w', (∃ x : Abv C, w' = x.v) → Q .normal a' w') l a) : (Code.region id l.toArray true).wp P Q a w :=
 wp_region_quiet (C := fun w' => ∃ x : Abv C, w' = x.v) hm hB ⟨⟨w.drew, h0⟩, rfl⟩ (by simpa using h)
theorem abv_ne {C : World → Prop} {w : World} (h : C w) : Nonempty (Abv C) := ⟨⟨w, h⟩⟩
theorem drew_below {b : Nat} {w w' : World} (h : Below b w w') : Below b w w'.drew := ⟨h.os, h.tape, h.output, h.size, h.block⟩
theorem abv_call {P : Program} {f : FuncId} {args : Array Value} {w : World} {v : Value} (x : Abv (fun v => Below w.heap.size w v))
  (h : Calls P f args x.v fun e w' => e = .returned v ∧ Below x.v.heap.size x.v w') : Calls P f args x.v fun e w'' => e = .returned v ∧ ∃ y : Abv (fun v => Below w.heap.size w v), w'' = y.v :=
 h.mono fun _ w' ⟨he, hb⟩ => ⟨he, ⟨w', x.ok.trans (hb.mono x.ok.size)⟩, rfl⟩
end Go.Proofs.YtojhakjkfkmklaaGreatDoor
