import Derived.Test.YtenbodghkpbghaaDoorOps3Sv
import Derived.Test.YtenbodghkpbghaaDoorRows
import Derived.WalkKit
import Derived.Below
import Derived.Deep.QuietTactic
import Derived.BigQuiet
import Derived.Deep.RegionHeld2
namespace Go.Proofs.YtenbodghkpbghaaDoor
open Go.RowKit
set_option linter.unusedVariables false
structure Noughts (n k : Nat) (a b c : Int) : Prop where
 f0 : n ≤ 0 → 0 < k → a = 0
 f1 : n ≤ 1 → 1 < k → b = 0
 f2 : n ≤ 2 → 2 < k → c = 0
theorem Noughts.start (n : Nat) (a b c : Int) : Noughts n n a b c := ⟨fun _ _ => by omega, fun _ _ => by omega, fun _ _ => by omega⟩
theorem Noughts.next0 {n : Nat} {a b c : Int} (h : Noughts n 0 a b c) (e : a = 0) : Noughts n 1 a b c := ⟨fun _ _ => e, fun _ _ => by omega, fun _ _ => by omega⟩
theorem Noughts.next1 {n : Nat} {a b c : Int} (h : Noughts n 1 a b c) (e : b = 0) : Noughts n 2 a b c := ⟨fun h1 _ => h.f0 h1 (by omega), fun _ _ => e, fun _ _ => by omega⟩
theorem Noughts.next2 {n : Nat} {a b c : Int} (h : Noughts n 2 a b c) (e : c = 0) : Noughts n 3 a b c := ⟨fun h1 _ => h.f0 h1 (by omega), fun h1 _ => h.f1 h1 (by omega), fun _ _ => e⟩
theorem Noughts.full {n k : Nat} {a b c : Int} (h : Noughts n k a b c) (hk : 3 ≤ k) : Noughts n 3 a b c := ⟨fun h1 _ => h.f0 h1 (by omega), fun h1 _ => h.f1 h1 (by omega), fun h1 _ => h.f2 h1 (by omega)⟩
theorem flds_yes {n : Nat} {a b c : Int} (h : Noughts n 3 a b c) : (true && (decide (1 ≤ n) || a == 0) && (decide (2 ≤ n) || b == 0) && (decide (3 ≤ n) || c == 0)) = true := by
 simp only [Bool.true_and, Bool.and_eq_true, Bool.or_eq_true, decide_eq_true_eq, beq_iff_eq]
 refine ⟨⟨?_, ?_⟩, ?_⟩
 ·by_cases e : 1 ≤ n
  ·exact .inl e
  ·exact .inr (h.f0 (by omega) (by omega))
 ·by_cases e : 2 ≤ n
  ·exact .inl e
  ·exact .inr (h.f1 (by omega) (by omega))
 ·by_cases e : 3 ≤ n
  ·exact .inl e
  ·exact .inr (h.f2 (by omega) (by omega))
theorem cells3 {w w' : World} {o : Obj} {a b c : Int} {T : TypeId} (h : Below ((w.alloc o).alloc (.cells #[.int .i64 a, .int .i64 b, .int .i64 c] T)).heap.size ((w.alloc o).alloc (.cells #[.int .i64 a, .int .i64 b, .int .i64 c] T)) w') :
  w'.cell? ⟨w.heap.size + 1, 0, none⟩ = some (.int .i64 a) ∧ w'.cell? ⟨w.heap.size + 1, 1, none⟩ = some (.int .i64 b) ∧ w'.cell? ⟨w.heap.size + 1, 2, none⟩ = some (.int .i64 c) ∧ Below w.heap.size w w' := by
 have hl := heap_alloc_last (w.alloc o) (.cells #[.int .i64 a, .int .i64 b, .int .i64 c] T)
 have e : (w.alloc o).heap.size = w.heap.size + 1 := by simp
 rw [e] at hl
 have hb := (h.block (w.heap.size + 1) (by simp)).trans hl
 exact ⟨(cell_of_heap hb).trans rfl, (cell_of_heap hb).trans rfl, (cell_of_heap hb).trans rfl, (((Below.refl _ _).alloc (Nat.le_refl _) _).alloc (by simp) _).trans (h.mono (by simp; omega))⟩
set_option maxHeartbeats 1000000 in
set_option maxRecDepth 100000 in
theorem fldI_more (lo : Nat) (d : InstD) (u : Option Addr) (q : Nat) (w : World) (h6 : ¬ d.op = 26) (hz : d.args.length = 0) (hk : IntsAt w lo u d.args) : Calls Tryd.prog 111 #[.agg #[.int .i64 d.op, .int .i64 d.w, .int .i64 d.a, .int .i64 d.b, .int .i64 d.c, .int .i64 d.imm, .slice u d.args.length q], kindV d u q] w fun e w' => e = .returned (.bool (fB d)) ∧ Below w.heap.size w w' := by
 obtain ⟨T, v, f, D⟩ := disp d u q
 rw [D.kv]
 have A2 := D.as_call h6
 have M := D.meth
 have C := fun w => D.con lo w (by omega)
 have F := D.call
 have yes' : Noughts (opsD d).length 3 d.a d.b d.c → true = fB d := fun h => by
  rw [fB, if_neg h6, decide_eq_true hz]
  exact (flds_yes h).symm
 have no0' : (opsD d).length ≤ 0 → ¬ d.a = 0 → false = fB d := fun h e => by
  rw [fB, if_neg h6]; simp [show ¬ 1 ≤ (opsD d).length by omega, e]
 have no1' : (opsD d).length ≤ 1 → ¬ d.b = 0 → false = fB d := fun h e => by
  rw [fB, if_neg h6]; simp [show ¬ 2 ≤ (opsD d).length by omega, e]
 have no2' : (opsD d).length ≤ 2 → ¬ d.c = 0 → false = fB d := fun h e => by
  rw [fB, if_neg h6]; simp [show ¬ 3 ≤ (opsD d).length by omega, e]
 have yes : Hid (Noughts (opsD d).length 3 d.a d.b d.c → true = fB d) := yes'
 have no0 : Hid ((opsD d).length ≤ 0 → ¬ d.a = 0 → false = fB d) := no0'
 have no1 : Hid ((opsD d).length ≤ 1 → ¬ d.b = 0 → false = fB d) := no1'
 have no2 : Hid ((opsD d).length ≤ 2 → ¬ d.c = 0 → false = fB d) := no2'
 clear yes' no0' no1' no2'
 clear D
 go_enter Tryd.func111, Tryd.ntmps111
 go_wp2_with fail
 refine (C _ (hk.keep ((agree_alloc _ _ _).trans (agree_alloc _ _ _)))).mono ?_
 rintro e w1 ⟨a, r, rfl, _, hb1⟩
 obtain ⟨x0, x1, x2, hB⟩ := cells3 hb1
 clear hb1 C F M A2
 go_wp2_with fail
 go_loop [9] (fun i => ∃ k : Nat, i = .int .i64 k ∧ (opsD d).length ≤ k ∧ (k ≤ 3 ∨ k ≤ (opsD d).length) ∧ Hid (Noughts (opsD d).length k d.a d.b d.c)) (fun i => 3 - (intOf i).toNat)
 case atStart => exact ⟨(opsD d).length, by go_num, by omega, by omega, Noughts.start _ _ _ _⟩
 case round =>
  obtain ⟨k, rfl, hk0, hk1, HN⟩ := hrel
  by_cases hlt : k < 3
  ·rcases (show k = 0 ∨ k = 1 ∨ k = 2 by omega) with rfl | rfl | rfl
   ·by_cases h0 : d.a = 0
    ·have HM : Hid (Noughts (opsD d).length 1 d.a d.b d.c) := HN.out.next0 h0
     go_wp2_with fail
     exact ⟨⟨1, by go_num, by omega, by omega, HM.out⟩, by simp only [intOf]; omega⟩
    ·have HF : Hid (false = fB d) := no0.out (by omega) h0
     go_wp2_with fail
     go_ret
     exact ⟨ret_bool HF.out, hB⟩
   ·by_cases h0 : d.b = 0
    ·have HM : Hid (Noughts (opsD d).length 2 d.a d.b d.c) := HN.out.next1 h0
     go_wp2_with fail
     exact ⟨⟨2, by go_num, by omega, by omega, HM.out⟩, by simp only [intOf]; omega⟩
    ·have HF : Hid (false = fB d) := no1.out (by omega) h0
     go_wp2_with fail
     go_ret
     exact ⟨ret_bool HF.out, hB⟩
   ·by_cases h0 : d.c = 0
    ·have HM : Hid (Noughts (opsD d).length 3 d.a d.b d.c) := HN.out.next2 h0
     go_wp2_with fail
     exact ⟨⟨3, by go_num, by omega, by omega, HM.out⟩, by simp only [intOf]; omega⟩
    ·have HF : Hid (false = fB d) := no2.out (by omega) h0
     go_wp2_with fail
     go_ret
     exact ⟨ret_bool HF.out, hB⟩
  ·have HF : Hid (true = fB d) := yes.out (HN.out.full (by omega))
   go_wp2_with fail
   go_ret
   exact ⟨ret_bool HF.out, hB⟩
end Go.Proofs.YtenbodghkpbghaaDoor
namespace Go.Proofs.YtenbodghkpbghaaDoor
open Go.RowKit
set_option linter.unusedVariables false
set_option maxHeartbeats 1000000 in
set_option maxRecDepth 100000 in
theorem fldI_full (d : InstD) (u : Option Addr) (q : Nat) (w : World) (h6 : ¬ d.op = 26) (hz : ¬ d.args.length = 0) (hm : d.args.length ≤ 1048576) : Calls Tryd.prog 111 #[.agg #[.int .i64 d.op, .int .i64 d.w, .int .i64 d.a, .int .i64 d.b, .int .i64 d.c, .int .i64 d.imm, .slice u d.args.length q], kindV d u q] w fun e w' => e = .returned (.bool (fB d)) ∧ Below w.heap.size w w' := by
 obtain ⟨T, v, f, D⟩ := disp d u q
 rw [D.kv]
 have A2 := D.as_call h6
 have HF : Hid (false = fB d) := by show _ = _; rw [fB, if_neg h6, decide_eq_false hz]; rfl
 have hz2 : (0 : Int) < d.args.length := by omega
 clear D
 go_enter Tryd.func111, Tryd.ntmps111
 go_wp2_with fail
 go_ret
 exact ⟨ret_bool HF.out, ((Below.refl _ _).alloc (Nat.le_refl _) _).alloc (by simp) _⟩
set_option maxHeartbeats 1000000 in
set_option maxRecDepth 100000 in
theorem fldI_26 (d : InstD) (u : Option Addr) (q : Nat) (w : World) (h6 : d.op = 26) (hm : d.args.length ≤ 1048576) : Calls Tryd.prog 111 #[.agg #[.int .i64 d.op, .int .i64 d.w, .int .i64 d.a, .int .i64 d.b, .int .i64 d.c, .int .i64 d.imm, .slice u d.args.length q], kindV d u q] w fun e w' => e = .returned (.bool (fB d)) ∧ Below w.heap.size w w' := by
 rw [kv_26 h6]
 have A2 := as_callKind_callKind
 by_cases h4 : 4 < d.args.length
 ·have HF : Hid (false = fB d) := by show _ = _; rw [fB, if_pos h6, decide_eq_false (by omega)]; rfl
  have h42 : (4 : Int) < d.args.length := by omega
  go_enter Tryd.func111, Tryd.ntmps111
  go_wp2_with fail
  go_ret
  exact ⟨ret_bool HF.out, by first | exact ((Below.refl _ _).alloc (Nat.le_refl _) _).alloc (by simp) _ | exact (((Below.refl _ _).alloc (Nat.le_refl _) _).alloc (by simp) _).alloc (by simp; omega) _ | exact (Below.refl _ _).alloc (Nat.le_refl _) _⟩
 ·have yes' : Noughts 0 3 d.a d.b d.c → true = fB d := fun h => by
   rw [fB, if_pos h6, decide_eq_true (by omega), h.f0 (by omega) (by omega), h.f1 (by omega) (by omega), h.f2 (by omega) (by omega)]; rfl
  have no0' : 0 ≤ 0 → ¬ d.a = 0 → false = fB d := fun _ e => by rw [fB, if_pos h6]; simp [e]
  have no1' : 0 ≤ 1 → ¬ d.b = 0 → false = fB d := fun _ e => by rw [fB, if_pos h6]; simp [e]
  have no2' : 0 ≤ 2 → ¬ d.c = 0 → false = fB d := fun _ e => by rw [fB, if_pos h6]; simp [e]
  have yes : Hid (Noughts 0 3 d.a d.b d.c → true = fB d) := yes'
  have no0 : Hid (0 ≤ 0 → ¬ d.a = 0 → false = fB d) := no0'
  have no1 : Hid (0 ≤ 1 → ¬ d.b = 0 → false = fB d) := no1'
  have no2 : Hid (0 ≤ 2 → ¬ d.c = 0 → false = fB d) := no2'
  clear yes' no0' no1' no2'
  have h42 : ¬ (4 : Int) < d.args.length := by omega
  go_enter Tryd.func111, Tryd.ntmps111
  go_wp2_with fail
  go_loop [9] (fun i => ∃ k : Nat, i = .int .i64 k ∧ k ≤ 3 ∧ Hid (Noughts 0 k d.a d.b d.c)) (fun i => 3 - (intOf i).toNat)
  case atStart => exact ⟨0, by go_num, by omega, Noughts.start _ _ _ _⟩
  case round =>
   obtain ⟨k, rfl, hk1, HN⟩ := hrel
   by_cases hlt : k < 3
   ·rcases (show k = 0 ∨ k = 1 ∨ k = 2 by omega) with rfl | rfl | rfl
    ·by_cases h0 : d.a = 0
     ·have HM : Hid (Noughts 0 1 d.a d.b d.c) := HN.out.next0 h0
      go_wp2_with fail
      exact ⟨⟨1, by go_num, by omega, by first | exact HM.out | (have hm := HM.out; rw [h0] at hm; exact hm)⟩, by simp only [intOf]; omega⟩
     ·have HF : Hid (false = fB d) := no0.out (by omega) h0
      go_wp2_with fail
      go_ret
      exact ⟨ret_bool HF.out, by first | exact ((Below.refl _ _).alloc (Nat.le_refl _) _).alloc (by simp) _ | exact (((Below.refl _ _).alloc (Nat.le_refl _) _).alloc (by simp) _).alloc (by simp; omega) _ | exact (Below.refl _ _).alloc (Nat.le_refl _) _⟩
    ·by_cases h0 : d.b = 0
     ·have HM : Hid (Noughts 0 2 d.a d.b d.c) := HN.out.next1 h0
      go_wp2_with fail
      exact ⟨⟨2, by go_num, by omega, by first | exact HM.out | (have hm := HM.out; rw [h0] at hm; exact hm)⟩, by simp only [intOf]; omega⟩
     ·have HF : Hid (false = fB d) := no1.out (by omega) h0
      go_wp2_with fail
      go_ret
      exact ⟨ret_bool HF.out, by first | exact ((Below.refl _ _).alloc (Nat.le_refl _) _).alloc (by simp) _ | exact (((Below.refl _ _).alloc (Nat.le_refl _) _).alloc (by simp) _).alloc (by simp; omega) _ | exact (Below.refl _ _).alloc (Nat.le_refl _) _⟩
    ·by_cases h0 : d.c = 0
     ·have HM : Hid (Noughts 0 3 d.a d.b d.c) := HN.out.next2 h0
      go_wp2_with fail
      exact ⟨⟨3, by go_num, by omega, by first | exact HM.out | (have hm := HM.out; rw [h0] at hm; exact hm)⟩, by simp only [intOf]; omega⟩
     ·have HF : Hid (false = fB d) := no2.out (by omega) h0
      go_wp2_with fail
      go_ret
      exact ⟨ret_bool HF.out, by first | exact ((Below.refl _ _).alloc (Nat.le_refl _) _).alloc (by simp) _ | exact (((Below.refl _ _).alloc (Nat.le_refl _) _).alloc (by simp) _).alloc (by simp; omega) _ | exact (Below.refl _ _).alloc (Nat.le_refl _) _⟩
   ·have HF : Hid (true = fB d) := yes.out (HN.out.full (by omega))
    go_wp2_with fail
    go_ret
    exact ⟨ret_bool HF.out, by first | exact ((Below.refl _ _).alloc (Nat.le_refl _) _).alloc (by simp) _ | exact (((Below.refl _ _).alloc (Nat.le_refl _) _).alloc (by simp) _).alloc (by simp; omega) _ | exact (Below.refl _ _).alloc (Nat.le_refl _) _⟩
theorem fldI (lo : Nat) (d : InstD) (u : Option Addr) (q : Nat) (w : World) (hm : d.args.length ≤ 1048576) (hk : IntsAt w lo u d.args) : Calls Tryd.prog 111 #[.agg #[.int .i64 d.op, .int .i64 d.w, .int .i64 d.a, .int .i64 d.b, .int .i64 d.c, .int .i64 d.imm, .slice u d.args.length q], kindV d u q] w fun e w' => e = .returned (.bool (fB d)) ∧ Below w.heap.size w w' := by
 by_cases h6 : d.op = 26
 ·exact fldI_26 d u q w h6 hm
 by_cases hz : d.args.length = 0
 ·exact fldI_more lo d u q w h6 hz hk
 exact fldI_full d u q w h6 hz hm
end Go.Proofs.YtenbodghkpbghaaDoor
namespace Go.Proofs.YtenbodghkpbghaaDoor
open Go.RowKit
structure Abv (C : World → Prop) where
 v : World
 ok : C v
theorem wp_region_abv {P : Program} {id : Nat} {Q : Exit → Act → World → Prop} {a : Act} {w : World} {l : List Oper} (C : World → Prop) (hm : P.follows .mixedOrders = true) (hB : Region.lexB .any l.toArray = true) (h0 : C w.drew)
  (h : wpQuiet P l.toArray (fun w' => ∃ x : Abv C, w' = x.v) (fun a' => ∀ w', (∃ x : Abv C, w' = x.v) → Q .normal a' w') l a) : (Code.region id l.toArray true).wp P Q a w :=
 wp_region_quiet (C := fun w' => ∃ x : Abv C, w' = x.v) hm hB ⟨⟨w.drew, h0⟩, rfl⟩ (by simpa using h)
theorem abv_ne {C : World → Prop} {w : World} (h : C w) : Nonempty (Abv C) := ⟨⟨w, h⟩⟩
theorem drew_below {b : Nat} {w w' : World} (h : Below b w w') : Below b w w'.drew := ⟨h.os, h.tape, h.output, h.size, h.block⟩
theorem abv_call {P : Program} {f : FuncId} {args : Array Value} {w : World} {v : Value} (x : Abv (fun v => Below w.heap.size w v))
  (h : Calls P f args x.v fun e w' => e = .returned v ∧ Below x.v.heap.size x.v w') : Calls P f args x.v fun e w'' => e = .returned v ∧ ∃ y : Abv (fun v => Below w.heap.size w v), w'' = y.v :=
 h.mono fun _ w' ⟨he, hb⟩ => ⟨he, ⟨w', x.ok.trans (hb.mono x.ok.size)⟩, rfl⟩
end Go.Proofs.YtenbodghkpbghaaDoor
namespace Go.Proofs.YtenbodghkpbghaaDoor
open Go.RowKit
set_option linter.unusedVariables false
structure Room (d : InstD) (u : Option Addr) (q : Nat) (ids blocks funcs : Int) (w w1 : World) : Prop where
 cells : w1.cell? ⟨w.heap.size, 0, none⟩ = some (.int .i64 d.op) ∧ w1.cell? ⟨w.heap.size, 1, none⟩ = some (.int .i64 d.w) ∧ w1.cell? ⟨w.heap.size, 2, none⟩ = some (.int .i64 d.a) ∧ w1.cell? ⟨w.heap.size, 3, none⟩ = some (.int .i64 d.b) ∧ w1.cell? ⟨w.heap.size, 4, none⟩ = some (.int .i64 d.c) ∧ w1.cell? ⟨w.heap.size, 5, none⟩ = some (.int .i64 d.imm) ∧ w1.cell? ⟨w.heap.size, 6, none⟩ = some (.slice u d.args.length q) ∧ w1.cell? ⟨w.heap.size + 1, 0, none⟩ = some (.int .i64 ids) ∧ w1.cell? ⟨w.heap.size + 1, 1, none⟩ = some (.int .i64 blocks) ∧ w1.cell? ⟨w.heap.size + 1, 2, none⟩ = some (.int .i64 funcs)
 below : Below w.heap.size w w1
 size : w.heap.size + 2 ≤ w1.heap.size
theorem Room.keep {d : InstD} {u : Option Addr} {q : Nat} {ids blocks funcs : Int} {w w1 w2 : World} (h : Room d u q ids blocks funcs w w1) (k : Below w1.heap.size w1 w2) : Room d u q ids blocks funcs w w2 := by
 have hz := h.size
 have e0 : ∀ o, w2.cell? ⟨w.heap.size, o, none⟩ = w1.cell? ⟨w.heap.size, o, none⟩ := fun o => cell_block (k.block _ (by omega))
 have e1 : ∀ o, w2.cell? ⟨w.heap.size + 1, o, none⟩ = w1.cell? ⟨w.heap.size + 1, o, none⟩ := fun o => cell_block (k.block _ (by omega))
 refine ⟨?_, h.below.trans (k.mono (by omega)), Nat.le_trans hz k.size⟩
 simp only [e0, e1]
 exact h.cells
theorem Room.start {d : InstD} {u : Option Addr} {q : Nat} {ids blocks funcs : Int} {w w1 : World} (k : Below ((w.alloc (.cells #[.int .i64 d.op, .int .i64 d.w, .int .i64 d.a, .int .i64 d.b, .int .i64 d.c, .int .i64 d.imm, .slice u d.args.length q] 44)).alloc (.cells #[.int .i64 ids, .int .i64 blocks, .int .i64 funcs] 131)).heap.size ((w.alloc (.cells #[.int .i64 d.op, .int .i64 d.w, .int .i64 d.a, .int .i64 d.b, .int .i64 d.c, .int .i64 d.imm, .slice u d.args.length q] 44)).alloc (.cells #[.int .i64 ids, .int .i64 blocks, .int .i64 funcs] 131)) w1) : Room d u q ids blocks funcs w w1 := by
 refine Room.keep (w1 := (w.alloc (.cells #[.int .i64 d.op, .int .i64 d.w, .int .i64 d.a, .int .i64 d.b, .int .i64 d.c, .int .i64 d.imm, .slice u d.args.length q] 44)).alloc (.cells #[.int .i64 ids, .int .i64 blocks, .int .i64 funcs] 131)) ⟨?_, ((Below.refl _ _).alloc (Nat.le_refl _) _).alloc (by simp) _, by simp⟩ k
 have hb := (Below.heap_alloc _ (.cells #[.int .i64 ids, .int .i64 blocks, .int .i64 funcs] 131) _ (by simp)).trans (heap_alloc_last w (.cells #[.int .i64 d.op, .int .i64 d.w, .int .i64 d.a, .int .i64 d.b, .int .i64 d.c, .int .i64 d.imm, .slice u d.args.length q] 44))
 have hl := heap_alloc_last (w.alloc (.cells #[.int .i64 d.op, .int .i64 d.w, .int .i64 d.a, .int .i64 d.b, .int .i64 d.c, .int .i64 d.imm, .slice u d.args.length q] 44)) (.cells #[.int .i64 ids, .int .i64 blocks, .int .i64 funcs] 131)
 have e : (w.alloc (.cells #[.int .i64 d.op, .int .i64 d.w, .int .i64 d.a, .int .i64 d.b, .int .i64 d.c, .int .i64 d.imm, .slice u d.args.length q] 44)).heap.size = w.heap.size + 1 := by simp
 rw [e] at hl
 exact ⟨(cell_of_heap hb).trans rfl, (cell_of_heap hb).trans rfl, (cell_of_heap hb).trans rfl, (cell_of_heap hb).trans rfl, (cell_of_heap hb).trans rfl, (cell_of_heap hb).trans rfl, (cell_of_heap hb).trans rfl, (cell_of_heap hl).trans rfl, (cell_of_heap hl).trans rfl, (cell_of_heap hl).trans rfl⟩
theorem drop_drew {w w' : World} (h : Below w.drew.heap.size w.drew w') : Below w.heap.size w w' := ⟨h.os, h.tape, h.output, h.size, h.block⟩
set_option maxHeartbeats 2000000 in
set_option maxRecDepth 100000 in
theorem instShI_w (lo : Nat) (d : InstD) (u : Option Addr) (q : Nat) (ids blocks funcs : Int) (w : World) (hm : d.args.length ≤ 1048576) (hk : IntsAt w lo u d.args) (hw : wB d = false) :
  Calls Tryd.prog 96 #[.agg #[.int .i64 d.op, .int .i64 d.w, .int .i64 d.a, .int .i64 d.b, .int .i64 d.c, .int .i64 d.imm, .slice u d.args.length q], .agg #[.int .i64 ids, .int .i64 blocks, .int .i64 funcs]] w fun e w' => e = .returned (.bool (instB d ids funcs)) ∧ Below w.heap.size w w' := by
 obtain ⟨T, v, f, D⟩ := disp d u q
 have M := D.meth
 have C := fun lo w => D.con lo w hm
 have F := D.call
 have W := fun w => wI d u q w
 have N := fun w => immI d u q ids blocks funcs w
 have G := fun lo w => fldI lo d u q w hm
 have K := fun w => kind_any d u q w
 rw [D.kv] at W N G K
 rw [hw] at W
 have hol := opsD_len d hm
 have HR : Hid (false = instB d ids funcs) := by show _ = _; simp [instB, hw]
 clear D
 go_enter Tryd.func96, Tryd.ntmps96
 go_wp2_with fail
 refine (K _).mono ?_
 rintro e w1 ⟨rfl, hb1⟩
 have r1 := Room.start hb1
 clear hb1
 go_wp2_with fail
 refine wp_region_abv (fun v => Below w1.heap.size w1 v) (by kernel_rfl) (by kernel_rfl) (drew_below (Below.refl _ _)) ?_
 have hne : Nonempty (Abv (fun v => Below w1.heap.size w1 v)) := abv_ne (Below.refl _ _)
 have z0 := fun x : Abv (fun v => Below w1.heap.size w1 v) => (r1.keep x.ok).cells.1
 have z1 := fun x : Abv (fun v => Below w1.heap.size w1 v) => (r1.keep x.ok).cells.2.1
 have z2 := fun x : Abv (fun v => Below w1.heap.size w1 v) => (r1.keep x.ok).cells.2.2.1
 have z3 := fun x : Abv (fun v => Below w1.heap.size w1 v) => (r1.keep x.ok).cells.2.2.2.1
 have z4 := fun x : Abv (fun v => Below w1.heap.size w1 v) => (r1.keep x.ok).cells.2.2.2.2.1
 have z5 := fun x : Abv (fun v => Below w1.heap.size w1 v) => (r1.keep x.ok).cells.2.2.2.2.2.1
 have z6 := fun x : Abv (fun v => Below w1.heap.size w1 v) => (r1.keep x.ok).cells.2.2.2.2.2.2.1
 have z7 := fun x : Abv (fun v => Below w1.heap.size w1 v) => (r1.keep x.ok).cells.2.2.2.2.2.2.2.1
 have z8 := fun x : Abv (fun v => Below w1.heap.size w1 v) => (r1.keep x.ok).cells.2.2.2.2.2.2.2.2.1
 have z9 := fun x : Abv (fun v => Below w1.heap.size w1 v) => (r1.keep x.ok).cells.2.2.2.2.2.2.2.2.2
 repeat (go_big_quiet_step ((go_at_call 109; exact abv_call _ (W _))))
 refine wpQuiet_nil ?_
 rintro w9 ⟨⟨w9, h9⟩, rfl⟩
 have r9 := r1.keep h9
 clear hne z0 z1 z2 z3 z4 z5 z6 z7 z8 z9
 go_wp2_with fail
 go_ret
 exact ⟨ret_bool HR.out, r9.below⟩
set_option maxHeartbeats 2000000 in
set_option maxRecDepth 100000 in
theorem instShI_i (lo : Nat) (d : InstD) (u : Option Addr) (q : Nat) (ids blocks funcs : Int) (w : World) (hm : d.args.length ≤ 1048576) (hk : IntsAt w lo u d.args) (hw : wB d = true) (hi : iB d funcs = false) :
  Calls Tryd.prog 96 #[.agg #[.int .i64 d.op, .int .i64 d.w, .int .i64 d.a, .int .i64 d.b, .int .i64 d.c, .int .i64 d.imm, .slice u d.args.length q], .agg #[.int .i64 ids, .int .i64 blocks, .int .i64 funcs]] w fun e w' => e = .returned (.bool (instB d ids funcs)) ∧ Below w.heap.size w w' := by
 obtain ⟨T, v, f, D⟩ := disp d u q
 have M := D.meth
 have C := fun lo w => D.con lo w hm
 have F := D.call
 have W := fun w => wI d u q w
 have N := fun w => immI d u q ids blocks funcs w
 have G := fun lo w => fldI lo d u q w hm
 have K := fun w => kind_any d u q w
 rw [D.kv] at W N G K
 rw [hw] at W
 rw [hi] at N
 have hol := opsD_len d hm
 have HR : Hid (false = instB d ids funcs) := by show _ = _; simp [instB, hw, hi]
 clear D
 go_enter Tryd.func96, Tryd.ntmps96
 go_wp2_with fail
 refine (K _).mono ?_
 rintro e w1 ⟨rfl, hb1⟩
 have r1 := Room.start hb1
 clear hb1
 go_wp2_with fail
 refine wp_region_abv (fun v => Below w1.heap.size w1 v) (by kernel_rfl) (by kernel_rfl) (drew_below (Below.refl _ _)) ?_
 have hne : Nonempty (Abv (fun v => Below w1.heap.size w1 v)) := abv_ne (Below.refl _ _)
 have z0 := fun x : Abv (fun v => Below w1.heap.size w1 v) => (r1.keep x.ok).cells.1
 have z1 := fun x : Abv (fun v => Below w1.heap.size w1 v) => (r1.keep x.ok).cells.2.1
 have z2 := fun x : Abv (fun v => Below w1.heap.size w1 v) => (r1.keep x.ok).cells.2.2.1
 have z3 := fun x : Abv (fun v => Below w1.heap.size w1 v) => (r1.keep x.ok).cells.2.2.2.1
 have z4 := fun x : Abv (fun v => Below w1.heap.size w1 v) => (r1.keep x.ok).cells.2.2.2.2.1
 have z5 := fun x : Abv (fun v => Below w1.heap.size w1 v) => (r1.keep x.ok).cells.2.2.2.2.2.1
 have z6 := fun x : Abv (fun v => Below w1.heap.size w1 v) => (r1.keep x.ok).cells.2.2.2.2.2.2.1
 have z7 := fun x : Abv (fun v => Below w1.heap.size w1 v) => (r1.keep x.ok).cells.2.2.2.2.2.2.2.1
 have z8 := fun x : Abv (fun v => Below w1.heap.size w1 v) => (r1.keep x.ok).cells.2.2.2.2.2.2.2.2.1
 have z9 := fun x : Abv (fun v => Below w1.heap.size w1 v) => (r1.keep x.ok).cells.2.2.2.2.2.2.2.2.2
 repeat (go_big_quiet_step ((first | (go_at_call 109; exact abv_call _ (W _)) | (go_at_call 110; exact abv_call _ (N _)))))
 refine wpQuiet_nil ?_
 rintro w9 ⟨⟨w9, h9⟩, rfl⟩
 have r9 := r1.keep h9
 clear hne z0 z1 z2 z3 z4 z5 z6 z7 z8 z9
 go_wp2_with fail
 go_ret
 exact ⟨ret_bool HR.out, r9.below⟩
set_option maxHeartbeats 2000000 in
set_option maxRecDepth 100000 in
theorem instShI_f (lo : Nat) (d : InstD) (u : Option Addr) (q : Nat) (ids blocks funcs : Int) (w : World) (hm : d.args.length ≤ 1048576) (hk : IntsAt w lo u d.args) (hw : wB d = true) (hi : iB d funcs = true) (hf : fB d = false) :
  Calls Tryd.prog 96 #[.agg #[.int .i64 d.op, .int .i64 d.w, .int .i64 d.a, .int .i64 d.b, .int .i64 d.c, .int .i64 d.imm, .slice u d.args.length q], .agg #[.int .i64 ids, .int .i64 blocks, .int .i64 funcs]] w fun e w' => e = .returned (.bool (instB d ids funcs)) ∧ Below w.heap.size w w' := by
 obtain ⟨T, v, f, D⟩ := disp d u q
 have M := D.meth
 have C := fun lo w => D.con lo w hm
 have F := D.call
 have W := fun w => wI d u q w
 have N := fun w => immI d u q ids blocks funcs w
 have G := fun lo w => fldI lo d u q w hm
 have K := fun w => kind_any d u q w
 rw [D.kv] at W N G K
 rw [hw] at W
 rw [hi] at N
 rw [hf] at G
 have hol := opsD_len d hm
 have HR : Hid (false = instB d ids funcs) := by show _ = _; simp [instB, hw, hi, hf]
 clear D
 go_enter Tryd.func96, Tryd.ntmps96
 go_wp2_with fail
 refine (K _).mono ?_
 rintro e w1 ⟨rfl, hb1⟩
 have r1 := Room.start hb1
 clear hb1
 go_wp2_with fail
 refine wp_region_abv (fun v => Below w1.heap.size w1 v) (by kernel_rfl) (by kernel_rfl) (drew_below (Below.refl _ _)) ?_
 have hne : Nonempty (Abv (fun v => Below w1.heap.size w1 v)) := abv_ne (Below.refl _ _)
 have z0 := fun x : Abv (fun v => Below w1.heap.size w1 v) => (r1.keep x.ok).cells.1
 have z1 := fun x : Abv (fun v => Below w1.heap.size w1 v) => (r1.keep x.ok).cells.2.1
 have z2 := fun x : Abv (fun v => Below w1.heap.size w1 v) => (r1.keep x.ok).cells.2.2.1
 have z3 := fun x : Abv (fun v => Below w1.heap.size w1 v) => (r1.keep x.ok).cells.2.2.2.1
 have z4 := fun x : Abv (fun v => Below w1.heap.size w1 v) => (r1.keep x.ok).cells.2.2.2.2.1
 have z5 := fun x : Abv (fun v => Below w1.heap.size w1 v) => (r1.keep x.ok).cells.2.2.2.2.2.1
 have z6 := fun x : Abv (fun v => Below w1.heap.size w1 v) => (r1.keep x.ok).cells.2.2.2.2.2.2.1
 have z7 := fun x : Abv (fun v => Below w1.heap.size w1 v) => (r1.keep x.ok).cells.2.2.2.2.2.2.2.1
 have z8 := fun x : Abv (fun v => Below w1.heap.size w1 v) => (r1.keep x.ok).cells.2.2.2.2.2.2.2.2.1
 have z9 := fun x : Abv (fun v => Below w1.heap.size w1 v) => (r1.keep x.ok).cells.2.2.2.2.2.2.2.2.2
 repeat (go_big_quiet_step ((first | (go_at_call 109; exact abv_call _ (W _)) | (go_at_call 110; exact abv_call _ (N _)) | (go_at_call 111; exact abv_call _ (G lo _ (hk.keep (agree_of_below (r1.keep (Abv.ok _)).below _)))))))
 refine wpQuiet_nil ?_
 rintro w9 ⟨⟨w9, h9⟩, rfl⟩
 have r9 := r1.keep h9
 clear hne z0 z1 z2 z3 z4 z5 z6 z7 z8 z9
 go_wp2_with fail
 go_ret
 exact ⟨ret_bool HR.out, r9.below⟩
set_option maxHeartbeats 2000000 in
set_option maxRecDepth 100000 in
theorem instShI_b (lo : Nat) (d : InstD) (u : Option Addr) (q : Nat) (ids blocks funcs : Int) (w : World) (hm : d.args.length ≤ 1048576) (hk : IntsAt w lo u d.args) (hw : wB d = true) (hi : iB d funcs = true) (hf : fB d = true) :
  Calls Tryd.prog 96 #[.agg #[.int .i64 d.op, .int .i64 d.w, .int .i64 d.a, .int .i64 d.b, .int .i64 d.c, .int .i64 d.imm, .slice u d.args.length q], .agg #[.int .i64 ids, .int .i64 blocks, .int .i64 funcs]] w fun e w' => e = .returned (.bool (instB d ids funcs)) ∧ Below w.heap.size w w' := by
 obtain ⟨T, v, f, D⟩ := disp d u q
 have M := D.meth
 have C := fun lo w => D.con lo w hm
 have F := D.call
 have W := fun w => wI d u q w
 have N := fun w => immI d u q ids blocks funcs w
 have G := fun lo w => fldI lo d u q w hm
 have K := fun w => kind_any d u q w
 rw [D.kv] at W N G K
 rw [hw] at W
 rw [hi] at N
 rw [hf] at G
 have hol := opsD_len d hm
 have HR : Hid (((opsD d).all fun n => belowB n ids) = instB d ids funcs) := by show _ = _; simp [instB, hw, hi, hf]
 clear D
 go_enter Tryd.func96, Tryd.ntmps96
 go_wp2_with fail
 refine (K _).mono ?_
 rintro e w1 ⟨rfl, hb1⟩
 have r1 := Room.start hb1
 have s1 := (r1.keep (Below.refl _ _).drew).cells
 clear hb1
 go_wp2_with fail
 go_region_held2 (fun w' => w'.cell? ⟨w.heap.size, 0, none⟩ = some (.int .i64 d.op) ∧ w'.cell? ⟨w.heap.size, 1, none⟩ = some (.int .i64 d.w) ∧ w'.cell? ⟨w.heap.size, 2, none⟩ = some (.int .i64 d.a) ∧ w'.cell? ⟨w.heap.size, 3, none⟩ = some (.int .i64 d.b) ∧ w'.cell? ⟨w.heap.size, 4, none⟩ = some (.int .i64 d.c) ∧ w'.cell? ⟨w.heap.size, 5, none⟩ = some (.int .i64 d.imm) ∧ w'.cell? ⟨w.heap.size, 6, none⟩ = some (.slice u d.args.length q) ∧ w'.cell? ⟨w.heap.size + 1, 0, none⟩ = some (.int .i64 ids) ∧ w'.cell? ⟨w.heap.size + 1, 1, none⟩ = some (.int .i64 blocks) ∧ w'.cell? ⟨w.heap.size + 1, 2, none⟩ = some (.int .i64 funcs)) (first | with_reducible exact s1 | with_reducible exact s2 | with_reducible exact s3 | with_reducible exact s4 | with_reducible exact s5) (first | (go_at_call 109; refine (W _).mono ?_; rintro e w2 ⟨rfl, hb2⟩; have r2 := r1.keep (drop_drew hb2); have s2 := r2.cells) | (go_at_call 110; refine (N _).mono ?_; rintro e w3 ⟨rfl, hb3⟩; have r3 := r2.keep hb3; have s3 := r3.cells) | (go_at_call 111; refine (G lo _ (by exact hk.keep (agree_of_below r3.below _))).mono ?_; rintro e w4 ⟨rfl, hb4⟩; have r4 := r3.keep hb4; have s4 := r4.cells) | (go_at_call 27; refine (allBelowI _ _ _ _ _ _ n5.ints).mono ?_; rintro e w6 ⟨rfl, rfl⟩) | (refine (C lo _ (by exact hk.keep (agree_of_below r4.below _))).mono ?_; rintro e w5 ⟨a5, c5, rfl, n5, hb5⟩; have r5 := r4.keep hb5; have s5 := r5.cells))
 all_goals
  go_wp2_with fail
  go_ret
  exact ⟨ret_bool HR.out, r5.below⟩
theorem instShI (lo : Nat) (d : InstD) (u : Option Addr) (q : Nat) (ids blocks funcs : Int) (w : World) (hm : d.args.length ≤ 1048576) (hk : IntsAt w lo u d.args) :
  Calls Tryd.prog 96 #[.agg #[.int .i64 d.op, .int .i64 d.w, .int .i64 d.a, .int .i64 d.b, .int .i64 d.c, .int .i64 d.imm, .slice u d.args.length q], .agg #[.int .i64 ids, .int .i64 blocks, .int .i64 funcs]] w fun e w' => e = .returned (.bool (instB d ids funcs)) ∧ Below w.heap.size w w' := by
 cases hw : wB d with
 | false => exact instShI_w lo d u q ids blocks funcs w hm hk hw
 | true =>
  cases hi : iB d funcs with
  | false => exact instShI_i lo d u q ids blocks funcs w hm hk hw hi
  | true =>
   cases hf : fB d with
   | false => exact instShI_f lo d u q ids blocks funcs w hm hk hw hi hf
   | true => exact instShI_b lo d u q ids blocks funcs w hm hk hw hi hf
end Go.Proofs.YtenbodghkpbghaaDoor
namespace Go.Proofs.YtenbodghkpbghaaDoor
open Go.RowKit
set_option linter.unusedVariables false
def phiB (ids : Int) (p : PhiD) : Bool := widthB p.w && decide (p.ins.length ≤ 10) && p.ins.all fun n => belowB n ids
def blockB (ids blocks funcs : Int) (b : BlockD) : Bool := b.phis.all (phiB ids) && b.insts.all (fun i => instB i ids funcs) && termB b.term ids blocks
def funcB (funcs : Int) (d : FuncD) : Bool := decide (d.params.length ≤ 4) && d.params.all widthB && widthB d.ret && decide (1 ≤ d.blocks.length) && decide (d.blocks.length ≤ 10) && decide (cntF d ≤ 60) && d.blocks.all (blockB (cntF d) d.blocks.length funcs)
theorem phiB_w {ids : Int} {p : PhiD} (h : widthB p.w = false) : ¬ phiB ids p = true := by simp [phiB, h]
theorem phiB_l {ids : Int} {p : PhiD} (h : ¬ p.ins.length ≤ 10) : ¬ phiB ids p = true := by simp [phiB, h]
theorem phiB_a {ids : Int} {p : PhiD} (h : (p.ins.all fun n => belowB n ids) = false) : ¬ phiB ids p = true := by simp [phiB, h]
theorem phiB_t {ids : Int} {p : PhiD} (h : widthB p.w = true) (h1 : p.ins.length ≤ 10) (h2 : (p.ins.all fun n => belowB n ids) = true) : phiB ids p = true := by simp [phiB, h, h1, h2]
structure RoomB (x : BlockD) (v0 : Option Addr) (q0 : Nat) (v1 : Option Addr) (q1 : Nat) (ids blocks funcs : Int) (w w1 : World) : Prop where
 cells : w1.cell? ⟨w.heap.size, 0, none⟩ = some (.slice v0 x.phis.length q0) ∧ w1.cell? ⟨w.heap.size, 1, none⟩ = some (.slice v1 x.insts.length q1) ∧ w1.cell? ⟨w.heap.size, 2, none⟩ = some (.int .i64 x.term.kind) ∧ w1.cell? ⟨w.heap.size, 3, none⟩ = some (.int .i64 x.term.a) ∧ w1.cell? ⟨w.heap.size, 4, none⟩ = some (.int .i64 x.term.x) ∧ w1.cell? ⟨w.heap.size, 5, none⟩ = some (.int .i64 x.term.y) ∧ w1.cell? ⟨w.heap.size + 1, 0, none⟩ = some (.int .i64 ids) ∧ w1.cell? ⟨w.heap.size + 1, 1, none⟩ = some (.int .i64 blocks) ∧ w1.cell? ⟨w.heap.size + 1, 2, none⟩ = some (.int .i64 funcs)
 below : Below w.heap.size w w1
 size : w.heap.size + 2 ≤ w1.heap.size
theorem RoomB.keep {x : BlockD} {v0 v1 : Option Addr} {q0 q1 : Nat} {ids blocks funcs : Int} {w w1 w2 : World} (h : RoomB x v0 q0 v1 q1 ids blocks funcs w w1) (k : Below w1.heap.size w1 w2) : RoomB x v0 q0 v1 q1 ids blocks funcs w w2 := by
 have hz := h.size
 have e0 : ∀ o, w2.cell? ⟨w.heap.size, o, none⟩ = w1.cell? ⟨w.heap.size, o, none⟩ := fun o => cell_block (k.block _ (by omega))
 have e1 : ∀ o, w2.cell? ⟨w.heap.size + 1, o, none⟩ = w1.cell? ⟨w.heap.size + 1, o, none⟩ := fun o => cell_block (k.block _ (by omega))
 refine ⟨?_, h.below.trans (k.mono (by omega)), Nat.le_trans hz k.size⟩
 simp only [e0, e1]
 exact h.cells
theorem RoomB.start {x : BlockD} {v0 v1 : Option Addr} {q0 q1 : Nat} {ids blocks funcs : Int} {w : World} : RoomB x v0 q0 v1 q1 ids blocks funcs w ((w.alloc (.cells #[.slice v0 x.phis.length q0, .slice v1 x.insts.length q1, .int .i64 x.term.kind, .int .i64 x.term.a, .int .i64 x.term.x, .int .i64 x.term.y] 41)).alloc (.cells #[.int .i64 ids, .int .i64 blocks, .int .i64 funcs] 131)) := by
 refine ⟨?_, ((Below.refl _ _).alloc (Nat.le_refl _) _).alloc (by simp) _, by simp⟩
 have hb := (Below.heap_alloc _ (.cells #[.int .i64 ids, .int .i64 blocks, .int .i64 funcs] 131) _ (by simp)).trans (heap_alloc_last w (.cells #[.slice v0 x.phis.length q0, .slice v1 x.insts.length q1, .int .i64 x.term.kind, .int .i64 x.term.a, .int .i64 x.term.x, .int .i64 x.term.y] 41))
 have hl := heap_alloc_last (w.alloc (.cells #[.slice v0 x.phis.length q0, .slice v1 x.insts.length q1, .int .i64 x.term.kind, .int .i64 x.term.a, .int .i64 x.term.x, .int .i64 x.term.y] 41)) (.cells #[.int .i64 ids, .int .i64 blocks, .int .i64 funcs] 131)
 have e : (w.alloc (.cells #[.slice v0 x.phis.length q0, .slice v1 x.insts.length q1, .int .i64 x.term.kind, .int .i64 x.term.a, .int .i64 x.term.x, .int .i64 x.term.y] 41)).heap.size = w.heap.size + 1 := by simp
 rw [e] at hl
 exact ⟨(cell_of_heap hb).trans rfl, (cell_of_heap hb).trans rfl, (cell_of_heap hb).trans rfl, (cell_of_heap hb).trans rfl, (cell_of_heap hb).trans rfl, (cell_of_heap hb).trans rfl, (cell_of_heap hl).trans rfl, (cell_of_heap hl).trans rfl, (cell_of_heap hl).trans rfl⟩
theorem RoomB.alloc {x : BlockD} {v0 v1 : Option Addr} {q0 q1 : Nat} {ids blocks funcs : Int} {w w1 : World} (h : RoomB x v0 q0 v1 q1 ids blocks funcs w w1) (o : Obj) : RoomB x v0 q0 v1 q1 ids blocks funcs w (w1.alloc o) := h.keep ((Below.refl _ _).alloc (Nat.le_refl _) o)
set_option maxHeartbeats 4000000 in
set_option maxRecDepth 100000 in
theorem blockShI (lo : Nat) (x : BlockD) (v0 : Option Addr) (q0 : Nat) (v1 : Option Addr) (q1 : Nat) (ids blocks funcs : Int) (w : World) (hs : SmBlock x) (m0 : PhisAt w lo v0 x.phis) (m1 : InstsAt w lo v1 x.insts) :
  Calls Tryd.prog 73 #[.agg #[.slice v0 x.phis.length q0, .slice v1 x.insts.length q1, .int .i64 x.term.kind, .int .i64 x.term.a, .int .i64 x.term.x, .int .i64 x.term.y], .agg #[.int .i64 ids, .int .i64 blocks, .int .i64 funcs]] w fun e w' => e = .returned (.bool (blockB ids blocks funcs x)) ∧ Below w.heap.size w w' := by
 have s0 := hs.1.1
 have s1 := hs.2.1
 have SP : Hid (∀ p ∈ x.phis, SmPhi p) := hs.1.2
 have SN : Hid (∀ p ∈ x.insts, SmInst p) := hs.2.2
 have HP : Hid ((x.phis.all (phiB ids)) = false → false = blockB ids blocks funcs x) := fun h => by simp [blockB, h]
 have HI : Hid ((x.insts.all (fun i => instB i ids funcs)) = false → false = blockB ids blocks funcs x) := fun h => by simp [blockB, h]
 have HT : Hid ((x.phis.all (phiB ids)) = true → (x.insts.all (fun i => instB i ids funcs)) = true → termB x.term ids blocks = blockB ids blocks funcs x) := fun h h' => by simp [blockB, h, h']
 clear hs
 go_enter Tryd.func73, Tryd.ntmps73
 go_wp2_with fail
 go_loopw [12] (fun i wr => ∃ j : Nat, j ≤ x.phis.length ∧ i = .int .i64 j ∧ Hid (∀ k, k < j → phiB ids (x.phis.getD k phi0) = true) ∧ RoomB x v0 q0 v1 q1 ids blocks funcs w wr) (fun i _ => x.phis.length - (intOf i).toNat)
 case atStart => exact ⟨0, by omega, rfl, fun k hk => by omega, RoomB.start⟩
 case round =>
  obtain ⟨j, hj, rfl, HD, hR⟩ := hrel
  obtain ⟨wp, hwp⟩ : ∃ wp, wp = wr := ⟨_, rfl⟩
  subst hwp
  obtain ⟨y0, y1, y2, y3, y4, y5, r0, r1, r2⟩ := hR.cells
  have hW := hR.below
  by_cases hjl : j < x.phis.length
  ·rcases m0.2 with hn | ⟨pb, po, rfl, hplo, hpb, hpc⟩
   ·simp [hn] at hjl
   obtain ⟨hi0, ⟨iu, iq, hi1, im⟩⟩ := hpc j hjl
   have hsp := SP.out _ (getD_mem phi0 x.phis j hjl)
   generalize hp : x.phis.getD j phi0 = p at hi0 hi1 im hsp
   have HPj : Hid (x.phis.getD j phi0 = p) := hp
   have f0 : wp.cell? ⟨pb, po + j * 2, none⟩ = some (.int .i64 p.w) := (cell_block (hW.block pb hpb)).trans hi0
   have f1 : wp.cell? ⟨pb, po + j * 2 + 1, none⟩ = some (.slice iu p.ins.length iq) := (cell_block (hW.block pb hpb)).trans hi1
   have IM := (im.keep (agree_of_below hW lo)).keep (agree_alloc wp (.cells #[.int .i64 p.w, .slice iu p.ins.length iq] 89) _)
   have hsp' : p.ins.length ≤ 1048576 := hsp
   have RR : Hid (RoomB x (some ⟨pb, po, none⟩) q0 v1 q1 ids blocks funcs w (wp.alloc (.cells #[.int .i64 p.w, .slice iu p.ins.length iq] 89))) := hR.alloc _
   have NO : Hid (¬ phiB ids p = true → false = blockB ids blocks funcs x) := fun h => HP.out (all_no phi0 x.phis j hjl (by rw [HPj.out]; exact h))
   have YES : Hid (phiB ids p = true → ∀ k, k < j + 1 → phiB ids (x.phis.getD k phi0) = true) := fun h k hk => by
    by_cases e : k = j
    ·subst e; rw [HPj.out]; exact h
    ·exact HD.out k (by omega)
   obtain ⟨_, _, _, _, _, _, t0, t1, t2⟩ := RR.out.cells
   clear hpc hi0 hi1 im hsp hp m0 m1 hR HD HP HI HT
   cases hw : widthB p.w with
   | false =>
    have HF : Hid (false = blockB ids blocks funcs x) := NO.out (phiB_w hw)
    go_wp2_with (go_at_call 72; refine (widthI _ _).mono ?_; rintro e w' ⟨rfl, rfl⟩)
    go_ret
    exact ⟨ret_bool HF.out, RR.out.below⟩
   | true =>
    by_cases hl : p.ins.length ≤ 10
    ·have hl2 : ¬ (10 : Int) < p.ins.length := by omega
     cases ha : (p.ins.all fun n => belowB n ids) with
     | false =>
      have HF : Hid (false = blockB ids blocks funcs x) := NO.out (phiB_a ha)
      go_wp2_with (first | (go_at_call 72; refine (widthI _ _).mono ?_; rintro e w' ⟨rfl, rfl⟩) | (go_at_call 27; refine (allBelowI lo _ _ _ _ _ IM).mono ?_; rw [ha]; rintro e w' ⟨rfl, rfl⟩))
      go_ret
      exact ⟨ret_bool HF.out, RR.out.below⟩
     | true =>
      have HF : Hid (phiB ids p = true) := phiB_t hw hl ha
      go_wp2_with (first | (go_at_call 72; refine (widthI _ _).mono ?_; rintro e w' ⟨rfl, rfl⟩) | (go_at_call 27; refine (allBelowI lo _ _ _ _ _ IM).mono ?_; rw [ha]; rintro e w' ⟨rfl, rfl⟩))
      go_roundw
      case rel => exact ⟨j + 1, by omega, by go_num, YES.out HF.out, RR.out⟩
      case measure => simp [intOf]; omega
    ·have HF : Hid (false = blockB ids blocks funcs x) := NO.out (phiB_l hl)
     have hl2 : (10 : Int) < p.ins.length := by omega
     go_wp2_with (go_at_call 72; refine (widthI _ _).mono ?_; rintro e w' ⟨rfl, rfl⟩)
     go_ret
     exact ⟨ret_bool HF.out, RR.out.below⟩
  ·have HPA : Hid ((x.phis.all (phiB ids)) = true) := all_yes phi0 x.phis (fun k hk => HD.out k (by omega))
   have RR : Hid (RoomB x v0 q0 v1 q1 ids blocks funcs w wp) := hR
   clear hR HD HP m0
   go_wp2_with fail
   clear y0 y1 y2 y3 y4 y5 r0 r1 r2
   go_loopw [38] (fun i wr => ∃ j : Nat, j ≤ x.insts.length ∧ i = .int .i64 j ∧ Hid (∀ k, k < j → instB (x.insts.getD k inst0) ids funcs = true) ∧ RoomB x v0 q0 v1 q1 ids blocks funcs w wr) (fun i _ => x.insts.length - (intOf i).toNat)
   case atStart => exact ⟨0, by omega, rfl, fun k hk => by omega, RR.out⟩
   case round =>
    obtain ⟨j, hj, rfl, HD, hR⟩ := hrel
    obtain ⟨wq, hwq⟩ : ∃ wq, wq = wr := ⟨_, rfl⟩
    subst hwq
    clear RR
    obtain ⟨y0, y1, y2, y3, y4, y5, r0, r1, r2⟩ := hR.cells
    have hW := hR.below
    by_cases hjl : j < x.insts.length
    ·rcases m1.2 with hn | ⟨pb, po, rfl, hplo, hpb, hpc⟩
     ·simp [hn] at hjl
     obtain ⟨i0, i1, i2, i3, i4, i5, ⟨iu, iq, i6, im⟩⟩ := hpc j hjl
     have hsp := SN.out _ (getD_mem inst0 x.insts j hjl)
     generalize hp : x.insts.getD j inst0 = p at i0 i1 i2 i3 i4 i5 i6 im hsp
     have HPj : Hid (x.insts.getD j inst0 = p) := hp
     have f0 : wq.cell? ⟨pb, po + j * 7, none⟩ = some (.int .i64 p.op) := (cell_block (hW.block pb hpb)).trans i0
     have f1 : wq.cell? ⟨pb, po + j * 7 + 1, none⟩ = some (.int .i64 p.w) := (cell_block (hW.block pb hpb)).trans i1
     have f2 : wq.cell? ⟨pb, po + j * 7 + 2, none⟩ = some (.int .i64 p.a) := (cell_block (hW.block pb hpb)).trans i2
     have f3 : wq.cell? ⟨pb, po + j * 7 + 3, none⟩ = some (.int .i64 p.b) := (cell_block (hW.block pb hpb)).trans i3
     have f4 : wq.cell? ⟨pb, po + j * 7 + 4, none⟩ = some (.int .i64 p.c) := (cell_block (hW.block pb hpb)).trans i4
     have f5 : wq.cell? ⟨pb, po + j * 7 + 5, none⟩ = some (.int .i64 p.imm) := (cell_block (hW.block pb hpb)).trans i5
     have f6 : wq.cell? ⟨pb, po + j * 7 + 6, none⟩ = some (.slice iu p.args.length iq) := (cell_block (hW.block pb hpb)).trans i6
     have IM := (im.keep (agree_of_below hW lo)).keep (agree_alloc wq (.cells #[.int .i64 p.op, .int .i64 p.w, .int .i64 p.a, .int .i64 p.b, .int .i64 p.c, .int .i64 p.imm, .slice iu p.args.length iq] 44) _)
     have hsp' : p.args.length ≤ 1048576 := hsp
     have RR : Hid (RoomB x v0 q0 (some ⟨pb, po, none⟩) q1 ids blocks funcs w (wq.alloc (.cells #[.int .i64 p.op, .int .i64 p.w, .int .i64 p.a, .int .i64 p.b, .int .i64 p.c, .int .i64 p.imm, .slice iu p.args.length iq] 44))) := hR.alloc _
     have NO : Hid (instB p ids funcs = false → false = blockB ids blocks funcs x) := fun h => HI.out (all_no inst0 x.insts j hjl (by rw [HPj.out, h]; decide))
     have YES : Hid (instB p ids funcs = true → ∀ k, k < j + 1 → instB (x.insts.getD k inst0) ids funcs = true) := fun h k hk => by
      by_cases e : k = j
      ·subst e; rw [HPj.out]; exact h
      ·exact HD.out k (by omega)
     have B : ∀ B, instB p ids funcs = B → Calls Tryd.prog 96 #[.agg #[.int .i64 p.op, .int .i64 p.w, .int .i64 p.a, .int .i64 p.b, .int .i64 p.c, .int .i64 p.imm, .slice iu p.args.length iq], .agg #[.int .i64 ids, .int .i64 blocks, .int .i64 funcs]] (wq.alloc (.cells #[.int .i64 p.op, .int .i64 p.w, .int .i64 p.a, .int .i64 p.b, .int .i64 p.c, .int .i64 p.imm, .slice iu p.args.length iq] 44)) fun e w' => e = .returned (.bool B) ∧ Below (wq.alloc (.cells #[.int .i64 p.op, .int .i64 p.w, .int .i64 p.a, .int .i64 p.b, .int .i64 p.c, .int .i64 p.imm, .slice iu p.args.length iq] 44)).heap.size (wq.alloc (.cells #[.int .i64 p.op, .int .i64 p.w, .int .i64 p.a, .int .i64 p.b, .int .i64 p.c, .int .i64 p.imm, .slice iu p.args.length iq] 44)) w' := fun B h => by
      rw [← h]; exact instShI lo p iu iq ids blocks funcs _ hsp' IM
     have RA := hR.alloc (.cells #[.int .i64 p.op, .int .i64 p.w, .int .i64 p.a, .int .i64 p.b, .int .i64 p.c, .int .i64 p.imm, .slice iu p.args.length iq] 44)
     obtain ⟨_, _, _, _, _, _, t0, t1, t2⟩ := RA.cells
     clear hpc i0 i1 i2 i3 i4 i5 i6 im hsp hp m1 hR HD HI HT IM RA
     cases hb : instB p ids funcs with
     | false =>
      have HF : Hid (false = blockB ids blocks funcs x) := NO.out hb
      have BB := B _ hb
      clear B
      go_wp2_with (go_at_call 96; refine BB.mono ?_; rintro e w2 ⟨rfl, hb2⟩)
      go_ret
      exact ⟨ret_bool HF.out, (RR.out.keep hb2).below⟩
     | true =>
      have HF : Hid (instB p ids funcs = true) := hb
      have BB := B _ hb
      clear B
      go_wp2_with (go_at_call 96; refine BB.mono ?_; rintro e w2 ⟨rfl, hb2⟩)
      go_roundw
      case rel => exact ⟨j + 1, by omega, by go_num, YES.out HF.out, RR.out.keep hb2⟩
      case measure => simp [intOf]; omega
    ·have HF : Hid (termB x.term ids blocks = blockB ids blocks funcs x) := HT.out HPA.out (all_yes inst0 x.insts (fun k hk => HD.out k (by omega)))
     have RR : Hid (RoomB x v0 q0 v1 q1 ids blocks funcs w wq) := hR
     clear hR HD HI HT m1
     go_wp2_with (go_at_call 97; refine (termShI x.term _ _ _ _).mono ?_; rintro e w2 ⟨rfl, hb2⟩)
     go_ret
     exact ⟨ret_bool HF.out, (RR.out.keep hb2).below⟩
end Go.Proofs.YtenbodghkpbghaaDoor
