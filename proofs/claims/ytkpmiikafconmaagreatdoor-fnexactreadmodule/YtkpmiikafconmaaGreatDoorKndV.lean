import Derived.Test.YtkpmiikafconmaaGreatDoorShelfV
import Derived.Test.YtkpmiikafconmaaGreatDoorRiAV
import Derived.Test.YtkpmiikafconmaaGreatDoorSzV
import Derived.Laws.AppendOwnNone
import Derived.Deep.LoopGhost
namespace Go.Proofs.YtkpmiikafconmaaGreatDoor
open Go.RowKit
def kindV (d : InstD) (u : Option Addr) (q : Nat) : Value :=
 if opB d.op = true then .iface 197 (.agg #[.int .i64 d.a, .int .i64 d.b])
 else if d.op = 18 ∨ d.op = 19 ∨ d.op = 20 ∨ d.op = 27 then .iface 199 (.agg #[.int .i64 d.a])
 else if d.op = 21 then .iface 201 (.agg #[.int .i64 d.imm])
 else if d.op = 22 then .iface 203 (.agg #[.int .i64 d.a, .int .i64 d.b, .int .i64 d.c])
 else if d.op = 23 then .iface 204 (.agg #[.int .i64 d.a])
 else if d.op = 24 then .iface 205 (.agg #[.int .i64 d.a, .int .i64 d.b])
 else if d.op = 25 then .iface 206 (.agg #[.int .i64 d.a])
 else if d.op = 26 then .iface 208 (.agg #[.int .i64 d.imm, .slice u d.args.length q])
 else .iface 210 (.agg #[])
theorem kv_bin {d : InstD} {u : Option Addr} {q : Nat} (h : opB d.op = true) : kindV d u q = .iface 197 (.agg #[.int .i64 d.a, .int .i64 d.b]) := by rw [kindV, if_pos h]
theorem kv_18 {d : InstD} {u : Option Addr} {q : Nat} (h : d.op = 18) : kindV d u q = .iface 199 (.agg #[.int .i64 d.a]) := by
 have ho : opB 18 = false := by decide
 simp [kindV, h, ho]
theorem kv_19 {d : InstD} {u : Option Addr} {q : Nat} (h : d.op = 19) : kindV d u q = .iface 199 (.agg #[.int .i64 d.a]) := by
 have ho : opB 19 = false := by decide
 simp [kindV, h, ho]
theorem kv_20 {d : InstD} {u : Option Addr} {q : Nat} (h : d.op = 20) : kindV d u q = .iface 199 (.agg #[.int .i64 d.a]) := by
 have ho : opB 20 = false := by decide
 simp [kindV, h, ho]
theorem kv_27 {d : InstD} {u : Option Addr} {q : Nat} (h : d.op = 27) : kindV d u q = .iface 199 (.agg #[.int .i64 d.a]) := by
 have ho : opB 27 = false := by decide
 simp [kindV, h, ho]
theorem kv_21 {d : InstD} {u : Option Addr} {q : Nat} (h : d.op = 21) : kindV d u q = .iface 201 (.agg #[.int .i64 d.imm]) := by
 have ho : opB 21 = false := by decide
 simp [kindV, h, ho]
theorem kv_22 {d : InstD} {u : Option Addr} {q : Nat} (h : d.op = 22) : kindV d u q = .iface 203 (.agg #[.int .i64 d.a, .int .i64 d.b, .int .i64 d.c]) := by
 have ho : opB 22 = false := by decide
 simp [kindV, h, ho]
theorem kv_23 {d : InstD} {u : Option Addr} {q : Nat} (h : d.op = 23) : kindV d u q = .iface 204 (.agg #[.int .i64 d.a]) := by
 have ho : opB 23 = false := by decide
 simp [kindV, h, ho]
theorem kv_24 {d : InstD} {u : Option Addr} {q : Nat} (h : d.op = 24) : kindV d u q = .iface 205 (.agg #[.int .i64 d.a, .int .i64 d.b]) := by
 have ho : opB 24 = false := by decide
 simp [kindV, h, ho]
theorem kv_25 {d : InstD} {u : Option Addr} {q : Nat} (h : d.op = 25) : kindV d u q = .iface 206 (.agg #[.int .i64 d.a]) := by
 have ho : opB 25 = false := by decide
 simp [kindV, h, ho]
theorem kv_26 {d : InstD} {u : Option Addr} {q : Nat} (h : d.op = 26) : kindV d u q = .iface 208 (.agg #[.int .i64 d.imm, .slice u d.args.length q]) := by
 have ho : opB 26 = false := by decide
 simp [kindV, h, ho]
theorem kv_no {d : InstD} {u : Option Addr} {q : Nat} (h0 : opB d.op = false) (h : d.op < 1 ∨ 27 < d.op) : kindV d u q = .iface 210 (.agg #[]) := by
 rw [kindV, if_neg (by simp [h0]), if_neg (by omega), if_neg (by omega), if_neg (by omega), if_neg (by omega), if_neg (by omega), if_neg (by omega), if_neg (by omega)]
set_option maxHeartbeats 2000000 in
theorem kind_bin (d : InstD) (u : Option Addr) (q : Nat) (w : World) (h : opB d.op = true) :
  Calls Tryz.prog 138 #[.agg #[.int .i64 d.op, .int .i64 d.w, .int .i64 d.a, .int .i64 d.b, .int .i64 d.c, .int .i64 d.imm, .slice u d.args.length q]] w fun e w' => e = .returned (kindV d u q) ∧ Below w.heap.size w w' := by
 have E := kv_bin (u := u) (q := q) h
 generalize kindV d u q = V at E
 subst E
 go_enter Tryz.func138, Tryz.ntmps138
 go_wp2_with (go_at_call 164; refine (opI _ _).mono ?_; rintro e w' ⟨rfl, rfl⟩)
 go_ret
 exact ⟨rfl, (Below.refl _ _).alloc (Nat.le_refl _) _⟩
set_option maxHeartbeats 2000000 in
theorem kind_18 (d : InstD) (u : Option Addr) (q : Nat) (w : World) (h : d.op = 18) :
  Calls Tryz.prog 138 #[.agg #[.int .i64 d.op, .int .i64 d.w, .int .i64 d.a, .int .i64 d.b, .int .i64 d.c, .int .i64 d.imm, .slice u d.args.length q]] w fun e w' => e = .returned (kindV d u q) ∧ Below w.heap.size w w' := by
 have E := kv_18 (u := u) (q := q) h
 generalize kindV d u q = V at E
 subst E
 have ho : opB d.op = false := by rw [h]; decide
 have ho2 : opB 18 = false := by decide
 go_enter Tryz.func138, Tryz.ntmps138
 go_wp2_with (go_at_call 164; refine (opI _ _).mono ?_; rintro e w' ⟨rfl, rfl⟩)
 go_ret
 exact ⟨rfl, (Below.refl _ _).alloc (Nat.le_refl _) _⟩
set_option maxHeartbeats 2000000 in
theorem kind_19 (d : InstD) (u : Option Addr) (q : Nat) (w : World) (h : d.op = 19) :
  Calls Tryz.prog 138 #[.agg #[.int .i64 d.op, .int .i64 d.w, .int .i64 d.a, .int .i64 d.b, .int .i64 d.c, .int .i64 d.imm, .slice u d.args.length q]] w fun e w' => e = .returned (kindV d u q) ∧ Below w.heap.size w w' := by
 have E := kv_19 (u := u) (q := q) h
 generalize kindV d u q = V at E
 subst E
 have ho : opB d.op = false := by rw [h]; decide
 have ho2 : opB 19 = false := by decide
 go_enter Tryz.func138, Tryz.ntmps138
 go_wp2_with (go_at_call 164; refine (opI _ _).mono ?_; rintro e w' ⟨rfl, rfl⟩)
 go_ret
 exact ⟨rfl, (Below.refl _ _).alloc (Nat.le_refl _) _⟩
set_option maxHeartbeats 2000000 in
theorem kind_20 (d : InstD) (u : Option Addr) (q : Nat) (w : World) (h : d.op = 20) :
  Calls Tryz.prog 138 #[.agg #[.int .i64 d.op, .int .i64 d.w, .int .i64 d.a, .int .i64 d.b, .int .i64 d.c, .int .i64 d.imm, .slice u d.args.length q]] w fun e w' => e = .returned (kindV d u q) ∧ Below w.heap.size w w' := by
 have E := kv_20 (u := u) (q := q) h
 generalize kindV d u q = V at E
 subst E
 have ho : opB d.op = false := by rw [h]; decide
 have ho2 : opB 20 = false := by decide
 go_enter Tryz.func138, Tryz.ntmps138
 go_wp2_with (go_at_call 164; refine (opI _ _).mono ?_; rintro e w' ⟨rfl, rfl⟩)
 go_ret
 exact ⟨rfl, (Below.refl _ _).alloc (Nat.le_refl _) _⟩
set_option maxHeartbeats 2000000 in
theorem kind_27 (d : InstD) (u : Option Addr) (q : Nat) (w : World) (h : d.op = 27) :
  Calls Tryz.prog 138 #[.agg #[.int .i64 d.op, .int .i64 d.w, .int .i64 d.a, .int .i64 d.b, .int .i64 d.c, .int .i64 d.imm, .slice u d.args.length q]] w fun e w' => e = .returned (kindV d u q) ∧ Below w.heap.size w w' := by
 have E := kv_27 (u := u) (q := q) h
 generalize kindV d u q = V at E
 subst E
 have ho : opB d.op = false := by rw [h]; decide
 have ho2 : opB 27 = false := by decide
 go_enter Tryz.func138, Tryz.ntmps138
 go_wp2_with (go_at_call 164; refine (opI _ _).mono ?_; rintro e w' ⟨rfl, rfl⟩)
 go_ret
 exact ⟨rfl, (Below.refl _ _).alloc (Nat.le_refl _) _⟩
set_option maxHeartbeats 2000000 in
theorem kind_21 (d : InstD) (u : Option Addr) (q : Nat) (w : World) (h : d.op = 21) :
  Calls Tryz.prog 138 #[.agg #[.int .i64 d.op, .int .i64 d.w, .int .i64 d.a, .int .i64 d.b, .int .i64 d.c, .int .i64 d.imm, .slice u d.args.length q]] w fun e w' => e = .returned (kindV d u q) ∧ Below w.heap.size w w' := by
 have E := kv_21 (u := u) (q := q) h
 generalize kindV d u q = V at E
 subst E
 have ho : opB d.op = false := by rw [h]; decide
 have ho2 : opB 21 = false := by decide
 go_enter Tryz.func138, Tryz.ntmps138
 go_wp2_with (go_at_call 164; refine (opI _ _).mono ?_; rintro e w' ⟨rfl, rfl⟩)
 go_ret
 exact ⟨rfl, (Below.refl _ _).alloc (Nat.le_refl _) _⟩
set_option maxHeartbeats 2000000 in
theorem kind_22 (d : InstD) (u : Option Addr) (q : Nat) (w : World) (h : d.op = 22) :
  Calls Tryz.prog 138 #[.agg #[.int .i64 d.op, .int .i64 d.w, .int .i64 d.a, .int .i64 d.b, .int .i64 d.c, .int .i64 d.imm, .slice u d.args.length q]] w fun e w' => e = .returned (kindV d u q) ∧ Below w.heap.size w w' := by
 have E := kv_22 (u := u) (q := q) h
 generalize kindV d u q = V at E
 subst E
 have ho : opB d.op = false := by rw [h]; decide
 have ho2 : opB 22 = false := by decide
 go_enter Tryz.func138, Tryz.ntmps138
 go_wp2_with (go_at_call 164; refine (opI _ _).mono ?_; rintro e w' ⟨rfl, rfl⟩)
 go_ret
 exact ⟨rfl, (Below.refl _ _).alloc (Nat.le_refl _) _⟩
set_option maxHeartbeats 2000000 in
theorem kind_23 (d : InstD) (u : Option Addr) (q : Nat) (w : World) (h : d.op = 23) :
  Calls Tryz.prog 138 #[.agg #[.int .i64 d.op, .int .i64 d.w, .int .i64 d.a, .int .i64 d.b, .int .i64 d.c, .int .i64 d.imm, .slice u d.args.length q]] w fun e w' => e = .returned (kindV d u q) ∧ Below w.heap.size w w' := by
 have E := kv_23 (u := u) (q := q) h
 generalize kindV d u q = V at E
 subst E
 have ho : opB d.op = false := by rw [h]; decide
 have ho2 : opB 23 = false := by decide
 go_enter Tryz.func138, Tryz.ntmps138
 go_wp2_with (go_at_call 164; refine (opI _ _).mono ?_; rintro e w' ⟨rfl, rfl⟩)
 go_ret
 exact ⟨rfl, (Below.refl _ _).alloc (Nat.le_refl _) _⟩
set_option maxHeartbeats 2000000 in
theorem kind_24 (d : InstD) (u : Option Addr) (q : Nat) (w : World) (h : d.op = 24) :
  Calls Tryz.prog 138 #[.agg #[.int .i64 d.op, .int .i64 d.w, .int .i64 d.a, .int .i64 d.b, .int .i64 d.c, .int .i64 d.imm, .slice u d.args.length q]] w fun e w' => e = .returned (kindV d u q) ∧ Below w.heap.size w w' := by
 have E := kv_24 (u := u) (q := q) h
 generalize kindV d u q = V at E
 subst E
 have ho : opB d.op = false := by rw [h]; decide
 have ho2 : opB 24 = false := by decide
 go_enter Tryz.func138, Tryz.ntmps138
 go_wp2_with (go_at_call 164; refine (opI _ _).mono ?_; rintro e w' ⟨rfl, rfl⟩)
 go_ret
 exact ⟨rfl, (Below.refl _ _).alloc (Nat.le_refl _) _⟩
set_option maxHeartbeats 2000000 in
theorem kind_25 (d : InstD) (u : Option Addr) (q : Nat) (w : World) (h : d.op = 25) :
  Calls Tryz.prog 138 #[.agg #[.int .i64 d.op, .int .i64 d.w, .int .i64 d.a, .int .i64 d.b, .int .i64 d.c, .int .i64 d.imm, .slice u d.args.length q]] w fun e w' => e = .returned (kindV d u q) ∧ Below w.heap.size w w' := by
 have E := kv_25 (u := u) (q := q) h
 generalize kindV d u q = V at E
 subst E
 have ho : opB d.op = false := by rw [h]; decide
 have ho2 : opB 25 = false := by decide
 go_enter Tryz.func138, Tryz.ntmps138
 go_wp2_with (go_at_call 164; refine (opI _ _).mono ?_; rintro e w' ⟨rfl, rfl⟩)
 go_ret
 exact ⟨rfl, (Below.refl _ _).alloc (Nat.le_refl _) _⟩
set_option maxHeartbeats 2000000 in
theorem kind_26 (d : InstD) (u : Option Addr) (q : Nat) (w : World) (h : d.op = 26) :
  Calls Tryz.prog 138 #[.agg #[.int .i64 d.op, .int .i64 d.w, .int .i64 d.a, .int .i64 d.b, .int .i64 d.c, .int .i64 d.imm, .slice u d.args.length q]] w fun e w' => e = .returned (kindV d u q) ∧ Below w.heap.size w w' := by
 have E := kv_26 (u := u) (q := q) h
 generalize kindV d u q = V at E
 subst E
 have ho : opB d.op = false := by rw [h]; decide
 have ho2 : opB 26 = false := by decide
 go_enter Tryz.func138, Tryz.ntmps138
 go_wp2_with (go_at_call 164; refine (opI _ _).mono ?_; rintro e w' ⟨rfl, rfl⟩)
 go_ret
 exact ⟨rfl, (Below.refl _ _).alloc (Nat.le_refl _) _⟩
set_option maxHeartbeats 2000000 in
theorem kind_no (d : InstD) (u : Option Addr) (q : Nat) (w : World) (ho : opB d.op = false) (h : d.op < 1 ∨ 27 < d.op) :
  Calls Tryz.prog 138 #[.agg #[.int .i64 d.op, .int .i64 d.w, .int .i64 d.a, .int .i64 d.b, .int .i64 d.c, .int .i64 d.imm, .slice u d.args.length q]] w fun e w' => e = .returned (kindV d u q) ∧ Below w.heap.size w w' := by
 have E := kv_no (u := u) (q := q) ho h
 generalize kindV d u q = V at E
 subst E
 have n18 : (d.op == 18) = false := by simp; omega
 have n19 : (d.op == 19) = false := by simp; omega
 have n20 : (d.op == 20) = false := by simp; omega
 have n21 : (d.op == 21) = false := by simp; omega
 have n22 : (d.op == 22) = false := by simp; omega
 have n23 : (d.op == 23) = false := by simp; omega
 have n24 : (d.op == 24) = false := by simp; omega
 have n25 : (d.op == 25) = false := by simp; omega
 have n26 : (d.op == 26) = false := by simp; omega
 have n27 : (d.op == 27) = false := by simp; omega
 clear h
 go_enter Tryz.func138, Tryz.ntmps138
 go_wp2_with (go_at_call 164; refine (opI _ _).mono ?_; rintro e w' ⟨rfl, rfl⟩)
 go_ret
 exact ⟨rfl, (Below.refl _ _).alloc (Nat.le_refl _) _⟩
theorem op_split (n : Int) : opB n = true ∨ n = 18 ∨ n = 19 ∨ n = 20 ∨ n = 21 ∨ n = 22 ∨ n = 23 ∨ n = 24 ∨ n = 25 ∨ n = 26 ∨ n = 27 ∨ (opB n = false ∧ (n < 1 ∨ 27 < n)) := by
 by_cases h : opB n = true
 ·exact .inl h
 ·have h' : opB n = false := by simpa using h
  have h2 : n < 1 ∨ 17 < n := by simp [opB] at h; omega
  have h3 : n = 18 ∨ n = 19 ∨ n = 20 ∨ n = 21 ∨ n = 22 ∨ n = 23 ∨ n = 24 ∨ n = 25 ∨ n = 26 ∨ n = 27 ∨ (n < 1 ∨ 27 < n) := by omega
  rcases h3 with h3 | h3 | h3 | h3 | h3 | h3 | h3 | h3 | h3 | h3 | h3
  all_goals first | (simp [h3]; done) | exact .inr (.inr (.inr (.inr (.inr (.inr (.inr (.inr (.inr (.inr (.inr ⟨h', h3⟩))))))))))
theorem kind_any (d : InstD) (u : Option Addr) (q : Nat) (w : World) :
  Calls Tryz.prog 138 #[.agg #[.int .i64 d.op, .int .i64 d.w, .int .i64 d.a, .int .i64 d.b, .int .i64 d.c, .int .i64 d.imm, .slice u d.args.length q]] w fun e w' => e = .returned (kindV d u q) ∧ Below w.heap.size w w' := by
 rcases op_split d.op with h | h | h | h | h | h | h | h | h | h | h | ⟨ho, h⟩
 ·exact kind_bin d u q w h
 ·exact kind_18 d u q w h
 ·exact kind_19 d u q w h
 ·exact kind_20 d u q w h
 ·exact kind_21 d u q w h
 ·exact kind_22 d u q w h
 ·exact kind_23 d u q w h
 ·exact kind_24 d u q w h
 ·exact kind_25 d u q w h
 ·exact kind_26 d u q w h
 ·exact kind_27 d u q w h
 ·exact kind_no d u q w ho h
abbrev AsN (S B : TypeId) (z : Value) : Prop := ∀ (v : Value) (w : World), (Instr.typeAssert (.iface S v) 176 B true).run Tryz.prog w = .ok (.tuple #[z, .bool false]) w
abbrev AsY (S : TypeId) : Prop := ∀ (v : Value) (w : World), (Instr.typeAssert (.iface S v) 176 S true).run Tryz.prog w = .ok (.tuple #[v, .bool true]) w
theorem as_binaryKind_constKind : AsN 197 201 (.agg #[.int .i64 0]) := fun _ _ => by kernel_rfl
theorem as_binaryKind_loadKind : AsN 197 204 (.agg #[.int .i64 0]) := fun _ _ => by kernel_rfl
theorem as_binaryKind_storeKind : AsN 197 205 (.agg #[.int .i64 0, .int .i64 0]) := fun _ _ => by kernel_rfl
theorem as_binaryKind_printKind : AsN 197 206 (.agg #[.int .i64 0]) := fun _ _ => by kernel_rfl
theorem as_binaryKind_callKind : AsN 197 208 (.agg #[.int .i64 0, .slice none 0 0]) := fun _ _ => by kernel_rfl
theorem as_binaryKind_strangeKind : AsN 197 210 (.agg #[]) := fun _ _ => by kernel_rfl
theorem as_unaryKind_constKind : AsN 199 201 (.agg #[.int .i64 0]) := fun _ _ => by kernel_rfl
theorem as_unaryKind_loadKind : AsN 199 204 (.agg #[.int .i64 0]) := fun _ _ => by kernel_rfl
theorem as_unaryKind_storeKind : AsN 199 205 (.agg #[.int .i64 0, .int .i64 0]) := fun _ _ => by kernel_rfl
theorem as_unaryKind_printKind : AsN 199 206 (.agg #[.int .i64 0]) := fun _ _ => by kernel_rfl
theorem as_unaryKind_callKind : AsN 199 208 (.agg #[.int .i64 0, .slice none 0 0]) := fun _ _ => by kernel_rfl
theorem as_unaryKind_strangeKind : AsN 199 210 (.agg #[]) := fun _ _ => by kernel_rfl
theorem as_constKind_constKind : AsY 201 := fun _ _ => by kernel_rfl
theorem as_constKind_loadKind : AsN 201 204 (.agg #[.int .i64 0]) := fun _ _ => by kernel_rfl
theorem as_constKind_storeKind : AsN 201 205 (.agg #[.int .i64 0, .int .i64 0]) := fun _ _ => by kernel_rfl
theorem as_constKind_printKind : AsN 201 206 (.agg #[.int .i64 0]) := fun _ _ => by kernel_rfl
theorem as_constKind_callKind : AsN 201 208 (.agg #[.int .i64 0, .slice none 0 0]) := fun _ _ => by kernel_rfl
theorem as_constKind_strangeKind : AsN 201 210 (.agg #[]) := fun _ _ => by kernel_rfl
theorem as_selectKind_constKind : AsN 203 201 (.agg #[.int .i64 0]) := fun _ _ => by kernel_rfl
theorem as_selectKind_loadKind : AsN 203 204 (.agg #[.int .i64 0]) := fun _ _ => by kernel_rfl
theorem as_selectKind_storeKind : AsN 203 205 (.agg #[.int .i64 0, .int .i64 0]) := fun _ _ => by kernel_rfl
theorem as_selectKind_printKind : AsN 203 206 (.agg #[.int .i64 0]) := fun _ _ => by kernel_rfl
theorem as_selectKind_callKind : AsN 203 208 (.agg #[.int .i64 0, .slice none 0 0]) := fun _ _ => by kernel_rfl
theorem as_selectKind_strangeKind : AsN 203 210 (.agg #[]) := fun _ _ => by kernel_rfl
theorem as_loadKind_constKind : AsN 204 201 (.agg #[.int .i64 0]) := fun _ _ => by kernel_rfl
theorem as_loadKind_loadKind : AsY 204 := fun _ _ => by kernel_rfl
theorem as_loadKind_storeKind : AsN 204 205 (.agg #[.int .i64 0, .int .i64 0]) := fun _ _ => by kernel_rfl
theorem as_loadKind_printKind : AsN 204 206 (.agg #[.int .i64 0]) := fun _ _ => by kernel_rfl
theorem as_loadKind_callKind : AsN 204 208 (.agg #[.int .i64 0, .slice none 0 0]) := fun _ _ => by kernel_rfl
theorem as_loadKind_strangeKind : AsN 204 210 (.agg #[]) := fun _ _ => by kernel_rfl
theorem as_storeKind_constKind : AsN 205 201 (.agg #[.int .i64 0]) := fun _ _ => by kernel_rfl
theorem as_storeKind_loadKind : AsN 205 204 (.agg #[.int .i64 0]) := fun _ _ => by kernel_rfl
theorem as_storeKind_storeKind : AsY 205 := fun _ _ => by kernel_rfl
theorem as_storeKind_printKind : AsN 205 206 (.agg #[.int .i64 0]) := fun _ _ => by kernel_rfl
theorem as_storeKind_callKind : AsN 205 208 (.agg #[.int .i64 0, .slice none 0 0]) := fun _ _ => by kernel_rfl
theorem as_storeKind_strangeKind : AsN 205 210 (.agg #[]) := fun _ _ => by kernel_rfl
theorem as_printKind_constKind : AsN 206 201 (.agg #[.int .i64 0]) := fun _ _ => by kernel_rfl
theorem as_printKind_loadKind : AsN 206 204 (.agg #[.int .i64 0]) := fun _ _ => by kernel_rfl
theorem as_printKind_storeKind : AsN 206 205 (.agg #[.int .i64 0, .int .i64 0]) := fun _ _ => by kernel_rfl
theorem as_printKind_printKind : AsY 206 := fun _ _ => by kernel_rfl
theorem as_printKind_callKind : AsN 206 208 (.agg #[.int .i64 0, .slice none 0 0]) := fun _ _ => by kernel_rfl
theorem as_printKind_strangeKind : AsN 206 210 (.agg #[]) := fun _ _ => by kernel_rfl
theorem as_callKind_constKind : AsN 208 201 (.agg #[.int .i64 0]) := fun _ _ => by kernel_rfl
theorem as_callKind_loadKind : AsN 208 204 (.agg #[.int .i64 0]) := fun _ _ => by kernel_rfl
theorem as_callKind_storeKind : AsN 208 205 (.agg #[.int .i64 0, .int .i64 0]) := fun _ _ => by kernel_rfl
theorem as_callKind_printKind : AsN 208 206 (.agg #[.int .i64 0]) := fun _ _ => by kernel_rfl
theorem as_callKind_callKind : AsY 208 := fun _ _ => by kernel_rfl
theorem as_callKind_strangeKind : AsN 208 210 (.agg #[]) := fun _ _ => by kernel_rfl
theorem as_strangeKind_constKind : AsN 210 201 (.agg #[.int .i64 0]) := fun _ _ => by kernel_rfl
theorem as_strangeKind_loadKind : AsN 210 204 (.agg #[.int .i64 0]) := fun _ _ => by kernel_rfl
theorem as_strangeKind_storeKind : AsN 210 205 (.agg #[.int .i64 0, .int .i64 0]) := fun _ _ => by kernel_rfl
theorem as_strangeKind_printKind : AsN 210 206 (.agg #[.int .i64 0]) := fun _ _ => by kernel_rfl
theorem as_strangeKind_callKind : AsN 210 208 (.agg #[.int .i64 0, .slice none 0 0]) := fun _ _ => by kernel_rfl
theorem as_strangeKind_strangeKind : AsY 210 := fun _ _ => by kernel_rfl
end Go.Proofs.YtkpmiikafconmaaGreatDoor
namespace Go.Proofs.YtkpmiikafconmaaGreatDoor
open Go.RowKit
def OwnAt (w : World) (lo : Nat) (a : Option Addr) (l : List Int) : Prop :=
 l.length ≤ 9223372036854775807 ∧ (l = [] ∨ ∃ g cur, a = some ⟨g, 0, none⟩ ∧ lo ≤ g ∧ w.heap[g]? = some (.cells cur 2 (0, 0)) ∧ ∀ i, i < l.length → cur[i]? = some (.int .i64 (l.getD i 0)))
theorem OwnAt.ints {w : World} {lo : Nat} {a : Option Addr} {l : List Int} (h : OwnAt w lo a l) : IntsAt w lo a l := by
 obtain ⟨hm, h⟩ := h
 refine ⟨hm, ?_⟩
 rcases h with h | ⟨g, cur, ha, hl, hb, hc⟩
 ·exact .inl h
 ·exact .inr ⟨g, 0, ha, hl, (Array.getElem?_eq_some_iff.1 hb).1, fun i hi => by rw [Nat.zero_add, cell_of_heap hb]; exact hc i hi⟩
theorem OwnAt.keep {w w' : World} {lo : Nat} {a : Option Addr} {l : List Int} (h : OwnAt w lo a l) (k : Agree lo w w') : OwnAt w' lo a l := by
 obtain ⟨hm, h⟩ := h
 refine ⟨hm, ?_⟩
 rcases h with h | ⟨g, cur, ha, hl, hb, hc⟩
 ·exact .inl h
 ·exact .inr ⟨g, cur, ha, hl, (k.2 g hl (Array.getElem?_eq_some_iff.1 hb).1).trans hb, hc⟩
theorem OwnAt.low {w : World} {lo lo' : Nat} {a : Option Addr} {l : List Int} (h : OwnAt w lo a l) (k : lo' ≤ lo) : OwnAt w lo' a l := by
 obtain ⟨hm, h⟩ := h
 refine ⟨hm, ?_⟩
 rcases h with h | ⟨g, cur, ha, hl, hb, hc⟩
 ·exact .inl h
 ·exact .inr ⟨g, cur, ha, Nat.le_trans k hl, hb, hc⟩
theorem own_lit (w : World) (l : List Int) (hm : l.length ≤ 1000) (cs : Array Value) (hc : ∀ i, i < l.length → cs[i]? = some (.int .i64 (l.getD i 0))) : OwnAt (w.alloc (.cells cs 2)) w.heap.size (some ⟨w.heap.size, 0, none⟩) l :=
 ⟨by omega, .inr ⟨w.heap.size, cs, rfl, Nat.le_refl _, heap_alloc_last _ _, hc⟩⟩
theorem own_of_row {w : World} {base : Nat} {v : Value} {l : List Int} (hm : l.length ≤ 1048576) (h : w.ownsRow base 2 1 v l.length (l.map (Value.int .i64))) : ∃ u c, v = .slice u l.length c ∧ OwnAt w base u l := by
 rcases h.2 with ⟨hv, hn⟩ | ⟨g, cap, cur, hv, hb, hg, hnc, _, hcs, htk⟩
 ·exact ⟨none, 0, by rw [hv, hn], by omega, .inl (List.length_eq_zero_iff.1 hn)⟩
 ·refine ⟨_, cap, hv, by omega, .inr ⟨g, cur, rfl, hb, hg, fun i hi => ?_⟩⟩
  have e : (cur.toList.take (l.length * 1))[i]? = (l.map (Value.int .i64))[i]? := by rw [htk]
  rw [List.getElem?_take, if_pos (by omega)] at e
  simp [hi] at e
  simpa [List.getD, hi] using e
theorem append_none {t ty : TypeId} (v : Value) (hv : v = .slice none 0 0 ∨ ∃ g, v = .slice (some ⟨g, 0, none⟩) 0 0) (c : Nat) (w : World) (i : TypeInfo) (ht : Tryz.prog.underlying t = some (.slice 2)) (hi : Tryz.prog.info? 2 = some i) :
  (Builtin.append_ #[t, t] ty #[v, .slice none 0 c]).run Tryz.prog w = .ok v w := by
 rcases hv with rfl | ⟨g, rfl⟩
 ·simp [Builtin.append_, run_underlying ht, sizeOf, typeInfo, hi, Builtin.lenOf, Builtin.firstCells]
 ·simp [Builtin.append_, run_underlying ht, sizeOf, typeInfo, hi, Builtin.lenOf, Builtin.firstCells, storeCells]
set_option maxHeartbeats 1000000 in
theorem copyS_any (lo : Nat) (a : Option Addr) (cap : Nat) (l : List Int) (w : World) (hl : l.length ≤ 1048576) (hv : IntsAt w lo a l) :
  Calls Tryz.prog 127 #[.slice a l.length cap] w fun e w' => ∃ u c, e = .returned (.slice u l.length c) ∧ OwnAt w' w.heap.size u l ∧ Below w.heap.size w w' := by
 obtain ⟨i0, hi, hz0, hz1, hz2⟩ := info_parts infoI
 rcases a with _ | ad
 ·have hnil : l = [] := by
   rcases hv.2 with h | ⟨b, off, h, _⟩
   ·exact h
   ·simp at h
  subst hnil
  go_enter Tryz.func127, Tryz.ntmps127
  have hap := fun g => append_none (t := 41) (ty := 41) (.slice (some ⟨g, 0, none⟩) 0 0) (.inr ⟨g, rfl⟩) cap (w.alloc (.cells #[] 2)) i0 Tryz.underlying41 hi
  clear hi hz0 hz1 hz2
  go_wp2_with fail
  go_ret
  exact ⟨_, _, rfl, ⟨by simp, .inl rfl⟩, (Below.refl _ _).alloc (Nat.le_refl _) _⟩
 ·have hcell : ∀ j u, (l.map (Value.int .i64))[j]? = some u → (w.alloc (.cells #[] 2)).cell? (ad.add j) = some u := by
   intro j u hj
   rcases hv.2 with h | ⟨b, off, h, _, hb, hc⟩
   ·simp [h] at hj
   ·simp at h
    subst h
    have hjl : j < l.length := by
     have := (List.getElem?_eq_some_iff.1 hj).1
     simpa using this
    have hat : (⟨b, off, none⟩ : Addr).add j = ⟨b, off + j, none⟩ := by unfold Addr.add; split <;> simp_all
    rw [hat, cell_block (Below.heap_alloc w _ b hb), hc j hjl]
    simp [hjl] at hj
    rw [← hj]; simp [List.getD, hjl]
  go_enter Tryz.func127, Tryz.ntmps127
  go_wp2_with (at_builtin; refine wpList_append_own _ rfl _ _ 41 rfl w.heap.size 2 i0 (.int .i64 0) 1 8 Tryz.underlying41 hi hz0 hz1 hz2 rfl (by decide) _ 0 [] rfl (World.ownsRow_lit w #[] 0 (Nat.le_refl _) (by decide) (by simp)) ad l.length cap (l.map (Value.int .i64)) rfl (by simp) hcell (by simp [Value.oneCell']) (by unfold maxLen; omega) (by omega) (by simp) ?_; intro v' w1 hown hgrow _)
  simp only [Nat.zero_add, List.nil_append] at hown
  obtain ⟨u, c, rfl, ho⟩ := own_of_row hl hown
  go_ret
  exact ⟨u, c, rfl, ho, ((Below.refl _ _).alloc (Nat.le_refl _) _).grown hgrow (by simp) (fun k hk => by have hk' : some w.heap.size = some k := hk; simp at hk'; omega)⟩
end Go.Proofs.YtkpmiikafconmaaGreatDoor
namespace Go.Proofs.YtkpmiikafconmaaGreatDoor
open Go.RowKit
def opsD (d : InstD) : List Int :=
 if opB d.op = true ∨ d.op = 24 then [d.a, d.b] else if d.op = 18 ∨ d.op = 19 ∨ d.op = 20 ∨ d.op = 23 ∨ d.op = 25 ∨ d.op = 27 then [d.a] else if d.op = 22 then [d.a, d.b, d.c] else if d.op = 26 then d.args else []
theorem own_mk {w : World} {l : List Int} {cs : Array Value} {v : List Int} (e : v = l) (hm : l.length ≤ 1000) (hc : ∀ i, i < l.length → cs[i]? = some (.int .i64 (l.getD i 0))) : OwnAt (w.alloc (.cells cs 2)) w.heap.size (some ⟨w.heap.size, 0, none⟩) v := by
 subst e; exact own_lit w _ hm cs hc
theorem own_mk2 {w : World} {o : Obj} {l : List Int} {cs : Array Value} {v : List Int} (e : v = l) (hm : l.length ≤ 1000) (hc : ∀ i, i < l.length → cs[i]? = some (.int .i64 (l.getD i 0))) : OwnAt ((w.alloc o).alloc (.cells cs 2)) w.heap.size (some ⟨w.heap.size + 1, 0, none⟩) v := by
 have h := own_mk (w := w.alloc o) e hm hc
 have hz : (w.alloc o).heap.size = w.heap.size + 1 := by simp
 rw [hz] at h
 exact h.low (by omega)
theorem two_cells (a b : Int) : ∀ i, i < [a, b].length → (#[Value.int .i64 a, Value.int .i64 b] : Array Value)[i]? = some (.int .i64 ([a, b].getD i 0)) := by
 intro i hi
 match i, hi with
 | 0, _ => rfl
 | 1, _ => rfl
theorem one_cells (a : Int) : ∀ i, i < [a].length → (#[Value.int .i64 a] : Array Value)[i]? = some (.int .i64 ([a].getD i 0)) := by
 intro i hi
 match i, hi with
 | 0, _ => rfl
theorem three_cells (a b c : Int) : ∀ i, i < [a, b, c].length → (#[Value.int .i64 a, Value.int .i64 b, Value.int .i64 c] : Array Value)[i]? = some (.int .i64 ([a, b, c].getD i 0)) := by
 intro i hi
 match i, hi with
 | 0, _ => rfl
 | 1, _ => rfl
 | 2, _ => rfl
set_option maxHeartbeats 1000000 in
theorem operS_bin (d : InstD) (u : Option Addr) (q : Nat) (w : World) (h : opB d.op = true) :
  Calls Tryz.prog 90 #[.agg #[.int .i64 d.op, .int .i64 d.w, .int .i64 d.a, .int .i64 d.b, .int .i64 d.c, .int .i64 d.imm, .slice u d.args.length q]] w fun e w' => ∃ u c, e = .returned (.slice u (opsD d).length c) ∧ OwnAt w' w.heap.size u (opsD d) ∧ Below w.heap.size w w' := by
 have E : opsD d = [d.a, d.b] := by simp [opsD, h]
 rw [E]; clear E
 have dd : (decide (1 ≤ d.op) && decide (d.op ≤ 17)) = true := h
 clear h
 go_enter Tryz.func90, Tryz.ntmps90
 go_wp2_with (go_at_call 49; refine (inS _ _ _ _).mono ?_; rintro e w' ⟨rfl, rfl⟩)
 go_ret
 refine ⟨_, _, rfl, own_mk2 rfl (by simp) (two_cells d.a d.b), ((Below.refl _ _).alloc (Nat.le_refl _) _).alloc (by simp) _⟩
set_option maxHeartbeats 1000000 in
theorem bk_oper (a b : Int) (w : World) : Calls Tryz.prog 208 #[.agg #[.int .i64 a, .int .i64 b]] w fun e w' => ∃ u c, e = .returned (.slice u 2 c) ∧ OwnAt w' w.heap.size u [a, b] ∧ Below w.heap.size w w' := by
 go_enter Tryz.func208, Tryz.ntmps208
 go_wp2_with fail
 go_ret
 refine ⟨_, _, rfl, own_mk2 rfl (by simp) (two_cells a b), ((Below.refl _ _).alloc (Nat.le_refl _) _).alloc (by simp) _⟩
end Go.Proofs.YtkpmiikafconmaaGreatDoor
