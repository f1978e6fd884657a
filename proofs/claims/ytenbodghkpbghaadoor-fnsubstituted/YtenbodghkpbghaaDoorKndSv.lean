import Derived.Test.YtenbodghkpbghaaDoorRdrSv
import Derived.Test.YtenbodghkpbghaaDoorOwnSv
import Derived.Deep.RegionHeld2
namespace Go.Proofs.YtenbodghkpbghaaDoor
open Go.RowKit
def kindV (d : InstD) (u : Option Addr) (q : Nat) : Value :=
 if opB d.op = true then .iface 96 (.agg #[.int .i64 d.a, .int .i64 d.b])
 else if d.op = 18 ∨ d.op = 19 ∨ d.op = 20 ∨ d.op = 27 then .iface 98 (.agg #[.int .i64 d.a])
 else if d.op = 21 then .iface 100 (.agg #[.int .i64 d.imm])
 else if d.op = 22 then .iface 102 (.agg #[.int .i64 d.a, .int .i64 d.b, .int .i64 d.c])
 else if d.op = 23 then .iface 103 (.agg #[.int .i64 d.a])
 else if d.op = 24 then .iface 104 (.agg #[.int .i64 d.a, .int .i64 d.b])
 else if d.op = 25 then .iface 105 (.agg #[.int .i64 d.a])
 else if d.op = 26 then .iface 107 (.agg #[.int .i64 d.imm, .slice u d.args.length q])
 else .iface 109 (.agg #[])
theorem kv_bin {d : InstD} {u : Option Addr} {q : Nat} (h : opB d.op = true) : kindV d u q = .iface 96 (.agg #[.int .i64 d.a, .int .i64 d.b]) := by rw [kindV, if_pos h]
theorem kv_18 {d : InstD} {u : Option Addr} {q : Nat} (h : d.op = 18) : kindV d u q = .iface 98 (.agg #[.int .i64 d.a]) := by
 have ho : opB 18 = false := by decide
 simp [kindV, h, ho]
theorem kv_19 {d : InstD} {u : Option Addr} {q : Nat} (h : d.op = 19) : kindV d u q = .iface 98 (.agg #[.int .i64 d.a]) := by
 have ho : opB 19 = false := by decide
 simp [kindV, h, ho]
theorem kv_20 {d : InstD} {u : Option Addr} {q : Nat} (h : d.op = 20) : kindV d u q = .iface 98 (.agg #[.int .i64 d.a]) := by
 have ho : opB 20 = false := by decide
 simp [kindV, h, ho]
theorem kv_27 {d : InstD} {u : Option Addr} {q : Nat} (h : d.op = 27) : kindV d u q = .iface 98 (.agg #[.int .i64 d.a]) := by
 have ho : opB 27 = false := by decide
 simp [kindV, h, ho]
theorem kv_21 {d : InstD} {u : Option Addr} {q : Nat} (h : d.op = 21) : kindV d u q = .iface 100 (.agg #[.int .i64 d.imm]) := by
 have ho : opB 21 = false := by decide
 simp [kindV, h, ho]
theorem kv_22 {d : InstD} {u : Option Addr} {q : Nat} (h : d.op = 22) : kindV d u q = .iface 102 (.agg #[.int .i64 d.a, .int .i64 d.b, .int .i64 d.c]) := by
 have ho : opB 22 = false := by decide
 simp [kindV, h, ho]
theorem kv_23 {d : InstD} {u : Option Addr} {q : Nat} (h : d.op = 23) : kindV d u q = .iface 103 (.agg #[.int .i64 d.a]) := by
 have ho : opB 23 = false := by decide
 simp [kindV, h, ho]
theorem kv_24 {d : InstD} {u : Option Addr} {q : Nat} (h : d.op = 24) : kindV d u q = .iface 104 (.agg #[.int .i64 d.a, .int .i64 d.b]) := by
 have ho : opB 24 = false := by decide
 simp [kindV, h, ho]
theorem kv_25 {d : InstD} {u : Option Addr} {q : Nat} (h : d.op = 25) : kindV d u q = .iface 105 (.agg #[.int .i64 d.a]) := by
 have ho : opB 25 = false := by decide
 simp [kindV, h, ho]
theorem kv_26 {d : InstD} {u : Option Addr} {q : Nat} (h : d.op = 26) : kindV d u q = .iface 107 (.agg #[.int .i64 d.imm, .slice u d.args.length q]) := by
 have ho : opB 26 = false := by decide
 simp [kindV, h, ho]
theorem kv_no {d : InstD} {u : Option Addr} {q : Nat} (h0 : opB d.op = false) (h : d.op < 1 ∨ 27 < d.op) : kindV d u q = .iface 109 (.agg #[]) := by
 rw [kindV, if_neg (by simp [h0]), if_neg (by omega), if_neg (by omega), if_neg (by omega), if_neg (by omega), if_neg (by omega), if_neg (by omega), if_neg (by omega)]
set_option maxHeartbeats 2000000 in
theorem kind_bin (d : InstD) (u : Option Addr) (q : Nat) (w : World) (h : opB d.op = true) :
  Calls Tryd.prog 34 #[.agg #[.int .i64 d.op, .int .i64 d.w, .int .i64 d.a, .int .i64 d.b, .int .i64 d.c, .int .i64 d.imm, .slice u d.args.length q]] w fun e w' => e = .returned (kindV d u q) ∧ Below w.heap.size w w' := by
 have E := kv_bin (u := u) (q := q) h
 generalize kindV d u q = V at E
 subst E
 go_enter Tryd.func34, Tryd.ntmps34
 go_wp2_with (go_at_call 55; refine (opI _ _).mono ?_; rintro e w' ⟨rfl, rfl⟩)
 go_ret
 exact ⟨rfl, (Below.refl _ _).alloc (Nat.le_refl _) _⟩
set_option maxHeartbeats 2000000 in
theorem kind_18 (d : InstD) (u : Option Addr) (q : Nat) (w : World) (h : d.op = 18) :
  Calls Tryd.prog 34 #[.agg #[.int .i64 d.op, .int .i64 d.w, .int .i64 d.a, .int .i64 d.b, .int .i64 d.c, .int .i64 d.imm, .slice u d.args.length q]] w fun e w' => e = .returned (kindV d u q) ∧ Below w.heap.size w w' := by
 have E := kv_18 (u := u) (q := q) h
 generalize kindV d u q = V at E
 subst E
 have ho : opB d.op = false := by rw [h]; decide
 have ho2 : opB 18 = false := by decide
 go_enter Tryd.func34, Tryd.ntmps34
 go_wp2_with (go_at_call 55; refine (opI _ _).mono ?_; rintro e w' ⟨rfl, rfl⟩)
 go_ret
 exact ⟨rfl, (Below.refl _ _).alloc (Nat.le_refl _) _⟩
set_option maxHeartbeats 2000000 in
theorem kind_19 (d : InstD) (u : Option Addr) (q : Nat) (w : World) (h : d.op = 19) :
  Calls Tryd.prog 34 #[.agg #[.int .i64 d.op, .int .i64 d.w, .int .i64 d.a, .int .i64 d.b, .int .i64 d.c, .int .i64 d.imm, .slice u d.args.length q]] w fun e w' => e = .returned (kindV d u q) ∧ Below w.heap.size w w' := by
 have E := kv_19 (u := u) (q := q) h
 generalize kindV d u q = V at E
 subst E
 have ho : opB d.op = false := by rw [h]; decide
 have ho2 : opB 19 = false := by decide
 go_enter Tryd.func34, Tryd.ntmps34
 go_wp2_with (go_at_call 55; refine (opI _ _).mono ?_; rintro e w' ⟨rfl, rfl⟩)
 go_ret
 exact ⟨rfl, (Below.refl _ _).alloc (Nat.le_refl _) _⟩
set_option maxHeartbeats 2000000 in
theorem kind_20 (d : InstD) (u : Option Addr) (q : Nat) (w : World) (h : d.op = 20) :
  Calls Tryd.prog 34 #[.agg #[.int .i64 d.op, .int .i64 d.w, .int .i64 d.a, .int .i64 d.b, .int .i64 d.c, .int .i64 d.imm, .slice u d.args.length q]] w fun e w' => e = .returned (kindV d u q) ∧ Below w.heap.size w w' := by
 have E := kv_20 (u := u) (q := q) h
 generalize kindV d u q = V at E
 subst E
 have ho : opB d.op = false := by rw [h]; decide
 have ho2 : opB 20 = false := by decide
 go_enter Tryd.func34, Tryd.ntmps34
 go_wp2_with (go_at_call 55; refine (opI _ _).mono ?_; rintro e w' ⟨rfl, rfl⟩)
 go_ret
 exact ⟨rfl, (Below.refl _ _).alloc (Nat.le_refl _) _⟩
set_option maxHeartbeats 2000000 in
theorem kind_27 (d : InstD) (u : Option Addr) (q : Nat) (w : World) (h : d.op = 27) :
  Calls Tryd.prog 34 #[.agg #[.int .i64 d.op, .int .i64 d.w, .int .i64 d.a, .int .i64 d.b, .int .i64 d.c, .int .i64 d.imm, .slice u d.args.length q]] w fun e w' => e = .returned (kindV d u q) ∧ Below w.heap.size w w' := by
 have E := kv_27 (u := u) (q := q) h
 generalize kindV d u q = V at E
 subst E
 have ho : opB d.op = false := by rw [h]; decide
 have ho2 : opB 27 = false := by decide
 go_enter Tryd.func34, Tryd.ntmps34
 go_wp2_with (go_at_call 55; refine (opI _ _).mono ?_; rintro e w' ⟨rfl, rfl⟩)
 go_ret
 exact ⟨rfl, (Below.refl _ _).alloc (Nat.le_refl _) _⟩
set_option maxHeartbeats 2000000 in
theorem kind_21 (d : InstD) (u : Option Addr) (q : Nat) (w : World) (h : d.op = 21) :
  Calls Tryd.prog 34 #[.agg #[.int .i64 d.op, .int .i64 d.w, .int .i64 d.a, .int .i64 d.b, .int .i64 d.c, .int .i64 d.imm, .slice u d.args.length q]] w fun e w' => e = .returned (kindV d u q) ∧ Below w.heap.size w w' := by
 have E := kv_21 (u := u) (q := q) h
 generalize kindV d u q = V at E
 subst E
 have ho : opB d.op = false := by rw [h]; decide
 have ho2 : opB 21 = false := by decide
 go_enter Tryd.func34, Tryd.ntmps34
 go_wp2_with (go_at_call 55; refine (opI _ _).mono ?_; rintro e w' ⟨rfl, rfl⟩)
 go_ret
 exact ⟨rfl, (Below.refl _ _).alloc (Nat.le_refl _) _⟩
set_option maxHeartbeats 2000000 in
theorem kind_22 (d : InstD) (u : Option Addr) (q : Nat) (w : World) (h : d.op = 22) :
  Calls Tryd.prog 34 #[.agg #[.int .i64 d.op, .int .i64 d.w, .int .i64 d.a, .int .i64 d.b, .int .i64 d.c, .int .i64 d.imm, .slice u d.args.length q]] w fun e w' => e = .returned (kindV d u q) ∧ Below w.heap.size w w' := by
 have E := kv_22 (u := u) (q := q) h
 generalize kindV d u q = V at E
 subst E
 have ho : opB d.op = false := by rw [h]; decide
 have ho2 : opB 22 = false := by decide
 go_enter Tryd.func34, Tryd.ntmps34
 go_wp2_with (go_at_call 55; refine (opI _ _).mono ?_; rintro e w' ⟨rfl, rfl⟩)
 go_ret
 exact ⟨rfl, (Below.refl _ _).alloc (Nat.le_refl _) _⟩
set_option maxHeartbeats 2000000 in
theorem kind_23 (d : InstD) (u : Option Addr) (q : Nat) (w : World) (h : d.op = 23) :
  Calls Tryd.prog 34 #[.agg #[.int .i64 d.op, .int .i64 d.w, .int .i64 d.a, .int .i64 d.b, .int .i64 d.c, .int .i64 d.imm, .slice u d.args.length q]] w fun e w' => e = .returned (kindV d u q) ∧ Below w.heap.size w w' := by
 have E := kv_23 (u := u) (q := q) h
 generalize kindV d u q = V at E
 subst E
 have ho : opB d.op = false := by rw [h]; decide
 have ho2 : opB 23 = false := by decide
 go_enter Tryd.func34, Tryd.ntmps34
 go_wp2_with (go_at_call 55; refine (opI _ _).mono ?_; rintro e w' ⟨rfl, rfl⟩)
 go_ret
 exact ⟨rfl, (Below.refl _ _).alloc (Nat.le_refl _) _⟩
set_option maxHeartbeats 2000000 in
theorem kind_24 (d : InstD) (u : Option Addr) (q : Nat) (w : World) (h : d.op = 24) :
  Calls Tryd.prog 34 #[.agg #[.int .i64 d.op, .int .i64 d.w, .int .i64 d.a, .int .i64 d.b, .int .i64 d.c, .int .i64 d.imm, .slice u d.args.length q]] w fun e w' => e = .returned (kindV d u q) ∧ Below w.heap.size w w' := by
 have E := kv_24 (u := u) (q := q) h
 generalize kindV d u q = V at E
 subst E
 have ho : opB d.op = false := by rw [h]; decide
 have ho2 : opB 24 = false := by decide
 go_enter Tryd.func34, Tryd.ntmps34
 go_wp2_with (go_at_call 55; refine (opI _ _).mono ?_; rintro e w' ⟨rfl, rfl⟩)
 go_ret
 exact ⟨rfl, (Below.refl _ _).alloc (Nat.le_refl _) _⟩
set_option maxHeartbeats 2000000 in
theorem kind_25 (d : InstD) (u : Option Addr) (q : Nat) (w : World) (h : d.op = 25) :
  Calls Tryd.prog 34 #[.agg #[.int .i64 d.op, .int .i64 d.w, .int .i64 d.a, .int .i64 d.b, .int .i64 d.c, .int .i64 d.imm, .slice u d.args.length q]] w fun e w' => e = .returned (kindV d u q) ∧ Below w.heap.size w w' := by
 have E := kv_25 (u := u) (q := q) h
 generalize kindV d u q = V at E
 subst E
 have ho : opB d.op = false := by rw [h]; decide
 have ho2 : opB 25 = false := by decide
 go_enter Tryd.func34, Tryd.ntmps34
 go_wp2_with (go_at_call 55; refine (opI _ _).mono ?_; rintro e w' ⟨rfl, rfl⟩)
 go_ret
 exact ⟨rfl, (Below.refl _ _).alloc (Nat.le_refl _) _⟩
set_option maxHeartbeats 2000000 in
theorem kind_26 (d : InstD) (u : Option Addr) (q : Nat) (w : World) (h : d.op = 26) :
  Calls Tryd.prog 34 #[.agg #[.int .i64 d.op, .int .i64 d.w, .int .i64 d.a, .int .i64 d.b, .int .i64 d.c, .int .i64 d.imm, .slice u d.args.length q]] w fun e w' => e = .returned (kindV d u q) ∧ Below w.heap.size w w' := by
 have E := kv_26 (u := u) (q := q) h
 generalize kindV d u q = V at E
 subst E
 have ho : opB d.op = false := by rw [h]; decide
 have ho2 : opB 26 = false := by decide
 go_enter Tryd.func34, Tryd.ntmps34
 go_wp2_with (go_at_call 55; refine (opI _ _).mono ?_; rintro e w' ⟨rfl, rfl⟩)
 go_ret
 exact ⟨rfl, (Below.refl _ _).alloc (Nat.le_refl _) _⟩
set_option maxHeartbeats 2000000 in
theorem kind_no (d : InstD) (u : Option Addr) (q : Nat) (w : World) (ho : opB d.op = false) (h : d.op < 1 ∨ 27 < d.op) :
  Calls Tryd.prog 34 #[.agg #[.int .i64 d.op, .int .i64 d.w, .int .i64 d.a, .int .i64 d.b, .int .i64 d.c, .int .i64 d.imm, .slice u d.args.length q]] w fun e w' => e = .returned (kindV d u q) ∧ Below w.heap.size w w' := by
 have E := kv_no (u := u) (q := q) ho h
 generalize kindV d u q = V at E
 subst E
 have n18 : (d.op == 18) = false := by simp; omega
 have n19 : (d.op == 19) = false := by simp; omega
 have n20 : (d.op == 20) = false := by simp; omega
 have n21 : (d.op == 21) = false := by simp; omega
 have n22 : (d.op == 22) = false := by simp; omega
 have n23 : (d.op == 23) = false := by simp; omega
 have n24 : (d.op == 24) = false := by simp; omega
 have n25 : (d.op == 25) = false := by simp; omega
 have n26 : (d.op == 26) = false := by simp; omega
 have n27 : (d.op == 27) = false := by simp; omega
 clear h
 go_enter Tryd.func34, Tryd.ntmps34
 go_wp2_with (go_at_call 55; refine (opI _ _).mono ?_; rintro e w' ⟨rfl, rfl⟩)
 go_ret
 exact ⟨rfl, (Below.refl _ _).alloc (Nat.le_refl _) _⟩
theorem op_split (n : Int) : opB n = true ∨ n = 18 ∨ n = 19 ∨ n = 20 ∨ n = 21 ∨ n = 22 ∨ n = 23 ∨ n = 24 ∨ n = 25 ∨ n = 26 ∨ n = 27 ∨ (opB n = false ∧ (n < 1 ∨ 27 < n)) := by
 by_cases h : opB n = true
 ·exact .inl h
 ·have h' : opB n = false := by simpa using h
  have h2 : n < 1 ∨ 17 < n := by simp [opB] at h; omega
  have h3 : n = 18 ∨ n = 19 ∨ n = 20 ∨ n = 21 ∨ n = 22 ∨ n = 23 ∨ n = 24 ∨ n = 25 ∨ n = 26 ∨ n = 27 ∨ (n < 1 ∨ 27 < n) := by omega
  rcases h3 with h3 | h3 | h3 | h3 | h3 | h3 | h3 | h3 | h3 | h3 | h3
  all_goals first | (simp [h3]; done) | exact .inr (.inr (.inr (.inr (.inr (.inr (.inr (.inr (.inr (.inr (.inr ⟨h', h3⟩))))))))))
theorem kind_any (d : InstD) (u : Option Addr) (q : Nat) (w : World) :
  Calls Tryd.prog 34 #[.agg #[.int .i64 d.op, .int .i64 d.w, .int .i64 d.a, .int .i64 d.b, .int .i64 d.c, .int .i64 d.imm, .slice u d.args.length q]] w fun e w' => e = .returned (kindV d u q) ∧ Below w.heap.size w w' := by
 rcases op_split d.op with h | h | h | h | h | h | h | h | h | h | h | ⟨ho, h⟩
 ·exact kind_bin d u q w h
 ·exact kind_18 d u q w h
 ·exact kind_19 d u q w h
 ·exact kind_20 d u q w h
 ·exact kind_21 d u q w h
 ·exact kind_22 d u q w h
 ·exact kind_23 d u q w h
 ·exact kind_24 d u q w h
 ·exact kind_25 d u q w h
 ·exact kind_26 d u q w h
 ·exact kind_27 d u q w h
 ·exact kind_no d u q w ho h
abbrev AsN (S B : TypeId) (z : Value) : Prop := ∀ (v : Value) (w : World), (Instr.typeAssert (.iface S v) 73 B true).run Tryd.prog w = .ok (.tuple #[z, .bool false]) w
abbrev AsY (S : TypeId) : Prop := ∀ (v : Value) (w : World), (Instr.typeAssert (.iface S v) 73 S true).run Tryd.prog w = .ok (.tuple #[v, .bool true]) w
theorem as_binaryKind_constKind : AsN 96 100 (.agg #[.int .i64 0]) := fun _ _ => by kernel_rfl
theorem as_binaryKind_loadKind : AsN 96 103 (.agg #[.int .i64 0]) := fun _ _ => by kernel_rfl
theorem as_binaryKind_storeKind : AsN 96 104 (.agg #[.int .i64 0, .int .i64 0]) := fun _ _ => by kernel_rfl
theorem as_binaryKind_printKind : AsN 96 105 (.agg #[.int .i64 0]) := fun _ _ => by kernel_rfl
theorem as_binaryKind_callKind : AsN 96 107 (.agg #[.int .i64 0, .slice none 0 0]) := fun _ _ => by kernel_rfl
theorem as_binaryKind_strangeKind : AsN 96 109 (.agg #[]) := fun _ _ => by kernel_rfl
theorem as_unaryKind_constKind : AsN 98 100 (.agg #[.int .i64 0]) := fun _ _ => by kernel_rfl
theorem as_unaryKind_loadKind : AsN 98 103 (.agg #[.int .i64 0]) := fun _ _ => by kernel_rfl
theorem as_unaryKind_storeKind : AsN 98 104 (.agg #[.int .i64 0, .int .i64 0]) := fun _ _ => by kernel_rfl
theorem as_unaryKind_printKind : AsN 98 105 (.agg #[.int .i64 0]) := fun _ _ => by kernel_rfl
theorem as_unaryKind_callKind : AsN 98 107 (.agg #[.int .i64 0, .slice none 0 0]) := fun _ _ => by kernel_rfl
theorem as_unaryKind_strangeKind : AsN 98 109 (.agg #[]) := fun _ _ => by kernel_rfl
theorem as_constKind_constKind : AsY 100 := fun _ _ => by kernel_rfl
theorem as_constKind_loadKind : AsN 100 103 (.agg #[.int .i64 0]) := fun _ _ => by kernel_rfl
theorem as_constKind_storeKind : AsN 100 104 (.agg #[.int .i64 0, .int .i64 0]) := fun _ _ => by kernel_rfl
theorem as_constKind_printKind : AsN 100 105 (.agg #[.int .i64 0]) := fun _ _ => by kernel_rfl
theorem as_constKind_callKind : AsN 100 107 (.agg #[.int .i64 0, .slice none 0 0]) := fun _ _ => by kernel_rfl
theorem as_constKind_strangeKind : AsN 100 109 (.agg #[]) := fun _ _ => by kernel_rfl
theorem as_selectKind_constKind : AsN 102 100 (.agg #[.int .i64 0]) := fun _ _ => by kernel_rfl
theorem as_selectKind_loadKind : AsN 102 103 (.agg #[.int .i64 0]) := fun _ _ => by kernel_rfl
theorem as_selectKind_storeKind : AsN 102 104 (.agg #[.int .i64 0, .int .i64 0]) := fun _ _ => by kernel_rfl
theorem as_selectKind_printKind : AsN 102 105 (.agg #[.int .i64 0]) := fun _ _ => by kernel_rfl
theorem as_selectKind_callKind : AsN 102 107 (.agg #[.int .i64 0, .slice none 0 0]) := fun _ _ => by kernel_rfl
theorem as_selectKind_strangeKind : AsN 102 109 (.agg #[]) := fun _ _ => by kernel_rfl
theorem as_loadKind_constKind : AsN 103 100 (.agg #[.int .i64 0]) := fun _ _ => by kernel_rfl
theorem as_loadKind_loadKind : AsY 103 := fun _ _ => by kernel_rfl
theorem as_loadKind_storeKind : AsN 103 104 (.agg #[.int .i64 0, .int .i64 0]) := fun _ _ => by kernel_rfl
theorem as_loadKind_printKind : AsN 103 105 (.agg #[.int .i64 0]) := fun _ _ => by kernel_rfl
theorem as_loadKind_callKind : AsN 103 107 (.agg #[.int .i64 0, .slice none 0 0]) := fun _ _ => by kernel_rfl
theorem as_loadKind_strangeKind : AsN 103 109 (.agg #[]) := fun _ _ => by kernel_rfl
theorem as_storeKind_constKind : AsN 104 100 (.agg #[.int .i64 0]) := fun _ _ => by kernel_rfl
theorem as_storeKind_loadKind : AsN 104 103 (.agg #[.int .i64 0]) := fun _ _ => by kernel_rfl
theorem as_storeKind_storeKind : AsY 104 := fun _ _ => by kernel_rfl
theorem as_storeKind_printKind : AsN 104 105 (.agg #[.int .i64 0]) := fun _ _ => by kernel_rfl
theorem as_storeKind_callKind : AsN 104 107 (.agg #[.int .i64 0, .slice none 0 0]) := fun _ _ => by kernel_rfl
theorem as_storeKind_strangeKind : AsN 104 109 (.agg #[]) := fun _ _ => by kernel_rfl
theorem as_printKind_constKind : AsN 105 100 (.agg #[.int .i64 0]) := fun _ _ => by kernel_rfl
theorem as_printKind_loadKind : AsN 105 103 (.agg #[.int .i64 0]) := fun _ _ => by kernel_rfl
theorem as_printKind_storeKind : AsN 105 104 (.agg #[.int .i64 0, .int .i64 0]) := fun _ _ => by kernel_rfl
theorem as_printKind_printKind : AsY 105 := fun _ _ => by kernel_rfl
theorem as_printKind_callKind : AsN 105 107 (.agg #[.int .i64 0, .slice none 0 0]) := fun _ _ => by kernel_rfl
theorem as_printKind_strangeKind : AsN 105 109 (.agg #[]) := fun _ _ => by kernel_rfl
theorem as_callKind_constKind : AsN 107 100 (.agg #[.int .i64 0]) := fun _ _ => by kernel_rfl
theorem as_callKind_loadKind : AsN 107 103 (.agg #[.int .i64 0]) := fun _ _ => by kernel_rfl
theorem as_callKind_storeKind : AsN 107 104 (.agg #[.int .i64 0, .int .i64 0]) := fun _ _ => by kernel_rfl
theorem as_callKind_printKind : AsN 107 105 (.agg #[.int .i64 0]) := fun _ _ => by kernel_rfl
theorem as_callKind_callKind : AsY 107 := fun _ _ => by kernel_rfl
theorem as_callKind_strangeKind : AsN 107 109 (.agg #[]) := fun _ _ => by kernel_rfl
theorem as_strangeKind_constKind : AsN 109 100 (.agg #[.int .i64 0]) := fun _ _ => by kernel_rfl
theorem as_strangeKind_loadKind : AsN 109 103 (.agg #[.int .i64 0]) := fun _ _ => by kernel_rfl
theorem as_strangeKind_storeKind : AsN 109 104 (.agg #[.int .i64 0, .int .i64 0]) := fun _ _ => by kernel_rfl
theorem as_strangeKind_printKind : AsN 109 105 (.agg #[.int .i64 0]) := fun _ _ => by kernel_rfl
theorem as_strangeKind_callKind : AsN 109 107 (.agg #[.int .i64 0, .slice none 0 0]) := fun _ _ => by kernel_rfl
theorem as_strangeKind_strangeKind : AsY 109 := fun _ _ => by kernel_rfl
end Go.Proofs.YtenbodghkpbghaaDoor
namespace Go.Proofs.YtenbodghkpbghaaDoor
open Go.RowKit
def instW (d : InstD) : Int := if opB d.op = true then resZ d.op d.w else d.w
set_option maxHeartbeats 2000000 in
theorem instS_any (d : InstD) (u : Option Addr) (q : Nat) (w : World) :
  Calls Tryd.prog 108 #[.agg #[.int .i64 d.op, .int .i64 d.w, .int .i64 d.a, .int .i64 d.b, .int .i64 d.c, .int .i64 d.imm, .slice u d.args.length q]] w fun e w' => e = .returned (.int .i64 (instW d)) ∧ Below w.heap.size w w' := by
 by_cases h : opB d.op = true
 ·have HR : Hid (resZ d.op d.w = instW d) := by show _ = _; rw [instW, if_pos h]
  have dd : (decide (1 ≤ d.op) && decide (d.op ≤ 17)) = true := h
  clear h
  go_enter Tryd.func108, Tryd.ntmps108
  go_wp2_with (first | (go_at_call 30; refine (inS _ _ _ _).mono ?_; rintro e w' ⟨rfl, rfl⟩) | (go_at_call 114; refine (resS _ _ _).mono ?_; rintro e w' ⟨rfl, rfl⟩))
  go_ret
  exact ⟨ret_int HR.out, (Below.refl _ _).alloc (Nat.le_refl _) _⟩
 ·have h' : opB d.op = false := by simpa using h
  have HR : Hid (d.w = instW d) := by show _ = _; rw [instW, if_neg h]
  have dd : (decide (1 ≤ d.op) && decide (d.op ≤ 17)) = false := h'
  clear h h'
  go_enter Tryd.func108, Tryd.ntmps108
  go_wp2_with (first | (go_at_call 30; refine (inS _ _ _ _).mono ?_; rintro e w' ⟨rfl, rfl⟩))
  go_ret
  exact ⟨ret_int HR.out, (Below.refl _ _).alloc (Nat.le_refl _) _⟩
end Go.Proofs.YtenbodghkpbghaaDoor
namespace Go.Proofs.YtenbodghkpbghaaDoor
open Go.RowKit Go.Deep
set_option linter.unusedVariables false
def Same (S S' : GRec) : Prop := S'.pv = S.pv ∧ S'.np = S.np ∧ S'.bv = S.bv ∧ S'.nb = S.nb ∧ S'.phv = S.phv ∧ S'.nph = S.nph ∧ S'.rv = S.rv ∧ S'.nr = S.nr ∧ S'.sv = S.sv ∧ S'.ret = S.ret
theorem Same.refl (S : GRec) : Same S S := ⟨rfl, rfl, rfl, rfl, rfl, rfl, rfl, rfl, rfl, rfl⟩
theorem Same.trans {A B C : GRec} (h : Same A B) (k : Same B C) : Same A C :=
 ⟨k.1.trans h.1, k.2.1.trans h.2.1, k.2.2.1.trans h.2.2.1, k.2.2.2.1.trans h.2.2.2.1, k.2.2.2.2.1.trans h.2.2.2.2.1, k.2.2.2.2.2.1.trans h.2.2.2.2.2.1, k.2.2.2.2.2.2.1.trans h.2.2.2.2.2.2.1, k.2.2.2.2.2.2.2.1.trans h.2.2.2.2.2.2.2.1, k.2.2.2.2.2.2.2.2.1.trans h.2.2.2.2.2.2.2.2.1, k.2.2.2.2.2.2.2.2.2.trans h.2.2.2.2.2.2.2.2.2⟩
theorem Gok.mono {base g G len cap N N' : Nat} {a0 : Option Addr} {M : Tmap} {S : GRec} {v : World} (h : Gok base g G a0 len cap M N S v) (hN : N ≤ N') (hm : N' ≤ 10000) : Gok base g G a0 len cap M N' S v :=
 ⟨h.rd, h.gb, h.bv, h.mG, h.nG, h.cells, h.th.keep hN fun _ _ => rfl, h.p, h.b, h.ph, h.i, h.ids, h.rets, h.pars, by have := h.bn; omega⟩
theorem Gok.below {base g G len cap N : Nat} {a0 : Option Addr} {M : Tmap} {S : GRec} {v v' : World} (h : Gok base g G a0 len cap M N S v) (k : Below v.heap.size v v') : Gok base g G a0 len cap M N S v' ∧ Mov g G M M v v' := by
 have hG := (Array.getElem?_eq_some_iff.1 h.cells).1
 have hk : ∀ b, (∃ p, M b = some p) → v'.heap[b]? = v.heap[b]? := fun b hb => k.block b (h.th.lt hb).2
 exact ⟨⟨rd_keep h.rd k.size fun b hb => k.block b (by have := h.rd.lt; omega), h.gb, Nat.le_trans h.bv k.size, h.mG, h.nG, (k.block G hG).trans h.cells, h.th.keep (Nat.le_refl _) hk, h.p.keep hk, h.b.keep hk, h.ph.keep hk, h.i.keep hk, h.ids, h.rets, h.pars, h.bn⟩, ⟨Ext.refl _, fun b hb _ _ h3 => ⟨k.block b hb, h3⟩, fun b T m hb _ => ⟨hk b ⟨_, hb⟩, hb⟩, k.os, k.tape, k.output, k.size⟩⟩
theorem Gok.pushI {base g G len cap N : Nat} {a0 : Option Addr} {M M' : Tmap} {S : GRec} {v w2 : World} {s' : Value} (h : Gok base g G a0 len cap M N S v) (hN : N < 10000) (k : Pushed base M M' (N + 1) 44 S.ni v w2 s') :
  Gok base g G a0 len cap M' (N + 1) { S with iv := s', ni := S.ni + 1 } (w2.setCell ⟨G, 5, none⟩ s') ∧ Mov g G M M' v (w2.setCell ⟨G, 5, none⟩ s') := by
 have hGl := (Array.getElem?_eq_some_iff.1 h.cells).1
 obtain ⟨o1, o2⟩ := k.out G hGl h.mG
 have hbn := h.bn
 have hset : ∀ b, b ≠ G → (w2.setCell ⟨G, 5, none⟩ s').heap[b]? = w2.heap[b]? := fun b hb => Below.heap_setCell _ _ _ _ hb
 have hne : ∀ b, (∃ p, M' b = some p) → b ≠ G := fun b hb e => by
  obtain ⟨p, hb⟩ := hb
  rw [e, o2] at hb; cases hb
 have hk : ∀ b, (∃ p, M' b = some p) → (w2.setCell ⟨G, 5, none⟩ s').heap[b]? = w2.heap[b]? := fun b hb => hset b (hne b hb)
 have hsz : (w2.setCell ⟨G, 5, none⟩ s').heap.size = w2.heap.size := by simp [World.setCell]
 refine ⟨⟨rd_keep h.rd (by rw [hsz]; exact k.size) fun b hb => ?_, h.gb, by rw [hsz]; exact Nat.le_trans h.bv k.size, o2, h.nG, (heap_set (o1.trans h.cells)).trans rfl, k.th.keep (Nat.le_refl _) hk, (k.row2 h.p (by decide)).keep hk, (k.row2 h.b (by decide)).keep hk, (k.row2 h.ph (by decide)).keep hk, k.row.keep hk, ?_, h.rets.ext k.ext, h.pars.ext k.ext, by dsimp only; omega⟩, ⟨k.ext, fun b hb h1 h2 h3 => ?_, fun b T m hb hT => ?_, k.os, k.tape, k.output, by rw [hsz]; exact k.size⟩⟩
 ·have hbg : b < base := Nat.lt_of_le_of_lt hb h.gb
  have hn : M b = none := by
   cases e : M b with
   | none => rfl
   | some p => have := (h.th.lt ⟨p, e⟩).1; omega
  exact (hset b (by have := h.nG; omega)).trans (k.out b (by have := h.bv; omega) hn).1
 ·rcases h.ids with hi | ⟨h1, h2, h3⟩
  ·exact .inl hi
  ·exact .inr ⟨h1, h2.ext k.ext, h3.ext k.ext⟩
 ·obtain ⟨e1, e2⟩ := k.out b hb h3
  exact ⟨(hset b h2).trans e1, e2⟩
 ·obtain ⟨e1, e2⟩ := k.other b T m hb hT
  exact ⟨(hset b (fun e => by rw [e, h.mG] at hb; cases hb)).trans e1, e2⟩
theorem add_any (base g G : Nat) (a0 : Option Addr) (len cap : Nat) (M : Tmap) (N : Nat) (S : GRec) (x : Int) (v : World) (h : Gok base g G a0 len cap M N S v) (hN : N < 10000) :
  Calls Tryd.prog 65 #[.pointer (some ⟨G, 0, none⟩), .int .i64 x] v fun e v' => ∃ n : Int, e = .returned (.int .i64 n) ∧ ∃ M' S', Gok base g G a0 len cap M' (N + 1) S' v' ∧ S' = { S with idv := S'.idv, wsv := S'.wsv, nid := S.nid + 1, nx := S.nx + 1 } ∧ Mov g G M M' v v' := by
 rcases h.ids with ⟨e1, e2, e3⟩ | ⟨h1, h2, h3⟩
 ·exact add_none base g G a0 len cap M N S x v h hN e1 e2 e3
 ·exact add_some base g G a0 len cap M N S x v h hN h1 h2 h3
end Go.Proofs.YtenbodghkpbghaaDoor
namespace Go.Proofs.YtenbodghkpbghaaDoor
open Go.RowKit Go.Deep
set_option linter.unusedVariables false
theorem infoN : (Tryd.prog.info? 44).map (fun i => (i.zero, i.size, i.bytes)) = some (some (.agg #[.int .i64 0, .int .i64 0, .int .i64 0, .int .i64 0, .int .i64 0, .int .i64 0, .slice none 0 0]), 7, 72) := by kernel_rfl
theorem seven_of {w : World} {L : Nat} {x0 x1 x2 x3 x4 x5 x6 : Value} {T : TypeId} (hL : w.heap[L]? = some (.cells #[x0, x1, x2, x3, x4, x5, x6] T (0, 0))) : ∀ j u, [x0, x1, x2, x3, x4, x5, x6][j]? = some u → w.cell? ((⟨L, 0, none⟩ : Addr).add j) = some u := fun j u hj => by
 rw [Addr.add_lit, cell_of_heap hL, Nat.zero_add, ← hj]
 rcases j with _ | _ | _ | _ | _ | _ | _ | j <;> rfl
theorem heap_next_drew (w : World) (o p : Obj) : ((w.alloc o).drew.alloc p).heap[w.heap.size + 1]? = some p := by
 have h := heap_alloc_last (w.alloc o).drew p
 have e : (w.alloc o).drew.heap.size = w.heap.size + 1 := by
  show (w.alloc o).heap.size = _
  simp
 rw [e] at h
 exact h
theorem RowT.form {base n : Nat} {M : Tmap} {T : TypeId} {s : Value} {v : World} (h : RowT base M T s (n + 1) v) : ∃ g c, s = .slice (some ⟨g, 0, none⟩) (n + 1) c := by
 rcases h with ⟨_, h0⟩ | ⟨g, c, cur, hv, _⟩
 ·omega
 ·exact ⟨g, c, hv⟩
theorem el_inst {M : Tmap} {N : Nat} {op iw a b c imm : Int} {s : Value} (h : SlV M N 2 s) : ∀ M', Ext M M' → ElOk M' (N + 1) 44 (fun j => [.int .i64 op, .int .i64 iw, .int .i64 a, .int .i64 b, .int .i64 c, .int .i64 imm, s][j]?) := fun M' he => by
 refine ⟨fun q => absurd q (by decide), fun q => absurd q (by decide), fun q => absurd q (by decide), fun _ => ⟨fun j hj => ?_, s, rfl, h.ext he (by omega)⟩, fun q => absurd q (by decide)⟩
 match j, hj with
 | 0, _ => exact ⟨_, rfl⟩
 | 1, _ => exact ⟨_, rfl⟩
 | 2, _ => exact ⟨_, rfl⟩
 | 3, _ => exact ⟨_, rfl⟩
 | 4, _ => exact ⟨_, rfl⟩
 | 5, _ => exact ⟨_, rfl⟩
theorem Gok.setNext {base g G len cap N : Nat} {a0 : Option Addr} {M : Tmap} {S : GRec} {v : World} (h : Gok base g G a0 len cap M N S v) (hN : N < 10000) : Gok base g G a0 len cap M (N + 1) { S with nx := S.nx + 1 } (v.setCell ⟨G, 10, none⟩ (.int .i64 (S.nx + 1))) ∧ Mov g G M M v (v.setCell ⟨G, 10, none⟩ (.int .i64 (S.nx + 1))) :=
 h.grew (by omega) (fun b hb hn => Below.heap_setCell _ _ _ _ hn) (by simp [World.setCell]) rfl rfl rfl (fun _ _ => rfl) (fun b T m hb hm => by rw [h.th.none hb] at hm; cases hm) ((heap_set h.cells).trans rfl) ⟨rfl, rfl, rfl, rfl, rfl, rfl, rfl, rfl, rfl, rfl, rfl⟩ h.ids (by have := h.bn; dsimp only; omega)
set_option maxHeartbeats 2000000 in
set_option maxRecDepth 100000 in
theorem put_any (base g G : Nat) (a0 : Option Addr) (len cap : Nat) (M : Tmap) (N : Nat) (S : GRec) (op iw a b c imm : Int) (u : Option Addr) (na q : Nat) (v : World) (h : Gok base g G a0 len cap M N S v) (hN : N + 2 ≤ 10000) (hav : SlN M 2 (.slice u na q) na) (hna : na ≤ N) :
  Calls Tryd.prog 90 #[.pointer (some ⟨G, 0, none⟩), .agg #[.int .i64 op, .int .i64 iw, .int .i64 a, .int .i64 b, .int .i64 c, .int .i64 imm, .slice u na q]] v fun e v' => ∃ n : Int, e = .returned (.int .i64 n) ∧ ∃ M' S', Gok base g G a0 len cap M' (N + 2) S' v' ∧ Same S S' ∧ S'.ni = S.ni + 1 ∧ Mov g G M M' v v' := by
 obtain ⟨i0, hi, hz0, hz1, hz2⟩ := info_parts infoN
 have hbn := h.bn
 have hGl := (Array.getElem?_eq_some_iff.1 h.cells).1
 have B1 : Below v.heap.size v (v.alloc (.cells #[.int .i64 op, .int .i64 iw, .int .i64 a, .int .i64 b, .int .i64 c, .int .i64 imm, .slice u na q] 44)) := (Below.refl _ _).alloc (Nat.le_refl _) _
 have B2 : Below v.heap.size v ((v.alloc (.cells #[.int .i64 op, .int .i64 iw, .int .i64 a, .int .i64 b, .int .i64 c, .int .i64 imm, .slice u na q] 44)).drew.alloc (.cells #[.int .i64 op, .int .i64 iw, .int .i64 a, .int .i64 b, .int .i64 c, .int .i64 imm, .slice u na q] 44)) := B1.drew.alloc B1.size _
 have HH : Hid (Gok base g G a0 len cap M N S ((v.alloc (.cells #[.int .i64 op, .int .i64 iw, .int .i64 a, .int .i64 b, .int .i64 c, .int .i64 imm, .slice u na q] 44)).drew.alloc (.cells #[.int .i64 op, .int .i64 iw, .int .i64 a, .int .i64 b, .int .i64 c, .int .i64 imm, .slice u na q] 44)) ∧ Mov g G M M v ((v.alloc (.cells #[.int .i64 op, .int .i64 iw, .int .i64 a, .int .i64 b, .int .i64 c, .int .i64 imm, .slice u na q] 44)).drew.alloc (.cells #[.int .i64 op, .int .i64 iw, .int .i64 a, .int .i64 b, .int .i64 c, .int .i64 imm, .slice u na q] 44))) := h.below B2
 have LAW : Hid (∀ ty, ∃ s' w' M', (Builtin.append_ #[37, 37] ty #[S.iv, .slice (some ⟨v.heap.size + 1, 0, none⟩) 1 1]).run Tryd.prog ((v.alloc (.cells #[.int .i64 op, .int .i64 iw, .int .i64 a, .int .i64 b, .int .i64 c, .int .i64 imm, .slice u na q] 44)).drew.alloc (.cells #[.int .i64 op, .int .i64 iw, .int .i64 a, .int .i64 b, .int .i64 c, .int .i64 imm, .slice u na q] 44)) = .ok s' w' ∧ Pushed base M M' (N + 1) 44 S.ni ((v.alloc (.cells #[.int .i64 op, .int .i64 iw, .int .i64 a, .int .i64 b, .int .i64 c, .int .i64 imm, .slice u na q] 44)).drew.alloc (.cells #[.int .i64 op, .int .i64 iw, .int .i64 a, .int .i64 b, .int .i64 c, .int .i64 imm, .slice u na q] 44)) w' s') := fun ty =>
  run_row i0 _ 72 Tryd.underlying37 hi hz0 hz1 hz2 (by decide) (by omega) HH.out.1.i HH.out.1.th (by omega) (.inr (.inr (.inr (.inl rfl)))) HH.out.1.bv (by omega) ⟨v.heap.size + 1, 0, none⟩ 1 [.int .i64 op, .int .i64 iw, .int .i64 a, .int .i64 b, .int .i64 c, .int .i64 imm, .slice u na q] rfl (seven_of (heap_next_drew v _ _)) (by simp [Value.oneCell']) (el_inst ⟨na, hna, hav⟩)
 have c5 : v.cell? ⟨G, 5, none⟩ = some S.iv := (gcell h.cells 5).1.trans rfl
 have x1 : (v.alloc (.cells #[.int .i64 op, .int .i64 iw, .int .i64 a, .int .i64 b, .int .i64 c, .int .i64 imm, .slice u na q] 44)).cell? ⟨G, 5, none⟩ = some S.iv := (cell_block (B1.block G hGl)).trans c5
 have x2 := (cell_block (o := 5) (B2.block G hGl)).trans c5
 clear hi hz0 hz1 hz2 c5
 go_enter Tryd.func90, Tryd.ntmps90
 go_wp2_with fail
 go_cut [4] (fun s4 wx => s4 = .int .i64 0 ∧ ∃ w2 s' M', Pushed base M M' (N + 1) 44 S.ni ((v.alloc (.cells #[.int .i64 op, .int .i64 iw, .int .i64 a, .int .i64 b, .int .i64 c, .int .i64 imm, .slice u na q] 44)).drew.alloc (.cells #[.int .i64 op, .int .i64 iw, .int .i64 a, .int .i64 b, .int .i64 c, .int .i64 imm, .slice u na q] 44)) w2 s' ∧ wx = w2.setCell ⟨G, 5, none⟩ s')
 case first =>
  go_region_law (refine step_row rfl (.tmp 11) (.tmp 13) 37 rfl rfl rfl LAW.out ?_; intro s' w2 M' hP; obtain ⟨gs, qs, rfl⟩ := hP.row.form; have y0 := (hP.out G (by exact Nat.lt_of_lt_of_le hGl B2.size) h.mG).1.trans ((B2.block G hGl).trans h.cells); have y5 : w2.cell? ⟨G, 5, none⟩ = some S.iv := (gcell y0 5).1.trans rfl; have z5 := (gcell y0 5).2; clear y0)
  all_goals
   go_wp2_with fail
   go_meet
   case rel => exact ⟨rfl, w2, _, M', hP, rfl⟩
 case rest =>
  obtain ⟨rfl, w2, s', M', hP, rfl⟩ := hcut
  obtain ⟨H1, V1⟩ := HH.out
  obtain ⟨H2, V2⟩ := H1.pushI (by omega) hP
  have hbox : (w2.setCell ⟨G, 5, none⟩ s').heap[v.heap.size]? = some (.cells #[.int .i64 op, .int .i64 iw, .int .i64 a, .int .i64 b, .int .i64 c, .int .i64 imm, .slice u na q] 44 (0, 0)) := (V2.out v.heap.size (by show v.heap.size < ((v.alloc _).heap.push _).size; simp; omega) (by have := h.gb; have := h.bv; omega) (by omega) (h.th.none (Nat.le_refl _))).1.trans ((Below.heap_alloc (v.alloc (.cells #[.int .i64 op, .int .i64 iw, .int .i64 a, .int .i64 b, .int .i64 c, .int .i64 imm, .slice u na q] 44)).drew _ _ (by show v.heap.size < (v.alloc _).heap.size; simp)).trans (heap_alloc_last v _))
  have W := fun w => instS_any ⟨op, iw, a, b, c, imm, List.replicate na 0⟩ u q w
  simp only [List.length_replicate] at W
  generalize instW ⟨op, iw, a, b, c, imm, List.replicate na 0⟩ = rw at W
  generalize w2.setCell ⟨G, 5, none⟩ s' = wx at H2 V2 hbox ⊢
  have k0 : wx.cell? ⟨v.heap.size, 0, none⟩ = some (.int .i64 op) := (cell_of_heap hbox).trans rfl
  have k1 : wx.cell? ⟨v.heap.size, 1, none⟩ = some (.int .i64 iw) := (cell_of_heap hbox).trans rfl
  have k2 : wx.cell? ⟨v.heap.size, 2, none⟩ = some (.int .i64 a) := (cell_of_heap hbox).trans rfl
  have k3 : wx.cell? ⟨v.heap.size, 3, none⟩ = some (.int .i64 b) := (cell_of_heap hbox).trans rfl
  have k4 : wx.cell? ⟨v.heap.size, 4, none⟩ = some (.int .i64 c) := (cell_of_heap hbox).trans rfl
  have k5 : wx.cell? ⟨v.heap.size, 5, none⟩ = some (.int .i64 imm) := (cell_of_heap hbox).trans rfl
  have k6 : wx.cell? ⟨v.heap.size, 6, none⟩ = some (.slice u na q) := (cell_of_heap hbox).trans rfl
  clear hbox x1 x2 LAW hP
  go_wp2_with fail
  refine (W _).mono ?_
  rintro e w3 ⟨rfl, hb3⟩
  obtain ⟨H3, V3⟩ := H2.below hb3
  have V13 := V1.trans (V2.trans V3)
  clear k0 k1 k2 k3 k4 k5 k6 H1 H2 V1 V2 V3 W HH hb3
  by_cases hw : rw = 0
  ·have m10 : w3.cell? ⟨G, 10, none⟩ = some (.int .i64 S.nx) := (gcell H3.cells 10).1.trans rfl
   have n10 := (gcell H3.cells 10).2
   obtain ⟨H4, V4⟩ := H3.setNext (by omega)
   have b1 := H3.bn
   go_wp2_with fail
   go_ret
   exact ⟨_, rfl, _, _, H4.mono (by omega) hN, ⟨rfl, rfl, rfl, rfl, rfl, rfl, rfl, rfl, rfl, rfl⟩, rfl, V13.trans V4⟩
  ·go_wp2_with (go_at_call 65; refine (add_any base g G a0 len cap _ _ _ _ _ H3 (by omega)).mono ?_; rintro e w4 ⟨n, rfl, M4, S4, H4, hS4, V4⟩)
   go_ret
   refine ⟨n, rfl, M4, S4, H4, ?_, ?_, V13.trans V4⟩
   ·rw [hS4]; exact ⟨rfl, rfl, rfl, rfl, rfl, rfl, rfl, rfl, rfl, rfl⟩
   ·rw [hS4]
end Go.Proofs.YtenbodghkpbghaaDoor
namespace Go.Proofs.YtenbodghkpbghaaDoor
open Go.RowKit Go.Deep
set_option linter.unusedVariables false
def Fit (B : Nat) (s : Value) (n : Nat) (v : World) : Prop := ∃ zs : List Int, zs.length = n ∧ v.ownsRow B 2 1 s n (zs.map (Value.int .i64)) ∧ ∃ g c, s = .slice (some ⟨g, 0, none⟩) n c
set_option maxHeartbeats 2000000 in
set_option maxRecDepth 100000 in
theorem pick_any (base g G : Nat) (a0 : Option Addr) (len cap : Nat) (M : Tmap) (N : Nat) (S : GRec) (x : Int) (v : World) (h : Gok base g G a0 len cap M N S v) (hN : N + 2 ≤ 10000) (hx : x = 1 ∨ x = 8 ∨ x = 16 ∨ x = 32) :
  Calls Tryd.prog 92 #[.pointer (some ⟨G, 0, none⟩), .int .i64 x] v fun e v' => ∃ n : Int, e = .returned (.int .i64 n) ∧ ∃ M' S', Gok base g G a0 len cap M' (N + 2) S' v' ∧ Same S S' ∧ Mov g G M M' v v' := by
 obtain ⟨i0, hi, hz0, hz1, hz2⟩ := info_parts infoI
 have HI : Hid (Tryd.prog.info? 2 = some i0) := hi
 have HZ0 : Hid (i0.zero = some (.int .i64 0)) := hz0
 have HZ1 : Hid (i0.size = 1) := hz1
 have HZ2 : Hid (i0.bytes = 8) := hz2
 clear hi hz0 hz1 hz2
 have hbn := h.bn
 have hGl := (Array.getElem?_eq_some_iff.1 h.cells).1
 have c0 : v.cell? ⟨G, 0, none⟩ = some (.pointer (some ⟨g, 0, none⟩)) := (gcell h.cells 0).1.trans rfl
 have c11 : v.cell? ⟨G, 11, none⟩ = some S.idv := (gcell h.cells 11).1.trans rfl
 have c12 : v.cell? ⟨G, 12, none⟩ = some S.wsv := (gcell h.cells 12).1.trans rfl
 obtain ⟨ui, ci, eI⟩ : ∃ u c, S.idv = .slice u S.nid c := by
  rcases h.ids with ⟨e1, _, e3⟩ | ⟨_, ⟨u, c, e, _⟩, _⟩
  ·exact ⟨none, 0, by rw [e1, e3]⟩
  ·exact ⟨u, c, e⟩
 obtain ⟨uw, cw, eW⟩ : ∃ u c, S.wsv = .slice u S.nid c := by
  rcases h.ids with ⟨_, e1, e3⟩ | ⟨_, _, ⟨u, c, e, _⟩⟩
  ·exact ⟨none, 0, by rw [e1, e3]⟩
  ·exact ⟨u, c, e⟩
 rw [eI] at c11
 rw [eW] at c12
 go_enter Tryd.func92, Tryd.ntmps92
 go_wp2_with fail
 go_loopw [5, 6] (fun s i wr => ∃ k m : Nat, k ≤ S.nid ∧ m ≤ k ∧ i = .int .i64 k ∧ Fit v.heap.size s m wr ∧ Below v.heap.size v wr) (fun _ i _ => S.nid - (intOf i).toNat)
 case atStart => exact ⟨0, 0, by omega, by omega, rfl, ⟨[], rfl, lit_own (heap_alloc_last _ _) (Nat.le_refl _), _, _, rfl⟩, (Below.refl _ _).alloc (Nat.le_refl _) _⟩
 case round =>
  obtain ⟨k, m, hk, hmk, rfl, ⟨zs, hzl, hown, gf, cf, rfl⟩, hB⟩ := hrel
  obtain ⟨wo, hwo⟩ : ∃ wo, wo = wr := ⟨_, rfl⟩
  subst hwo
  have d0 := (cell_block (hB.block G hGl)).trans c0
  have d11 := (cell_block (hB.block G hGl)).trans c11
  have d12 := (cell_block (hB.block G hGl)).trans c12
  have hgf : v.heap.size ≤ gf := by
   rcases hown.2 with ⟨hbad, _⟩ | ⟨g', c', cur, hv, hb, _⟩
   ·cases hbad
   ·cases hv; exact hb
  by_cases hlt : k < S.nid
  ·rcases h.ids with ⟨_, _, e3⟩ | ⟨hp, hI, hW⟩
   ·omega
   obtain ⟨gi, ci', is, e1, hil, _, hgl, _, hread⟩ := hI.read h.th hp
   obtain ⟨gj, cj', js, e2, hjl, _, hgl2, _, hread2⟩ := hW.read h.th hp
   rw [e1] at eI
   rw [e2] at eW
   cases eI
   cases eW
   have q1 : wo.cell? ⟨gi, k, none⟩ = some (.int .i64 (is.getD k 0)) := by
    have := hread k (.int .i64 (is.getD k 0)) (by simp [List.getD, hil, hlt])
    rw [Addr.add_lit, Nat.zero_add] at this
    exact (cell_block (hB.block gi hgl)).trans this
   have q2 : wo.cell? ⟨gj, k, none⟩ = some (.int .i64 (js.getD k 0)) := by
    have := hread2 k (.int .i64 (js.getD k 0)) (by simp [List.getD, hjl, hlt])
    rw [Addr.add_lit, Nat.zero_add] at this
    exact (cell_block (hB.block gj hgl2)).trans this
   generalize is.getD k 0 = y at q1
   generalize js.getD k 0 = z at q2
   clear hread hread2
   by_cases hxz : z = x
   ·go_wp2_with (at_builtin; refine wpList_append_lies _ rfl (.tmp 27) (.tmp 35) 24 rfl v.heap.size 2 i0 (.int .i64 0) 1 8 Tryd.underlying24 HI.out HZ0.out HZ1.out HZ2.out rfl (by decide) (.slice (some ⟨gf, 0, none⟩) m cf) m (zs.map (Value.int .i64)) rfl (hown.alloc _) ⟨wo.heap.size, 0, none⟩ 1 1 [.int .i64 y] rfl (by simp) (one_of (heap_alloc_last wo _)) (by simp [Value.oneCell']) (by omega) (by unfold maxLen; omega) (by omega) (by have := hB.size; simp; omega) _ rfl ?_; intro g4 cap4 w4 hown4 hgrow4 hat4 hlt4; have B4 : Below v.heap.size v w4 := bel_grown (hB.alloc hB.size _) hgrow4 (by exact hgf))
    go_roundw
    case rel => exact ⟨k + 1, m + 1, by omega, by omega, by go_num, ⟨zs ++ [y], by simp [hzl], by simpa using hown4, g4, cap4, rfl⟩, B4⟩
    case measure => simp [intOf]; omega
   ·go_wp2_with fail
    go_roundw
    case rel => exact ⟨k + 1, m, by omega, by omega, by go_num, ⟨zs, hzl, hown, gf, cf, rfl⟩, hB⟩
    case measure => simp [intOf]; omega
  ·have hke : k = S.nid := by omega
   obtain ⟨H1, V1⟩ := h.below hB
   have hcur : ∃ cur, wo.heap[gf]? = some (.cells cur 2 (0, 0)) ∧ ∀ j, j < m → cur[j]? = some (.int .i64 (zs.getD j 0)) := by
    rcases hown.2 with ⟨hbad, _⟩ | ⟨g', c', cur, hv, hb, hc, hn, hcm, hsz, htk⟩
    ·cases hbad
    ·cases hv
     refine ⟨cur, hc, fun j hj => ?_⟩
     have h1 : (cur.toList.take (m * 1))[j]? = some (.int .i64 (zs.getD j 0)) := by
      rw [htk, List.getElem?_map, List.getElem?_eq_getElem (by omega)]
      simp [List.getD, hzl, hj]
     rw [List.getElem?_take_of_lt (by omega)] at h1
     simpa using h1
   obtain ⟨cur, hcur, hrd⟩ := hcur
   have hgfl := (Array.getElem?_eq_some_iff.1 hcur).1
   have hgg : g < v.heap.size := h.rd.lt
   by_cases hm0 : m = 0
   ·subst hm0
    rcases hx with rfl | rfl | rfl | rfl
    all_goals
     go_wp2_with (first | (go_at_call 91; refine (value_any g a0 len cap _ _ H1.rd (by simp)).mono ?_; rintro e w2 ⟨n2, rfl, hn0, hn1, hr2, hg2⟩; obtain ⟨H2, V2⟩ := H1.read hr2 hg2) | (go_at_call 90; refine (put_any base g G a0 len cap M N S _ _ _ _ _ _ none 0 0 _ H2 hN ⟨none, 0, rfl, .inl rfl⟩ (by omega)).mono ?_; rintro e w3 ⟨n3, rfl, M3, S3, H3, hS3, _, V3⟩))
     go_ret
     exact ⟨n3, rfl, M3, S3, H3, hS3, V1.trans (V2.trans V3)⟩
   ·have hne : ((m : Int) == 0) = false := by simp [hm0]
    have keep : ∀ {wa wb : World}, wa.grownBy wb (some g) → wa.heap[gf]? = wo.heap[gf]? → wo.heap.size ≤ wa.heap.size → wb.heap[gf]? = wo.heap[gf]? := fun {wa wb} k e hs => (k.block gf (by omega) (by simp; omega)).trans e
    have O := once_any g a0 len cap 5 wo H1.rd (by omega)
    rcases hx with rfl | rfl | rfl | rfl
    all_goals
     go_wp2_with (first | (go_at_call 24; refine O.mono ?_; rintro e w2 ⟨bb, rfl, hr2, hg2⟩; obtain ⟨H2, V2⟩ := H1.read hr2 hg2; have k2 := keep hg2 rfl (Nat.le_refl _); have z2 : wo.heap.size ≤ w2.heap.size := hg2.size; have f0 : w2.cell? ⟨G, 0, none⟩ = some (.pointer (some ⟨g, 0, none⟩)) := (gcell H2.cells 0).1.trans rfl) | (go_at_call 91; refine (value_any g a0 len cap _ _ H2.rd (by simp)).mono ?_; rintro e w3 ⟨n2, rfl, hn0, hn1, hr3, hg3⟩; obtain ⟨H3, V3⟩ := H2.read hr3 hg3) | (go_at_call 90; refine (put_any base g G a0 len cap M N S _ _ _ _ _ _ none 0 0 _ H3 hN ⟨none, 0, rfl, .inl rfl⟩ (by omega)).mono ?_; rintro e w4 ⟨n3, rfl, M3, S3, H4, hS3, _, V4⟩) | (go_at_call 42; refine (below_any g a0 len cap _ _ H2.rd).mono ?_; rintro e w3 ⟨n3, rfl, hn0, hn1, hr3, hg3⟩; obtain ⟨kn, rfl⟩ := Int.eq_ofNat_of_zero_le hn0; obtain ⟨H3, V3⟩ := H2.read hr3 hg3; have k3 := (keep hg3 k2 z2).trans hcur; have ra : w3.cell? ⟨gf, m - 1, none⟩ = some (.int .i64 (zs.getD (m - 1) 0)) := ((cell_of_heap k3).trans (hrd (m - 1) (by omega))); clear hn1; rcases Nat.lt_or_ge kn m with hkn | hkn; (have rb : w3.cell? ⟨gf, kn, none⟩ = some (.int .i64 (zs.getD kn 0)) := (cell_of_heap k3).trans (hrd kn hkn); clear ra)))
     all_goals go_ret
     all_goals first
      | exact ⟨n3, rfl, M3, S3, H4, hS3, V1.trans (V2.trans (V3.trans V4))⟩
      | exact ⟨_, rfl, M, S, H3.mono (by omega) hN, Same.refl _, V1.trans (V2.trans V3)⟩
end Go.Proofs.YtenbodghkpbghaaDoor
namespace Go.Proofs.YtenbodghkpbghaaDoor
open Go.RowKit Go.Deep
set_option linter.unusedVariables false
theorem el_int {M : Tmap} {N : Nat} {z : Int} {c : Nat → Option Value} (h : c 0 = some (.int .i64 z)) : ElOk M N 2 c :=
 ⟨fun _ => ⟨z, h⟩, fun q => absurd q (by decide), fun q => absurd q (by decide), fun q => absurd q (by decide), fun q => absurd q (by decide)⟩
theorem Gok.adopted {base g G len cap N b n : Nat} {a0 : Option Addr} {M : Tmap} {S : GRec} {v : World} {cur : Array Value} (h : Gok base g G a0 len cap M N S v) (hb : base ≤ b) (hbG : b ≠ G) (hM : M b = none) (hc : v.heap[b]? = some (.cells cur 2 (0, 0))) (he : ∀ i, i < n → ∃ z : Int, cur[i]? = some (.int .i64 z)) :
  Gok base g G a0 len cap (put M b 2 n) N S v ∧ Ext M (put M b 2 n) ∧ SlN (put M b 2 n) 2 (.slice (some ⟨b, 0, none⟩) n n) n := by
 have hext : Ext M (put M b 2 n) := put_ext (.inl hM)
 have hrow : ∀ {T : TypeId} {s : Value} {k : Nat}, RowT base M T s k v → RowT base (put M b 2 n) T s k v := fun {T s k} r => by
  rcases r with r | ⟨q, c, cu, hv, hq, hq2, hr⟩
  ·exact .inl r
  ·refine .inr ⟨q, c, cu, hv, hq, ?_, hr⟩
   have hqb : q ≠ b := fun e => by rw [e, hM] at hq2; cases hq2
   simp [put, hqb, hq2]
 have hth : TH base (put M b 2 n) N v := h.th.put (Nat.le_refl _) hb (.inl hM) hc (fun _ _ _ => rfl) fun i hi => by
  obtain ⟨z, hz⟩ := he i hi
  exact el_int (z := z) (by simpa [szT] using hz)
 refine ⟨⟨h.rd, h.gb, h.bv, by simp [put, Ne.symm hbG, h.mG], h.nG, h.cells, hth, hrow h.p, hrow h.b, hrow h.ph, hrow h.i, ?_, h.rets.ext hext, h.pars.ext hext, h.bn⟩, hext, ⟨_, n, rfl, .inr ⟨b, n, rfl, by simp [put], Nat.le_refl _⟩⟩⟩
 rcases h.ids with e | ⟨e1, e2, e3⟩
 ·exact .inl e
 ·exact .inr ⟨e1, e2.ext hext, e3.ext hext⟩
def ParW (M : Tmap) (S : GRec) (v : World) : Prop := 0 < S.nr → ∃ gs cs ms, S.sv = .slice (some ⟨gs, 0, none⟩) S.nr cs ∧ M gs = some (24, ms) ∧ ∀ k, k < S.nr → ∃ u n c, v.cell? ⟨gs, k, none⟩ = some (.slice u n c) ∧ n ≤ 2 ∧ (0 < n → ∃ gp mp, u = some ⟨gp, 0, none⟩ ∧ M gp = some (2, mp) ∧ ∀ i, i < n → ∃ x : Int, v.cell? ⟨gp, i, none⟩ = some (.int .i64 x) ∧ (x = 1 ∨ x = 8 ∨ x = 16 ∨ x = 32))
theorem ParW.mov {g G : Nat} {M M' : Tmap} {S S' : GRec} {v v' : World} (h : ParW M S v) (hS : Same S S') (k : Mov g G M M' v v') : ParW M' S' v' := fun hn => by
 obtain ⟨s1, s2, s3, s4, s5, s6, s7, s8, s9, s10⟩ := hS
 rw [s8] at hn
 obtain ⟨gs, cs, ms, e1, e2, e3⟩ := h hn
 obtain ⟨f1, f2⟩ := k.hold gs _ _ e2 (by decide)
 refine ⟨gs, cs, ms, by rw [s9, s8]; exact e1, f2, fun j hj => ?_⟩
 rw [s8] at hj
 obtain ⟨u, n, c, g1, g2, g3⟩ := e3 j hj
 refine ⟨u, n, c, (cell_blk f1).trans g1, g2, fun hp => ?_⟩
 obtain ⟨gp, mp, r1, r2, r3⟩ := g3 hp
 obtain ⟨t1, t2⟩ := k.hold gp _ _ r2 (by decide)
 refine ⟨gp, mp, r1, t2, fun i hi => ?_⟩
 obtain ⟨x, x1, x2⟩ := r3 i hi
 exact ⟨x, (cell_blk t1).trans x1, x2⟩
end Go.Proofs.YtenbodghkpbghaaDoor
namespace Go.Proofs.YtenbodghkpbghaaDoor
open Go.RowKit Go.Deep
set_option linter.unusedVariables false
theorem own_stay {w w' : World} {b : Nat} {e : TypeId} {s : Nat} {v : Value} {n : Nat} {xs : List Value} (h : w.ownsRow b e s v n xs) (k : ∀ g, v.ownBlock = some g → w'.heap[g]? = w.heap[g]?) : w'.ownsRow b e s v n xs := by
 obtain ⟨h1, h2⟩ := h
 refine ⟨h1, ?_⟩
 rcases h2 with h2 | ⟨g, cap, cur, hv, hb, hc, r⟩
 ·exact .inl h2
 ·subst hv
  exact .inr ⟨g, cap, cur, rfl, hb, (k g rfl).trans hc, r⟩
theorem Gok.beside {base g G len cap N q : Nat} {a0 : Option Addr} {M : Tmap} {S : GRec} {v v' : World} (h : Gok base g G a0 len cap M N S v) (hq : base ≤ q) (hqG : q ≠ G) (hM : M q = none) (k : v.grownBy v' (some q)) : Gok base g G a0 len cap M N S v' := by
 have hG := (Array.getElem?_eq_some_iff.1 h.cells).1
 have hk : ∀ b, (∃ p, M b = some p) → v'.heap[b]? = v.heap[b]? := fun b hb => k.block b (h.th.lt hb).2 (by
  obtain ⟨p, hb⟩ := hb
  have : b ≠ q := fun e => by rw [e, hM] at hb; cases hb
  simp; omega)
 exact ⟨rd_keep h.rd k.size fun b hb => k.block b (by have := h.rd.lt; omega) (by have := h.gb; simp; omega), h.gb, Nat.le_trans h.bv k.size, h.mG, h.nG, (k.block G hG (by simp; omega)).trans h.cells, h.th.keep (Nat.le_refl _) hk, h.p.keep hk, h.b.keep hk, h.ph.keep hk, h.i.keep hk, h.ids, h.rets, h.pars, h.bn⟩
theorem Mov.beside {g G q : Nat} {A B : Tmap} {a b c : World} (h : Mov g G A B a b) (hq : a.heap.size ≤ q) (hB : B q = none) (hl : ∀ x, (∃ p, B x = some p) → x < b.heap.size) (k : b.grownBy c (some q)) : Mov g G A B a c :=
 ⟨h.ext, fun x hx h1 h2 h3 => ⟨(k.block x (Nat.lt_of_lt_of_le hx h.size) (by simp; omega)).trans (h.out x hx h1 h2 h3).1, (h.out x hx h1 h2 h3).2⟩, fun x T m hx hT => by
  obtain ⟨e1, e2⟩ := h.hold x T m hx hT
  have hxq : x ≠ q := fun e => by rw [e, hB] at e2; cases e2
  exact ⟨(k.block x (hl x ⟨_, e2⟩) (by simp; omega)).trans e1, e2⟩, k.os.trans h.os, k.tape.trans h.tape, k.output.trans h.output, Nat.le_trans h.size k.size⟩
theorem Mov.adopt {g G q n : Nat} {T0 : TypeId} {A B : Tmap} {a b : World} (h : Mov g G A B a b) (hq : a.heap.size ≤ q) (hB : B q = none) : Mov g G A (put B q T0 n) a b :=
 ⟨h.ext.trans (put_ext (.inl hB)), fun x hx h1 h2 h3 => by
  obtain ⟨e1, e2⟩ := h.out x hx h1 h2 h3
  have hxq : x ≠ q := by omega
  exact ⟨e1, by simp [put, hxq, e2]⟩, fun x T m hx hT => by
  obtain ⟨e1, e2⟩ := h.hold x T m hx hT
  have hxq : x ≠ q := fun e => by rw [e, hB] at e2; cases e2
  exact ⟨e1, by simp [put, hxq, e2]⟩, h.os, h.tape, h.output, h.size⟩
structure Args (base g G : Nat) (a0 : Option Addr) (len cap : Nat) (M : Tmap) (N : Nat) (S : GRec) (v : World) (k : Nat) (s : Value) (wr : World) : Prop where
 it : ∃ Mk Sk, ∃ zs : List Int, ∃ gf cf, s = .slice (some ⟨gf, 0, none⟩) k cf ∧ zs.length = k ∧ wr.ownsRow v.heap.size 2 1 s k (zs.map (Value.int .i64)) ∧ Gok base g G a0 len cap Mk (N + 2 * k) Sk wr ∧ Same S Sk ∧ Mov g G M Mk v wr ∧ Mk gf = none ∧ v.heap.size ≤ gf ∧ gf < wr.heap.size
set_option maxHeartbeats 2000000 in
set_option maxRecDepth 100000 in
theorem call_any (base g G : Nat) (a0 : Option Addr) (len cap : Nat) (M : Tmap) (N : Nat) (S : GRec) (v : World) (h : Gok base g G a0 len cap M N S v) (hN : N + 6 ≤ 10000) (hp : ParW M S v) :
  Calls Tryd.prog 93 #[.pointer (some ⟨G, 0, none⟩)] v fun e v' => (∃ r, e = .returned r) ∧ ∃ M' S', Gok base g G a0 len cap M' (N + 6) S' v' ∧ Same S S' ∧ Mov g G M M' v v' := by
 obtain ⟨i0, hi, hz0, hz1, hz2⟩ := info_parts infoI
 have HI : Hid (Tryd.prog.info? 2 = some i0) := hi
 have HZ0 : Hid (i0.zero = some (.int .i64 0)) := hz0
 have HZ1 : Hid (i0.size = 1) := hz1
 have HZ2 : Hid (i0.bytes = 8) := hz2
 clear hi hz0 hz1 hz2
 have hbn := h.bn
 have hGl := (Array.getElem?_eq_some_iff.1 h.cells).1
 have c0 : v.cell? ⟨G, 0, none⟩ = some (.pointer (some ⟨g, 0, none⟩)) := (gcell h.cells 0).1.trans rfl
 have c13 : v.cell? ⟨G, 13, none⟩ = some S.rv := (gcell h.cells 13).1.trans rfl
 obtain ⟨ur, cr, eR, _⟩ := h.rets
 rw [eR] at c13
 go_enter Tryd.func93, Tryd.ntmps93
 by_cases hn0 : S.nr = 0
 ·rw [hn0] at c13
  go_wp2_with fail
  exact bodyPost_ret (results_none Tryd.results93 _ _ _) rfl ⟨⟨_, rfl⟩, M, S, h.mono (by omega) hN, Same.refl _, Mov.refl _ _ _ _⟩
 ·obtain ⟨gs, cs, ms, e1, e2, e3⟩ := hp (by omega)
  have HD : Gok base g G a0 len cap M N S v.drew ∧ Mov g G M M v v.drew := h.below (Below.refl _ _).drew
  obtain ⟨HD, VD⟩ := HD
  have c0d : v.drew.cell? ⟨G, 0, none⟩ = some (.pointer (some ⟨g, 0, none⟩)) := c0
  have c13d : v.drew.cell? ⟨G, 13, none⟩ = some (.slice ur S.nr cr) := c13
  go_wp2_with fail
  go_region_held2 (fun w' => w'.cell? ⟨G, 0, none⟩ = some (.pointer (some ⟨g, 0, none⟩)) ∧ w'.cell? ⟨G, 13, none⟩ = some (.slice ur S.nr cr)) (first | with_reducible exact ⟨c0d, c13d⟩ | with_reducible exact ⟨x0, x13⟩) ((go_at_call 42; refine (below_any g a0 len cap _ _ (by exact HD.rd)).mono ?_; rintro e w1 ⟨n1, rfl, hn1, hn2, hr1, hg1⟩; obtain ⟨kn, rfl⟩ := Int.eq_ofNat_of_zero_le hn1; obtain ⟨H1, V1⟩ := HD.read hr1 (by exact hg1); have x0 : w1.cell? ⟨G, 0, none⟩ = some (.pointer (some ⟨g, 0, none⟩)) := (gcell H1.cells 0).1.trans rfl; have x13 : w1.cell? ⟨G, 13, none⟩ = some (.slice ur S.nr cr) := (by rw [← eR]; exact (gcell H1.cells 13).1.trans rfl)))
  have hkn : kn < S.nr := by omega
  obtain ⟨u, np, c, g1, g2, g3⟩ := e3 kn hkn
  have VV := VD.trans V1
  have hgv : g < v.heap.size := h.rd.lt
  have hbv := h.bv
  clear e3 c0d c13d c0 c13 HD VD hr1 hg1 x0 x13 hn1 hn2
  go_wp2_with fail
  go_loopw [3, 4] (fun s i wr => ∃ k : Nat, k ≤ np ∧ i = .int .i64 k ∧ Args base g G a0 len cap M N S v k s wr) (fun _ i _ => np - (intOf i).toNat)
  case atStart =>
   have B1 : Below w1.heap.size w1 (w1.alloc (.cells #[] 2)) := (Below.refl _ _).alloc (Nat.le_refl _) _
   obtain ⟨K1, L1⟩ := H1.below B1
   exact ⟨0, by omega, rfl, ⟨M, S, [], w1.heap.size, 0, rfl, rfl, lit_own (heap_alloc_last _ _) VV.size, K1, Same.refl _, VV.trans L1, H1.th.none (Nat.le_refl _), VV.size, by simp⟩⟩
  case round =>
   obtain ⟨k, hk, rfl, ⟨Mk, Sk, zs, gf, cf, rfl, hzl, hown, Hk, hSk, Vk, hMf, hgf, hgfl⟩⟩ := hrel
   obtain ⟨wo, hwo⟩ : ∃ wo, wo = wr := ⟨_, rfl⟩
   subst hwo
   have d14 : wo.cell? ⟨G, 14, none⟩ = some (.slice (some ⟨gs, 0, none⟩) S.nr cs) := (gcell Hk.cells 14).1.trans (by show some Sk.sv = _; rw [hSk.2.2.2.2.2.2.2.2.1, e1])
   have d13 : wo.cell? ⟨G, 13, none⟩ = some (.slice ur S.nr cr) := (gcell Hk.cells 13).1.trans (by show some Sk.rv = _; rw [hSk.2.2.2.2.2.2.1, eR])
   have dgs : wo.cell? ⟨gs, kn, none⟩ = some (.slice u np c) := (cell_blk (Vk.hold gs _ _ e2 (by decide)).1).trans g1
   by_cases hlt : k < np
   ·obtain ⟨gp, mp, rfl, r2, r3⟩ := g3 (by omega)
    obtain ⟨x, x1, x2⟩ := r3 k hlt
    have dgp : wo.cell? ⟨gp, k, none⟩ = some (.int .i64 x) := (cell_blk (Vk.hold gp _ _ r2 (by decide)).1).trans x1
    have P := pick_any base g G a0 len cap Mk (N + 2 * k) Sk x wo Hk (by omega) x2
    go_wp2_with (first | (go_at_call 92; refine P.mono ?_; rintro e w2 ⟨y, rfl, M2, S2, H2, hS2, V2⟩; have hst := V2.out gf hgfl (by omega) (by omega) hMf; have own2 := own_stay (w' := w2) hown (fun q hq => by cases hq; exact hst.1)) | (at_builtin; refine wpList_append_lies _ rfl (.tmp 34) (.tmp 47) 24 rfl v.heap.size 2 i0 (.int .i64 0) 1 8 Tryd.underlying24 HI.out HZ0.out HZ1.out HZ2.out rfl (by decide) (.slice (some ⟨gf, 0, none⟩) k cf) k (zs.map (Value.int .i64)) rfl (own2.alloc _) ⟨w2.heap.size, 0, none⟩ 1 1 [.int .i64 y] rfl (by simp) (one_of (heap_alloc_last w2 _)) (by simp [Value.oneCell']) (by omega) (by unfold maxLen; omega) (by omega) (by have := V2.size; have := Vk.size; simp; omega) _ rfl ?_; intro g4 cap4 w4 hown4 hgrow4 hat4 hlt4))
    have B1 : Below w2.heap.size w2 (w2.alloc (.cells #[.int .i64 y] 2)) := (Below.refl _ _).alloc (Nat.le_refl _) _
    obtain ⟨K1, L1⟩ := H2.below B1
    have H4 := K1.beside (by omega) (by omega) hst.2 hgrow4
    have V4 := (Vk.trans (V2.trans L1)).beside hgf hst.2 (fun x hx => (K1.th.lt hx).2) hgrow4
    have m4 : M2 g4 = none ∧ v.heap.size ≤ g4 := by
     rcases hat4 with e | e
     ·cases e; exact ⟨hst.2, hgf⟩
     ·rw [e]; exact ⟨K1.th.none (Nat.le_refl _), (Vk.trans (V2.trans L1)).size⟩
    go_roundw
    case rel => exact ⟨k + 1, by omega, by go_num, ⟨M2, S2, zs ++ [y], g4, cap4, rfl, by simp [hzl], by simpa using hown4, H4, hSk.trans hS2, V4, m4.1, m4.2, hlt4⟩⟩
    case measure => simp [intOf]; omega
   ·have hke : k = np := by omega
    subst hke
    have hcur : ∃ cur, wo.heap[gf]? = some (.cells cur 2 (0, 0)) ∧ ∀ j, j < k → ∃ z : Int, cur[j]? = some (.int .i64 z) := by
     rcases hown.2 with ⟨hbad, _⟩ | ⟨g', c', cur, hv, hb, hc, hn, hcm, hsz, htk⟩
     ·cases hbad
     ·cases hv
      refine ⟨cur, hc, fun j hj => ⟨zs.getD j 0, ?_⟩⟩
      have h1 : (cur.toList.take (k * 1))[j]? = some (.int .i64 (zs.getD j 0)) := by
       rw [htk, List.getElem?_map, List.getElem?_eq_getElem (by omega)]
       simp [List.getD, hzl, hj]
      rw [List.getElem?_take_of_lt (by omega)] at h1
      simpa using h1
    obtain ⟨cur, hcur, hci⟩ := hcur
    obtain ⟨HA, _, _⟩ := Hk.adopted (by omega) (by omega) hMf hcur hci
    have VA := Vk.adopt (T0 := 2) (n := k) hgf hMf
    obtain ⟨gr, cr', rs, er, hrl, _, _, _, hread⟩ := h.rets.read h.th (by omega)
    rw [er] at eR
    cases eR
    obtain ⟨_, _, ecr, hcr⟩ := h.rets
    rw [er] at ecr
    cases ecr
    obtain ⟨gr', mr, egr, hmr, _⟩ : ∃ g m, (some ⟨gr, 0, none⟩ : Option Addr) = some ⟨g, 0, none⟩ ∧ M g = some (2, m) ∧ S.nr ≤ m := by
     rcases hcr with e | e
     ·omega
     ·exact e
    cases egr
    have dgr : wo.cell? ⟨gr, kn, none⟩ = some (.int .i64 (rs.getD kn 0)) := by
     have := hread kn (.int .i64 (rs.getD kn 0)) (by simp [List.getD, hrl, hkn])
     rw [Addr.add_lit, Nat.zero_add] at this
     exact (cell_blk (Vk.hold gr _ _ hmr (by decide)).1).trans this
    generalize rs.getD kn 0 = z at dgr
    have P := put_any base g G a0 len cap _ (N + 2 * k) Sk 26 z 0 0 0 kn (some ⟨gf, 0, none⟩) k cf wo HA (by omega) ⟨_, cf, rfl, .inr ⟨gf, k, rfl, by simp [put], Nat.le_refl _⟩⟩ (by omega)
    clear hread hci
    go_wp2_with (go_at_call 90; refine P.mono ?_; rintro e w3 ⟨n3, rfl, M3, S3, H3, hS3, _, V3⟩)
    exact bodyPost_end (results_none Tryd.results93 _ _ _) rfl ⟨⟨_, rfl⟩, M3, S3, H3.mono (by omega) hN, hSk.trans hS3, VA.trans V3⟩
end Go.Proofs.YtenbodghkpbghaaDoor
