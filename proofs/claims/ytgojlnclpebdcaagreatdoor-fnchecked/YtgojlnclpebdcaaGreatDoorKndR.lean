import Derived.Test.YtgojlnclpebdcaaGreatDoorMemR
namespace Go.Proofs.YtgojlnclpebdcaaGreatDoor
open Go.RowKit
def kindV (d : InstD) (u : Option Addr) (q : Nat) : Value :=
 if opB d.op = true then .iface 118 (.agg #[.int .i64 d.a, .int .i64 d.b])
 else if d.op = 18 ∨ d.op = 19 ∨ d.op = 20 ∨ d.op = 27 then .iface 123 (.agg #[.int .i64 d.a])
 else if d.op = 21 then .iface 125 (.agg #[.int .i64 d.imm])
 else if d.op = 22 then .iface 127 (.agg #[.int .i64 d.a, .int .i64 d.b, .int .i64 d.c])
 else if d.op = 23 then .iface 128 (.agg #[.int .i64 d.a])
 else if d.op = 24 then .iface 129 (.agg #[.int .i64 d.a, .int .i64 d.b])
 else if d.op = 25 then .iface 130 (.agg #[.int .i64 d.a])
 else if d.op = 26 then .iface 132 (.agg #[.int .i64 d.imm, .slice u d.args.length q])
 else .iface 134 (.agg #[])
theorem kv_bin {d : InstD} {u : Option Addr} {q : Nat} (h : opB d.op = true) : kindV d u q = .iface 118 (.agg #[.int .i64 d.a, .int .i64 d.b]) := by rw [kindV, if_pos h]
theorem kv_18 {d : InstD} {u : Option Addr} {q : Nat} (h : d.op = 18) : kindV d u q = .iface 123 (.agg #[.int .i64 d.a]) := by
 have ho : opB 18 = false := by decide
 simp [kindV, h, ho]
theorem kv_19 {d : InstD} {u : Option Addr} {q : Nat} (h : d.op = 19) : kindV d u q = .iface 123 (.agg #[.int .i64 d.a]) := by
 have ho : opB 19 = false := by decide
 simp [kindV, h, ho]
theorem kv_20 {d : InstD} {u : Option Addr} {q : Nat} (h : d.op = 20) : kindV d u q = .iface 123 (.agg #[.int .i64 d.a]) := by
 have ho : opB 20 = false := by decide
 simp [kindV, h, ho]
theorem kv_27 {d : InstD} {u : Option Addr} {q : Nat} (h : d.op = 27) : kindV d u q = .iface 123 (.agg #[.int .i64 d.a]) := by
 have ho : opB 27 = false := by decide
 simp [kindV, h, ho]
theorem kv_21 {d : InstD} {u : Option Addr} {q : Nat} (h : d.op = 21) : kindV d u q = .iface 125 (.agg #[.int .i64 d.imm]) := by
 have ho : opB 21 = false := by decide
 simp [kindV, h, ho]
theorem kv_22 {d : InstD} {u : Option Addr} {q : Nat} (h : d.op = 22) : kindV d u q = .iface 127 (.agg #[.int .i64 d.a, .int .i64 d.b, .int .i64 d.c]) := by
 have ho : opB 22 = false := by decide
 simp [kindV, h, ho]
theorem kv_23 {d : InstD} {u : Option Addr} {q : Nat} (h : d.op = 23) : kindV d u q = .iface 128 (.agg #[.int .i64 d.a]) := by
 have ho : opB 23 = false := by decide
 simp [kindV, h, ho]
theorem kv_24 {d : InstD} {u : Option Addr} {q : Nat} (h : d.op = 24) : kindV d u q = .iface 129 (.agg #[.int .i64 d.a, .int .i64 d.b]) := by
 have ho : opB 24 = false := by decide
 simp [kindV, h, ho]
theorem kv_25 {d : InstD} {u : Option Addr} {q : Nat} (h : d.op = 25) : kindV d u q = .iface 130 (.agg #[.int .i64 d.a]) := by
 have ho : opB 25 = false := by decide
 simp [kindV, h, ho]
theorem kv_26 {d : InstD} {u : Option Addr} {q : Nat} (h : d.op = 26) : kindV d u q = .iface 132 (.agg #[.int .i64 d.imm, .slice u d.args.length q]) := by
 have ho : opB 26 = false := by decide
 simp [kindV, h, ho]
theorem kv_no {d : InstD} {u : Option Addr} {q : Nat} (h0 : opB d.op = false) (h : d.op < 1 ∨ 27 < d.op) : kindV d u q = .iface 134 (.agg #[]) := by
 rw [kindV, if_neg (by simp [h0]), if_neg (by omega), if_neg (by omega), if_neg (by omega), if_neg (by omega), if_neg (by omega), if_neg (by omega), if_neg (by omega)]
set_option maxHeartbeats 2000000 in
theorem kind_bin (d : InstD) (u : Option Addr) (q : Nat) (w : World) (h : opB d.op = true) :
  Calls Tryz.prog 41 #[.agg #[.int .i64 d.op, .int .i64 d.w, .int .i64 d.a, .int .i64 d.b, .int .i64 d.c, .int .i64 d.imm, .slice u d.args.length q]] w fun e w' => e = .returned (kindV d u q) ∧ Below w.heap.size w w' := by
 have E := kv_bin (u := u) (q := q) h
 generalize kindV d u q = V at E
 subst E
 go_enter Tryz.func41, Tryz.ntmps41
 go_wp2_with (go_at_call 73; refine (opI _ _).mono ?_; rintro e w' ⟨rfl, rfl⟩)
 go_ret
 exact ⟨rfl, (Below.refl _ _).alloc (Nat.le_refl _) _⟩
set_option maxHeartbeats 2000000 in
theorem kind_18 (d : InstD) (u : Option Addr) (q : Nat) (w : World) (h : d.op = 18) :
  Calls Tryz.prog 41 #[.agg #[.int .i64 d.op, .int .i64 d.w, .int .i64 d.a, .int .i64 d.b, .int .i64 d.c, .int .i64 d.imm, .slice u d.args.length q]] w fun e w' => e = .returned (kindV d u q) ∧ Below w.heap.size w w' := by
 have E := kv_18 (u := u) (q := q) h
 generalize kindV d u q = V at E
 subst E
 have ho : opB d.op = false := by rw [h]; decide
 have ho2 : opB 18 = false := by decide
 go_enter Tryz.func41, Tryz.ntmps41
 go_wp2_with (go_at_call 73; refine (opI _ _).mono ?_; rintro e w' ⟨rfl, rfl⟩)
 go_ret
 exact ⟨rfl, (Below.refl _ _).alloc (Nat.le_refl _) _⟩
set_option maxHeartbeats 2000000 in
theorem kind_19 (d : InstD) (u : Option Addr) (q : Nat) (w : World) (h : d.op = 19) :
  Calls Tryz.prog 41 #[.agg #[.int .i64 d.op, .int .i64 d.w, .int .i64 d.a, .int .i64 d.b, .int .i64 d.c, .int .i64 d.imm, .slice u d.args.length q]] w fun e w' => e = .returned (kindV d u q) ∧ Below w.heap.size w w' := by
 have E := kv_19 (u := u) (q := q) h
 generalize kindV d u q = V at E
 subst E
 have ho : opB d.op = false := by rw [h]; decide
 have ho2 : opB 19 = false := by decide
 go_enter Tryz.func41, Tryz.ntmps41
 go_wp2_with (go_at_call 73; refine (opI _ _).mono ?_; rintro e w' ⟨rfl, rfl⟩)
 go_ret
 exact ⟨rfl, (Below.refl _ _).alloc (Nat.le_refl _) _⟩
set_option maxHeartbeats 2000000 in
theorem kind_20 (d : InstD) (u : Option Addr) (q : Nat) (w : World) (h : d.op = 20) :
  Calls Tryz.prog 41 #[.agg #[.int .i64 d.op, .int .i64 d.w, .int .i64 d.a, .int .i64 d.b, .int .i64 d.c, .int .i64 d.imm, .slice u d.args.length q]] w fun e w' => e = .returned (kindV d u q) ∧ Below w.heap.size w w' := by
 have E := kv_20 (u := u) (q := q) h
 generalize kindV d u q = V at E
 subst E
 have ho : opB d.op = false := by rw [h]; decide
 have ho2 : opB 20 = false := by decide
 go_enter Tryz.func41, Tryz.ntmps41
 go_wp2_with (go_at_call 73; refine (opI _ _).mono ?_; rintro e w' ⟨rfl, rfl⟩)
 go_ret
 exact ⟨rfl, (Below.refl _ _).alloc (Nat.le_refl _) _⟩
set_option maxHeartbeats 2000000 in
theorem kind_27 (d : InstD) (u : Option Addr) (q : Nat) (w : World) (h : d.op = 27) :
  Calls Tryz.prog 41 #[.agg #[.int .i64 d.op, .int .i64 d.w, .int .i64 d.a, .int .i64 d.b, .int .i64 d.c, .int .i64 d.imm, .slice u d.args.length q]] w fun e w' => e = .returned (kindV d u q) ∧ Below w.heap.size w w' := by
 have E := kv_27 (u := u) (q := q) h
 generalize kindV d u q = V at E
 subst E
 have ho : opB d.op = false := by rw [h]; decide
 have ho2 : opB 27 = false := by decide
 go_enter Tryz.func41, Tryz.ntmps41
 go_wp2_with (go_at_call 73; refine (opI _ _).mono ?_; rintro e w' ⟨rfl, rfl⟩)
 go_ret
 exact ⟨rfl, (Below.refl _ _).alloc (Nat.le_refl _) _⟩
set_option maxHeartbeats 2000000 in
theorem kind_21 (d : InstD) (u : Option Addr) (q : Nat) (w : World) (h : d.op = 21) :
  Calls Tryz.prog 41 #[.agg #[.int .i64 d.op, .int .i64 d.w, .int .i64 d.a, .int .i64 d.b, .int .i64 d.c, .int .i64 d.imm, .slice u d.args.length q]] w fun e w' => e = .returned (kindV d u q) ∧ Below w.heap.size w w' := by
 have E := kv_21 (u := u) (q := q) h
 generalize kindV d u q = V at E
 subst E
 have ho : opB d.op = false := by rw [h]; decide
 have ho2 : opB 21 = false := by decide
 go_enter Tryz.func41, Tryz.ntmps41
 go_wp2_with (go_at_call 73; refine (opI _ _).mono ?_; rintro e w' ⟨rfl, rfl⟩)
 go_ret
 exact ⟨rfl, (Below.refl _ _).alloc (Nat.le_refl _) _⟩
set_option maxHeartbeats 2000000 in
theorem kind_22 (d : InstD) (u : Option Addr) (q : Nat) (w : World) (h : d.op = 22) :
  Calls Tryz.prog 41 #[.agg #[.int .i64 d.op, .int .i64 d.w, .int .i64 d.a, .int .i64 d.b, .int .i64 d.c, .int .i64 d.imm, .slice u d.args.length q]] w fun e w' => e = .returned (kindV d u q) ∧ Below w.heap.size w w' := by
 have E := kv_22 (u := u) (q := q) h
 generalize kindV d u q = V at E
 subst E
 have ho : opB d.op = false := by rw [h]; decide
 have ho2 : opB 22 = false := by decide
 go_enter Tryz.func41, Tryz.ntmps41
 go_wp2_with (go_at_call 73; refine (opI _ _).mono ?_; rintro e w' ⟨rfl, rfl⟩)
 go_ret
 exact ⟨rfl, (Below.refl _ _).alloc (Nat.le_refl _) _⟩
set_option maxHeartbeats 2000000 in
theorem kind_23 (d : InstD) (u : Option Addr) (q : Nat) (w : World) (h : d.op = 23) :
  Calls Tryz.prog 41 #[.agg #[.int .i64 d.op, .int .i64 d.w, .int .i64 d.a, .int .i64 d.b, .int .i64 d.c, .int .i64 d.imm, .slice u d.args.length q]] w fun e w' => e = .returned (kindV d u q) ∧ Below w.heap.size w w' := by
 have E := kv_23 (u := u) (q := q) h
 generalize kindV d u q = V at E
 subst E
 have ho : opB d.op = false := by rw [h]; decide
 have ho2 : opB 23 = false := by decide
 go_enter Tryz.func41, Tryz.ntmps41
 go_wp2_with (go_at_call 73; refine (opI _ _).mono ?_; rintro e w' ⟨rfl, rfl⟩)
 go_ret
 exact ⟨rfl, (Below.refl _ _).alloc (Nat.le_refl _) _⟩
set_option maxHeartbeats 2000000 in
theorem kind_24 (d : InstD) (u : Option Addr) (q : Nat) (w : World) (h : d.op = 24) :
  Calls Tryz.prog 41 #[.agg #[.int .i64 d.op, .int .i64 d.w, .int .i64 d.a, .int .i64 d.b, .int .i64 d.c, .int .i64 d.imm, .slice u d.args.length q]] w fun e w' => e = .returned (kindV d u q) ∧ Below w.heap.size w w' := by
 have E := kv_24 (u := u) (q := q) h
 generalize kindV d u q = V at E
 subst E
 have ho : opB d.op = false := by rw [h]; decide
 have ho2 : opB 24 = false := by decide
 go_enter Tryz.func41, Tryz.ntmps41
 go_wp2_with (go_at_call 73; refine (opI _ _).mono ?_; rintro e w' ⟨rfl, rfl⟩)
 go_ret
 exact ⟨rfl, (Below.refl _ _).alloc (Nat.le_refl _) _⟩
set_option maxHeartbeats 2000000 in
theorem kind_25 (d : InstD) (u : Option Addr) (q : Nat) (w : World) (h : d.op = 25) :
  Calls Tryz.prog 41 #[.agg #[.int .i64 d.op, .int .i64 d.w, .int .i64 d.a, .int .i64 d.b, .int .i64 d.c, .int .i64 d.imm, .slice u d.args.length q]] w fun e w' => e = .returned (kindV d u q) ∧ Below w.heap.size w w' := by
 have E := kv_25 (u := u) (q := q) h
 generalize kindV d u q = V at E
 subst E
 have ho : opB d.op = false := by rw [h]; decide
 have ho2 : opB 25 = false := by decide
 go_enter Tryz.func41, Tryz.ntmps41
 go_wp2_with (go_at_call 73; refine (opI _ _).mono ?_; rintro e w' ⟨rfl, rfl⟩)
 go_ret
 exact ⟨rfl, (Below.refl _ _).alloc (Nat.le_refl _) _⟩
set_option maxHeartbeats 2000000 in
theorem kind_26 (d : InstD) (u : Option Addr) (q : Nat) (w : World) (h : d.op = 26) :
  Calls Tryz.prog 41 #[.agg #[.int .i64 d.op, .int .i64 d.w, .int .i64 d.a, .int .i64 d.b, .int .i64 d.c, .int .i64 d.imm, .slice u d.args.length q]] w fun e w' => e = .returned (kindV d u q) ∧ Below w.heap.size w w' := by
 have E := kv_26 (u := u) (q := q) h
 generalize kindV d u q = V at E
 subst E
 have ho : opB d.op = false := by rw [h]; decide
 have ho2 : opB 26 = false := by decide
 go_enter Tryz.func41, Tryz.ntmps41
 go_wp2_with (go_at_call 73; refine (opI _ _).mono ?_; rintro e w' ⟨rfl, rfl⟩)
 go_ret
 exact ⟨rfl, (Below.refl _ _).alloc (Nat.le_refl _) _⟩
set_option maxHeartbeats 2000000 in
theorem kind_no (d : InstD) (u : Option Addr) (q : Nat) (w : World) (ho : opB d.op = false) (h : d.op < 1 ∨ 27 < d.op) :
  Calls Tryz.prog 41 #[.agg #[.int .i64 d.op, .int .i64 d.w, .int .i64 d.a, .int .i64 d.b, .int .i64 d.c, .int .i64 d.imm, .slice u d.args.length q]] w fun e w' => e = .returned (kindV d u q) ∧ Below w.heap.size w w' := by
 have E := kv_no (u := u) (q := q) ho h
 generalize kindV d u q = V at E
 subst E
 have n18 : (d.op == 18) = false := by simp; omega
 have n19 : (d.op == 19) = false := by simp; omega
 have n20 : (d.op == 20) = false := by simp; omega
 have n21 : (d.op == 21) = false := by simp; omega
 have n22 : (d.op == 22) = false := by simp; omega
 have n23 : (d.op == 23) = false := by simp; omega
 have n24 : (d.op == 24) = false := by simp; omega
 have n25 : (d.op == 25) = false := by simp; omega
 have n26 : (d.op == 26) = false := by simp; omega
 have n27 : (d.op == 27) = false := by simp; omega
 clear h
 go_enter Tryz.func41, Tryz.ntmps41
 go_wp2_with (go_at_call 73; refine (opI _ _).mono ?_; rintro e w' ⟨rfl, rfl⟩)
 go_ret
 exact ⟨rfl, (Below.refl _ _).alloc (Nat.le_refl _) _⟩
theorem op_split (n : Int) : opB n = true ∨ n = 18 ∨ n = 19 ∨ n = 20 ∨ n = 21 ∨ n = 22 ∨ n = 23 ∨ n = 24 ∨ n = 25 ∨ n = 26 ∨ n = 27 ∨ (opB n = false ∧ (n < 1 ∨ 27 < n)) := by
 by_cases h : opB n = true
 ·exact .inl h
 ·have h' : opB n = false := by simpa using h
  have h2 : n < 1 ∨ 17 < n := by simp [opB] at h; omega
  have h3 : n = 18 ∨ n = 19 ∨ n = 20 ∨ n = 21 ∨ n = 22 ∨ n = 23 ∨ n = 24 ∨ n = 25 ∨ n = 26 ∨ n = 27 ∨ (n < 1 ∨ 27 < n) := by omega
  rcases h3 with h3 | h3 | h3 | h3 | h3 | h3 | h3 | h3 | h3 | h3 | h3
  all_goals first | (simp [h3]; done) | exact .inr (.inr (.inr (.inr (.inr (.inr (.inr (.inr (.inr (.inr (.inr ⟨h', h3⟩))))))))))
theorem kind_any (d : InstD) (u : Option Addr) (q : Nat) (w : World) :
  Calls Tryz.prog 41 #[.agg #[.int .i64 d.op, .int .i64 d.w, .int .i64 d.a, .int .i64 d.b, .int .i64 d.c, .int .i64 d.imm, .slice u d.args.length q]] w fun e w' => e = .returned (kindV d u q) ∧ Below w.heap.size w w' := by
 rcases op_split d.op with h | h | h | h | h | h | h | h | h | h | h | ⟨ho, h⟩
 ·exact kind_bin d u q w h
 ·exact kind_18 d u q w h
 ·exact kind_19 d u q w h
 ·exact kind_20 d u q w h
 ·exact kind_21 d u q w h
 ·exact kind_22 d u q w h
 ·exact kind_23 d u q w h
 ·exact kind_24 d u q w h
 ·exact kind_25 d u q w h
 ·exact kind_26 d u q w h
 ·exact kind_27 d u q w h
 ·exact kind_no d u q w ho h
abbrev AsN (S B : TypeId) (z : Value) : Prop := ∀ (v : Value) (w : World), (Instr.typeAssert (.iface S v) 80 B true).run Tryz.prog w = .ok (.tuple #[z, .bool false]) w
abbrev AsY (S : TypeId) : Prop := ∀ (v : Value) (w : World), (Instr.typeAssert (.iface S v) 80 S true).run Tryz.prog w = .ok (.tuple #[v, .bool true]) w
theorem as_binaryKind_binaryKind : AsY 118 := fun _ _ => by kernel_rfl
theorem as_binaryKind_constKind : AsN 118 125 (.agg #[.int .i64 0]) := fun _ _ => by kernel_rfl
theorem as_binaryKind_loadKind : AsN 118 128 (.agg #[.int .i64 0]) := fun _ _ => by kernel_rfl
theorem as_binaryKind_storeKind : AsN 118 129 (.agg #[.int .i64 0, .int .i64 0]) := fun _ _ => by kernel_rfl
theorem as_binaryKind_printKind : AsN 118 130 (.agg #[.int .i64 0]) := fun _ _ => by kernel_rfl
theorem as_binaryKind_callKind : AsN 118 132 (.agg #[.int .i64 0, .slice none 0 0]) := fun _ _ => by kernel_rfl
theorem as_binaryKind_strangeKind : AsN 118 134 (.agg #[]) := fun _ _ => by kernel_rfl
theorem as_unaryKind_binaryKind : AsN 123 118 (.agg #[.int .i64 0, .int .i64 0]) := fun _ _ => by kernel_rfl
theorem as_unaryKind_unaryKind : AsY 123 := fun _ _ => by kernel_rfl
theorem as_unaryKind_constKind : AsN 123 125 (.agg #[.int .i64 0]) := fun _ _ => by kernel_rfl
theorem as_unaryKind_loadKind : AsN 123 128 (.agg #[.int .i64 0]) := fun _ _ => by kernel_rfl
theorem as_unaryKind_storeKind : AsN 123 129 (.agg #[.int .i64 0, .int .i64 0]) := fun _ _ => by kernel_rfl
theorem as_unaryKind_printKind : AsN 123 130 (.agg #[.int .i64 0]) := fun _ _ => by kernel_rfl
theorem as_unaryKind_callKind : AsN 123 132 (.agg #[.int .i64 0, .slice none 0 0]) := fun _ _ => by kernel_rfl
theorem as_unaryKind_strangeKind : AsN 123 134 (.agg #[]) := fun _ _ => by kernel_rfl
theorem as_constKind_binaryKind : AsN 125 118 (.agg #[.int .i64 0, .int .i64 0]) := fun _ _ => by kernel_rfl
theorem as_constKind_unaryKind : AsN 125 123 (.agg #[.int .i64 0]) := fun _ _ => by kernel_rfl
theorem as_constKind_constKind : AsY 125 := fun _ _ => by kernel_rfl
theorem as_constKind_selectKind : AsN 125 127 (.agg #[.int .i64 0, .int .i64 0, .int .i64 0]) := fun _ _ => by kernel_rfl
theorem as_constKind_loadKind : AsN 125 128 (.agg #[.int .i64 0]) := fun _ _ => by kernel_rfl
theorem as_constKind_storeKind : AsN 125 129 (.agg #[.int .i64 0, .int .i64 0]) := fun _ _ => by kernel_rfl
theorem as_constKind_printKind : AsN 125 130 (.agg #[.int .i64 0]) := fun _ _ => by kernel_rfl
theorem as_constKind_callKind : AsN 125 132 (.agg #[.int .i64 0, .slice none 0 0]) := fun _ _ => by kernel_rfl
theorem as_constKind_strangeKind : AsN 125 134 (.agg #[]) := fun _ _ => by kernel_rfl
theorem as_selectKind_binaryKind : AsN 127 118 (.agg #[.int .i64 0, .int .i64 0]) := fun _ _ => by kernel_rfl
theorem as_selectKind_unaryKind : AsN 127 123 (.agg #[.int .i64 0]) := fun _ _ => by kernel_rfl
theorem as_selectKind_constKind : AsN 127 125 (.agg #[.int .i64 0]) := fun _ _ => by kernel_rfl
theorem as_selectKind_selectKind : AsY 127 := fun _ _ => by kernel_rfl
theorem as_selectKind_loadKind : AsN 127 128 (.agg #[.int .i64 0]) := fun _ _ => by kernel_rfl
theorem as_selectKind_storeKind : AsN 127 129 (.agg #[.int .i64 0, .int .i64 0]) := fun _ _ => by kernel_rfl
theorem as_selectKind_printKind : AsN 127 130 (.agg #[.int .i64 0]) := fun _ _ => by kernel_rfl
theorem as_selectKind_callKind : AsN 127 132 (.agg #[.int .i64 0, .slice none 0 0]) := fun _ _ => by kernel_rfl
theorem as_selectKind_strangeKind : AsN 127 134 (.agg #[]) := fun _ _ => by kernel_rfl
theorem as_loadKind_binaryKind : AsN 128 118 (.agg #[.int .i64 0, .int .i64 0]) := fun _ _ => by kernel_rfl
theorem as_loadKind_unaryKind : AsN 128 123 (.agg #[.int .i64 0]) := fun _ _ => by kernel_rfl
theorem as_loadKind_constKind : AsN 128 125 (.agg #[.int .i64 0]) := fun _ _ => by kernel_rfl
theorem as_loadKind_selectKind : AsN 128 127 (.agg #[.int .i64 0, .int .i64 0, .int .i64 0]) := fun _ _ => by kernel_rfl
theorem as_loadKind_loadKind : AsY 128 := fun _ _ => by kernel_rfl
theorem as_loadKind_storeKind : AsN 128 129 (.agg #[.int .i64 0, .int .i64 0]) := fun _ _ => by kernel_rfl
theorem as_loadKind_printKind : AsN 128 130 (.agg #[.int .i64 0]) := fun _ _ => by kernel_rfl
theorem as_loadKind_callKind : AsN 128 132 (.agg #[.int .i64 0, .slice none 0 0]) := fun _ _ => by kernel_rfl
theorem as_loadKind_strangeKind : AsN 128 134 (.agg #[]) := fun _ _ => by kernel_rfl
theorem as_storeKind_binaryKind : AsN 129 118 (.agg #[.int .i64 0, .int .i64 0]) := fun _ _ => by kernel_rfl
theorem as_storeKind_unaryKind : AsN 129 123 (.agg #[.int .i64 0]) := fun _ _ => by kernel_rfl
theorem as_storeKind_constKind : AsN 129 125 (.agg #[.int .i64 0]) := fun _ _ => by kernel_rfl
theorem as_storeKind_selectKind : AsN 129 127 (.agg #[.int .i64 0, .int .i64 0, .int .i64 0]) := fun _ _ => by kernel_rfl
theorem as_storeKind_loadKind : AsN 129 128 (.agg #[.int .i64 0]) := fun _ _ => by kernel_rfl
theorem as_storeKind_storeKind : AsY 129 := fun _ _ => by kernel_rfl
theorem as_storeKind_printKind : AsN 129 130 (.agg #[.int .i64 0]) := fun _ _ => by kernel_rfl
theorem as_storeKind_callKind : AsN 129 132 (.agg #[.int .i64 0, .slice none 0 0]) := fun _ _ => by kernel_rfl
theorem as_storeKind_strangeKind : AsN 129 134 (.agg #[]) := fun _ _ => by kernel_rfl
theorem as_printKind_binaryKind : AsN 130 118 (.agg #[.int .i64 0, .int .i64 0]) := fun _ _ => by kernel_rfl
theorem as_printKind_unaryKind : AsN 130 123 (.agg #[.int .i64 0]) := fun _ _ => by kernel_rfl
theorem as_printKind_constKind : AsN 130 125 (.agg #[.int .i64 0]) := fun _ _ => by kernel_rfl
theorem as_printKind_selectKind : AsN 130 127 (.agg #[.int .i64 0, .int .i64 0, .int .i64 0]) := fun _ _ => by kernel_rfl
theorem as_printKind_loadKind : AsN 130 128 (.agg #[.int .i64 0]) := fun _ _ => by kernel_rfl
theorem as_printKind_storeKind : AsN 130 129 (.agg #[.int .i64 0, .int .i64 0]) := fun _ _ => by kernel_rfl
theorem as_printKind_printKind : AsY 130 := fun _ _ => by kernel_rfl
theorem as_printKind_callKind : AsN 130 132 (.agg #[.int .i64 0, .slice none 0 0]) := fun _ _ => by kernel_rfl
theorem as_printKind_strangeKind : AsN 130 134 (.agg #[]) := fun _ _ => by kernel_rfl
theorem as_callKind_binaryKind : AsN 132 118 (.agg #[.int .i64 0, .int .i64 0]) := fun _ _ => by kernel_rfl
theorem as_callKind_unaryKind : AsN 132 123 (.agg #[.int .i64 0]) := fun _ _ => by kernel_rfl
theorem as_callKind_constKind : AsN 132 125 (.agg #[.int .i64 0]) := fun _ _ => by kernel_rfl
theorem as_callKind_selectKind : AsN 132 127 (.agg #[.int .i64 0, .int .i64 0, .int .i64 0]) := fun _ _ => by kernel_rfl
theorem as_callKind_loadKind : AsN 132 128 (.agg #[.int .i64 0]) := fun _ _ => by kernel_rfl
theorem as_callKind_storeKind : AsN 132 129 (.agg #[.int .i64 0, .int .i64 0]) := fun _ _ => by kernel_rfl
theorem as_callKind_printKind : AsN 132 130 (.agg #[.int .i64 0]) := fun _ _ => by kernel_rfl
theorem as_callKind_callKind : AsY 132 := fun _ _ => by kernel_rfl
theorem as_callKind_strangeKind : AsN 132 134 (.agg #[]) := fun _ _ => by kernel_rfl
theorem as_strangeKind_binaryKind : AsN 134 118 (.agg #[.int .i64 0, .int .i64 0]) := fun _ _ => by kernel_rfl
theorem as_strangeKind_unaryKind : AsN 134 123 (.agg #[.int .i64 0]) := fun _ _ => by kernel_rfl
theorem as_strangeKind_constKind : AsN 134 125 (.agg #[.int .i64 0]) := fun _ _ => by kernel_rfl
theorem as_strangeKind_selectKind : AsN 134 127 (.agg #[.int .i64 0, .int .i64 0, .int .i64 0]) := fun _ _ => by kernel_rfl
theorem as_strangeKind_loadKind : AsN 134 128 (.agg #[.int .i64 0]) := fun _ _ => by kernel_rfl
theorem as_strangeKind_storeKind : AsN 134 129 (.agg #[.int .i64 0, .int .i64 0]) := fun _ _ => by kernel_rfl
theorem as_strangeKind_printKind : AsN 134 130 (.agg #[.int .i64 0]) := fun _ _ => by kernel_rfl
theorem as_strangeKind_callKind : AsN 134 132 (.agg #[.int .i64 0, .slice none 0 0]) := fun _ _ => by kernel_rfl
theorem as_strangeKind_strangeKind : AsY 134 := fun _ _ => by kernel_rfl
end Go.Proofs.YtgojlnclpebdcaaGreatDoor
namespace Go.Proofs.YtgojlnclpebdcaaGreatDoor
open Go.RowKit
def instW (d : InstD) : Int := if opB d.op = true then resZ d.op d.w else d.w
set_option maxHeartbeats 2000000 in
set_option maxRecDepth 100000 in
theorem it_bin (d : InstD) (u : Option Addr) (q : Nat) (w : World) (h : opB d.op = true) :
  Calls Tryz.prog 38 #[.agg #[.int .i64 d.op, .int .i64 d.w, .int .i64 d.a, .int .i64 d.b, .int .i64 d.c, .int .i64 d.imm, .slice u d.args.length q]] w fun e w' => e = .returned (.int .i64 (instW d)) ∧ Below w.heap.size w w' := by
 have HK : Hid (kindV d u q = .iface 118 (.agg #[.int .i64 d.a, .int .i64 d.b])) := kv_bin h
 have HR : Hid (resZ d.op d.w = instW d) := by show _ = _; rw [instW, if_pos h]
 have has := as_binaryKind_binaryKind
 go_enter Tryz.func38, Tryz.ntmps38
 go_wp2_with (first | (go_at_call 41; refine (kind_any d u q _).mono ?_; rintro e w1 ⟨rfl, hb1⟩; rw [HK.out]; have hcc := bcell hb1) | (go_at_call 69; refine (resI _ _ _).mono ?_; rintro e w' ⟨rfl, rfl⟩))
 go_ret
 exact ⟨ret_int HR.out, ((Below.refl w.heap.size w).alloc (Nat.le_refl _) _).trans (hb1.mono (by simp))⟩
set_option maxHeartbeats 2000000 in
set_option maxRecDepth 100000 in
theorem it_z (d : InstD) (u : Option Addr) (q : Nat) (w : World) (T : TypeId) (V : Value) (HK : Hid (kindV d u q = .iface T V)) (HR : Hid (d.w = instW d)) (has : AsN T 118 (.agg #[.int .i64 0, .int .i64 0])) :
  Calls Tryz.prog 38 #[.agg #[.int .i64 d.op, .int .i64 d.w, .int .i64 d.a, .int .i64 d.b, .int .i64 d.c, .int .i64 d.imm, .slice u d.args.length q]] w fun e w' => e = .returned (.int .i64 (instW d)) ∧ Below w.heap.size w w' := by
 go_enter Tryz.func38, Tryz.ntmps38
 go_wp2_with (first | (go_at_call 41; refine (kind_any d u q _).mono ?_; rintro e w1 ⟨rfl, hb1⟩; rw [HK.out]; have hcc := bcell hb1) | (go_at_call 69; refine (resI _ _ _).mono ?_; rintro e w' ⟨rfl, rfl⟩))
 go_ret
 exact ⟨ret_int HR.out, ((Below.refl w.heap.size w).alloc (Nat.le_refl _) _).trans (hb1.mono (by simp))⟩
theorem instI_any (d : InstD) (u : Option Addr) (q : Nat) (w : World) :
  Calls Tryz.prog 38 #[.agg #[.int .i64 d.op, .int .i64 d.w, .int .i64 d.a, .int .i64 d.b, .int .i64 d.c, .int .i64 d.imm, .slice u d.args.length q]] w fun e w' => e = .returned (.int .i64 (instW d)) ∧ Below w.heap.size w w' := by
 rcases op_split d.op with h | h | h | h | h | h | h | h | h | h | h | ⟨ho, h⟩
 ·exact it_bin d u q w h
 ·exact it_z d u q w _ _ (kv_18 h) (by show _ = _; rw [instW, h]; rfl) as_unaryKind_binaryKind
 ·exact it_z d u q w _ _ (kv_19 h) (by show _ = _; rw [instW, h]; rfl) as_unaryKind_binaryKind
 ·exact it_z d u q w _ _ (kv_20 h) (by show _ = _; rw [instW, h]; rfl) as_unaryKind_binaryKind
 ·exact it_z d u q w _ _ (kv_21 h) (by show _ = _; rw [instW, h]; rfl) as_constKind_binaryKind
 ·exact it_z d u q w _ _ (kv_22 h) (by show _ = _; rw [instW, h]; rfl) as_selectKind_binaryKind
 ·exact it_z d u q w _ _ (kv_23 h) (by show _ = _; rw [instW, h]; rfl) as_loadKind_binaryKind
 ·exact it_z d u q w _ _ (kv_24 h) (by show _ = _; rw [instW, h]; rfl) as_storeKind_binaryKind
 ·exact it_z d u q w _ _ (kv_25 h) (by show _ = _; rw [instW, h]; rfl) as_printKind_binaryKind
 ·exact it_z d u q w _ _ (kv_26 h) (by show _ = _; rw [instW, h]; rfl) as_callKind_binaryKind
 ·exact it_z d u q w _ _ (kv_27 h) (by show _ = _; rw [instW, h]; rfl) as_unaryKind_binaryKind
 ·exact it_z d u q w _ _ (kv_no ho h) (by show _ = _; rw [instW, ho]; rfl) as_strangeKind_binaryKind
set_option maxHeartbeats 2000000 in
theorem instS_any (d : InstD) (u : Option Addr) (q : Nat) (w : World) :
  Calls Tryz.prog 130 #[.agg #[.int .i64 d.op, .int .i64 d.w, .int .i64 d.a, .int .i64 d.b, .int .i64 d.c, .int .i64 d.imm, .slice u d.args.length q]] w fun e w' => e = .returned (.int .i64 (instW d)) ∧ Below w.heap.size w w' := by
 by_cases h : opB d.op = true
 ·have HR : Hid (resZ d.op d.w = instW d) := by show _ = _; rw [instW, if_pos h]
  have dd : (decide (1 ≤ d.op) && decide (d.op ≤ 17)) = true := h
  clear h
  go_enter Tryz.func130, Tryz.ntmps130
  go_wp2_with (first | (go_at_call 32; refine (inS _ _ _ _).mono ?_; rintro e w' ⟨rfl, rfl⟩) | (go_at_call 144; refine (resS _ _ _).mono ?_; rintro e w' ⟨rfl, rfl⟩))
  go_ret
  exact ⟨ret_int HR.out, (Below.refl _ _).alloc (Nat.le_refl _) _⟩
 ·have h' : opB d.op = false := by simpa using h
  have HR : Hid (d.w = instW d) := by show _ = _; rw [instW, if_neg h]
  have dd : (decide (1 ≤ d.op) && decide (d.op ≤ 17)) = false := h'
  clear h h'
  go_enter Tryz.func130, Tryz.ntmps130
  go_wp2_with (first | (go_at_call 32; refine (inS _ _ _ _).mono ?_; rintro e w' ⟨rfl, rfl⟩))
  go_ret
  exact ⟨ret_int HR.out, (Below.refl _ _).alloc (Nat.le_refl _) _⟩
end Go.Proofs.YtgojlnclpebdcaaGreatDoor
