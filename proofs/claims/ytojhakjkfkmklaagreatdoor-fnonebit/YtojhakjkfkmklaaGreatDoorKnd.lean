/- An instruction as its op sees it: the contract of kindOf, and the width that an instruction gives. -/
import Derived.Test.YtojhakjkfkmklaaGreatDoorRvrQ
namespace Go.Proofs.YtojhakjkfkmklaaGreatDoor
open Go.RowKit

/-- The value behind the interface that kindOf makes. -/
def kindV (d : InstD) (u : Option Addr) (q : Nat) : Value :=
  if opB d.op = true then .iface 165 (.agg #[.int .i64 d.a, .int .i64 d.b])
  else if d.op = 18 ∨ d.op = 19 ∨ d.op = 20 ∨ d.op = 27 then .iface 167 (.agg #[.int .i64 d.a])
  else if d.op = 21 then .iface 169 (.agg #[.int .i64 d.imm])
  else if d.op = 22 then .iface 171 (.agg #[.int .i64 d.a, .int .i64 d.b, .int .i64 d.c])
  else if d.op = 23 then .iface 172 (.agg #[.int .i64 d.a])
  else if d.op = 24 then .iface 173 (.agg #[.int .i64 d.a, .int .i64 d.b])
  else if d.op = 25 then .iface 174 (.agg #[.int .i64 d.a])
  else if d.op = 26 then .iface 176 (.agg #[.int .i64 d.imm, .slice u d.args.length q])
  else .iface 178 (.agg #[])
theorem kv_bin {d : InstD} {u : Option Addr} {q : Nat} (h : opB d.op = true) : kindV d u q = .iface 165 (.agg #[.int .i64 d.a, .int .i64 d.b]) := by rw [kindV, if_pos h]
theorem op_no {n : Int} (h : 18 ≤ n) : opB n = false := by simp [opB]; omega
theorem kv_18 {d : InstD} {u : Option Addr} {q : Nat} (h : d.op = 18) : kindV d u q = .iface 167 (.agg #[.int .i64 d.a]) := by
  have ho : opB 18 = false := by decide
  simp [kindV, h, ho]
theorem kv_19 {d : InstD} {u : Option Addr} {q : Nat} (h : d.op = 19) : kindV d u q = .iface 167 (.agg #[.int .i64 d.a]) := by
  have ho : opB 19 = false := by decide
  simp [kindV, h, ho]
theorem kv_20 {d : InstD} {u : Option Addr} {q : Nat} (h : d.op = 20) : kindV d u q = .iface 167 (.agg #[.int .i64 d.a]) := by
  have ho : opB 20 = false := by decide
  simp [kindV, h, ho]
theorem kv_27 {d : InstD} {u : Option Addr} {q : Nat} (h : d.op = 27) : kindV d u q = .iface 167 (.agg #[.int .i64 d.a]) := by
  have ho : opB 27 = false := by decide
  simp [kindV, h, ho]
theorem kv_21 {d : InstD} {u : Option Addr} {q : Nat} (h : d.op = 21) : kindV d u q = .iface 169 (.agg #[.int .i64 d.imm]) := by
  have ho : opB 21 = false := by decide
  simp [kindV, h, ho]
theorem kv_22 {d : InstD} {u : Option Addr} {q : Nat} (h : d.op = 22) : kindV d u q = .iface 171 (.agg #[.int .i64 d.a, .int .i64 d.b, .int .i64 d.c]) := by
  have ho : opB 22 = false := by decide
  simp [kindV, h, ho]
theorem kv_23 {d : InstD} {u : Option Addr} {q : Nat} (h : d.op = 23) : kindV d u q = .iface 172 (.agg #[.int .i64 d.a]) := by
  have ho : opB 23 = false := by decide
  simp [kindV, h, ho]
theorem kv_24 {d : InstD} {u : Option Addr} {q : Nat} (h : d.op = 24) : kindV d u q = .iface 173 (.agg #[.int .i64 d.a, .int .i64 d.b]) := by
  have ho : opB 24 = false := by decide
  simp [kindV, h, ho]
theorem kv_25 {d : InstD} {u : Option Addr} {q : Nat} (h : d.op = 25) : kindV d u q = .iface 174 (.agg #[.int .i64 d.a]) := by
  have ho : opB 25 = false := by decide
  simp [kindV, h, ho]
theorem kv_26 {d : InstD} {u : Option Addr} {q : Nat} (h : d.op = 26) : kindV d u q = .iface 176 (.agg #[.int .i64 d.imm, .slice u d.args.length q]) := by
  have ho : opB 26 = false := by decide
  simp [kindV, h, ho]
theorem kv_no {d : InstD} {u : Option Addr} {q : Nat} (h0 : opB d.op = false) (h : d.op < 1 ∨ 27 < d.op) : kindV d u q = .iface 178 (.agg #[]) := by
  rw [kindV, if_neg (by simp [h0]), if_neg (by omega), if_neg (by omega), if_neg (by omega), if_neg (by omega), if_neg (by omega), if_neg (by omega), if_neg (by omega)]
set_option maxHeartbeats 2000000 in
theorem kind_bin (d : InstD) (u : Option Addr) (q : Nat) (w : World) (h : opB d.op = true) :
    Calls Tryz.prog 136 #[.agg #[.int .i64 d.op, .int .i64 d.w, .int .i64 d.a, .int .i64 d.b, .int .i64 d.c, .int .i64 d.imm, .slice u d.args.length q]] w fun e w' => e = .returned (kindV d u q) ∧ Below w.heap.size w w' := by
  have E := kv_bin (u := u) (q := q) h
  generalize kindV d u q = V at E
  subst E
  go_enter Tryz.func136, Tryz.ntmps136
  go_wp2_with (go_at_call 148; refine (opI _ _).mono ?_; rintro e w' ⟨rfl, rfl⟩)
  go_ret
  exact ⟨rfl, (Below.refl _ _).alloc (Nat.le_refl _) _⟩
set_option maxHeartbeats 2000000 in
theorem kind_18 (d : InstD) (u : Option Addr) (q : Nat) (w : World) (h : d.op = 18) :
    Calls Tryz.prog 136 #[.agg #[.int .i64 d.op, .int .i64 d.w, .int .i64 d.a, .int .i64 d.b, .int .i64 d.c, .int .i64 d.imm, .slice u d.args.length q]] w fun e w' => e = .returned (kindV d u q) ∧ Below w.heap.size w w' := by
  have E := kv_18 (u := u) (q := q) h
  generalize kindV d u q = V at E
  subst E
  have ho : opB d.op = false := by rw [h]; decide
  have ho2 : opB 18 = false := by decide
  go_enter Tryz.func136, Tryz.ntmps136
  go_wp2_with (go_at_call 148; refine (opI _ _).mono ?_; rintro e w' ⟨rfl, rfl⟩)
  go_ret
  exact ⟨rfl, (Below.refl _ _).alloc (Nat.le_refl _) _⟩
set_option maxHeartbeats 2000000 in
theorem kind_19 (d : InstD) (u : Option Addr) (q : Nat) (w : World) (h : d.op = 19) :
    Calls Tryz.prog 136 #[.agg #[.int .i64 d.op, .int .i64 d.w, .int .i64 d.a, .int .i64 d.b, .int .i64 d.c, .int .i64 d.imm, .slice u d.args.length q]] w fun e w' => e = .returned (kindV d u q) ∧ Below w.heap.size w w' := by
  have E := kv_19 (u := u) (q := q) h
  generalize kindV d u q = V at E
  subst E
  have ho : opB d.op = false := by rw [h]; decide
  have ho2 : opB 19 = false := by decide
  go_enter Tryz.func136, Tryz.ntmps136
  go_wp2_with (go_at_call 148; refine (opI _ _).mono ?_; rintro e w' ⟨rfl, rfl⟩)
  go_ret
  exact ⟨rfl, (Below.refl _ _).alloc (Nat.le_refl _) _⟩
set_option maxHeartbeats 2000000 in
theorem kind_20 (d : InstD) (u : Option Addr) (q : Nat) (w : World) (h : d.op = 20) :
    Calls Tryz.prog 136 #[.agg #[.int .i64 d.op, .int .i64 d.w, .int .i64 d.a, .int .i64 d.b, .int .i64 d.c, .int .i64 d.imm, .slice u d.args.length q]] w fun e w' => e = .returned (kindV d u q) ∧ Below w.heap.size w w' := by
  have E := kv_20 (u := u) (q := q) h
  generalize kindV d u q = V at E
  subst E
  have ho : opB d.op = false := by rw [h]; decide
  have ho2 : opB 20 = false := by decide
  go_enter Tryz.func136, Tryz.ntmps136
  go_wp2_with (go_at_call 148; refine (opI _ _).mono ?_; rintro e w' ⟨rfl, rfl⟩)
  go_ret
  exact ⟨rfl, (Below.refl _ _).alloc (Nat.le_refl _) _⟩
set_option maxHeartbeats 2000000 in
theorem kind_27 (d : InstD) (u : Option Addr) (q : Nat) (w : World) (h : d.op = 27) :
    Calls Tryz.prog 136 #[.agg #[.int .i64 d.op, .int .i64 d.w, .int .i64 d.a, .int .i64 d.b, .int .i64 d.c, .int .i64 d.imm, .slice u d.args.length q]] w fun e w' => e = .returned (kindV d u q) ∧ Below w.heap.size w w' := by
  have E := kv_27 (u := u) (q := q) h
  generalize kindV d u q = V at E
  subst E
  have ho : opB d.op = false := by rw [h]; decide
  have ho2 : opB 27 = false := by decide
  go_enter Tryz.func136, Tryz.ntmps136
  go_wp2_with (go_at_call 148; refine (opI _ _).mono ?_; rintro e w' ⟨rfl, rfl⟩)
  go_ret
  exact ⟨rfl, (Below.refl _ _).alloc (Nat.le_refl _) _⟩
set_option maxHeartbeats 2000000 in
theorem kind_21 (d : InstD) (u : Option Addr) (q : Nat) (w : World) (h : d.op = 21) :
    Calls Tryz.prog 136 #[.agg #[.int .i64 d.op, .int .i64 d.w, .int .i64 d.a, .int .i64 d.b, .int .i64 d.c, .int .i64 d.imm, .slice u d.args.length q]] w fun e w' => e = .returned (kindV d u q) ∧ Below w.heap.size w w' := by
  have E := kv_21 (u := u) (q := q) h
  generalize kindV d u q = V at E
  subst E
  have ho : opB d.op = false := by rw [h]; decide
  have ho2 : opB 21 = false := by decide
  go_enter Tryz.func136, Tryz.ntmps136
  go_wp2_with (go_at_call 148; refine (opI _ _).mono ?_; rintro e w' ⟨rfl, rfl⟩)
  go_ret
  exact ⟨rfl, (Below.refl _ _).alloc (Nat.le_refl _) _⟩
set_option maxHeartbeats 2000000 in
theorem kind_22 (d : InstD) (u : Option Addr) (q : Nat) (w : World) (h : d.op = 22) :
    Calls Tryz.prog 136 #[.agg #[.int .i64 d.op, .int .i64 d.w, .int .i64 d.a, .int .i64 d.b, .int .i64 d.c, .int .i64 d.imm, .slice u d.args.length q]] w fun e w' => e = .returned (kindV d u q) ∧ Below w.heap.size w w' := by
  have E := kv_22 (u := u) (q := q) h
  generalize kindV d u q = V at E
  subst E
  have ho : opB d.op = false := by rw [h]; decide
  have ho2 : opB 22 = false := by decide
  go_enter Tryz.func136, Tryz.ntmps136
  go_wp2_with (go_at_call 148; refine (opI _ _).mono ?_; rintro e w' ⟨rfl, rfl⟩)
  go_ret
  exact ⟨rfl, (Below.refl _ _).alloc (Nat.le_refl _) _⟩
set_option maxHeartbeats 2000000 in
theorem kind_23 (d : InstD) (u : Option Addr) (q : Nat) (w : World) (h : d.op = 23) :
    Calls Tryz.prog 136 #[.agg #[.int .i64 d.op, .int .i64 d.w, .int .i64 d.a, .int .i64 d.b, .int .i64 d.c, .int .i64 d.imm, .slice u d.args.length q]] w fun e w' => e = .returned (kindV d u q) ∧ Below w.heap.size w w' := by
  have E := kv_23 (u := u) (q := q) h
  generalize kindV d u q = V at E
  subst E
  have ho : opB d.op = false := by rw [h]; decide
  have ho2 : opB 23 = false := by decide
  go_enter Tryz.func136, Tryz.ntmps136
  go_wp2_with (go_at_call 148; refine (opI _ _).mono ?_; rintro e w' ⟨rfl, rfl⟩)
  go_ret
  exact ⟨rfl, (Below.refl _ _).alloc (Nat.le_refl _) _⟩
set_option maxHeartbeats 2000000 in
theorem kind_24 (d : InstD) (u : Option Addr) (q : Nat) (w : World) (h : d.op = 24) :
    Calls Tryz.prog 136 #[.agg #[.int .i64 d.op, .int .i64 d.w, .int .i64 d.a, .int .i64 d.b, .int .i64 d.c, .int .i64 d.imm, .slice u d.args.length q]] w fun e w' => e = .returned (kindV d u q) ∧ Below w.heap.size w w' := by
  have E := kv_24 (u := u) (q := q) h
  generalize kindV d u q = V at E
  subst E
  have ho : opB d.op = false := by rw [h]; decide
  have ho2 : opB 24 = false := by decide
  go_enter Tryz.func136, Tryz.ntmps136
  go_wp2_with (go_at_call 148; refine (opI _ _).mono ?_; rintro e w' ⟨rfl, rfl⟩)
  go_ret
  exact ⟨rfl, (Below.refl _ _).alloc (Nat.le_refl _) _⟩
set_option maxHeartbeats 2000000 in
theorem kind_25 (d : InstD) (u : Option Addr) (q : Nat) (w : World) (h : d.op = 25) :
    Calls Tryz.prog 136 #[.agg #[.int .i64 d.op, .int .i64 d.w, .int .i64 d.a, .int .i64 d.b, .int .i64 d.c, .int .i64 d.imm, .slice u d.args.length q]] w fun e w' => e = .returned (kindV d u q) ∧ Below w.heap.size w w' := by
  have E := kv_25 (u := u) (q := q) h
  generalize kindV d u q = V at E
  subst E
  have ho : opB d.op = false := by rw [h]; decide
  have ho2 : opB 25 = false := by decide
  go_enter Tryz.func136, Tryz.ntmps136
  go_wp2_with (go_at_call 148; refine (opI _ _).mono ?_; rintro e w' ⟨rfl, rfl⟩)
  go_ret
  exact ⟨rfl, (Below.refl _ _).alloc (Nat.le_refl _) _⟩
set_option maxHeartbeats 2000000 in
theorem kind_26 (d : InstD) (u : Option Addr) (q : Nat) (w : World) (h : d.op = 26) :
    Calls Tryz.prog 136 #[.agg #[.int .i64 d.op, .int .i64 d.w, .int .i64 d.a, .int .i64 d.b, .int .i64 d.c, .int .i64 d.imm, .slice u d.args.length q]] w fun e w' => e = .returned (kindV d u q) ∧ Below w.heap.size w w' := by
  have E := kv_26 (u := u) (q := q) h
  generalize kindV d u q = V at E
  subst E
  have ho : opB d.op = false := by rw [h]; decide
  have ho2 : opB 26 = false := by decide
  go_enter Tryz.func136, Tryz.ntmps136
  go_wp2_with (go_at_call 148; refine (opI _ _).mono ?_; rintro e w' ⟨rfl, rfl⟩)
  go_ret
  exact ⟨rfl, (Below.refl _ _).alloc (Nat.le_refl _) _⟩
set_option maxHeartbeats 2000000 in
theorem kind_no (d : InstD) (u : Option Addr) (q : Nat) (w : World) (ho : opB d.op = false) (h : d.op < 1 ∨ 27 < d.op) :
    Calls Tryz.prog 136 #[.agg #[.int .i64 d.op, .int .i64 d.w, .int .i64 d.a, .int .i64 d.b, .int .i64 d.c, .int .i64 d.imm, .slice u d.args.length q]] w fun e w' => e = .returned (kindV d u q) ∧ Below w.heap.size w w' := by
  have E := kv_no (u := u) (q := q) ho h
  generalize kindV d u q = V at E
  subst E
  have n18 : (d.op == 18) = false := by simp; omega
  have n19 : (d.op == 19) = false := by simp; omega
  have n20 : (d.op == 20) = false := by simp; omega
  have n21 : (d.op == 21) = false := by simp; omega
  have n22 : (d.op == 22) = false := by simp; omega
  have n23 : (d.op == 23) = false := by simp; omega
  have n24 : (d.op == 24) = false := by simp; omega
  have n25 : (d.op == 25) = false := by simp; omega
  have n26 : (d.op == 26) = false := by simp; omega
  have n27 : (d.op == 27) = false := by simp; omega
  clear h
  go_enter Tryz.func136, Tryz.ntmps136
  go_wp2_with (go_at_call 148; refine (opI _ _).mono ?_; rintro e w' ⟨rfl, rfl⟩)
  go_ret
  exact ⟨rfl, (Below.refl _ _).alloc (Nat.le_refl _) _⟩
theorem op_split (n : Int) : opB n = true ∨ n = 18 ∨ n = 19 ∨ n = 20 ∨ n = 21 ∨ n = 22 ∨ n = 23 ∨ n = 24 ∨ n = 25 ∨ n = 26 ∨ n = 27 ∨ (opB n = false ∧ (n < 1 ∨ 27 < n)) := by
  by_cases h : opB n = true
  · exact .inl h
  · have h' : opB n = false := by simpa using h
    have h2 : n < 1 ∨ 17 < n := by simp [opB] at h; omega
    have h3 : n = 18 ∨ n = 19 ∨ n = 20 ∨ n = 21 ∨ n = 22 ∨ n = 23 ∨ n = 24 ∨ n = 25 ∨ n = 26 ∨ n = 27 ∨ (n < 1 ∨ 27 < n) := by omega
    rcases h3 with h3 | h3 | h3 | h3 | h3 | h3 | h3 | h3 | h3 | h3 | h3
    all_goals first | (simp [h3]; done) | exact .inr (.inr (.inr (.inr (.inr (.inr (.inr (.inr (.inr (.inr (.inr ⟨h', h3⟩))))))))))
theorem kind_any (d : InstD) (u : Option Addr) (q : Nat) (w : World) :
    Calls Tryz.prog 136 #[.agg #[.int .i64 d.op, .int .i64 d.w, .int .i64 d.a, .int .i64 d.b, .int .i64 d.c, .int .i64 d.imm, .slice u d.args.length q]] w fun e w' => e = .returned (kindV d u q) ∧ Below w.heap.size w w' := by
  rcases op_split d.op with h | h | h | h | h | h | h | h | h | h | h | ⟨ho, h⟩
  · exact kind_bin d u q w h
  · exact kind_18 d u q w h
  · exact kind_19 d u q w h
  · exact kind_20 d u q w h
  · exact kind_21 d u q w h
  · exact kind_22 d u q w h
  · exact kind_23 d u q w h
  · exact kind_24 d u q w h
  · exact kind_25 d u q w h
  · exact kind_26 d u q w h
  · exact kind_27 d u q w h
  · exact kind_no d u q w ho h
theorem as_binaryKind_binaryKind (v : Value) (w : World) : (Instr.typeAssert (.iface 165 v) 154 165 true).run Tryz.prog w = .ok (.tuple #[v, .bool true]) w := by kernel_rfl
theorem as_binaryKind_unaryKind (v : Value) (w : World) : (Instr.typeAssert (.iface 165 v) 154 167 true).run Tryz.prog w = .ok (.tuple #[.agg #[.int .i64 0], .bool false]) w := by kernel_rfl
theorem as_binaryKind_constKind (v : Value) (w : World) : (Instr.typeAssert (.iface 165 v) 154 169 true).run Tryz.prog w = .ok (.tuple #[.agg #[.int .i64 0], .bool false]) w := by kernel_rfl
theorem as_binaryKind_selectKind (v : Value) (w : World) : (Instr.typeAssert (.iface 165 v) 154 171 true).run Tryz.prog w = .ok (.tuple #[.agg #[.int .i64 0, .int .i64 0, .int .i64 0], .bool false]) w := by kernel_rfl
theorem as_binaryKind_loadKind (v : Value) (w : World) : (Instr.typeAssert (.iface 165 v) 154 172 true).run Tryz.prog w = .ok (.tuple #[.agg #[.int .i64 0], .bool false]) w := by kernel_rfl
theorem as_binaryKind_storeKind (v : Value) (w : World) : (Instr.typeAssert (.iface 165 v) 154 173 true).run Tryz.prog w = .ok (.tuple #[.agg #[.int .i64 0, .int .i64 0], .bool false]) w := by kernel_rfl
theorem as_binaryKind_printKind (v : Value) (w : World) : (Instr.typeAssert (.iface 165 v) 154 174 true).run Tryz.prog w = .ok (.tuple #[.agg #[.int .i64 0], .bool false]) w := by kernel_rfl
theorem as_binaryKind_callKind (v : Value) (w : World) : (Instr.typeAssert (.iface 165 v) 154 176 true).run Tryz.prog w = .ok (.tuple #[.agg #[.int .i64 0, .slice none 0 0], .bool false]) w := by kernel_rfl
theorem as_binaryKind_strangeKind (v : Value) (w : World) : (Instr.typeAssert (.iface 165 v) 154 178 true).run Tryz.prog w = .ok (.tuple #[.agg #[], .bool false]) w := by kernel_rfl
theorem as_unaryKind_binaryKind (v : Value) (w : World) : (Instr.typeAssert (.iface 167 v) 154 165 true).run Tryz.prog w = .ok (.tuple #[.agg #[.int .i64 0, .int .i64 0], .bool false]) w := by kernel_rfl
theorem as_unaryKind_unaryKind (v : Value) (w : World) : (Instr.typeAssert (.iface 167 v) 154 167 true).run Tryz.prog w = .ok (.tuple #[v, .bool true]) w := by kernel_rfl
theorem as_unaryKind_constKind (v : Value) (w : World) : (Instr.typeAssert (.iface 167 v) 154 169 true).run Tryz.prog w = .ok (.tuple #[.agg #[.int .i64 0], .bool false]) w := by kernel_rfl
theorem as_unaryKind_selectKind (v : Value) (w : World) : (Instr.typeAssert (.iface 167 v) 154 171 true).run Tryz.prog w = .ok (.tuple #[.agg #[.int .i64 0, .int .i64 0, .int .i64 0], .bool false]) w := by kernel_rfl
theorem as_unaryKind_loadKind (v : Value) (w : World) : (Instr.typeAssert (.iface 167 v) 154 172 true).run Tryz.prog w = .ok (.tuple #[.agg #[.int .i64 0], .bool false]) w := by kernel_rfl
theorem as_unaryKind_storeKind (v : Value) (w : World) : (Instr.typeAssert (.iface 167 v) 154 173 true).run Tryz.prog w = .ok (.tuple #[.agg #[.int .i64 0, .int .i64 0], .bool false]) w := by kernel_rfl
theorem as_unaryKind_printKind (v : Value) (w : World) : (Instr.typeAssert (.iface 167 v) 154 174 true).run Tryz.prog w = .ok (.tuple #[.agg #[.int .i64 0], .bool false]) w := by kernel_rfl
theorem as_unaryKind_callKind (v : Value) (w : World) : (Instr.typeAssert (.iface 167 v) 154 176 true).run Tryz.prog w = .ok (.tuple #[.agg #[.int .i64 0, .slice none 0 0], .bool false]) w := by kernel_rfl
theorem as_unaryKind_strangeKind (v : Value) (w : World) : (Instr.typeAssert (.iface 167 v) 154 178 true).run Tryz.prog w = .ok (.tuple #[.agg #[], .bool false]) w := by kernel_rfl
theorem as_constKind_binaryKind (v : Value) (w : World) : (Instr.typeAssert (.iface 169 v) 154 165 true).run Tryz.prog w = .ok (.tuple #[.agg #[.int .i64 0, .int .i64 0], .bool false]) w := by kernel_rfl
theorem as_constKind_unaryKind (v : Value) (w : World) : (Instr.typeAssert (.iface 169 v) 154 167 true).run Tryz.prog w = .ok (.tuple #[.agg #[.int .i64 0], .bool false]) w := by kernel_rfl
theorem as_constKind_constKind (v : Value) (w : World) : (Instr.typeAssert (.iface 169 v) 154 169 true).run Tryz.prog w = .ok (.tuple #[v, .bool true]) w := by kernel_rfl
theorem as_constKind_selectKind (v : Value) (w : World) : (Instr.typeAssert (.iface 169 v) 154 171 true).run Tryz.prog w = .ok (.tuple #[.agg #[.int .i64 0, .int .i64 0, .int .i64 0], .bool false]) w := by kernel_rfl
theorem as_constKind_loadKind (v : Value) (w : World) : (Instr.typeAssert (.iface 169 v) 154 172 true).run Tryz.prog w = .ok (.tuple #[.agg #[.int .i64 0], .bool false]) w := by kernel_rfl
theorem as_constKind_storeKind (v : Value) (w : World) : (Instr.typeAssert (.iface 169 v) 154 173 true).run Tryz.prog w = .ok (.tuple #[.agg #[.int .i64 0, .int .i64 0], .bool false]) w := by kernel_rfl
theorem as_constKind_printKind (v : Value) (w : World) : (Instr.typeAssert (.iface 169 v) 154 174 true).run Tryz.prog w = .ok (.tuple #[.agg #[.int .i64 0], .bool false]) w := by kernel_rfl
theorem as_constKind_callKind (v : Value) (w : World) : (Instr.typeAssert (.iface 169 v) 154 176 true).run Tryz.prog w = .ok (.tuple #[.agg #[.int .i64 0, .slice none 0 0], .bool false]) w := by kernel_rfl
theorem as_constKind_strangeKind (v : Value) (w : World) : (Instr.typeAssert (.iface 169 v) 154 178 true).run Tryz.prog w = .ok (.tuple #[.agg #[], .bool false]) w := by kernel_rfl
theorem as_selectKind_binaryKind (v : Value) (w : World) : (Instr.typeAssert (.iface 171 v) 154 165 true).run Tryz.prog w = .ok (.tuple #[.agg #[.int .i64 0, .int .i64 0], .bool false]) w := by kernel_rfl
theorem as_selectKind_unaryKind (v : Value) (w : World) : (Instr.typeAssert (.iface 171 v) 154 167 true).run Tryz.prog w = .ok (.tuple #[.agg #[.int .i64 0], .bool false]) w := by kernel_rfl
theorem as_selectKind_constKind (v : Value) (w : World) : (Instr.typeAssert (.iface 171 v) 154 169 true).run Tryz.prog w = .ok (.tuple #[.agg #[.int .i64 0], .bool false]) w := by kernel_rfl
theorem as_selectKind_selectKind (v : Value) (w : World) : (Instr.typeAssert (.iface 171 v) 154 171 true).run Tryz.prog w = .ok (.tuple #[v, .bool true]) w := by kernel_rfl
theorem as_selectKind_loadKind (v : Value) (w : World) : (Instr.typeAssert (.iface 171 v) 154 172 true).run Tryz.prog w = .ok (.tuple #[.agg #[.int .i64 0], .bool false]) w := by kernel_rfl
theorem as_selectKind_storeKind (v : Value) (w : World) : (Instr.typeAssert (.iface 171 v) 154 173 true).run Tryz.prog w = .ok (.tuple #[.agg #[.int .i64 0, .int .i64 0], .bool false]) w := by kernel_rfl
theorem as_selectKind_printKind (v : Value) (w : World) : (Instr.typeAssert (.iface 171 v) 154 174 true).run Tryz.prog w = .ok (.tuple #[.agg #[.int .i64 0], .bool false]) w := by kernel_rfl
theorem as_selectKind_callKind (v : Value) (w : World) : (Instr.typeAssert (.iface 171 v) 154 176 true).run Tryz.prog w = .ok (.tuple #[.agg #[.int .i64 0, .slice none 0 0], .bool false]) w := by kernel_rfl
theorem as_selectKind_strangeKind (v : Value) (w : World) : (Instr.typeAssert (.iface 171 v) 154 178 true).run Tryz.prog w = .ok (.tuple #[.agg #[], .bool false]) w := by kernel_rfl
theorem as_loadKind_binaryKind (v : Value) (w : World) : (Instr.typeAssert (.iface 172 v) 154 165 true).run Tryz.prog w = .ok (.tuple #[.agg #[.int .i64 0, .int .i64 0], .bool false]) w := by kernel_rfl
theorem as_loadKind_unaryKind (v : Value) (w : World) : (Instr.typeAssert (.iface 172 v) 154 167 true).run Tryz.prog w = .ok (.tuple #[.agg #[.int .i64 0], .bool false]) w := by kernel_rfl
theorem as_loadKind_constKind (v : Value) (w : World) : (Instr.typeAssert (.iface 172 v) 154 169 true).run Tryz.prog w = .ok (.tuple #[.agg #[.int .i64 0], .bool false]) w := by kernel_rfl
theorem as_loadKind_selectKind (v : Value) (w : World) : (Instr.typeAssert (.iface 172 v) 154 171 true).run Tryz.prog w = .ok (.tuple #[.agg #[.int .i64 0, .int .i64 0, .int .i64 0], .bool false]) w := by kernel_rfl
theorem as_loadKind_loadKind (v : Value) (w : World) : (Instr.typeAssert (.iface 172 v) 154 172 true).run Tryz.prog w = .ok (.tuple #[v, .bool true]) w := by kernel_rfl
theorem as_loadKind_storeKind (v : Value) (w : World) : (Instr.typeAssert (.iface 172 v) 154 173 true).run Tryz.prog w = .ok (.tuple #[.agg #[.int .i64 0, .int .i64 0], .bool false]) w := by kernel_rfl
theorem as_loadKind_printKind (v : Value) (w : World) : (Instr.typeAssert (.iface 172 v) 154 174 true).run Tryz.prog w = .ok (.tuple #[.agg #[.int .i64 0], .bool false]) w := by kernel_rfl
theorem as_loadKind_callKind (v : Value) (w : World) : (Instr.typeAssert (.iface 172 v) 154 176 true).run Tryz.prog w = .ok (.tuple #[.agg #[.int .i64 0, .slice none 0 0], .bool false]) w := by kernel_rfl
theorem as_loadKind_strangeKind (v : Value) (w : World) : (Instr.typeAssert (.iface 172 v) 154 178 true).run Tryz.prog w = .ok (.tuple #[.agg #[], .bool false]) w := by kernel_rfl
theorem as_storeKind_binaryKind (v : Value) (w : World) : (Instr.typeAssert (.iface 173 v) 154 165 true).run Tryz.prog w = .ok (.tuple #[.agg #[.int .i64 0, .int .i64 0], .bool false]) w := by kernel_rfl
theorem as_storeKind_unaryKind (v : Value) (w : World) : (Instr.typeAssert (.iface 173 v) 154 167 true).run Tryz.prog w = .ok (.tuple #[.agg #[.int .i64 0], .bool false]) w := by kernel_rfl
theorem as_storeKind_constKind (v : Value) (w : World) : (Instr.typeAssert (.iface 173 v) 154 169 true).run Tryz.prog w = .ok (.tuple #[.agg #[.int .i64 0], .bool false]) w := by kernel_rfl
theorem as_storeKind_selectKind (v : Value) (w : World) : (Instr.typeAssert (.iface 173 v) 154 171 true).run Tryz.prog w = .ok (.tuple #[.agg #[.int .i64 0, .int .i64 0, .int .i64 0], .bool false]) w := by kernel_rfl
theorem as_storeKind_loadKind (v : Value) (w : World) : (Instr.typeAssert (.iface 173 v) 154 172 true).run Tryz.prog w = .ok (.tuple #[.agg #[.int .i64 0], .bool false]) w := by kernel_rfl
theorem as_storeKind_storeKind (v : Value) (w : World) : (Instr.typeAssert (.iface 173 v) 154 173 true).run Tryz.prog w = .ok (.tuple #[v, .bool true]) w := by kernel_rfl
theorem as_storeKind_printKind (v : Value) (w : World) : (Instr.typeAssert (.iface 173 v) 154 174 true).run Tryz.prog w = .ok (.tuple #[.agg #[.int .i64 0], .bool false]) w := by kernel_rfl
theorem as_storeKind_callKind (v : Value) (w : World) : (Instr.typeAssert (.iface 173 v) 154 176 true).run Tryz.prog w = .ok (.tuple #[.agg #[.int .i64 0, .slice none 0 0], .bool false]) w := by kernel_rfl
theorem as_storeKind_strangeKind (v : Value) (w : World) : (Instr.typeAssert (.iface 173 v) 154 178 true).run Tryz.prog w = .ok (.tuple #[.agg #[], .bool false]) w := by kernel_rfl
theorem as_printKind_binaryKind (v : Value) (w : World) : (Instr.typeAssert (.iface 174 v) 154 165 true).run Tryz.prog w = .ok (.tuple #[.agg #[.int .i64 0, .int .i64 0], .bool false]) w := by kernel_rfl
theorem as_printKind_unaryKind (v : Value) (w : World) : (Instr.typeAssert (.iface 174 v) 154 167 true).run Tryz.prog w = .ok (.tuple #[.agg #[.int .i64 0], .bool false]) w := by kernel_rfl
theorem as_printKind_constKind (v : Value) (w : World) : (Instr.typeAssert (.iface 174 v) 154 169 true).run Tryz.prog w = .ok (.tuple #[.agg #[.int .i64 0], .bool false]) w := by kernel_rfl
theorem as_printKind_selectKind (v : Value) (w : World) : (Instr.typeAssert (.iface 174 v) 154 171 true).run Tryz.prog w = .ok (.tuple #[.agg #[.int .i64 0, .int .i64 0, .int .i64 0], .bool false]) w := by kernel_rfl
theorem as_printKind_loadKind (v : Value) (w : World) : (Instr.typeAssert (.iface 174 v) 154 172 true).run Tryz.prog w = .ok (.tuple #[.agg #[.int .i64 0], .bool false]) w := by kernel_rfl
theorem as_printKind_storeKind (v : Value) (w : World) : (Instr.typeAssert (.iface 174 v) 154 173 true).run Tryz.prog w = .ok (.tuple #[.agg #[.int .i64 0, .int .i64 0], .bool false]) w := by kernel_rfl
theorem as_printKind_printKind (v : Value) (w : World) : (Instr.typeAssert (.iface 174 v) 154 174 true).run Tryz.prog w = .ok (.tuple #[v, .bool true]) w := by kernel_rfl
theorem as_printKind_callKind (v : Value) (w : World) : (Instr.typeAssert (.iface 174 v) 154 176 true).run Tryz.prog w = .ok (.tuple #[.agg #[.int .i64 0, .slice none 0 0], .bool false]) w := by kernel_rfl
theorem as_printKind_strangeKind (v : Value) (w : World) : (Instr.typeAssert (.iface 174 v) 154 178 true).run Tryz.prog w = .ok (.tuple #[.agg #[], .bool false]) w := by kernel_rfl
theorem as_callKind_binaryKind (v : Value) (w : World) : (Instr.typeAssert (.iface 176 v) 154 165 true).run Tryz.prog w = .ok (.tuple #[.agg #[.int .i64 0, .int .i64 0], .bool false]) w := by kernel_rfl
theorem as_callKind_unaryKind (v : Value) (w : World) : (Instr.typeAssert (.iface 176 v) 154 167 true).run Tryz.prog w = .ok (.tuple #[.agg #[.int .i64 0], .bool false]) w := by kernel_rfl
theorem as_callKind_constKind (v : Value) (w : World) : (Instr.typeAssert (.iface 176 v) 154 169 true).run Tryz.prog w = .ok (.tuple #[.agg #[.int .i64 0], .bool false]) w := by kernel_rfl
theorem as_callKind_selectKind (v : Value) (w : World) : (Instr.typeAssert (.iface 176 v) 154 171 true).run Tryz.prog w = .ok (.tuple #[.agg #[.int .i64 0, .int .i64 0, .int .i64 0], .bool false]) w := by kernel_rfl
theorem as_callKind_loadKind (v : Value) (w : World) : (Instr.typeAssert (.iface 176 v) 154 172 true).run Tryz.prog w = .ok (.tuple #[.agg #[.int .i64 0], .bool false]) w := by kernel_rfl
theorem as_callKind_storeKind (v : Value) (w : World) : (Instr.typeAssert (.iface 176 v) 154 173 true).run Tryz.prog w = .ok (.tuple #[.agg #[.int .i64 0, .int .i64 0], .bool false]) w := by kernel_rfl
theorem as_callKind_printKind (v : Value) (w : World) : (Instr.typeAssert (.iface 176 v) 154 174 true).run Tryz.prog w = .ok (.tuple #[.agg #[.int .i64 0], .bool false]) w := by kernel_rfl
theorem as_callKind_callKind (v : Value) (w : World) : (Instr.typeAssert (.iface 176 v) 154 176 true).run Tryz.prog w = .ok (.tuple #[v, .bool true]) w := by kernel_rfl
theorem as_callKind_strangeKind (v : Value) (w : World) : (Instr.typeAssert (.iface 176 v) 154 178 true).run Tryz.prog w = .ok (.tuple #[.agg #[], .bool false]) w := by kernel_rfl
theorem as_strangeKind_binaryKind (v : Value) (w : World) : (Instr.typeAssert (.iface 178 v) 154 165 true).run Tryz.prog w = .ok (.tuple #[.agg #[.int .i64 0, .int .i64 0], .bool false]) w := by kernel_rfl
theorem as_strangeKind_unaryKind (v : Value) (w : World) : (Instr.typeAssert (.iface 178 v) 154 167 true).run Tryz.prog w = .ok (.tuple #[.agg #[.int .i64 0], .bool false]) w := by kernel_rfl
theorem as_strangeKind_constKind (v : Value) (w : World) : (Instr.typeAssert (.iface 178 v) 154 169 true).run Tryz.prog w = .ok (.tuple #[.agg #[.int .i64 0], .bool false]) w := by kernel_rfl
theorem as_strangeKind_selectKind (v : Value) (w : World) : (Instr.typeAssert (.iface 178 v) 154 171 true).run Tryz.prog w = .ok (.tuple #[.agg #[.int .i64 0, .int .i64 0, .int .i64 0], .bool false]) w := by kernel_rfl
theorem as_strangeKind_loadKind (v : Value) (w : World) : (Instr.typeAssert (.iface 178 v) 154 172 true).run Tryz.prog w = .ok (.tuple #[.agg #[.int .i64 0], .bool false]) w := by kernel_rfl
theorem as_strangeKind_storeKind (v : Value) (w : World) : (Instr.typeAssert (.iface 178 v) 154 173 true).run Tryz.prog w = .ok (.tuple #[.agg #[.int .i64 0, .int .i64 0], .bool false]) w := by kernel_rfl
theorem as_strangeKind_printKind (v : Value) (w : World) : (Instr.typeAssert (.iface 178 v) 154 174 true).run Tryz.prog w = .ok (.tuple #[.agg #[.int .i64 0], .bool false]) w := by kernel_rfl
theorem as_strangeKind_callKind (v : Value) (w : World) : (Instr.typeAssert (.iface 178 v) 154 176 true).run Tryz.prog w = .ok (.tuple #[.agg #[.int .i64 0, .slice none 0 0], .bool false]) w := by kernel_rfl
theorem as_strangeKind_strangeKind (v : Value) (w : World) : (Instr.typeAssert (.iface 178 v) 154 178 true).run Tryz.prog w = .ok (.tuple #[v, .bool true]) w := by kernel_rfl
end Go.Proofs.YtojhakjkfkmklaaGreatDoor
