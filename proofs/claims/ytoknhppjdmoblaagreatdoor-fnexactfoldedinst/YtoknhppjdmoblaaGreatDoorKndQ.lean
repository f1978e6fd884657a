/- An instruction as its op sees it: the contract of kindOf, and the width that an instruction gives. -/
import Derived.Test.YtoknhppjdmoblaaGreatDoorMemQ
import Derived.Test.YtoknhppjdmoblaaGreatDoorCntQ
import Derived.Laws.ResultCell
import Derived.Deep.DeepCutAuto
import Derived.BigRegion
import Derived.Deep.RegionHeld2
import Derived.Laws.Rows
namespace Go.Proofs.YtoknhppjdmoblaaGreatDoor
open Go.RowKit

/-- The value behind the interface that kindOf makes. -/
def kindV (d : InstD) (u : Option Addr) (q : Nat) : Value :=
  if opB d.op = true then .iface 140 (.agg #[.int .i64 d.a, .int .i64 d.b])
  else if d.op = 18 ∨ d.op = 19 ∨ d.op = 20 ∨ d.op = 27 then .iface 142 (.agg #[.int .i64 d.a])
  else if d.op = 21 then .iface 144 (.agg #[.int .i64 d.imm])
  else if d.op = 22 then .iface 146 (.agg #[.int .i64 d.a, .int .i64 d.b, .int .i64 d.c])
  else if d.op = 23 then .iface 147 (.agg #[.int .i64 d.a])
  else if d.op = 24 then .iface 148 (.agg #[.int .i64 d.a, .int .i64 d.b])
  else if d.op = 25 then .iface 149 (.agg #[.int .i64 d.a])
  else if d.op = 26 then .iface 151 (.agg #[.int .i64 d.imm, .slice u d.args.length q])
  else .iface 153 (.agg #[])
theorem kv_bin {d : InstD} {u : Option Addr} {q : Nat} (h : opB d.op = true) : kindV d u q = .iface 140 (.agg #[.int .i64 d.a, .int .i64 d.b]) := by rw [kindV, if_pos h]
theorem op_no {n : Int} (h : 18 ≤ n) : opB n = false := by simp [opB]; omega
theorem kv_18 {d : InstD} {u : Option Addr} {q : Nat} (h : d.op = 18) : kindV d u q = .iface 142 (.agg #[.int .i64 d.a]) := by
  have ho : opB 18 = false := by decide
  simp [kindV, h, ho]
theorem kv_19 {d : InstD} {u : Option Addr} {q : Nat} (h : d.op = 19) : kindV d u q = .iface 142 (.agg #[.int .i64 d.a]) := by
  have ho : opB 19 = false := by decide
  simp [kindV, h, ho]
theorem kv_20 {d : InstD} {u : Option Addr} {q : Nat} (h : d.op = 20) : kindV d u q = .iface 142 (.agg #[.int .i64 d.a]) := by
  have ho : opB 20 = false := by decide
  simp [kindV, h, ho]
theorem kv_27 {d : InstD} {u : Option Addr} {q : Nat} (h : d.op = 27) : kindV d u q = .iface 142 (.agg #[.int .i64 d.a]) := by
  have ho : opB 27 = false := by decide
  simp [kindV, h, ho]
theorem kv_21 {d : InstD} {u : Option Addr} {q : Nat} (h : d.op = 21) : kindV d u q = .iface 144 (.agg #[.int .i64 d.imm]) := by
  have ho : opB 21 = false := by decide
  simp [kindV, h, ho]
theorem kv_22 {d : InstD} {u : Option Addr} {q : Nat} (h : d.op = 22) : kindV d u q = .iface 146 (.agg #[.int .i64 d.a, .int .i64 d.b, .int .i64 d.c]) := by
  have ho : opB 22 = false := by decide
  simp [kindV, h, ho]
theorem kv_23 {d : InstD} {u : Option Addr} {q : Nat} (h : d.op = 23) : kindV d u q = .iface 147 (.agg #[.int .i64 d.a]) := by
  have ho : opB 23 = false := by decide
  simp [kindV, h, ho]
theorem kv_24 {d : InstD} {u : Option Addr} {q : Nat} (h : d.op = 24) : kindV d u q = .iface 148 (.agg #[.int .i64 d.a, .int .i64 d.b]) := by
  have ho : opB 24 = false := by decide
  simp [kindV, h, ho]
theorem kv_25 {d : InstD} {u : Option Addr} {q : Nat} (h : d.op = 25) : kindV d u q = .iface 149 (.agg #[.int .i64 d.a]) := by
  have ho : opB 25 = false := by decide
  simp [kindV, h, ho]
theorem kv_26 {d : InstD} {u : Option Addr} {q : Nat} (h : d.op = 26) : kindV d u q = .iface 151 (.agg #[.int .i64 d.imm, .slice u d.args.length q]) := by
  have ho : opB 26 = false := by decide
  simp [kindV, h, ho]
theorem kv_no {d : InstD} {u : Option Addr} {q : Nat} (h0 : opB d.op = false) (h : d.op < 1 ∨ 27 < d.op) : kindV d u q = .iface 153 (.agg #[]) := by
  rw [kindV, if_neg (by simp [h0]), if_neg (by omega), if_neg (by omega), if_neg (by omega), if_neg (by omega), if_neg (by omega), if_neg (by omega), if_neg (by omega)]
set_option maxHeartbeats 2000000 in
theorem kind_bin (d : InstD) (u : Option Addr) (q : Nat) (w : World) (h : opB d.op = true) :
    Calls Tryz.prog 53 #[.agg #[.int .i64 d.op, .int .i64 d.w, .int .i64 d.a, .int .i64 d.b, .int .i64 d.c, .int .i64 d.imm, .slice u d.args.length q]] w fun e w' => e = .returned (kindV d u q) ∧ Below w.heap.size w w' := by
  have E := kv_bin (u := u) (q := q) h
  generalize kindV d u q = V at E
  subst E
  go_enter Tryz.func53, Tryz.ntmps53
  go_wp2_with (go_at_call 95; refine (opI _ _).mono ?_; rintro e w' ⟨rfl, rfl⟩)
  go_ret
  exact ⟨rfl, (Below.refl _ _).alloc (Nat.le_refl _) _⟩
set_option maxHeartbeats 2000000 in
theorem kind_18 (d : InstD) (u : Option Addr) (q : Nat) (w : World) (h : d.op = 18) :
    Calls Tryz.prog 53 #[.agg #[.int .i64 d.op, .int .i64 d.w, .int .i64 d.a, .int .i64 d.b, .int .i64 d.c, .int .i64 d.imm, .slice u d.args.length q]] w fun e w' => e = .returned (kindV d u q) ∧ Below w.heap.size w w' := by
  have E := kv_18 (u := u) (q := q) h
  generalize kindV d u q = V at E
  subst E
  have ho : opB d.op = false := by rw [h]; decide
  have ho2 : opB 18 = false := by decide
  go_enter Tryz.func53, Tryz.ntmps53
  go_wp2_with (go_at_call 95; refine (opI _ _).mono ?_; rintro e w' ⟨rfl, rfl⟩)
  go_ret
  exact ⟨rfl, (Below.refl _ _).alloc (Nat.le_refl _) _⟩
set_option maxHeartbeats 2000000 in
theorem kind_19 (d : InstD) (u : Option Addr) (q : Nat) (w : World) (h : d.op = 19) :
    Calls Tryz.prog 53 #[.agg #[.int .i64 d.op, .int .i64 d.w, .int .i64 d.a, .int .i64 d.b, .int .i64 d.c, .int .i64 d.imm, .slice u d.args.length q]] w fun e w' => e = .returned (kindV d u q) ∧ Below w.heap.size w w' := by
  have E := kv_19 (u := u) (q := q) h
  generalize kindV d u q = V at E
  subst E
  have ho : opB d.op = false := by rw [h]; decide
  have ho2 : opB 19 = false := by decide
  go_enter Tryz.func53, Tryz.ntmps53
  go_wp2_with (go_at_call 95; refine (opI _ _).mono ?_; rintro e w' ⟨rfl, rfl⟩)
  go_ret
  exact ⟨rfl, (Below.refl _ _).alloc (Nat.le_refl _) _⟩
set_option maxHeartbeats 2000000 in
theorem kind_20 (d : InstD) (u : Option Addr) (q : Nat) (w : World) (h : d.op = 20) :
    Calls Tryz.prog 53 #[.agg #[.int .i64 d.op, .int .i64 d.w, .int .i64 d.a, .int .i64 d.b, .int .i64 d.c, .int .i64 d.imm, .slice u d.args.length q]] w fun e w' => e = .returned (kindV d u q) ∧ Below w.heap.size w w' := by
  have E := kv_20 (u := u) (q := q) h
  generalize kindV d u q = V at E
  subst E
  have ho : opB d.op = false := by rw [h]; decide
  have ho2 : opB 20 = false := by decide
  go_enter Tryz.func53, Tryz.ntmps53
  go_wp2_with (go_at_call 95; refine (opI _ _).mono ?_; rintro e w' ⟨rfl, rfl⟩)
  go_ret
  exact ⟨rfl, (Below.refl _ _).alloc (Nat.le_refl _) _⟩
set_option maxHeartbeats 2000000 in
theorem kind_27 (d : InstD) (u : Option Addr) (q : Nat) (w : World) (h : d.op = 27) :
    Calls Tryz.prog 53 #[.agg #[.int .i64 d.op, .int .i64 d.w, .int .i64 d.a, .int .i64 d.b, .int .i64 d.c, .int .i64 d.imm, .slice u d.args.length q]] w fun e w' => e = .returned (kindV d u q) ∧ Below w.heap.size w w' := by
  have E := kv_27 (u := u) (q := q) h
  generalize kindV d u q = V at E
  subst E
  have ho : opB d.op = false := by rw [h]; decide
  have ho2 : opB 27 = false := by decide
  go_enter Tryz.func53, Tryz.ntmps53
  go_wp2_with (go_at_call 95; refine (opI _ _).mono ?_; rintro e w' ⟨rfl, rfl⟩)
  go_ret
  exact ⟨rfl, (Below.refl _ _).alloc (Nat.le_refl _) _⟩
set_option maxHeartbeats 2000000 in
theorem kind_21 (d : InstD) (u : Option Addr) (q : Nat) (w : World) (h : d.op = 21) :
    Calls Tryz.prog 53 #[.agg #[.int .i64 d.op, .int .i64 d.w, .int .i64 d.a, .int .i64 d.b, .int .i64 d.c, .int .i64 d.imm, .slice u d.args.length q]] w fun e w' => e = .returned (kindV d u q) ∧ Below w.heap.size w w' := by
  have E := kv_21 (u := u) (q := q) h
  generalize kindV d u q = V at E
  subst E
  have ho : opB d.op = false := by rw [h]; decide
  have ho2 : opB 21 = false := by decide
  go_enter Tryz.func53, Tryz.ntmps53
  go_wp2_with (go_at_call 95; refine (opI _ _).mono ?_; rintro e w' ⟨rfl, rfl⟩)
  go_ret
  exact ⟨rfl, (Below.refl _ _).alloc (Nat.le_refl _) _⟩
set_option maxHeartbeats 2000000 in
theorem kind_22 (d : InstD) (u : Option Addr) (q : Nat) (w : World) (h : d.op = 22) :
    Calls Tryz.prog 53 #[.agg #[.int .i64 d.op, .int .i64 d.w, .int .i64 d.a, .int .i64 d.b, .int .i64 d.c, .int .i64 d.imm, .slice u d.args.length q]] w fun e w' => e = .returned (kindV d u q) ∧ Below w.heap.size w w' := by
  have E := kv_22 (u := u) (q := q) h
  generalize kindV d u q = V at E
  subst E
  have ho : opB d.op = false := by rw [h]; decide
  have ho2 : opB 22 = false := by decide
  go_enter Tryz.func53, Tryz.ntmps53
  go_wp2_with (go_at_call 95; refine (opI _ _).mono ?_; rintro e w' ⟨rfl, rfl⟩)
  go_ret
  exact ⟨rfl, (Below.refl _ _).alloc (Nat.le_refl _) _⟩
set_option maxHeartbeats 2000000 in
theorem kind_23 (d : InstD) (u : Option Addr) (q : Nat) (w : World) (h : d.op = 23) :
    Calls Tryz.prog 53 #[.agg #[.int .i64 d.op, .int .i64 d.w, .int .i64 d.a, .int .i64 d.b, .int .i64 d.c, .int .i64 d.imm, .slice u d.args.length q]] w fun e w' => e = .returned (kindV d u q) ∧ Below w.heap.size w w' := by
  have E := kv_23 (u := u) (q := q) h
  generalize kindV d u q = V at E
  subst E
  have ho : opB d.op = false := by rw [h]; decide
  have ho2 : opB 23 = false := by decide
  go_enter Tryz.func53, Tryz.ntmps53
  go_wp2_with (go_at_call 95; refine (opI _ _).mono ?_; rintro e w' ⟨rfl, rfl⟩)
  go_ret
  exact ⟨rfl, (Below.refl _ _).alloc (Nat.le_refl _) _⟩
set_option maxHeartbeats 2000000 in
theorem kind_24 (d : InstD) (u : Option Addr) (q : Nat) (w : World) (h : d.op = 24) :
    Calls Tryz.prog 53 #[.agg #[.int .i64 d.op, .int .i64 d.w, .int .i64 d.a, .int .i64 d.b, .int .i64 d.c, .int .i64 d.imm, .slice u d.args.length q]] w fun e w' => e = .returned (kindV d u q) ∧ Below w.heap.size w w' := by
  have E := kv_24 (u := u) (q := q) h
  generalize kindV d u q = V at E
  subst E
  have ho : opB d.op = false := by rw [h]; decide
  have ho2 : opB 24 = false := by decide
  go_enter Tryz.func53, Tryz.ntmps53
  go_wp2_with (go_at_call 95; refine (opI _ _).mono ?_; rintro e w' ⟨rfl, rfl⟩)
  go_ret
  exact ⟨rfl, (Below.refl _ _).alloc (Nat.le_refl _) _⟩
set_option maxHeartbeats 2000000 in
theorem kind_25 (d : InstD) (u : Option Addr) (q : Nat) (w : World) (h : d.op = 25) :
    Calls Tryz.prog 53 #[.agg #[.int .i64 d.op, .int .i64 d.w, .int .i64 d.a, .int .i64 d.b, .int .i64 d.c, .int .i64 d.imm, .slice u d.args.length q]] w fun e w' => e = .returned (kindV d u q) ∧ Below w.heap.size w w' := by
  have E := kv_25 (u := u) (q := q) h
  generalize kindV d u q = V at E
  subst E
  have ho : opB d.op = false := by rw [h]; decide
  have ho2 : opB 25 = false := by decide
  go_enter Tryz.func53, Tryz.ntmps53
  go_wp2_with (go_at_call 95; refine (opI _ _).mono ?_; rintro e w' ⟨rfl, rfl⟩)
  go_ret
  exact ⟨rfl, (Below.refl _ _).alloc (Nat.le_refl _) _⟩
set_option maxHeartbeats 2000000 in
theorem kind_26 (d : InstD) (u : Option Addr) (q : Nat) (w : World) (h : d.op = 26) :
    Calls Tryz.prog 53 #[.agg #[.int .i64 d.op, .int .i64 d.w, .int .i64 d.a, .int .i64 d.b, .int .i64 d.c, .int .i64 d.imm, .slice u d.args.length q]] w fun e w' => e = .returned (kindV d u q) ∧ Below w.heap.size w w' := by
  have E := kv_26 (u := u) (q := q) h
  generalize kindV d u q = V at E
  subst E
  have ho : opB d.op = false := by rw [h]; decide
  have ho2 : opB 26 = false := by decide
  go_enter Tryz.func53, Tryz.ntmps53
  go_wp2_with (go_at_call 95; refine (opI _ _).mono ?_; rintro e w' ⟨rfl, rfl⟩)
  go_ret
  exact ⟨rfl, (Below.refl _ _).alloc (Nat.le_refl _) _⟩
set_option maxHeartbeats 2000000 in
theorem kind_no (d : InstD) (u : Option Addr) (q : Nat) (w : World) (ho : opB d.op = false) (h : d.op < 1 ∨ 27 < d.op) :
    Calls Tryz.prog 53 #[.agg #[.int .i64 d.op, .int .i64 d.w, .int .i64 d.a, .int .i64 d.b, .int .i64 d.c, .int .i64 d.imm, .slice u d.args.length q]] w fun e w' => e = .returned (kindV d u q) ∧ Below w.heap.size w w' := by
  have E := kv_no (u := u) (q := q) ho h
  generalize kindV d u q = V at E
  subst E
  have n18 : (d.op == 18) = false := by simp; omega
  have n19 : (d.op == 19) = false := by simp; omega
  have n20 : (d.op == 20) = false := by simp; omega
  have n21 : (d.op == 21) = false := by simp; omega
  have n22 : (d.op == 22) = false := by simp; omega
  have n23 : (d.op == 23) = false := by simp; omega
  have n24 : (d.op == 24) = false := by simp; omega
  have n25 : (d.op == 25) = false := by simp; omega
  have n26 : (d.op == 26) = false := by simp; omega
  have n27 : (d.op == 27) = false := by simp; omega
  clear h
  go_enter Tryz.func53, Tryz.ntmps53
  go_wp2_with (go_at_call 95; refine (opI _ _).mono ?_; rintro e w' ⟨rfl, rfl⟩)
  go_ret
  exact ⟨rfl, (Below.refl _ _).alloc (Nat.le_refl _) _⟩
theorem op_split (n : Int) : opB n = true ∨ n = 18 ∨ n = 19 ∨ n = 20 ∨ n = 21 ∨ n = 22 ∨ n = 23 ∨ n = 24 ∨ n = 25 ∨ n = 26 ∨ n = 27 ∨ (opB n = false ∧ (n < 1 ∨ 27 < n)) := by
  by_cases h : opB n = true
  · exact .inl h
  · have h' : opB n = false := by simpa using h
    have h2 : n < 1 ∨ 17 < n := by simp [opB] at h; omega
    have h3 : n = 18 ∨ n = 19 ∨ n = 20 ∨ n = 21 ∨ n = 22 ∨ n = 23 ∨ n = 24 ∨ n = 25 ∨ n = 26 ∨ n = 27 ∨ (n < 1 ∨ 27 < n) := by omega
    rcases h3 with h3 | h3 | h3 | h3 | h3 | h3 | h3 | h3 | h3 | h3 | h3
    all_goals first | (simp [h3]; done) | exact .inr (.inr (.inr (.inr (.inr (.inr (.inr (.inr (.inr (.inr (.inr ⟨h', h3⟩))))))))))
theorem kind_any (d : InstD) (u : Option Addr) (q : Nat) (w : World) :
    Calls Tryz.prog 53 #[.agg #[.int .i64 d.op, .int .i64 d.w, .int .i64 d.a, .int .i64 d.b, .int .i64 d.c, .int .i64 d.imm, .slice u d.args.length q]] w fun e w' => e = .returned (kindV d u q) ∧ Below w.heap.size w w' := by
  rcases op_split d.op with h | h | h | h | h | h | h | h | h | h | h | ⟨ho, h⟩
  · exact kind_bin d u q w h
  · exact kind_18 d u q w h
  · exact kind_19 d u q w h
  · exact kind_20 d u q w h
  · exact kind_21 d u q w h
  · exact kind_22 d u q w h
  · exact kind_23 d u q w h
  · exact kind_24 d u q w h
  · exact kind_25 d u q w h
  · exact kind_26 d u q w h
  · exact kind_27 d u q w h
  · exact kind_no d u q w ho h
theorem as_binaryKind_binaryKind (v : Value) (w : World) : (Instr.typeAssert (.iface 140 v) 92 140 true).run Tryz.prog w = .ok (.tuple #[v, .bool true]) w := by kernel_rfl
theorem as_binaryKind_unaryKind (v : Value) (w : World) : (Instr.typeAssert (.iface 140 v) 92 142 true).run Tryz.prog w = .ok (.tuple #[.agg #[.int .i64 0], .bool false]) w := by kernel_rfl
theorem as_binaryKind_constKind (v : Value) (w : World) : (Instr.typeAssert (.iface 140 v) 92 144 true).run Tryz.prog w = .ok (.tuple #[.agg #[.int .i64 0], .bool false]) w := by kernel_rfl
theorem as_binaryKind_selectKind (v : Value) (w : World) : (Instr.typeAssert (.iface 140 v) 92 146 true).run Tryz.prog w = .ok (.tuple #[.agg #[.int .i64 0, .int .i64 0, .int .i64 0], .bool false]) w := by kernel_rfl
theorem as_binaryKind_loadKind (v : Value) (w : World) : (Instr.typeAssert (.iface 140 v) 92 147 true).run Tryz.prog w = .ok (.tuple #[.agg #[.int .i64 0], .bool false]) w := by kernel_rfl
theorem as_binaryKind_storeKind (v : Value) (w : World) : (Instr.typeAssert (.iface 140 v) 92 148 true).run Tryz.prog w = .ok (.tuple #[.agg #[.int .i64 0, .int .i64 0], .bool false]) w := by kernel_rfl
theorem as_binaryKind_printKind (v : Value) (w : World) : (Instr.typeAssert (.iface 140 v) 92 149 true).run Tryz.prog w = .ok (.tuple #[.agg #[.int .i64 0], .bool false]) w := by kernel_rfl
theorem as_binaryKind_callKind (v : Value) (w : World) : (Instr.typeAssert (.iface 140 v) 92 151 true).run Tryz.prog w = .ok (.tuple #[.agg #[.int .i64 0, .slice none 0 0], .bool false]) w := by kernel_rfl
theorem as_binaryKind_strangeKind (v : Value) (w : World) : (Instr.typeAssert (.iface 140 v) 92 153 true).run Tryz.prog w = .ok (.tuple #[.agg #[], .bool false]) w := by kernel_rfl
theorem as_unaryKind_binaryKind (v : Value) (w : World) : (Instr.typeAssert (.iface 142 v) 92 140 true).run Tryz.prog w = .ok (.tuple #[.agg #[.int .i64 0, .int .i64 0], .bool false]) w := by kernel_rfl
theorem as_unaryKind_unaryKind (v : Value) (w : World) : (Instr.typeAssert (.iface 142 v) 92 142 true).run Tryz.prog w = .ok (.tuple #[v, .bool true]) w := by kernel_rfl
theorem as_unaryKind_constKind (v : Value) (w : World) : (Instr.typeAssert (.iface 142 v) 92 144 true).run Tryz.prog w = .ok (.tuple #[.agg #[.int .i64 0], .bool false]) w := by kernel_rfl
theorem as_unaryKind_selectKind (v : Value) (w : World) : (Instr.typeAssert (.iface 142 v) 92 146 true).run Tryz.prog w = .ok (.tuple #[.agg #[.int .i64 0, .int .i64 0, .int .i64 0], .bool false]) w := by kernel_rfl
theorem as_unaryKind_loadKind (v : Value) (w : World) : (Instr.typeAssert (.iface 142 v) 92 147 true).run Tryz.prog w = .ok (.tuple #[.agg #[.int .i64 0], .bool false]) w := by kernel_rfl
theorem as_unaryKind_storeKind (v : Value) (w : World) : (Instr.typeAssert (.iface 142 v) 92 148 true).run Tryz.prog w = .ok (.tuple #[.agg #[.int .i64 0, .int .i64 0], .bool false]) w := by kernel_rfl
theorem as_unaryKind_printKind (v : Value) (w : World) : (Instr.typeAssert (.iface 142 v) 92 149 true).run Tryz.prog w = .ok (.tuple #[.agg #[.int .i64 0], .bool false]) w := by kernel_rfl
theorem as_unaryKind_callKind (v : Value) (w : World) : (Instr.typeAssert (.iface 142 v) 92 151 true).run Tryz.prog w = .ok (.tuple #[.agg #[.int .i64 0, .slice none 0 0], .bool false]) w := by kernel_rfl
theorem as_unaryKind_strangeKind (v : Value) (w : World) : (Instr.typeAssert (.iface 142 v) 92 153 true).run Tryz.prog w = .ok (.tuple #[.agg #[], .bool false]) w := by kernel_rfl
theorem as_constKind_binaryKind (v : Value) (w : World) : (Instr.typeAssert (.iface 144 v) 92 140 true).run Tryz.prog w = .ok (.tuple #[.agg #[.int .i64 0, .int .i64 0], .bool false]) w := by kernel_rfl
theorem as_constKind_unaryKind (v : Value) (w : World) : (Instr.typeAssert (.iface 144 v) 92 142 true).run Tryz.prog w = .ok (.tuple #[.agg #[.int .i64 0], .bool false]) w := by kernel_rfl
theorem as_constKind_constKind (v : Value) (w : World) : (Instr.typeAssert (.iface 144 v) 92 144 true).run Tryz.prog w = .ok (.tuple #[v, .bool true]) w := by kernel_rfl
theorem as_constKind_selectKind (v : Value) (w : World) : (Instr.typeAssert (.iface 144 v) 92 146 true).run Tryz.prog w = .ok (.tuple #[.agg #[.int .i64 0, .int .i64 0, .int .i64 0], .bool false]) w := by kernel_rfl
theorem as_constKind_loadKind (v : Value) (w : World) : (Instr.typeAssert (.iface 144 v) 92 147 true).run Tryz.prog w = .ok (.tuple #[.agg #[.int .i64 0], .bool false]) w := by kernel_rfl
theorem as_constKind_storeKind (v : Value) (w : World) : (Instr.typeAssert (.iface 144 v) 92 148 true).run Tryz.prog w = .ok (.tuple #[.agg #[.int .i64 0, .int .i64 0], .bool false]) w := by kernel_rfl
theorem as_constKind_printKind (v : Value) (w : World) : (Instr.typeAssert (.iface 144 v) 92 149 true).run Tryz.prog w = .ok (.tuple #[.agg #[.int .i64 0], .bool false]) w := by kernel_rfl
theorem as_constKind_callKind (v : Value) (w : World) : (Instr.typeAssert (.iface 144 v) 92 151 true).run Tryz.prog w = .ok (.tuple #[.agg #[.int .i64 0, .slice none 0 0], .bool false]) w := by kernel_rfl
theorem as_constKind_strangeKind (v : Value) (w : World) : (Instr.typeAssert (.iface 144 v) 92 153 true).run Tryz.prog w = .ok (.tuple #[.agg #[], .bool false]) w := by kernel_rfl
theorem as_selectKind_binaryKind (v : Value) (w : World) : (Instr.typeAssert (.iface 146 v) 92 140 true).run Tryz.prog w = .ok (.tuple #[.agg #[.int .i64 0, .int .i64 0], .bool false]) w := by kernel_rfl
theorem as_selectKind_unaryKind (v : Value) (w : World) : (Instr.typeAssert (.iface 146 v) 92 142 true).run Tryz.prog w = .ok (.tuple #[.agg #[.int .i64 0], .bool false]) w := by kernel_rfl
theorem as_selectKind_constKind (v : Value) (w : World) : (Instr.typeAssert (.iface 146 v) 92 144 true).run Tryz.prog w = .ok (.tuple #[.agg #[.int .i64 0], .bool false]) w := by kernel_rfl
theorem as_selectKind_selectKind (v : Value) (w : World) : (Instr.typeAssert (.iface 146 v) 92 146 true).run Tryz.prog w = .ok (.tuple #[v, .bool true]) w := by kernel_rfl
theorem as_selectKind_loadKind (v : Value) (w : World) : (Instr.typeAssert (.iface 146 v) 92 147 true).run Tryz.prog w = .ok (.tuple #[.agg #[.int .i64 0], .bool false]) w := by kernel_rfl
theorem as_selectKind_storeKind (v : Value) (w : World) : (Instr.typeAssert (.iface 146 v) 92 148 true).run Tryz.prog w = .ok (.tuple #[.agg #[.int .i64 0, .int .i64 0], .bool false]) w := by kernel_rfl
theorem as_selectKind_printKind (v : Value) (w : World) : (Instr.typeAssert (.iface 146 v) 92 149 true).run Tryz.prog w = .ok (.tuple #[.agg #[.int .i64 0], .bool false]) w := by kernel_rfl
theorem as_selectKind_callKind (v : Value) (w : World) : (Instr.typeAssert (.iface 146 v) 92 151 true).run Tryz.prog w = .ok (.tuple #[.agg #[.int .i64 0, .slice none 0 0], .bool false]) w := by kernel_rfl
theorem as_selectKind_strangeKind (v : Value) (w : World) : (Instr.typeAssert (.iface 146 v) 92 153 true).run Tryz.prog w = .ok (.tuple #[.agg #[], .bool false]) w := by kernel_rfl
theorem as_loadKind_binaryKind (v : Value) (w : World) : (Instr.typeAssert (.iface 147 v) 92 140 true).run Tryz.prog w = .ok (.tuple #[.agg #[.int .i64 0, .int .i64 0], .bool false]) w := by kernel_rfl
theorem as_loadKind_unaryKind (v : Value) (w : World) : (Instr.typeAssert (.iface 147 v) 92 142 true).run Tryz.prog w = .ok (.tuple #[.agg #[.int .i64 0], .bool false]) w := by kernel_rfl
theorem as_loadKind_constKind (v : Value) (w : World) : (Instr.typeAssert (.iface 147 v) 92 144 true).run Tryz.prog w = .ok (.tuple #[.agg #[.int .i64 0], .bool false]) w := by kernel_rfl
theorem as_loadKind_selectKind (v : Value) (w : World) : (Instr.typeAssert (.iface 147 v) 92 146 true).run Tryz.prog w = .ok (.tuple #[.agg #[.int .i64 0, .int .i64 0, .int .i64 0], .bool false]) w := by kernel_rfl
theorem as_loadKind_loadKind (v : Value) (w : World) : (Instr.typeAssert (.iface 147 v) 92 147 true).run Tryz.prog w = .ok (.tuple #[v, .bool true]) w := by kernel_rfl
theorem as_loadKind_storeKind (v : Value) (w : World) : (Instr.typeAssert (.iface 147 v) 92 148 true).run Tryz.prog w = .ok (.tuple #[.agg #[.int .i64 0, .int .i64 0], .bool false]) w := by kernel_rfl
theorem as_loadKind_printKind (v : Value) (w : World) : (Instr.typeAssert (.iface 147 v) 92 149 true).run Tryz.prog w = .ok (.tuple #[.agg #[.int .i64 0], .bool false]) w := by kernel_rfl
theorem as_loadKind_callKind (v : Value) (w : World) : (Instr.typeAssert (.iface 147 v) 92 151 true).run Tryz.prog w = .ok (.tuple #[.agg #[.int .i64 0, .slice none 0 0], .bool false]) w := by kernel_rfl
theorem as_loadKind_strangeKind (v : Value) (w : World) : (Instr.typeAssert (.iface 147 v) 92 153 true).run Tryz.prog w = .ok (.tuple #[.agg #[], .bool false]) w := by kernel_rfl
theorem as_storeKind_binaryKind (v : Value) (w : World) : (Instr.typeAssert (.iface 148 v) 92 140 true).run Tryz.prog w = .ok (.tuple #[.agg #[.int .i64 0, .int .i64 0], .bool false]) w := by kernel_rfl
theorem as_storeKind_unaryKind (v : Value) (w : World) : (Instr.typeAssert (.iface 148 v) 92 142 true).run Tryz.prog w = .ok (.tuple #[.agg #[.int .i64 0], .bool false]) w := by kernel_rfl
theorem as_storeKind_constKind (v : Value) (w : World) : (Instr.typeAssert (.iface 148 v) 92 144 true).run Tryz.prog w = .ok (.tuple #[.agg #[.int .i64 0], .bool false]) w := by kernel_rfl
theorem as_storeKind_selectKind (v : Value) (w : World) : (Instr.typeAssert (.iface 148 v) 92 146 true).run Tryz.prog w = .ok (.tuple #[.agg #[.int .i64 0, .int .i64 0, .int .i64 0], .bool false]) w := by kernel_rfl
theorem as_storeKind_loadKind (v : Value) (w : World) : (Instr.typeAssert (.iface 148 v) 92 147 true).run Tryz.prog w = .ok (.tuple #[.agg #[.int .i64 0], .bool false]) w := by kernel_rfl
theorem as_storeKind_storeKind (v : Value) (w : World) : (Instr.typeAssert (.iface 148 v) 92 148 true).run Tryz.prog w = .ok (.tuple #[v, .bool true]) w := by kernel_rfl
theorem as_storeKind_printKind (v : Value) (w : World) : (Instr.typeAssert (.iface 148 v) 92 149 true).run Tryz.prog w = .ok (.tuple #[.agg #[.int .i64 0], .bool false]) w := by kernel_rfl
theorem as_storeKind_callKind (v : Value) (w : World) : (Instr.typeAssert (.iface 148 v) 92 151 true).run Tryz.prog w = .ok (.tuple #[.agg #[.int .i64 0, .slice none 0 0], .bool false]) w := by kernel_rfl
theorem as_storeKind_strangeKind (v : Value) (w : World) : (Instr.typeAssert (.iface 148 v) 92 153 true).run Tryz.prog w = .ok (.tuple #[.agg #[], .bool false]) w := by kernel_rfl
theorem as_printKind_binaryKind (v : Value) (w : World) : (Instr.typeAssert (.iface 149 v) 92 140 true).run Tryz.prog w = .ok (.tuple #[.agg #[.int .i64 0, .int .i64 0], .bool false]) w := by kernel_rfl
theorem as_printKind_unaryKind (v : Value) (w : World) : (Instr.typeAssert (.iface 149 v) 92 142 true).run Tryz.prog w = .ok (.tuple #[.agg #[.int .i64 0], .bool false]) w := by kernel_rfl
theorem as_printKind_constKind (v : Value) (w : World) : (Instr.typeAssert (.iface 149 v) 92 144 true).run Tryz.prog w = .ok (.tuple #[.agg #[.int .i64 0], .bool false]) w := by kernel_rfl
theorem as_printKind_selectKind (v : Value) (w : World) : (Instr.typeAssert (.iface 149 v) 92 146 true).run Tryz.prog w = .ok (.tuple #[.agg #[.int .i64 0, .int .i64 0, .int .i64 0], .bool false]) w := by kernel_rfl
theorem as_printKind_loadKind (v : Value) (w : World) : (Instr.typeAssert (.iface 149 v) 92 147 true).run Tryz.prog w = .ok (.tuple #[.agg #[.int .i64 0], .bool false]) w := by kernel_rfl
theorem as_printKind_storeKind (v : Value) (w : World) : (Instr.typeAssert (.iface 149 v) 92 148 true).run Tryz.prog w = .ok (.tuple #[.agg #[.int .i64 0, .int .i64 0], .bool false]) w := by kernel_rfl
theorem as_printKind_printKind (v : Value) (w : World) : (Instr.typeAssert (.iface 149 v) 92 149 true).run Tryz.prog w = .ok (.tuple #[v, .bool true]) w := by kernel_rfl
theorem as_printKind_callKind (v : Value) (w : World) : (Instr.typeAssert (.iface 149 v) 92 151 true).run Tryz.prog w = .ok (.tuple #[.agg #[.int .i64 0, .slice none 0 0], .bool false]) w := by kernel_rfl
theorem as_printKind_strangeKind (v : Value) (w : World) : (Instr.typeAssert (.iface 149 v) 92 153 true).run Tryz.prog w = .ok (.tuple #[.agg #[], .bool false]) w := by kernel_rfl
theorem as_callKind_binaryKind (v : Value) (w : World) : (Instr.typeAssert (.iface 151 v) 92 140 true).run Tryz.prog w = .ok (.tuple #[.agg #[.int .i64 0, .int .i64 0], .bool false]) w := by kernel_rfl
theorem as_callKind_unaryKind (v : Value) (w : World) : (Instr.typeAssert (.iface 151 v) 92 142 true).run Tryz.prog w = .ok (.tuple #[.agg #[.int .i64 0], .bool false]) w := by kernel_rfl
theorem as_callKind_constKind (v : Value) (w : World) : (Instr.typeAssert (.iface 151 v) 92 144 true).run Tryz.prog w = .ok (.tuple #[.agg #[.int .i64 0], .bool false]) w := by kernel_rfl
theorem as_callKind_selectKind (v : Value) (w : World) : (Instr.typeAssert (.iface 151 v) 92 146 true).run Tryz.prog w = .ok (.tuple #[.agg #[.int .i64 0, .int .i64 0, .int .i64 0], .bool false]) w := by kernel_rfl
theorem as_callKind_loadKind (v : Value) (w : World) : (Instr.typeAssert (.iface 151 v) 92 147 true).run Tryz.prog w = .ok (.tuple #[.agg #[.int .i64 0], .bool false]) w := by kernel_rfl
theorem as_callKind_storeKind (v : Value) (w : World) : (Instr.typeAssert (.iface 151 v) 92 148 true).run Tryz.prog w = .ok (.tuple #[.agg #[.int .i64 0, .int .i64 0], .bool false]) w := by kernel_rfl
theorem as_callKind_printKind (v : Value) (w : World) : (Instr.typeAssert (.iface 151 v) 92 149 true).run Tryz.prog w = .ok (.tuple #[.agg #[.int .i64 0], .bool false]) w := by kernel_rfl
theorem as_callKind_callKind (v : Value) (w : World) : (Instr.typeAssert (.iface 151 v) 92 151 true).run Tryz.prog w = .ok (.tuple #[v, .bool true]) w := by kernel_rfl
theorem as_callKind_strangeKind (v : Value) (w : World) : (Instr.typeAssert (.iface 151 v) 92 153 true).run Tryz.prog w = .ok (.tuple #[.agg #[], .bool false]) w := by kernel_rfl
theorem as_strangeKind_binaryKind (v : Value) (w : World) : (Instr.typeAssert (.iface 153 v) 92 140 true).run Tryz.prog w = .ok (.tuple #[.agg #[.int .i64 0, .int .i64 0], .bool false]) w := by kernel_rfl
theorem as_strangeKind_unaryKind (v : Value) (w : World) : (Instr.typeAssert (.iface 153 v) 92 142 true).run Tryz.prog w = .ok (.tuple #[.agg #[.int .i64 0], .bool false]) w := by kernel_rfl
theorem as_strangeKind_constKind (v : Value) (w : World) : (Instr.typeAssert (.iface 153 v) 92 144 true).run Tryz.prog w = .ok (.tuple #[.agg #[.int .i64 0], .bool false]) w := by kernel_rfl
theorem as_strangeKind_selectKind (v : Value) (w : World) : (Instr.typeAssert (.iface 153 v) 92 146 true).run Tryz.prog w = .ok (.tuple #[.agg #[.int .i64 0, .int .i64 0, .int .i64 0], .bool false]) w := by kernel_rfl
theorem as_strangeKind_loadKind (v : Value) (w : World) : (Instr.typeAssert (.iface 153 v) 92 147 true).run Tryz.prog w = .ok (.tuple #[.agg #[.int .i64 0], .bool false]) w := by kernel_rfl
theorem as_strangeKind_storeKind (v : Value) (w : World) : (Instr.typeAssert (.iface 153 v) 92 148 true).run Tryz.prog w = .ok (.tuple #[.agg #[.int .i64 0, .int .i64 0], .bool false]) w := by kernel_rfl
theorem as_strangeKind_printKind (v : Value) (w : World) : (Instr.typeAssert (.iface 153 v) 92 149 true).run Tryz.prog w = .ok (.tuple #[.agg #[.int .i64 0], .bool false]) w := by kernel_rfl
theorem as_strangeKind_callKind (v : Value) (w : World) : (Instr.typeAssert (.iface 153 v) 92 151 true).run Tryz.prog w = .ok (.tuple #[.agg #[.int .i64 0, .slice none 0 0], .bool false]) w := by kernel_rfl
theorem as_strangeKind_strangeKind (v : Value) (w : World) : (Instr.typeAssert (.iface 153 v) 92 153 true).run Tryz.prog w = .ok (.tuple #[v, .bool true]) w := by kernel_rfl
end Go.Proofs.YtoknhppjdmoblaaGreatDoor
namespace Go.Proofs.YtoknhppjdmoblaaGreatDoor
open Go.RowKit

def instW (d : InstD) : Int := if opB d.op = true then resZ d.op d.w else d.w
set_option maxHeartbeats 2000000 in
set_option maxRecDepth 100000 in
theorem it_bin (d : InstD) (u : Option Addr) (q : Nat) (w : World) (h : opB d.op = true) :
    Calls Tryz.prog 134 #[.agg #[.int .i64 d.op, .int .i64 d.w, .int .i64 d.a, .int .i64 d.b, .int .i64 d.c, .int .i64 d.imm, .slice u d.args.length q]] w fun e w' => e = .returned (.int .i64 (instW d)) ∧ Below w.heap.size w w' := by
  have HK : Hid (kindV d u q = .iface 140 (.agg #[.int .i64 d.a, .int .i64 d.b])) := kv_bin h
  have HR : Hid (resZ d.op d.w = instW d) := by show _ = _; rw [instW, if_pos h]
  have has := as_binaryKind_binaryKind
  go_enter Tryz.func134, Tryz.ntmps134
  go_wp2_with (first | (go_at_call 53; refine (kind_any d u q _).mono ?_; rintro e w1 ⟨rfl, hb1⟩; rw [HK.out]; have hcc := bcell hb1) | (go_at_call 161; refine (resI _ _ _).mono ?_; rintro e w' ⟨rfl, rfl⟩))
  go_ret
  exact ⟨ret_int HR.out, ((Below.refl w.heap.size w).alloc (Nat.le_refl _) _).trans (hb1.mono (by simp))⟩
set_option maxHeartbeats 2000000 in
set_option maxRecDepth 100000 in
theorem it_18 (d : InstD) (u : Option Addr) (q : Nat) (w : World) (h : d.op = 18) :
    Calls Tryz.prog 134 #[.agg #[.int .i64 d.op, .int .i64 d.w, .int .i64 d.a, .int .i64 d.b, .int .i64 d.c, .int .i64 d.imm, .slice u d.args.length q]] w fun e w' => e = .returned (.int .i64 (instW d)) ∧ Below w.heap.size w w' := by
  have HK : Hid (kindV d u q = .iface 142 (.agg #[.int .i64 d.a])) := kv_18 h
  have HR : Hid (d.w = instW d) := by show _ = _; rw [instW, h]; rfl
  have has := as_unaryKind_binaryKind
  clear h
  go_enter Tryz.func134, Tryz.ntmps134
  go_wp2_with (first | (go_at_call 53; refine (kind_any d u q _).mono ?_; rintro e w1 ⟨rfl, hb1⟩; rw [HK.out]; have hcc := bcell hb1) | (go_at_call 161; refine (resI _ _ _).mono ?_; rintro e w' ⟨rfl, rfl⟩))
  go_ret
  exact ⟨ret_int HR.out, ((Below.refl w.heap.size w).alloc (Nat.le_refl _) _).trans (hb1.mono (by simp))⟩
set_option maxHeartbeats 2000000 in
set_option maxRecDepth 100000 in
theorem it_19 (d : InstD) (u : Option Addr) (q : Nat) (w : World) (h : d.op = 19) :
    Calls Tryz.prog 134 #[.agg #[.int .i64 d.op, .int .i64 d.w, .int .i64 d.a, .int .i64 d.b, .int .i64 d.c, .int .i64 d.imm, .slice u d.args.length q]] w fun e w' => e = .returned (.int .i64 (instW d)) ∧ Below w.heap.size w w' := by
  have HK : Hid (kindV d u q = .iface 142 (.agg #[.int .i64 d.a])) := kv_19 h
  have HR : Hid (d.w = instW d) := by show _ = _; rw [instW, h]; rfl
  have has := as_unaryKind_binaryKind
  clear h
  go_enter Tryz.func134, Tryz.ntmps134
  go_wp2_with (first | (go_at_call 53; refine (kind_any d u q _).mono ?_; rintro e w1 ⟨rfl, hb1⟩; rw [HK.out]; have hcc := bcell hb1) | (go_at_call 161; refine (resI _ _ _).mono ?_; rintro e w' ⟨rfl, rfl⟩))
  go_ret
  exact ⟨ret_int HR.out, ((Below.refl w.heap.size w).alloc (Nat.le_refl _) _).trans (hb1.mono (by simp))⟩
set_option maxHeartbeats 2000000 in
set_option maxRecDepth 100000 in
theorem it_20 (d : InstD) (u : Option Addr) (q : Nat) (w : World) (h : d.op = 20) :
    Calls Tryz.prog 134 #[.agg #[.int .i64 d.op, .int .i64 d.w, .int .i64 d.a, .int .i64 d.b, .int .i64 d.c, .int .i64 d.imm, .slice u d.args.length q]] w fun e w' => e = .returned (.int .i64 (instW d)) ∧ Below w.heap.size w w' := by
  have HK : Hid (kindV d u q = .iface 142 (.agg #[.int .i64 d.a])) := kv_20 h
  have HR : Hid (d.w = instW d) := by show _ = _; rw [instW, h]; rfl
  have has := as_unaryKind_binaryKind
  clear h
  go_enter Tryz.func134, Tryz.ntmps134
  go_wp2_with (first | (go_at_call 53; refine (kind_any d u q _).mono ?_; rintro e w1 ⟨rfl, hb1⟩; rw [HK.out]; have hcc := bcell hb1) | (go_at_call 161; refine (resI _ _ _).mono ?_; rintro e w' ⟨rfl, rfl⟩))
  go_ret
  exact ⟨ret_int HR.out, ((Below.refl w.heap.size w).alloc (Nat.le_refl _) _).trans (hb1.mono (by simp))⟩
set_option maxHeartbeats 2000000 in
set_option maxRecDepth 100000 in
theorem it_21 (d : InstD) (u : Option Addr) (q : Nat) (w : World) (h : d.op = 21) :
    Calls Tryz.prog 134 #[.agg #[.int .i64 d.op, .int .i64 d.w, .int .i64 d.a, .int .i64 d.b, .int .i64 d.c, .int .i64 d.imm, .slice u d.args.length q]] w fun e w' => e = .returned (.int .i64 (instW d)) ∧ Below w.heap.size w w' := by
  have HK : Hid (kindV d u q = .iface 144 (.agg #[.int .i64 d.imm])) := kv_21 h
  have HR : Hid (d.w = instW d) := by show _ = _; rw [instW, h]; rfl
  have has := as_constKind_binaryKind
  clear h
  go_enter Tryz.func134, Tryz.ntmps134
  go_wp2_with (first | (go_at_call 53; refine (kind_any d u q _).mono ?_; rintro e w1 ⟨rfl, hb1⟩; rw [HK.out]; have hcc := bcell hb1) | (go_at_call 161; refine (resI _ _ _).mono ?_; rintro e w' ⟨rfl, rfl⟩))
  go_ret
  exact ⟨ret_int HR.out, ((Below.refl w.heap.size w).alloc (Nat.le_refl _) _).trans (hb1.mono (by simp))⟩
set_option maxHeartbeats 2000000 in
set_option maxRecDepth 100000 in
theorem it_22 (d : InstD) (u : Option Addr) (q : Nat) (w : World) (h : d.op = 22) :
    Calls Tryz.prog 134 #[.agg #[.int .i64 d.op, .int .i64 d.w, .int .i64 d.a, .int .i64 d.b, .int .i64 d.c, .int .i64 d.imm, .slice u d.args.length q]] w fun e w' => e = .returned (.int .i64 (instW d)) ∧ Below w.heap.size w w' := by
  have HK : Hid (kindV d u q = .iface 146 (.agg #[.int .i64 d.a, .int .i64 d.b, .int .i64 d.c])) := kv_22 h
  have HR : Hid (d.w = instW d) := by show _ = _; rw [instW, h]; rfl
  have has := as_selectKind_binaryKind
  clear h
  go_enter Tryz.func134, Tryz.ntmps134
  go_wp2_with (first | (go_at_call 53; refine (kind_any d u q _).mono ?_; rintro e w1 ⟨rfl, hb1⟩; rw [HK.out]; have hcc := bcell hb1) | (go_at_call 161; refine (resI _ _ _).mono ?_; rintro e w' ⟨rfl, rfl⟩))
  go_ret
  exact ⟨ret_int HR.out, ((Below.refl w.heap.size w).alloc (Nat.le_refl _) _).trans (hb1.mono (by simp))⟩
set_option maxHeartbeats 2000000 in
set_option maxRecDepth 100000 in
theorem it_23 (d : InstD) (u : Option Addr) (q : Nat) (w : World) (h : d.op = 23) :
    Calls Tryz.prog 134 #[.agg #[.int .i64 d.op, .int .i64 d.w, .int .i64 d.a, .int .i64 d.b, .int .i64 d.c, .int .i64 d.imm, .slice u d.args.length q]] w fun e w' => e = .returned (.int .i64 (instW d)) ∧ Below w.heap.size w w' := by
  have HK : Hid (kindV d u q = .iface 147 (.agg #[.int .i64 d.a])) := kv_23 h
  have HR : Hid (d.w = instW d) := by show _ = _; rw [instW, h]; rfl
  have has := as_loadKind_binaryKind
  clear h
  go_enter Tryz.func134, Tryz.ntmps134
  go_wp2_with (first | (go_at_call 53; refine (kind_any d u q _).mono ?_; rintro e w1 ⟨rfl, hb1⟩; rw [HK.out]; have hcc := bcell hb1) | (go_at_call 161; refine (resI _ _ _).mono ?_; rintro e w' ⟨rfl, rfl⟩))
  go_ret
  exact ⟨ret_int HR.out, ((Below.refl w.heap.size w).alloc (Nat.le_refl _) _).trans (hb1.mono (by simp))⟩
set_option maxHeartbeats 2000000 in
set_option maxRecDepth 100000 in
theorem it_24 (d : InstD) (u : Option Addr) (q : Nat) (w : World) (h : d.op = 24) :
    Calls Tryz.prog 134 #[.agg #[.int .i64 d.op, .int .i64 d.w, .int .i64 d.a, .int .i64 d.b, .int .i64 d.c, .int .i64 d.imm, .slice u d.args.length q]] w fun e w' => e = .returned (.int .i64 (instW d)) ∧ Below w.heap.size w w' := by
  have HK : Hid (kindV d u q = .iface 148 (.agg #[.int .i64 d.a, .int .i64 d.b])) := kv_24 h
  have HR : Hid (d.w = instW d) := by show _ = _; rw [instW, h]; rfl
  have has := as_storeKind_binaryKind
  clear h
  go_enter Tryz.func134, Tryz.ntmps134
  go_wp2_with (first | (go_at_call 53; refine (kind_any d u q _).mono ?_; rintro e w1 ⟨rfl, hb1⟩; rw [HK.out]; have hcc := bcell hb1) | (go_at_call 161; refine (resI _ _ _).mono ?_; rintro e w' ⟨rfl, rfl⟩))
  go_ret
  exact ⟨ret_int HR.out, ((Below.refl w.heap.size w).alloc (Nat.le_refl _) _).trans (hb1.mono (by simp))⟩
set_option maxHeartbeats 2000000 in
set_option maxRecDepth 100000 in
theorem it_25 (d : InstD) (u : Option Addr) (q : Nat) (w : World) (h : d.op = 25) :
    Calls Tryz.prog 134 #[.agg #[.int .i64 d.op, .int .i64 d.w, .int .i64 d.a, .int .i64 d.b, .int .i64 d.c, .int .i64 d.imm, .slice u d.args.length q]] w fun e w' => e = .returned (.int .i64 (instW d)) ∧ Below w.heap.size w w' := by
  have HK : Hid (kindV d u q = .iface 149 (.agg #[.int .i64 d.a])) := kv_25 h
  have HR : Hid (d.w = instW d) := by show _ = _; rw [instW, h]; rfl
  have has := as_printKind_binaryKind
  clear h
  go_enter Tryz.func134, Tryz.ntmps134
  go_wp2_with (first | (go_at_call 53; refine (kind_any d u q _).mono ?_; rintro e w1 ⟨rfl, hb1⟩; rw [HK.out]; have hcc := bcell hb1) | (go_at_call 161; refine (resI _ _ _).mono ?_; rintro e w' ⟨rfl, rfl⟩))
  go_ret
  exact ⟨ret_int HR.out, ((Below.refl w.heap.size w).alloc (Nat.le_refl _) _).trans (hb1.mono (by simp))⟩
set_option maxHeartbeats 2000000 in
set_option maxRecDepth 100000 in
theorem it_26 (d : InstD) (u : Option Addr) (q : Nat) (w : World) (h : d.op = 26) :
    Calls Tryz.prog 134 #[.agg #[.int .i64 d.op, .int .i64 d.w, .int .i64 d.a, .int .i64 d.b, .int .i64 d.c, .int .i64 d.imm, .slice u d.args.length q]] w fun e w' => e = .returned (.int .i64 (instW d)) ∧ Below w.heap.size w w' := by
  have HK : Hid (kindV d u q = .iface 151 (.agg #[.int .i64 d.imm, .slice u d.args.length q])) := kv_26 h
  have HR : Hid (d.w = instW d) := by show _ = _; rw [instW, h]; rfl
  have has := as_callKind_binaryKind
  clear h
  go_enter Tryz.func134, Tryz.ntmps134
  go_wp2_with (first | (go_at_call 53; refine (kind_any d u q _).mono ?_; rintro e w1 ⟨rfl, hb1⟩; rw [HK.out]; have hcc := bcell hb1) | (go_at_call 161; refine (resI _ _ _).mono ?_; rintro e w' ⟨rfl, rfl⟩))
  go_ret
  exact ⟨ret_int HR.out, ((Below.refl w.heap.size w).alloc (Nat.le_refl _) _).trans (hb1.mono (by simp))⟩
set_option maxHeartbeats 2000000 in
set_option maxRecDepth 100000 in
theorem it_27 (d : InstD) (u : Option Addr) (q : Nat) (w : World) (h : d.op = 27) :
    Calls Tryz.prog 134 #[.agg #[.int .i64 d.op, .int .i64 d.w, .int .i64 d.a, .int .i64 d.b, .int .i64 d.c, .int .i64 d.imm, .slice u d.args.length q]] w fun e w' => e = .returned (.int .i64 (instW d)) ∧ Below w.heap.size w w' := by
  have HK : Hid (kindV d u q = .iface 142 (.agg #[.int .i64 d.a])) := kv_27 h
  have HR : Hid (d.w = instW d) := by show _ = _; rw [instW, h]; rfl
  have has := as_unaryKind_binaryKind
  clear h
  go_enter Tryz.func134, Tryz.ntmps134
  go_wp2_with (first | (go_at_call 53; refine (kind_any d u q _).mono ?_; rintro e w1 ⟨rfl, hb1⟩; rw [HK.out]; have hcc := bcell hb1) | (go_at_call 161; refine (resI _ _ _).mono ?_; rintro e w' ⟨rfl, rfl⟩))
  go_ret
  exact ⟨ret_int HR.out, ((Below.refl w.heap.size w).alloc (Nat.le_refl _) _).trans (hb1.mono (by simp))⟩
set_option maxHeartbeats 2000000 in
set_option maxRecDepth 100000 in
theorem it_no (d : InstD) (u : Option Addr) (q : Nat) (w : World) (ho : opB d.op = false) (h : d.op < 1 ∨ 27 < d.op) :
    Calls Tryz.prog 134 #[.agg #[.int .i64 d.op, .int .i64 d.w, .int .i64 d.a, .int .i64 d.b, .int .i64 d.c, .int .i64 d.imm, .slice u d.args.length q]] w fun e w' => e = .returned (.int .i64 (instW d)) ∧ Below w.heap.size w w' := by
  have HK : Hid (kindV d u q = .iface 153 (.agg #[])) := kv_no ho h
  have HR : Hid (d.w = instW d) := by show _ = _; rw [instW, ho]; rfl
  have has := as_strangeKind_binaryKind
  clear h ho
  go_enter Tryz.func134, Tryz.ntmps134
  go_wp2_with (first | (go_at_call 53; refine (kind_any d u q _).mono ?_; rintro e w1 ⟨rfl, hb1⟩; rw [HK.out]; have hcc := bcell hb1) | (go_at_call 161; refine (resI _ _ _).mono ?_; rintro e w' ⟨rfl, rfl⟩))
  go_ret
  exact ⟨ret_int HR.out, ((Below.refl w.heap.size w).alloc (Nat.le_refl _) _).trans (hb1.mono (by simp))⟩
theorem instI_any (d : InstD) (u : Option Addr) (q : Nat) (w : World) :
    Calls Tryz.prog 134 #[.agg #[.int .i64 d.op, .int .i64 d.w, .int .i64 d.a, .int .i64 d.b, .int .i64 d.c, .int .i64 d.imm, .slice u d.args.length q]] w fun e w' => e = .returned (.int .i64 (instW d)) ∧ Below w.heap.size w w' := by
  rcases op_split d.op with h | h | h | h | h | h | h | h | h | h | h | ⟨ho, h⟩
  · exact it_bin d u q w h
  · exact it_18 d u q w h
  · exact it_19 d u q w h
  · exact it_20 d u q w h
  · exact it_21 d u q w h
  · exact it_22 d u q w h
  · exact it_23 d u q w h
  · exact it_24 d u q w h
  · exact it_25 d u q w h
  · exact it_26 d u q w h
  · exact it_27 d u q w h
  · exact it_no d u q w ho h
set_option maxHeartbeats 2000000 in
theorem instS_any (d : InstD) (u : Option Addr) (q : Nat) (w : World) :
    Calls Tryz.prog 75 #[.agg #[.int .i64 d.op, .int .i64 d.w, .int .i64 d.a, .int .i64 d.b, .int .i64 d.c, .int .i64 d.imm, .slice u d.args.length q]] w fun e w' => e = .returned (.int .i64 (instW d)) ∧ Below w.heap.size w w' := by
  by_cases h : opB d.op = true
  · have HR : Hid (resZ d.op d.w = instW d) := by show _ = _; rw [instW, if_pos h]
    have dd : (decide (1 ≤ d.op) && decide (d.op ≤ 17)) = true := h
    clear h
    go_enter Tryz.func75, Tryz.ntmps75
    go_wp2_with (first | (go_at_call 69; refine (inS _ _ _ _).mono ?_; rintro e w' ⟨rfl, rfl⟩) | (go_at_call 114; refine (resS _ _ _).mono ?_; rintro e w' ⟨rfl, rfl⟩))
    go_ret
    exact ⟨ret_int HR.out, (Below.refl _ _).alloc (Nat.le_refl _) _⟩
  · have h' : opB d.op = false := by simpa using h
    have HR : Hid (d.w = instW d) := by show _ = _; rw [instW, if_neg h]
    have dd : (decide (1 ≤ d.op) && decide (d.op ≤ 17)) = false := h'
    clear h h'
    go_enter Tryz.func75, Tryz.ntmps75
    go_wp2_with (first | (go_at_call 69; refine (inS _ _ _ _).mono ?_; rintro e w' ⟨rfl, rfl⟩))
    go_ret
    exact ⟨ret_int HR.out, (Below.refl _ _).alloc (Nat.le_refl _) _⟩
end Go.Proofs.YtoknhppjdmoblaaGreatDoor
namespace Go.Proofs.YtoknhppjdmoblaaGreatDoor
open Go.RowKit

def typeF (d : FuncD) (id : Int) : Int :=
  if (placeF d id).1 = -2 then -1 else if (placeF d id).1 = -1 then d.params.getD (placeF d id).2.toNat 0 else
  if (placeF d id).2 < (d.blocks.getD (placeF d id).1.toNat block0).phis.length then ((d.blocks.getD (placeF d id).1.toNat block0).phis.getD (placeF d id).2.toNat phi0).w
  else instW ((d.blocks.getD (placeF d id).1.toNat block0).insts.getD ((placeF d id).2 - (d.blocks.getD (placeF d id).1.toNat block0).phis.length).toNat inst0)
theorem placeL_cases : ∀ (r : List BlockD) (b : Nat) (x : Int), 0 ≤ x → placeL r b x = (-2, 0) ∨ ∃ i j : Nat, i < r.length ∧ j < cntB (r.getD i block0) ∧ placeL r b x = (((b + i : Nat) : Int), (j : Int))
  | [], _, _, _ => .inl rfl
  | d :: r, b, x, hx => by
    unfold placeL
    by_cases h : x < cntB d
    · rw [if_pos h]
      exact .inr ⟨0, x.toNat, by simp, by simp; omega, by simp; omega⟩
    · rw [if_neg h]
      rcases placeL_cases r (b + 1) (x - cntB d) (by omega) with k | ⟨i, j, k1, k2, k3⟩
      · exact .inl k
      · refine .inr ⟨i + 1, j, by simp; omega, by simpa using k2, ?_⟩
        rw [k3, show b + 1 + i = b + (i + 1) by omega]
theorem place_cases (d : FuncD) (id : Int) : placeF d id = (-2, 0) ∨ (∃ j : Nat, j < d.params.length ∧ placeF d id = (-1, (j : Int))) ∨ ∃ k j : Nat, k < d.blocks.length ∧ j < cntB (d.blocks.getD k block0) ∧ placeF d id = ((k : Int), (j : Int)) := by
  unfold placeF
  by_cases h1 : id < 0
  · rw [if_pos h1]; exact .inl rfl
  · rw [if_neg h1]
    by_cases h2 : id < d.params.length
    · rw [if_pos h2]; exact .inr (.inl ⟨id.toNat, by omega, by simp; omega⟩)
    · rw [if_neg h2]
      rcases placeL_cases d.blocks 0 (id - d.params.length) (by omega) with k | ⟨i, j, k1, k2, k3⟩
      · exact .inl k
      · exact .inr (.inr ⟨i, j, k1, k2, by rw [k3]; simp⟩)
set_option maxHeartbeats 4000000 in
theorem typeS_any_none (lo : Nat) (d : FuncD) (u0 : Option Addr) (c0 : Nat) (u2 : Option Addr) (c2 : Nat) (id : Int) (w : World) (hs : SmFunc d) (_k0 : IntsAt w lo u0 d.params) (k2 : BlocksAt w lo u2 d.blocks) (hi : id ≤ 9223372036854775807) (h : placeF d id = (-2, 0)) :
    Calls Tryz.prog 79 #[.agg #[.slice u0 d.params.length c0, .int .i64 d.ret, .slice u2 d.blocks.length c2], .int .i64 id] w fun e w' => e = .returned (.int .i64 (typeF d id)) ∧ Below w.heap.size w w' := by
  have E : Hid (-1 = typeF d id) := by show _ = _; simp [typeF, h]
  have q1 : (placeF d id).1 = -2 := by rw [h]
  have q2 : (placeF d id).2 = 0 := by rw [h]
  clear h
  go_enter Tryz.func79, Tryz.ntmps79
  go_wp2_with fail
  refine (placeS_any lo d _ _ _ _ _ _ hs (k2.keep (agree_alloc _ _ _)) hi).mono ?_
  rintro e w1 ⟨rfl, hb1⟩
  have hx1 := box_first hb1
  obtain ⟨p1, p2, p3⟩ := box3 hx1
  have hW := below_box hx1
  have HW : Hid (Below w.heap.size w w1) := hW
  clear hW hx1
  go_wp2_with fail
  go_ret
  exact ⟨ret_i E.out, HW.out⟩
set_option maxHeartbeats 4000000 in
theorem typeS_any_par (lo : Nat) (d : FuncD) (u0 : Option Addr) (c0 : Nat) (u2 : Option Addr) (c2 : Nat) (id : Int) (w : World) (hs : SmFunc d) (k0 : IntsAt w lo u0 d.params) (k2 : BlocksAt w lo u2 d.blocks) (hi : id ≤ 9223372036854775807) (j : Nat) (hj : j < d.params.length) (h : placeF d id = (-1, (j : Int))) :
    Calls Tryz.prog 79 #[.agg #[.slice u0 d.params.length c0, .int .i64 d.ret, .slice u2 d.blocks.length c2], .int .i64 id] w fun e w' => e = .returned (.int .i64 (typeF d id)) ∧ Below w.heap.size w w' := by
  have E : Hid (d.params.getD j 0 = typeF d id) := by show _ = _; simp [typeF, h]
  have q1 : (placeF d id).1 = -1 := by rw [h]
  have q2 : (placeF d id).2 = (j : Int) := by rw [h]
  clear h
  have hp := hs.1
  go_enter Tryz.func79, Tryz.ntmps79
  go_wp2_with fail
  refine (placeS_any lo d _ _ _ _ _ _ hs (k2.keep (agree_alloc _ _ _)) hi).mono ?_
  rintro e w1 ⟨rfl, hb1⟩
  have hx1 := box_first hb1
  obtain ⟨p1, p2, p3⟩ := box3 hx1
  have hW := below_box hx1
  rcases k0.2 with hn | ⟨b, off, rfl, hlo, hb, hcell⟩
  · simp [hn] at hj
  have e0 : w1.cell? ⟨b, off + j, none⟩ = some (.int .i64 (d.params.getD j 0)) := (cell_block (hW.block b hb)).trans (hcell j hj)
  have HW : Hid (Below w.heap.size w w1) := hW
  generalize d.params.getD j 0 = pv at e0 E
  clear hW hx1 hcell
  go_wp2_with fail
  go_ret
  exact ⟨ret_i E.out, HW.out⟩
set_option maxHeartbeats 4000000 in
theorem typeS_any_phi (lo : Nat) (d : FuncD) (u0 : Option Addr) (c0 : Nat) (u2 : Option Addr) (c2 : Nat) (id : Int) (w : World) (hs : SmFunc d) (_k0 : IntsAt w lo u0 d.params) (k2 : BlocksAt w lo u2 d.blocks) (hi : id ≤ 9223372036854775807) (k j : Nat) (hk : k < d.blocks.length) (hj : j < (d.blocks.getD k block0).phis.length) (h : placeF d id = ((k : Int), (j : Int))) :
    Calls Tryz.prog 79 #[.agg #[.slice u0 d.params.length c0, .int .i64 d.ret, .slice u2 d.blocks.length c2], .int .i64 id] w fun e w' => e = .returned (.int .i64 (typeF d id)) ∧ Below w.heap.size w w' := by
  have E : Hid (((d.blocks.getD k block0).phis.getD j phi0).w = typeF d id) := by
    show _ = _
    have a1 : ¬ ((k : Int) = -2) := by omega
    have a2 : ¬ ((k : Int) = -1) := by omega
    have a3 : (j : Int) < (d.blocks.getD k block0).phis.length := by omega
    simp only [typeF, h, if_neg a1, if_neg a2, Int.toNat_natCast, if_pos a3]
  have q1 : (placeF d id).1 = (k : Int) := by rw [h]
  have q2 : (placeF d id).2 = (j : Int) := by rw [h]
  clear h
  go_enter Tryz.func79, Tryz.ntmps79
  go_wp2_with fail
  refine (placeS_any lo d _ _ _ _ _ _ hs (k2.keep (agree_alloc _ _ _)) hi).mono ?_
  rintro e w1 ⟨rfl, hb1⟩
  have hx1 := box_first hb1
  obtain ⟨p1, p2, p3⟩ := box3 hx1
  have hW := below_box hx1
  rcases k2.2 with hn | ⟨b, off, rfl, hlo, hb, hcell⟩
  · simp [hn] at hk
  obtain ⟨⟨v0, r0, g0, n0⟩, ⟨v1, r1, g1, n1⟩, g2, g3, g4, g5⟩ := hcell k hk
  have hsm := hs.2.2 _ (getD_mem block0 d.blocks k hk)
  generalize d.blocks.getD k block0 = x at *
  have e0 : w1.cell? ⟨b, off + k * 6, none⟩ = some (.slice v0 x.phis.length r0) := (cell_block (hW.block b hb)).trans g0
  have e1 : w1.cell? ⟨b, off + k * 6 + 1, none⟩ = some (.slice v1 x.insts.length r1) := (cell_block (hW.block b hb)).trans g1
  have e2 : w1.cell? ⟨b, off + k * 6 + 2, none⟩ = some (.int .i64 x.term.kind) := (cell_block (hW.block b hb)).trans g2
  have e3 : w1.cell? ⟨b, off + k * 6 + 3, none⟩ = some (.int .i64 x.term.a) := (cell_block (hW.block b hb)).trans g3
  have e4 : w1.cell? ⟨b, off + k * 6 + 4, none⟩ = some (.int .i64 x.term.x) := (cell_block (hW.block b hb)).trans g4
  have e5 : w1.cell? ⟨b, off + k * 6 + 5, none⟩ = some (.int .i64 x.term.y) := (cell_block (hW.block b hb)).trans g5
  have s0 := hsm.1.1
  have s1 := hsm.2.1
  have hbl := hs.2.1
  have HW : Hid (Below w.heap.size w w1) := hW
  rcases n0.2 with hn | ⟨bp, op, rfl, hlp, hbp, hcp⟩
  · simp [hn] at hj
  have f0 : w1.cell? ⟨bp, op + j * 2, none⟩ = some (.int .i64 (x.phis.getD j phi0).w) := (cell_block (hW.block bp hbp)).trans (hcp j hj).1
  have z1 : bp < w1.heap.size := Nat.lt_of_lt_of_le hbp hW.size
  generalize (x.phis.getD j phi0).w = pv at f0 E
  clear hW hx1 hcell hcp g0 g1 g2 g3 g4 g5 n0 n1 hsm _k0 k2
  go_wp2_with fail
  go_ret
  exact ⟨ret_i E.out, by first | exact HW.out | exact HW.out.alloc HW.out.size _⟩
set_option maxHeartbeats 4000000 in
theorem typeS_any_inst (lo : Nat) (d : FuncD) (u0 : Option Addr) (c0 : Nat) (u2 : Option Addr) (c2 : Nat) (id : Int) (w : World) (hs : SmFunc d) (_k0 : IntsAt w lo u0 d.params) (k2 : BlocksAt w lo u2 d.blocks) (hi : id ≤ 9223372036854775807) (k j : Nat) (hk : k < d.blocks.length) (hj : j < (d.blocks.getD k block0).insts.length) (h : placeF d id = ((k : Int), (((d.blocks.getD k block0).phis.length + j : Nat) : Int))) :
    Calls Tryz.prog 79 #[.agg #[.slice u0 d.params.length c0, .int .i64 d.ret, .slice u2 d.blocks.length c2], .int .i64 id] w fun e w' => e = .returned (.int .i64 (typeF d id)) ∧ Below w.heap.size w w' := by
  have E : Hid (instW ((d.blocks.getD k block0).insts.getD j inst0) = typeF d id) := by
    show _ = _
    have a1 : ¬ ((k : Int) = -2) := by omega
    have a2 : ¬ ((k : Int) = -1) := by omega
    have a3 : ¬ ((((d.blocks.getD k block0).phis.length + j : Nat) : Int) < (d.blocks.getD k block0).phis.length) := by omega
    have a4 : ((((d.blocks.getD k block0).phis.length + j : Nat) : Int) - (d.blocks.getD k block0).phis.length).toNat = j := by omega
    simp only [typeF, h, if_neg a1, if_neg a2, Int.toNat_natCast, if_neg a3, a4]
  have q1 : (placeF d id).1 = (k : Int) := by rw [h]
  have q2 : (placeF d id).2 = ((d.blocks.getD k block0).phis.length : Int) + (j : Int) := by rw [h]; simp
  clear h
  go_enter Tryz.func79, Tryz.ntmps79
  go_wp2_with fail
  refine (placeS_any lo d _ _ _ _ _ _ hs (k2.keep (agree_alloc _ _ _)) hi).mono ?_
  rintro e w1 ⟨rfl, hb1⟩
  have hx1 := box_first hb1
  obtain ⟨p1, p2, p3⟩ := box3 hx1
  have hW := below_box hx1
  rcases k2.2 with hn | ⟨b, off, rfl, hlo, hb, hcell⟩
  · simp [hn] at hk
  obtain ⟨⟨v0, r0, g0, n0⟩, ⟨v1, r1, g1, n1⟩, g2, g3, g4, g5⟩ := hcell k hk
  have hsm := hs.2.2 _ (getD_mem block0 d.blocks k hk)
  generalize d.blocks.getD k block0 = x at *
  have e0 : w1.cell? ⟨b, off + k * 6, none⟩ = some (.slice v0 x.phis.length r0) := (cell_block (hW.block b hb)).trans g0
  have e1 : w1.cell? ⟨b, off + k * 6 + 1, none⟩ = some (.slice v1 x.insts.length r1) := (cell_block (hW.block b hb)).trans g1
  have e2 : w1.cell? ⟨b, off + k * 6 + 2, none⟩ = some (.int .i64 x.term.kind) := (cell_block (hW.block b hb)).trans g2
  have e3 : w1.cell? ⟨b, off + k * 6 + 3, none⟩ = some (.int .i64 x.term.a) := (cell_block (hW.block b hb)).trans g3
  have e4 : w1.cell? ⟨b, off + k * 6 + 4, none⟩ = some (.int .i64 x.term.x) := (cell_block (hW.block b hb)).trans g4
  have e5 : w1.cell? ⟨b, off + k * 6 + 5, none⟩ = some (.int .i64 x.term.y) := (cell_block (hW.block b hb)).trans g5
  have s0 := hsm.1.1
  have s1 := hsm.2.1
  have hbl := hs.2.1
  have HW : Hid (Below w.heap.size w w1) := hW
  rcases n1.2 with hn | ⟨bp, op, rfl, hlp, hbp, hcp⟩
  · simp [hn] at hj
  obtain ⟨i0, i1, i2, i3, i4, i5, ⟨ua, qa, i6, _⟩⟩ := hcp j hj
  generalize x.insts.getD j inst0 = y at *
  have f0 : w1.cell? ⟨bp, op + j * 7, none⟩ = some (.int .i64 y.op) := (cell_block (hW.block bp hbp)).trans i0
  have f1 : w1.cell? ⟨bp, op + j * 7 + 1, none⟩ = some (.int .i64 y.w) := (cell_block (hW.block bp hbp)).trans i1
  have f2 : w1.cell? ⟨bp, op + j * 7 + 2, none⟩ = some (.int .i64 y.a) := (cell_block (hW.block bp hbp)).trans i2
  have f3 : w1.cell? ⟨bp, op + j * 7 + 3, none⟩ = some (.int .i64 y.b) := (cell_block (hW.block bp hbp)).trans i3
  have f4 : w1.cell? ⟨bp, op + j * 7 + 4, none⟩ = some (.int .i64 y.c) := (cell_block (hW.block bp hbp)).trans i4
  have f5 : w1.cell? ⟨bp, op + j * 7 + 5, none⟩ = some (.int .i64 y.imm) := (cell_block (hW.block bp hbp)).trans i5
  have f6 : w1.cell? ⟨bp, op + j * 7 + 6, none⟩ = some (.slice ua y.args.length qa) := (cell_block (hW.block bp hbp)).trans i6
  have z1 : bp < w1.heap.size := Nat.lt_of_lt_of_le hbp hW.size
  clear hW hx1 hcell hcp g0 g1 g2 g3 g4 g5 n0 n1 hsm _k0 k2 i0 i1 i2 i3 i4 i5 i6
  go_wp2_with (go_at_call 75; refine (instS_any y ua qa _).mono ?_; rintro e w2 ⟨rfl, hb2⟩)
  go_ret
  exact ⟨ret_i E.out, by first | exact HW.out.trans (hb2.mono HW.out.size) | exact (HW.out.alloc HW.out.size _).trans (hb2.mono (by have := HW.out.size; simp; omega))⟩
set_option maxHeartbeats 4000000 in
theorem typeS_any (lo : Nat) (d : FuncD) (u0 : Option Addr) (c0 : Nat) (u2 : Option Addr) (c2 : Nat) (id : Int) (w : World) (hs : SmFunc d) (k0 : IntsAt w lo u0 d.params) (k2 : BlocksAt w lo u2 d.blocks) (hi : id ≤ 9223372036854775807) :
    Calls Tryz.prog 79 #[.agg #[.slice u0 d.params.length c0, .int .i64 d.ret, .slice u2 d.blocks.length c2], .int .i64 id] w fun e w' => e = .returned (.int .i64 (typeF d id)) ∧ Below w.heap.size w w' := by
  rcases place_cases d id with h | ⟨j, hj, h⟩ | ⟨k, j, hk, hj, h⟩
  · exact typeS_any_none lo d u0 c0 u2 c2 id w hs k0 k2 hi h
  · exact typeS_any_par lo d u0 c0 u2 c2 id w hs k0 k2 hi j hj h
  · by_cases hp : j < (d.blocks.getD k block0).phis.length
    · exact typeS_any_phi lo d u0 c0 u2 c2 id w hs k0 k2 hi k j hk hp h
    · unfold cntB at hj
      refine typeS_any_inst lo d u0 c0 u2 c2 id w hs k0 k2 hi k (j - (d.blocks.getD k block0).phis.length) hk (by omega) ?_
      rw [h, show (d.blocks.getD k block0).phis.length + (j - (d.blocks.getD k block0).phis.length) = j by omega]
set_option maxHeartbeats 4000000 in
theorem typeI_any_none (lo : Nat) (d : FuncD) (u0 : Option Addr) (c0 : Nat) (u2 : Option Addr) (c2 : Nat) (id : Int) (w : World) (hs : SmFunc d) (_k0 : IntsAt w lo u0 d.params) (k2 : BlocksAt w lo u2 d.blocks) (hi : id ≤ 9223372036854775807) (h : placeF d id = (-2, 0)) :
    Calls Tryz.prog 105 #[.agg #[.slice u0 d.params.length c0, .int .i64 d.ret, .slice u2 d.blocks.length c2], .int .i64 id] w fun e w' => e = .returned (.int .i64 (typeF d id)) ∧ Below w.heap.size w w' := by
  have E : Hid (-1 = typeF d id) := by show _ = _; simp [typeF, h]
  have q1 : (placeF d id).1 = -2 := by rw [h]
  have q2 : (placeF d id).2 = 0 := by rw [h]
  clear h
  go_enter Tryz.func105, Tryz.ntmps105
  go_wp2_with fail
  refine (placeI_any lo d _ _ _ _ _ _ hs (k2.keep (agree_alloc _ _ _)) hi).mono ?_
  rintro e w1 ⟨rfl, hb1⟩
  have hx1 := box_first hb1
  obtain ⟨p1, p2, p3⟩ := box3 hx1
  have hW := below_box hx1
  have HW : Hid (Below w.heap.size w w1) := hW
  clear hW hx1
  go_wp2_with fail
  go_ret
  exact ⟨ret_i E.out, HW.out⟩
set_option maxHeartbeats 4000000 in
theorem typeI_any_par (lo : Nat) (d : FuncD) (u0 : Option Addr) (c0 : Nat) (u2 : Option Addr) (c2 : Nat) (id : Int) (w : World) (hs : SmFunc d) (k0 : IntsAt w lo u0 d.params) (k2 : BlocksAt w lo u2 d.blocks) (hi : id ≤ 9223372036854775807) (j : Nat) (hj : j < d.params.length) (h : placeF d id = (-1, (j : Int))) :
    Calls Tryz.prog 105 #[.agg #[.slice u0 d.params.length c0, .int .i64 d.ret, .slice u2 d.blocks.length c2], .int .i64 id] w fun e w' => e = .returned (.int .i64 (typeF d id)) ∧ Below w.heap.size w w' := by
  have E : Hid (d.params.getD j 0 = typeF d id) := by show _ = _; simp [typeF, h]
  have q1 : (placeF d id).1 = -1 := by rw [h]
  have q2 : (placeF d id).2 = (j : Int) := by rw [h]
  clear h
  have hp := hs.1
  go_enter Tryz.func105, Tryz.ntmps105
  go_wp2_with fail
  refine (placeI_any lo d _ _ _ _ _ _ hs (k2.keep (agree_alloc _ _ _)) hi).mono ?_
  rintro e w1 ⟨rfl, hb1⟩
  have hx1 := box_first hb1
  obtain ⟨p1, p2, p3⟩ := box3 hx1
  have hW := below_box hx1
  rcases k0.2 with hn | ⟨b, off, rfl, hlo, hb, hcell⟩
  · simp [hn] at hj
  have e0 : w1.cell? ⟨b, off + j, none⟩ = some (.int .i64 (d.params.getD j 0)) := (cell_block (hW.block b hb)).trans (hcell j hj)
  have HW : Hid (Below w.heap.size w w1) := hW
  generalize d.params.getD j 0 = pv at e0 E
  clear hW hx1 hcell
  go_wp2_with fail
  go_ret
  exact ⟨ret_i E.out, HW.out⟩
set_option maxHeartbeats 4000000 in
theorem typeI_any_phi (lo : Nat) (d : FuncD) (u0 : Option Addr) (c0 : Nat) (u2 : Option Addr) (c2 : Nat) (id : Int) (w : World) (hs : SmFunc d) (_k0 : IntsAt w lo u0 d.params) (k2 : BlocksAt w lo u2 d.blocks) (hi : id ≤ 9223372036854775807) (k j : Nat) (hk : k < d.blocks.length) (hj : j < (d.blocks.getD k block0).phis.length) (h : placeF d id = ((k : Int), (j : Int))) :
    Calls Tryz.prog 105 #[.agg #[.slice u0 d.params.length c0, .int .i64 d.ret, .slice u2 d.blocks.length c2], .int .i64 id] w fun e w' => e = .returned (.int .i64 (typeF d id)) ∧ Below w.heap.size w w' := by
  have E : Hid (((d.blocks.getD k block0).phis.getD j phi0).w = typeF d id) := by
    show _ = _
    have a1 : ¬ ((k : Int) = -2) := by omega
    have a2 : ¬ ((k : Int) = -1) := by omega
    have a3 : (j : Int) < (d.blocks.getD k block0).phis.length := by omega
    simp only [typeF, h, if_neg a1, if_neg a2, Int.toNat_natCast, if_pos a3]
  have q1 : (placeF d id).1 = (k : Int) := by rw [h]
  have q2 : (placeF d id).2 = (j : Int) := by rw [h]
  clear h
  go_enter Tryz.func105, Tryz.ntmps105
  go_wp2_with fail
  refine (placeI_any lo d _ _ _ _ _ _ hs (k2.keep (agree_alloc _ _ _)) hi).mono ?_
  rintro e w1 ⟨rfl, hb1⟩
  have hx1 := box_first hb1
  obtain ⟨p1, p2, p3⟩ := box3 hx1
  have hW := below_box hx1
  rcases k2.2 with hn | ⟨b, off, rfl, hlo, hb, hcell⟩
  · simp [hn] at hk
  obtain ⟨⟨v0, r0, g0, n0⟩, ⟨v1, r1, g1, n1⟩, g2, g3, g4, g5⟩ := hcell k hk
  have hsm := hs.2.2 _ (getD_mem block0 d.blocks k hk)
  generalize d.blocks.getD k block0 = x at *
  have e0 : w1.cell? ⟨b, off + k * 6, none⟩ = some (.slice v0 x.phis.length r0) := (cell_block (hW.block b hb)).trans g0
  have e1 : w1.cell? ⟨b, off + k * 6 + 1, none⟩ = some (.slice v1 x.insts.length r1) := (cell_block (hW.block b hb)).trans g1
  have e2 : w1.cell? ⟨b, off + k * 6 + 2, none⟩ = some (.int .i64 x.term.kind) := (cell_block (hW.block b hb)).trans g2
  have e3 : w1.cell? ⟨b, off + k * 6 + 3, none⟩ = some (.int .i64 x.term.a) := (cell_block (hW.block b hb)).trans g3
  have e4 : w1.cell? ⟨b, off + k * 6 + 4, none⟩ = some (.int .i64 x.term.x) := (cell_block (hW.block b hb)).trans g4
  have e5 : w1.cell? ⟨b, off + k * 6 + 5, none⟩ = some (.int .i64 x.term.y) := (cell_block (hW.block b hb)).trans g5
  have s0 := hsm.1.1
  have s1 := hsm.2.1
  have hbl := hs.2.1
  have HW : Hid (Below w.heap.size w w1) := hW
  rcases n0.2 with hn | ⟨bp, op, rfl, hlp, hbp, hcp⟩
  · simp [hn] at hj
  have f0 : w1.cell? ⟨bp, op + j * 2, none⟩ = some (.int .i64 (x.phis.getD j phi0).w) := (cell_block (hW.block bp hbp)).trans (hcp j hj).1
  have z1 : bp < w1.heap.size := Nat.lt_of_lt_of_le hbp hW.size
  generalize (x.phis.getD j phi0).w = pv at f0 E
  clear hW hx1 hcell hcp g0 g1 g2 g3 g4 g5 n0 n1 hsm _k0 k2
  go_wp2_with fail
  go_ret
  exact ⟨ret_i E.out, by first | exact HW.out | exact HW.out.alloc HW.out.size _⟩
set_option maxHeartbeats 4000000 in
theorem typeI_any_inst (lo : Nat) (d : FuncD) (u0 : Option Addr) (c0 : Nat) (u2 : Option Addr) (c2 : Nat) (id : Int) (w : World) (hs : SmFunc d) (_k0 : IntsAt w lo u0 d.params) (k2 : BlocksAt w lo u2 d.blocks) (hi : id ≤ 9223372036854775807) (k j : Nat) (hk : k < d.blocks.length) (hj : j < (d.blocks.getD k block0).insts.length) (h : placeF d id = ((k : Int), (((d.blocks.getD k block0).phis.length + j : Nat) : Int))) :
    Calls Tryz.prog 105 #[.agg #[.slice u0 d.params.length c0, .int .i64 d.ret, .slice u2 d.blocks.length c2], .int .i64 id] w fun e w' => e = .returned (.int .i64 (typeF d id)) ∧ Below w.heap.size w w' := by
  have E : Hid (instW ((d.blocks.getD k block0).insts.getD j inst0) = typeF d id) := by
    show _ = _
    have a1 : ¬ ((k : Int) = -2) := by omega
    have a2 : ¬ ((k : Int) = -1) := by omega
    have a3 : ¬ ((((d.blocks.getD k block0).phis.length + j : Nat) : Int) < (d.blocks.getD k block0).phis.length) := by omega
    have a4 : ((((d.blocks.getD k block0).phis.length + j : Nat) : Int) - (d.blocks.getD k block0).phis.length).toNat = j := by omega
    simp only [typeF, h, if_neg a1, if_neg a2, Int.toNat_natCast, if_neg a3, a4]
  have q1 : (placeF d id).1 = (k : Int) := by rw [h]
  have q2 : (placeF d id).2 = ((d.blocks.getD k block0).phis.length : Int) + (j : Int) := by rw [h]; simp
  clear h
  go_enter Tryz.func105, Tryz.ntmps105
  go_wp2_with fail
  refine (placeI_any lo d _ _ _ _ _ _ hs (k2.keep (agree_alloc _ _ _)) hi).mono ?_
  rintro e w1 ⟨rfl, hb1⟩
  have hx1 := box_first hb1
  obtain ⟨p1, p2, p3⟩ := box3 hx1
  have hW := below_box hx1
  rcases k2.2 with hn | ⟨b, off, rfl, hlo, hb, hcell⟩
  · simp [hn] at hk
  obtain ⟨⟨v0, r0, g0, n0⟩, ⟨v1, r1, g1, n1⟩, g2, g3, g4, g5⟩ := hcell k hk
  have hsm := hs.2.2 _ (getD_mem block0 d.blocks k hk)
  generalize d.blocks.getD k block0 = x at *
  have e0 : w1.cell? ⟨b, off + k * 6, none⟩ = some (.slice v0 x.phis.length r0) := (cell_block (hW.block b hb)).trans g0
  have e1 : w1.cell? ⟨b, off + k * 6 + 1, none⟩ = some (.slice v1 x.insts.length r1) := (cell_block (hW.block b hb)).trans g1
  have e2 : w1.cell? ⟨b, off + k * 6 + 2, none⟩ = some (.int .i64 x.term.kind) := (cell_block (hW.block b hb)).trans g2
  have e3 : w1.cell? ⟨b, off + k * 6 + 3, none⟩ = some (.int .i64 x.term.a) := (cell_block (hW.block b hb)).trans g3
  have e4 : w1.cell? ⟨b, off + k * 6 + 4, none⟩ = some (.int .i64 x.term.x) := (cell_block (hW.block b hb)).trans g4
  have e5 : w1.cell? ⟨b, off + k * 6 + 5, none⟩ = some (.int .i64 x.term.y) := (cell_block (hW.block b hb)).trans g5
  have s0 := hsm.1.1
  have s1 := hsm.2.1
  have hbl := hs.2.1
  have HW : Hid (Below w.heap.size w w1) := hW
  rcases n1.2 with hn | ⟨bp, op, rfl, hlp, hbp, hcp⟩
  · simp [hn] at hj
  obtain ⟨i0, i1, i2, i3, i4, i5, ⟨ua, qa, i6, _⟩⟩ := hcp j hj
  generalize x.insts.getD j inst0 = y at *
  have f0 : w1.cell? ⟨bp, op + j * 7, none⟩ = some (.int .i64 y.op) := (cell_block (hW.block bp hbp)).trans i0
  have f1 : w1.cell? ⟨bp, op + j * 7 + 1, none⟩ = some (.int .i64 y.w) := (cell_block (hW.block bp hbp)).trans i1
  have f2 : w1.cell? ⟨bp, op + j * 7 + 2, none⟩ = some (.int .i64 y.a) := (cell_block (hW.block bp hbp)).trans i2
  have f3 : w1.cell? ⟨bp, op + j * 7 + 3, none⟩ = some (.int .i64 y.b) := (cell_block (hW.block bp hbp)).trans i3
  have f4 : w1.cell? ⟨bp, op + j * 7 + 4, none⟩ = some (.int .i64 y.c) := (cell_block (hW.block bp hbp)).trans i4
  have f5 : w1.cell? ⟨bp, op + j * 7 + 5, none⟩ = some (.int .i64 y.imm) := (cell_block (hW.block bp hbp)).trans i5
  have f6 : w1.cell? ⟨bp, op + j * 7 + 6, none⟩ = some (.slice ua y.args.length qa) := (cell_block (hW.block bp hbp)).trans i6
  have z1 : bp < w1.heap.size := Nat.lt_of_lt_of_le hbp hW.size
  clear hW hx1 hcell hcp g0 g1 g2 g3 g4 g5 n0 n1 hsm _k0 k2 i0 i1 i2 i3 i4 i5 i6
  go_wp2_with (go_at_call 134; refine (instI_any y ua qa _).mono ?_; rintro e w2 ⟨rfl, hb2⟩)
  go_ret
  exact ⟨ret_i E.out, by first | exact HW.out.trans (hb2.mono HW.out.size) | exact (HW.out.alloc HW.out.size _).trans (hb2.mono (by have := HW.out.size; simp; omega))⟩
set_option maxHeartbeats 4000000 in
theorem typeI_any (lo : Nat) (d : FuncD) (u0 : Option Addr) (c0 : Nat) (u2 : Option Addr) (c2 : Nat) (id : Int) (w : World) (hs : SmFunc d) (k0 : IntsAt w lo u0 d.params) (k2 : BlocksAt w lo u2 d.blocks) (hi : id ≤ 9223372036854775807) :
    Calls Tryz.prog 105 #[.agg #[.slice u0 d.params.length c0, .int .i64 d.ret, .slice u2 d.blocks.length c2], .int .i64 id] w fun e w' => e = .returned (.int .i64 (typeF d id)) ∧ Below w.heap.size w w' := by
  rcases place_cases d id with h | ⟨j, hj, h⟩ | ⟨k, j, hk, hj, h⟩
  · exact typeI_any_none lo d u0 c0 u2 c2 id w hs k0 k2 hi h
  · exact typeI_any_par lo d u0 c0 u2 c2 id w hs k0 k2 hi j hj h
  · by_cases hp : j < (d.blocks.getD k block0).phis.length
    · exact typeI_any_phi lo d u0 c0 u2 c2 id w hs k0 k2 hi k j hk hp h
    · unfold cntB at hj
      refine typeI_any_inst lo d u0 c0 u2 c2 id w hs k0 k2 hi k (j - (d.blocks.getD k block0).phis.length) hk (by omega) ?_
      rw [h, show (d.blocks.getD k block0).phis.length + (j - (d.blocks.getD k block0).phis.length) = j by omega]
end Go.Proofs.YtoknhppjdmoblaaGreatDoor
namespace Go.Proofs.YtoknhppjdmoblaaGreatDoor
open Go.RowKit

def instF (d : FuncD) (id : Int) : Option InstD :=
  if (placeF d id).1 < 0 then none else if (placeF d id).2 < (d.blocks.getD (placeF d id).1.toNat block0).phis.length then none
  else some ((d.blocks.getD (placeF d id).1.toNat block0).insts.getD ((placeF d id).2 - (d.blocks.getD (placeF d id).1.toNat block0).phis.length).toNat inst0)
def constF (d : FuncD) (id : Int) : Option Int := match instF d id with
  | none => none
  | some y => if y.op = 21 then some y.imm else none
def InstTold (w : World) (lo : Nat) : Option InstD → Ending → Prop
  | none, e => e = .returned (.tuple #[.agg #[.int .i64 0, .int .i64 0, .int .i64 0, .int .i64 0, .int .i64 0, .int .i64 0, .slice none 0 0], .bool false])
  | some y, e => ∃ ua qa, e = .returned (.tuple #[.agg #[.int .i64 y.op, .int .i64 y.w, .int .i64 y.a, .int .i64 y.b, .int .i64 y.c, .int .i64 y.imm, .slice ua y.args.length qa], .bool true]) ∧ IntsAt w lo ua y.args
def ConstTold : Option Int → Ending → Prop
  | none, e => e = .returned (.tuple #[.int .i64 0, .bool false])
  | some v, e => e = .returned (.tuple #[.int .i64 v, .bool true])
theorem results_cell_row_tmp {P : Program} {fn : Func} {p u : Tmp} {ty : TypeId} (h : fn.results = #[.cell p ty, .tmp u]) (tmps : Array Value) (w : World) (g : Nat) (cs : Array Value)
    (hp : tmps.getD p undef = .pointer (some ⟨g, 0, none⟩)) (hl : (loadVar ty ⟨g, 0, none⟩).run P w = .ok (.agg cs) w) :
    (results fn tmps).run P w = .ok (.tuple #[.agg cs, tmps.getD u undef]) w := by
  have hp' : tmps[p]?.getD undef = .pointer (some ⟨g, 0, none⟩) := by simpa using hp
  rw [results_cell_tmp h]
  simp [hp', asAddr, hl, Result.andThen]
theorem cell_off {w : World} {g o h p : Nat} {v : Value} {x : Option Value} (hn : h < g) (hx : w.cell? ⟨h, p, none⟩ = x) : (w.setCell ⟨g, o, none⟩ v).cell? ⟨h, p, none⟩ = x := (cell_block (Below.heap_setCell _ _ _ _ (by show h ≠ g; omega))).trans hx
theorem drew_cell (w : World) (a : Addr) : w.drew.cell? a = w.cell? a := rfl
theorem drew_heap (w : World) (i : Nat) : w.drew.heap[i]? = w.heap[i]? := rfl
theorem keep7 {B : Nat} {w w1 : World} {v0 v1 v2 v3 v4 v5 v6 : Value} (h : ∀ b o, b < B → w.cell? ⟨b, o, none⟩ = w1.cell? ⟨b, o, none⟩) :
    ∀ b o, b < B → (((((((w.setCell ⟨B, 0, none⟩ v0).setCell ⟨B, 1, none⟩ v1).setCell ⟨B, 2, none⟩ v2).setCell ⟨B, 3, none⟩ v3).setCell ⟨B, 4, none⟩ v4).setCell ⟨B, 5, none⟩ v5).setCell ⟨B, 6, none⟩ v6).drew.cell? ⟨b, o, none⟩ = w1.cell? ⟨b, o, none⟩ := fun b o hb =>
  (drew_cell _ _).trans (cell_off hb (cell_off hb (cell_off hb (cell_off hb (cell_off hb (cell_off hb (cell_off hb (h b o hb))))))))
theorem box_second {w w1 : World} {o p : Obj} (h : Below ((w.alloc o).alloc p).heap.size ((w.alloc o).alloc p) w1) : Below (w.alloc o).heap.size (w.alloc o) w1 :=
  ((Below.refl (w.alloc o).heap.size (w.alloc o)).alloc (Nat.le_refl _) p).trans (h.mono (by simp))
theorem const_told {o : Option Int} {e : Ending} (h : ConstTold o e) : e = .returned (.tuple #[.int .i64 (o.getD 0), .bool o.isSome]) := by cases o <;> exact h
set_option maxHeartbeats 4000000 in
theorem instS_at_none (lo : Nat) (d : FuncD) (u0 : Option Addr) (c0 : Nat) (u2 : Option Addr) (c2 : Nat) (id : Int) (w : World) (hs : SmFunc d) (k2 : BlocksAt w lo u2 d.blocks) (hi : id ≤ 9223372036854775807) (v z : Int) (hv : v = -2 ∨ v = -1) (h : placeF d id = (v, z)) :
    Calls Tryz.prog 35 #[.agg #[.slice u0 d.params.length c0, .int .i64 d.ret, .slice u2 d.blocks.length c2], .int .i64 id] w fun e w' => InstTold w lo (instF d id) e ∧ Below w.heap.size w w' := by
  have E : Hid (instF d id = none) := by show _ = _; rw [instF, h, if_pos (by show v < 0; omega)]
  have q1 : (placeF d id).1 = v := by rw [h]
  clear h
  go_enter Tryz.func35, Tryz.ntmps35
  go_wp2_with fail
  refine (placeS_any lo d _ _ _ _ _ _ hs (k2.keep ((agree_alloc _ _ _).trans (agree_alloc _ _ _))) hi).mono ?_
  rintro e w1 ⟨rfl, hb1⟩
  have hx1 := box_first (box_second hb1)
  obtain ⟨p1, p2, p3⟩ := box3 hx1
  have hW := below_box hx1
  have hcc := bcell hb1
  have hff := bfroz hb1
  have hr0 : w1.heap[w.heap.size + 1]? = _ := (hb1.block (w.heap.size + 1) (by simp)).trans (heap_alloc2_new _ _ _)
  have HW : Hid (Below w.heap.size w w1) := hW
  clear hW hx1
  rcases hv with rfl | rfl
  all_goals
    go_wp2_with fail
    have hr := heap_set (o := 6) (v := .slice none 0 0) (heap_set (o := 5) (v := .int .i64 0) (heap_set (o := 4) (v := .int .i64 0) (heap_set (o := 3) (v := .int .i64 0) (heap_set (o := 2) (v := .int .i64 0) (heap_set (o := 1) (v := .int .i64 0) (heap_set (o := 0) (v := .int .i64 0) hr0))))))
    refine bodyPost_ret (v := .tuple #[.agg #[.int .i64 0, .int .i64 0, .int .i64 0, .int .i64 0, .int .i64 0, .int .i64 0, .slice none 0 0], .bool false]) ((results_cell_row_tmp Tryz.results35 _ _ (w.heap.size + 1) _ rfl (run_loadVar_row _ _ 29 _ _ (0, 0) _ hr Tryz.underlying29 rfl (by kernel_rfl))).trans (by rfl)) rfl ⟨by rw [E.out]; rfl, ?_⟩
    exact (by repeat (first | refine Below.setCell ?_ (by dsimp only; omega) _ | exact HW.out))
set_option maxHeartbeats 4000000 in
theorem instS_at_phi (lo : Nat) (d : FuncD) (u0 : Option Addr) (c0 : Nat) (u2 : Option Addr) (c2 : Nat) (id : Int) (w : World) (hs : SmFunc d) (k2 : BlocksAt w lo u2 d.blocks) (hi : id ≤ 9223372036854775807) (k j : Nat) (hk : k < d.blocks.length) (hj : j < (d.blocks.getD k block0).phis.length) (h : placeF d id = ((k : Int), (j : Int))) :
    Calls Tryz.prog 35 #[.agg #[.slice u0 d.params.length c0, .int .i64 d.ret, .slice u2 d.blocks.length c2], .int .i64 id] w fun e w' => InstTold w lo (instF d id) e ∧ Below w.heap.size w w' := by
  have E : Hid (instF d id = none) := by
    show _ = _
    rw [instF, h, if_neg (by show ¬ ((k : Int) < 0); omega), if_pos (by show (j : Int) < _; simpa using hj)]
  have q1 : (placeF d id).1 = (k : Int) := by rw [h]
  have q2 : (placeF d id).2 = (j : Int) := by rw [h]
  clear h
  go_enter Tryz.func35, Tryz.ntmps35
  go_wp2_with fail
  refine (placeS_any lo d _ _ _ _ _ _ hs (k2.keep ((agree_alloc _ _ _).trans (agree_alloc _ _ _))) hi).mono ?_
  rintro e w1 ⟨rfl, hb1⟩
  have hx1 := box_first (box_second hb1)
  obtain ⟨p1, p2, p3⟩ := box3 hx1
  have hW := below_box hx1
  have hcc := bcell hb1
  have hff := bfroz hb1
  have hr0 : w1.heap[w.heap.size + 1]? = _ := (hb1.block (w.heap.size + 1) (by simp)).trans (heap_alloc2_new _ _ _)
  rcases k2.2 with hn | ⟨b, off, rfl, hlo, hb, hcell⟩
  · simp [hn] at hk
  obtain ⟨⟨v0, r0, g0, n0⟩, ⟨v1, r1, g1, n1⟩, g2, g3, g4, g5⟩ := hcell k hk
  have hsm := hs.2.2 _ (getD_mem block0 d.blocks k hk)
  generalize d.blocks.getD k block0 = x at *
  have e0 : w1.cell? ⟨b, off + k * 6, none⟩ = some (.slice v0 x.phis.length r0) := (cell_block (hW.block b hb)).trans g0
  have e1 : w1.cell? ⟨b, off + k * 6 + 1, none⟩ = some (.slice v1 x.insts.length r1) := (cell_block (hW.block b hb)).trans g1
  have s0 := hsm.1.1
  have s1 := hsm.2.1
  have hbl := hs.2.1
  have HW : Hid (Below w.heap.size w w1) := hW
  clear hW hx1 hcell g0 g1 g2 g3 g4 g5 n0 n1 hsm k2
  go_wp2_with fail
  have hr := heap_set (o := 6) (v := .slice none 0 0) (heap_set (o := 5) (v := .int .i64 0) (heap_set (o := 4) (v := .int .i64 0) (heap_set (o := 3) (v := .int .i64 0) (heap_set (o := 2) (v := .int .i64 0) (heap_set (o := 1) (v := .int .i64 0) (heap_set (o := 0) (v := .int .i64 0) hr0))))))
  refine bodyPost_ret (v := .tuple #[.agg #[.int .i64 0, .int .i64 0, .int .i64 0, .int .i64 0, .int .i64 0, .int .i64 0, .slice none 0 0], .bool false]) ((results_cell_row_tmp Tryz.results35 _ _ (w.heap.size + 1) _ rfl (run_loadVar_row _ _ 29 _ _ (0, 0) _ hr Tryz.underlying29 rfl (by kernel_rfl))).trans (by rfl)) rfl ⟨by rw [E.out]; rfl, ?_⟩
  exact (by repeat (first | refine Below.setCell ?_ (by dsimp only; omega) _ | exact HW.out))
set_option maxHeartbeats 4000000 in
theorem instS_at_inst (lo : Nat) (d : FuncD) (u0 : Option Addr) (c0 : Nat) (u2 : Option Addr) (c2 : Nat) (id : Int) (w : World) (hs : SmFunc d) (k2 : BlocksAt w lo u2 d.blocks) (hi : id ≤ 9223372036854775807) (k j : Nat) (hk : k < d.blocks.length) (hj : j < (d.blocks.getD k block0).insts.length) (h : placeF d id = ((k : Int), (((d.blocks.getD k block0).phis.length + j : Nat) : Int))) :
    Calls Tryz.prog 35 #[.agg #[.slice u0 d.params.length c0, .int .i64 d.ret, .slice u2 d.blocks.length c2], .int .i64 id] w fun e w' => InstTold w lo (instF d id) e ∧ Below w.heap.size w w' := by
  have E : Hid (instF d id = some ((d.blocks.getD k block0).insts.getD j inst0)) := by
    show _ = _
    have a4 : ((((d.blocks.getD k block0).phis.length + j : Nat) : Int) - (d.blocks.getD k block0).phis.length).toNat = j := by omega
    have a3 : ¬ ((((d.blocks.getD k block0).phis.length + j : Nat) : Int) < (d.blocks.getD k block0).phis.length) := by omega
    have a1 : ¬ ((k : Int) < 0) := by omega
    simp only [instF, h, if_neg a1, Int.toNat_natCast, if_neg a3, a4]
  have q1 : (placeF d id).1 = (k : Int) := by rw [h]
  have q2 : (placeF d id).2 = ((d.blocks.getD k block0).phis.length : Int) + (j : Int) := by rw [h]; simp
  clear h
  go_enter Tryz.func35, Tryz.ntmps35
  go_wp2_with fail
  refine (placeS_any lo d _ _ _ _ _ _ hs (k2.keep ((agree_alloc _ _ _).trans (agree_alloc _ _ _))) hi).mono ?_
  rintro e w1 ⟨rfl, hb1⟩
  have hx1 := box_first (box_second hb1)
  obtain ⟨p1, p2, p3⟩ := box3 hx1
  have hW := below_box hx1
  have hcc := bcell hb1
  have hff := bfroz hb1
  have hr0 : w1.heap[w.heap.size + 1]? = _ := (hb1.block (w.heap.size + 1) (by simp)).trans (heap_alloc2_new _ _ _)
  rcases k2.2 with hn | ⟨b, off, rfl, hlo, hb, hcell⟩
  · simp [hn] at hk
  obtain ⟨⟨v0, r0, g0, n0⟩, ⟨v1, r1, g1, n1⟩, g2, g3, g4, g5⟩ := hcell k hk
  have hsm := hs.2.2 _ (getD_mem block0 d.blocks k hk)
  generalize d.blocks.getD k block0 = x at *
  have e0 : w1.cell? ⟨b, off + k * 6, none⟩ = some (.slice v0 x.phis.length r0) := (cell_block (hW.block b hb)).trans g0
  have e1 : w1.cell? ⟨b, off + k * 6 + 1, none⟩ = some (.slice v1 x.insts.length r1) := (cell_block (hW.block b hb)).trans g1
  have s0 := hsm.1.1
  have s1 := hsm.2.1
  have hbl := hs.2.1
  have HW : Hid (Below w.heap.size w w1) := hW
  rcases n1.2 with hn | ⟨bp, op, rfl, hlp, hbp, hcp⟩
  · simp [hn] at hj
  obtain ⟨i0, i1, i2, i3, i4, i5, ⟨ua, qa, i6, ia⟩⟩ := hcp j hj
  generalize x.insts.getD j inst0 = y at *
  have f0 : w1.cell? ⟨bp, op + j * 7, none⟩ = some (.int .i64 y.op) := (cell_block (hW.block bp hbp)).trans i0
  have f1 : w1.cell? ⟨bp, op + j * 7 + 1, none⟩ = some (.int .i64 y.w) := (cell_block (hW.block bp hbp)).trans i1
  have f2 : w1.cell? ⟨bp, op + j * 7 + 2, none⟩ = some (.int .i64 y.a) := (cell_block (hW.block bp hbp)).trans i2
  have f3 : w1.cell? ⟨bp, op + j * 7 + 3, none⟩ = some (.int .i64 y.b) := (cell_block (hW.block bp hbp)).trans i3
  have f4 : w1.cell? ⟨bp, op + j * 7 + 4, none⟩ = some (.int .i64 y.c) := (cell_block (hW.block bp hbp)).trans i4
  have f5 : w1.cell? ⟨bp, op + j * 7 + 5, none⟩ = some (.int .i64 y.imm) := (cell_block (hW.block bp hbp)).trans i5
  have f6 : w1.cell? ⟨bp, op + j * 7 + 6, none⟩ = some (.slice ua y.args.length qa) := (cell_block (hW.block bp hbp)).trans i6
  have z1 : bp < w1.heap.size := Nat.lt_of_lt_of_le hbp hW.size
  have IA : Hid (IntsAt w lo ua y.args) := ia
  clear hW hx1 hcell hcp g0 g1 g2 g3 g4 g5 n0 n1 hsm k2 i0 i1 i2 i3 i4 i5 i6 ia
  go_wp2_with fail
  have hr := heap_set (o := 6) (v := .slice ua y.args.length qa) (heap_set (o := 5) (v := .int .i64 y.imm) (heap_set (o := 4) (v := .int .i64 y.c) (heap_set (o := 3) (v := .int .i64 y.b) (heap_set (o := 2) (v := .int .i64 y.a) (heap_set (o := 1) (v := .int .i64 y.w) (heap_set (o := 0) (v := .int .i64 y.op) hr0))))))
  refine bodyPost_ret (v := .tuple #[.agg #[.int .i64 y.op, .int .i64 y.w, .int .i64 y.a, .int .i64 y.b, .int .i64 y.c, .int .i64 y.imm, .slice ua y.args.length qa], .bool true]) ((results_cell_row_tmp Tryz.results35 _ _ (w.heap.size + 1) _ rfl (run_loadVar_row _ _ 29 _ _ (0, 0) _ hr Tryz.underlying29 rfl (by kernel_rfl))).trans (by rfl)) rfl ⟨by rw [E.out]; exact ⟨ua, qa, rfl, IA.out⟩, ?_⟩
  exact (by repeat (first | refine Below.setCell ?_ (by dsimp only; omega) _ | exact HW.out))
theorem instS_at (lo : Nat) (d : FuncD) (u0 : Option Addr) (c0 : Nat) (u2 : Option Addr) (c2 : Nat) (id : Int) (w : World) (hs : SmFunc d) (k2 : BlocksAt w lo u2 d.blocks) (hi : id ≤ 9223372036854775807) :
    Calls Tryz.prog 35 #[.agg #[.slice u0 d.params.length c0, .int .i64 d.ret, .slice u2 d.blocks.length c2], .int .i64 id] w fun e w' => InstTold w lo (instF d id) e ∧ Below w.heap.size w w' := by
  rcases place_cases d id with h | ⟨j, hj, h⟩ | ⟨k, j, hk, hj, h⟩
  · exact instS_at_none lo d u0 c0 u2 c2 id w hs k2 hi _ _ (.inl rfl) h
  · exact instS_at_none lo d u0 c0 u2 c2 id w hs k2 hi _ _ (.inr rfl) h
  · by_cases hp : j < (d.blocks.getD k block0).phis.length
    · exact instS_at_phi lo d u0 c0 u2 c2 id w hs k2 hi k j hk hp h
    · unfold cntB at hj
      refine instS_at_inst lo d u0 c0 u2 c2 id w hs k2 hi k (j - (d.blocks.getD k block0).phis.length) hk (by omega) ?_
      rw [h, show (d.blocks.getD k block0).phis.length + (j - (d.blocks.getD k block0).phis.length) = j by omega]
set_option maxHeartbeats 4000000 in
theorem instI_at_none (lo : Nat) (d : FuncD) (u0 : Option Addr) (c0 : Nat) (u2 : Option Addr) (c2 : Nat) (id : Int) (w : World) (hs : SmFunc d) (k2 : BlocksAt w lo u2 d.blocks) (hi : id ≤ 9223372036854775807) (v z : Int) (hv : v = -2 ∨ v = -1) (h : placeF d id = (v, z)) :
    Calls Tryz.prog 34 #[.agg #[.slice u0 d.params.length c0, .int .i64 d.ret, .slice u2 d.blocks.length c2], .int .i64 id] w fun e w' => InstTold w lo (instF d id) e ∧ Below w.heap.size w w' := by
  have E : Hid (instF d id = none) := by show _ = _; rw [instF, h, if_pos (by show v < 0; omega)]
  have q1 : (placeF d id).1 = v := by rw [h]
  clear h
  go_enter Tryz.func34, Tryz.ntmps34
  go_wp2_with fail
  refine (placeI_any lo d _ _ _ _ _ _ hs (k2.keep ((agree_alloc _ _ _).trans (agree_alloc _ _ _))) hi).mono ?_
  rintro e w1 ⟨rfl, hb1⟩
  have hx1 := box_first (box_second hb1)
  obtain ⟨p1, p2, p3⟩ := box3 hx1
  have hW := below_box hx1
  have hcc := bcell hb1
  have hff := bfroz hb1
  have hr0 : w1.heap[w.heap.size + 1]? = _ := (hb1.block (w.heap.size + 1) (by simp)).trans (heap_alloc2_new _ _ _)
  have HW : Hid (Below w.heap.size w w1) := hW
  clear hW hx1
  rcases hv with rfl | rfl
  all_goals
    go_wp2_with fail
    have hr := heap_set (o := 6) (v := .slice none 0 0) (heap_set (o := 5) (v := .int .i64 0) (heap_set (o := 4) (v := .int .i64 0) (heap_set (o := 3) (v := .int .i64 0) (heap_set (o := 2) (v := .int .i64 0) (heap_set (o := 1) (v := .int .i64 0) (heap_set (o := 0) (v := .int .i64 0) hr0))))))
    refine bodyPost_ret (v := .tuple #[.agg #[.int .i64 0, .int .i64 0, .int .i64 0, .int .i64 0, .int .i64 0, .int .i64 0, .slice none 0 0], .bool false]) ((results_cell_row_tmp Tryz.results34 _ _ (w.heap.size + 1) _ rfl (run_loadVar_row _ _ 29 _ _ (0, 0) _ hr Tryz.underlying29 rfl (by kernel_rfl))).trans (by rfl)) rfl ⟨by rw [E.out]; rfl, ?_⟩
    exact (by repeat (first | refine Below.setCell ?_ (by dsimp only; omega) _ | exact HW.out))
set_option maxHeartbeats 4000000 in
theorem instI_at_phi (lo : Nat) (d : FuncD) (u0 : Option Addr) (c0 : Nat) (u2 : Option Addr) (c2 : Nat) (id : Int) (w : World) (hs : SmFunc d) (k2 : BlocksAt w lo u2 d.blocks) (hi : id ≤ 9223372036854775807) (k j : Nat) (hk : k < d.blocks.length) (hj : j < (d.blocks.getD k block0).phis.length) (h : placeF d id = ((k : Int), (j : Int))) :
    Calls Tryz.prog 34 #[.agg #[.slice u0 d.params.length c0, .int .i64 d.ret, .slice u2 d.blocks.length c2], .int .i64 id] w fun e w' => InstTold w lo (instF d id) e ∧ Below w.heap.size w w' := by
  have E : Hid (instF d id = none) := by
    show _ = _
    rw [instF, h, if_neg (by show ¬ ((k : Int) < 0); omega), if_pos (by show (j : Int) < _; simpa using hj)]
  have q1 : (placeF d id).1 = (k : Int) := by rw [h]
  have q2 : (placeF d id).2 = (j : Int) := by rw [h]
  clear h
  go_enter Tryz.func34, Tryz.ntmps34
  go_wp2_with fail
  refine (placeI_any lo d _ _ _ _ _ _ hs (k2.keep ((agree_alloc _ _ _).trans (agree_alloc _ _ _))) hi).mono ?_
  rintro e w1 ⟨rfl, hb1⟩
  have hx1 := box_first (box_second hb1)
  obtain ⟨p1, p2, p3⟩ := box3 hx1
  have hW := below_box hx1
  have hcc := bcell hb1
  have hff := bfroz hb1
  have hr0 : w1.heap[w.heap.size + 1]? = _ := (hb1.block (w.heap.size + 1) (by simp)).trans (heap_alloc2_new _ _ _)
  rcases k2.2 with hn | ⟨b, off, rfl, hlo, hb, hcell⟩
  · simp [hn] at hk
  obtain ⟨⟨v0, r0, g0, n0⟩, ⟨v1, r1, g1, n1⟩, g2, g3, g4, g5⟩ := hcell k hk
  have hsm := hs.2.2 _ (getD_mem block0 d.blocks k hk)
  generalize d.blocks.getD k block0 = x at *
  have e0 : w1.cell? ⟨b, off + k * 6, none⟩ = some (.slice v0 x.phis.length r0) := (cell_block (hW.block b hb)).trans g0
  have e1 : w1.cell? ⟨b, off + k * 6 + 1, none⟩ = some (.slice v1 x.insts.length r1) := (cell_block (hW.block b hb)).trans g1
  have s0 := hsm.1.1
  have s1 := hsm.2.1
  have hbl := hs.2.1
  have HW : Hid (Below w.heap.size w w1) := hW
  clear hW hx1 hcell g0 g1 g2 g3 g4 g5 n0 n1 hsm k2
  go_wp2_with fail
  have hr := heap_set (o := 6) (v := .slice none 0 0) (heap_set (o := 5) (v := .int .i64 0) (heap_set (o := 4) (v := .int .i64 0) (heap_set (o := 3) (v := .int .i64 0) (heap_set (o := 2) (v := .int .i64 0) (heap_set (o := 1) (v := .int .i64 0) (heap_set (o := 0) (v := .int .i64 0) hr0))))))
  refine bodyPost_ret (v := .tuple #[.agg #[.int .i64 0, .int .i64 0, .int .i64 0, .int .i64 0, .int .i64 0, .int .i64 0, .slice none 0 0], .bool false]) ((results_cell_row_tmp Tryz.results34 _ _ (w.heap.size + 1) _ rfl (run_loadVar_row _ _ 29 _ _ (0, 0) _ hr Tryz.underlying29 rfl (by kernel_rfl))).trans (by rfl)) rfl ⟨by rw [E.out]; rfl, ?_⟩
  exact (by repeat (first | refine Below.setCell ?_ (by dsimp only; omega) _ | exact HW.out))
set_option maxHeartbeats 4000000 in
theorem instI_at_inst (lo : Nat) (d : FuncD) (u0 : Option Addr) (c0 : Nat) (u2 : Option Addr) (c2 : Nat) (id : Int) (w : World) (hs : SmFunc d) (k2 : BlocksAt w lo u2 d.blocks) (hi : id ≤ 9223372036854775807) (k j : Nat) (hk : k < d.blocks.length) (hj : j < (d.blocks.getD k block0).insts.length) (h : placeF d id = ((k : Int), (((d.blocks.getD k block0).phis.length + j : Nat) : Int))) :
    Calls Tryz.prog 34 #[.agg #[.slice u0 d.params.length c0, .int .i64 d.ret, .slice u2 d.blocks.length c2], .int .i64 id] w fun e w' => InstTold w lo (instF d id) e ∧ Below w.heap.size w w' := by
  have E : Hid (instF d id = some ((d.blocks.getD k block0).insts.getD j inst0)) := by
    show _ = _
    have a4 : ((((d.blocks.getD k block0).phis.length + j : Nat) : Int) - (d.blocks.getD k block0).phis.length).toNat = j := by omega
    have a3 : ¬ ((((d.blocks.getD k block0).phis.length + j : Nat) : Int) < (d.blocks.getD k block0).phis.length) := by omega
    have a1 : ¬ ((k : Int) < 0) := by omega
    simp only [instF, h, if_neg a1, Int.toNat_natCast, if_neg a3, a4]
  have q1 : (placeF d id).1 = (k : Int) := by rw [h]
  have q2 : (placeF d id).2 = ((d.blocks.getD k block0).phis.length : Int) + (j : Int) := by rw [h]; simp
  clear h
  go_enter Tryz.func34, Tryz.ntmps34
  go_wp2_with fail
  refine (placeI_any lo d _ _ _ _ _ _ hs (k2.keep ((agree_alloc _ _ _).trans (agree_alloc _ _ _))) hi).mono ?_
  rintro e w1 ⟨rfl, hb1⟩
  have hx1 := box_first (box_second hb1)
  obtain ⟨p1, p2, p3⟩ := box3 hx1
  have hW := below_box hx1
  have hcc := bcell hb1
  have hff := bfroz hb1
  have hr0 : w1.heap[w.heap.size + 1]? = _ := (hb1.block (w.heap.size + 1) (by simp)).trans (heap_alloc2_new _ _ _)
  rcases k2.2 with hn | ⟨b, off, rfl, hlo, hb, hcell⟩
  · simp [hn] at hk
  obtain ⟨⟨v0, r0, g0, n0⟩, ⟨v1, r1, g1, n1⟩, g2, g3, g4, g5⟩ := hcell k hk
  have hsm := hs.2.2 _ (getD_mem block0 d.blocks k hk)
  generalize d.blocks.getD k block0 = x at *
  have e0 : w1.cell? ⟨b, off + k * 6, none⟩ = some (.slice v0 x.phis.length r0) := (cell_block (hW.block b hb)).trans g0
  have e1 : w1.cell? ⟨b, off + k * 6 + 1, none⟩ = some (.slice v1 x.insts.length r1) := (cell_block (hW.block b hb)).trans g1
  have s0 := hsm.1.1
  have s1 := hsm.2.1
  have hbl := hs.2.1
  have HW : Hid (Below w.heap.size w w1) := hW
  rcases n1.2 with hn | ⟨bp, op, rfl, hlp, hbp, hcp⟩
  · simp [hn] at hj
  obtain ⟨i0, i1, i2, i3, i4, i5, ⟨ua, qa, i6, ia⟩⟩ := hcp j hj
  generalize x.insts.getD j inst0 = y at *
  have f0 : w1.cell? ⟨bp, op + j * 7, none⟩ = some (.int .i64 y.op) := (cell_block (hW.block bp hbp)).trans i0
  have f1 : w1.cell? ⟨bp, op + j * 7 + 1, none⟩ = some (.int .i64 y.w) := (cell_block (hW.block bp hbp)).trans i1
  have f2 : w1.cell? ⟨bp, op + j * 7 + 2, none⟩ = some (.int .i64 y.a) := (cell_block (hW.block bp hbp)).trans i2
  have f3 : w1.cell? ⟨bp, op + j * 7 + 3, none⟩ = some (.int .i64 y.b) := (cell_block (hW.block bp hbp)).trans i3
  have f4 : w1.cell? ⟨bp, op + j * 7 + 4, none⟩ = some (.int .i64 y.c) := (cell_block (hW.block bp hbp)).trans i4
  have f5 : w1.cell? ⟨bp, op + j * 7 + 5, none⟩ = some (.int .i64 y.imm) := (cell_block (hW.block bp hbp)).trans i5
  have f6 : w1.cell? ⟨bp, op + j * 7 + 6, none⟩ = some (.slice ua y.args.length qa) := (cell_block (hW.block bp hbp)).trans i6
  have z1 : bp < w1.heap.size := Nat.lt_of_lt_of_le hbp hW.size
  have IA : Hid (IntsAt w lo ua y.args) := ia
  clear hW hx1 hcell hcp g0 g1 g2 g3 g4 g5 n0 n1 hsm k2 i0 i1 i2 i3 i4 i5 i6 ia
  have x1 : IntKind.i64.wrap ((x.phis.length : Int) + j - x.phis.length) = (j : Int) := by rw [IntKind.wrap_i64]; omega
  have x2 : IntKind.i64.wrap (j : Int) = (j : Int) := by rw [IntKind.wrap_i64]; omega
  have x3 : (x.phis.length : Int) + j - x.phis.length = (j : Int) := by omega
  have x4 : (0 : Int) ≤ (j : Int) := by omega
  have x5 : (j : Int) < (x.insts.length : Int) := by omega
  have x6 : (0 : Int) ≤ (k : Int) := by omega
  have x7 : (k : Int) < (d.blocks.length : Int) := by omega
  have b1 : ((k : Int) == -2) = false := by simp
  have b2 : ((k : Int) == -1) = false := by simp
  have b3 : ¬ ((x.phis.length : Int) + j < x.phis.length) := by omega
  go_wp2_with fail
  have S0 : ∀ b o, b < w.heap.size + 1 → w1.drew.cell? ⟨b, o, none⟩ = w1.cell? ⟨b, o, none⟩ := fun _ _ _ => rfl
  have Hb : b < w.heap.size + 1 := by omega
  have Hbp : bp < w.heap.size + 1 := by omega
  have m0 : w1.drew.cell? ⟨w.heap.size + 1, 0, none⟩ = some (.int .i64 0) := (cell_of_heap hr0).trans rfl
  have mr0 : w1.drew.frozen? ⟨w.heap.size + 1, 0, none⟩ = false := (hff (w.heap.size + 1) 0 (by simp)).trans (by simp)
  have M0 : w1.cell? ⟨w.heap.size + 1, 0, none⟩ = some (.int .i64 0) := (cell_of_heap hr0).trans rfl
  have Mr0 : w1.frozen? ⟨w.heap.size + 1, 0, none⟩ = false := (hff (w.heap.size + 1) 0 (by simp)).trans (by simp)
  have m1 : w1.drew.cell? ⟨w.heap.size + 1, 1, none⟩ = some (.int .i64 0) := (cell_of_heap hr0).trans rfl
  have mr1 : w1.drew.frozen? ⟨w.heap.size + 1, 1, none⟩ = false := (hff (w.heap.size + 1) 1 (by simp)).trans (by simp)
  have M1 : w1.cell? ⟨w.heap.size + 1, 1, none⟩ = some (.int .i64 0) := (cell_of_heap hr0).trans rfl
  have Mr1 : w1.frozen? ⟨w.heap.size + 1, 1, none⟩ = false := (hff (w.heap.size + 1) 1 (by simp)).trans (by simp)
  have m2 : w1.drew.cell? ⟨w.heap.size + 1, 2, none⟩ = some (.int .i64 0) := (cell_of_heap hr0).trans rfl
  have mr2 : w1.drew.frozen? ⟨w.heap.size + 1, 2, none⟩ = false := (hff (w.heap.size + 1) 2 (by simp)).trans (by simp)
  have M2 : w1.cell? ⟨w.heap.size + 1, 2, none⟩ = some (.int .i64 0) := (cell_of_heap hr0).trans rfl
  have Mr2 : w1.frozen? ⟨w.heap.size + 1, 2, none⟩ = false := (hff (w.heap.size + 1) 2 (by simp)).trans (by simp)
  have m3 : w1.drew.cell? ⟨w.heap.size + 1, 3, none⟩ = some (.int .i64 0) := (cell_of_heap hr0).trans rfl
  have mr3 : w1.drew.frozen? ⟨w.heap.size + 1, 3, none⟩ = false := (hff (w.heap.size + 1) 3 (by simp)).trans (by simp)
  have M3 : w1.cell? ⟨w.heap.size + 1, 3, none⟩ = some (.int .i64 0) := (cell_of_heap hr0).trans rfl
  have Mr3 : w1.frozen? ⟨w.heap.size + 1, 3, none⟩ = false := (hff (w.heap.size + 1) 3 (by simp)).trans (by simp)
  have m4 : w1.drew.cell? ⟨w.heap.size + 1, 4, none⟩ = some (.int .i64 0) := (cell_of_heap hr0).trans rfl
  have mr4 : w1.drew.frozen? ⟨w.heap.size + 1, 4, none⟩ = false := (hff (w.heap.size + 1) 4 (by simp)).trans (by simp)
  have M4 : w1.cell? ⟨w.heap.size + 1, 4, none⟩ = some (.int .i64 0) := (cell_of_heap hr0).trans rfl
  have Mr4 : w1.frozen? ⟨w.heap.size + 1, 4, none⟩ = false := (hff (w.heap.size + 1) 4 (by simp)).trans (by simp)
  have m5 : w1.drew.cell? ⟨w.heap.size + 1, 5, none⟩ = some (.int .i64 0) := (cell_of_heap hr0).trans rfl
  have mr5 : w1.drew.frozen? ⟨w.heap.size + 1, 5, none⟩ = false := (hff (w.heap.size + 1) 5 (by simp)).trans (by simp)
  have M5 : w1.cell? ⟨w.heap.size + 1, 5, none⟩ = some (.int .i64 0) := (cell_of_heap hr0).trans rfl
  have Mr5 : w1.frozen? ⟨w.heap.size + 1, 5, none⟩ = false := (hff (w.heap.size + 1) 5 (by simp)).trans (by simp)
  have m6 : w1.drew.cell? ⟨w.heap.size + 1, 6, none⟩ = some (.slice none 0 0) := (cell_of_heap hr0).trans rfl
  have mr6 : w1.drew.frozen? ⟨w.heap.size + 1, 6, none⟩ = false := (hff (w.heap.size + 1) 6 (by simp)).trans (by simp)
  have M6 : w1.cell? ⟨w.heap.size + 1, 6, none⟩ = some (.slice none 0 0) := (cell_of_heap hr0).trans rfl
  have Mr6 : w1.frozen? ⟨w.heap.size + 1, 6, none⟩ = false := (hff (w.heap.size + 1) 6 (by simp)).trans (by simp)
  clear hcc hff
  go_region_held2 (fun w2 => ∀ b o, b < w.heap.size + 1 → w2.cell? ⟨b, o, none⟩ = w1.cell? ⟨b, o, none⟩) (first | with_reducible exact S0 | with_reducible exact keep7 (fun _ _ _ => rfl)) (fail)
  all_goals
    go_wp2_with fail
    have hr := (drew_heap _ _).trans <| heap_set (o := 6) (v := .slice ua y.args.length qa) (heap_set (o := 5) (v := .int .i64 y.imm) (heap_set (o := 4) (v := .int .i64 y.c) (heap_set (o := 3) (v := .int .i64 y.b) (heap_set (o := 2) (v := .int .i64 y.a) (heap_set (o := 1) (v := .int .i64 y.w) (heap_set (o := 0) (v := .int .i64 y.op) hr0))))))
    refine bodyPost_ret (v := .tuple #[.agg #[.int .i64 y.op, .int .i64 y.w, .int .i64 y.a, .int .i64 y.b, .int .i64 y.c, .int .i64 y.imm, .slice ua y.args.length qa], .bool true]) ((results_cell_row_tmp Tryz.results34 _ _ (w.heap.size + 1) _ rfl (run_loadVar_row _ _ 29 _ _ (0, 0) _ hr Tryz.underlying29 rfl (by kernel_rfl))).trans (by rfl)) rfl ⟨by rw [E.out]; exact ⟨ua, qa, rfl, IA.out⟩, ?_⟩
    refine Below.drew ?_
    exact (by repeat (first | refine Below.setCell ?_ (by dsimp only; omega) _ | exact HW.out))
theorem instI_at (lo : Nat) (d : FuncD) (u0 : Option Addr) (c0 : Nat) (u2 : Option Addr) (c2 : Nat) (id : Int) (w : World) (hs : SmFunc d) (k2 : BlocksAt w lo u2 d.blocks) (hi : id ≤ 9223372036854775807) :
    Calls Tryz.prog 34 #[.agg #[.slice u0 d.params.length c0, .int .i64 d.ret, .slice u2 d.blocks.length c2], .int .i64 id] w fun e w' => InstTold w lo (instF d id) e ∧ Below w.heap.size w w' := by
  rcases place_cases d id with h | ⟨j, hj, h⟩ | ⟨k, j, hk, hj, h⟩
  · exact instI_at_none lo d u0 c0 u2 c2 id w hs k2 hi _ _ (.inl rfl) h
  · exact instI_at_none lo d u0 c0 u2 c2 id w hs k2 hi _ _ (.inr rfl) h
  · by_cases hp : j < (d.blocks.getD k block0).phis.length
    · exact instI_at_phi lo d u0 c0 u2 c2 id w hs k2 hi k j hk hp h
    · unfold cntB at hj
      refine instI_at_inst lo d u0 c0 u2 c2 id w hs k2 hi k (j - (d.blocks.getD k block0).phis.length) hk (by omega) ?_
      rw [h, show (d.blocks.getD k block0).phis.length + (j - (d.blocks.getD k block0).phis.length) = j by omega]
set_option maxHeartbeats 4000000 in
theorem constS_any (lo : Nat) (d : FuncD) (u0 : Option Addr) (c0 : Nat) (u2 : Option Addr) (c2 : Nat) (id : Int) (w : World) (hs : SmFunc d) (k2 : BlocksAt w lo u2 d.blocks) (hi : id ≤ 9223372036854775807) :
    Calls Tryz.prog 10 #[.agg #[.slice u0 d.params.length c0, .int .i64 d.ret, .slice u2 d.blocks.length c2], .int .i64 id] w fun e w' => ConstTold (constF d id) e ∧ Below w.heap.size w w' := by
  go_enter Tryz.func10, Tryz.ntmps10
  go_wp2_with fail
  refine (instS_at lo d _ _ _ _ _ _ hs (k2.keep (agree_alloc _ _ _)) hi).mono ?_
  rintro e w1 ⟨he, hb1⟩
  have hx1 := box_first hb1
  have HW : Hid (Below w.heap.size w w1) := below_box hx1
  clear hx1 hb1 k2
  have E : Hid (constF d id = match instF d id with | none => none | some y => if y.op = 21 then some y.imm else none) := rfl
  generalize instF d id = oi at *
  cases oi with
  | none =>
    obtain rfl := he
    go_wp2_with fail
    go_ret2
    exact ⟨by rw [E.out]; rfl, by first | exact HW.out | exact HW.out.alloc HW.out.size _⟩
  | some y =>
    obtain ⟨ua, qa, rfl, _⟩ := he
    by_cases hop : y.op = 21
    · have E2 : Hid (constF d id = some y.imm) := by show _ = _; rw [E.out]; exact if_pos hop
      clear E
      go_wp2_with fail
      go_ret2
      exact ⟨by rw [E2.out]; rfl, by first | exact HW.out | exact HW.out.alloc HW.out.size _⟩
    · have E2 : Hid (constF d id = none) := by show _ = _; rw [E.out]; exact if_neg hop
      clear E
      go_wp2_with fail
      go_ret2
      exact ⟨by rw [E2.out]; rfl, by first | exact HW.out | exact HW.out.alloc HW.out.size _⟩
set_option maxHeartbeats 4000000 in
theorem constI_any (lo : Nat) (d : FuncD) (u0 : Option Addr) (c0 : Nat) (u2 : Option Addr) (c2 : Nat) (id : Int) (w : World) (hs : SmFunc d) (k2 : BlocksAt w lo u2 d.blocks) (hi : id ≤ 9223372036854775807) :
    Calls Tryz.prog 9 #[.agg #[.slice u0 d.params.length c0, .int .i64 d.ret, .slice u2 d.blocks.length c2], .int .i64 id] w fun e w' => ConstTold (constF d id) e ∧ Below w.heap.size w w' := by
  go_enter Tryz.func9, Tryz.ntmps9
  go_wp2_with fail
  refine (instI_at lo d _ _ _ _ _ _ hs (k2.keep (agree_alloc _ _ _)) hi).mono ?_
  rintro e w1 ⟨he, hb1⟩
  have hx1 := box_first hb1
  have HW : Hid (Below w.heap.size w w1) := below_box hx1
  clear hx1 hb1 k2
  have E : Hid (constF d id = match instF d id with | none => none | some y => if y.op = 21 then some y.imm else none) := rfl
  generalize instF d id = oi at *
  cases oi with
  | none =>
    obtain rfl := he
    go_wp2_with fail
    go_ret2
    exact ⟨by rw [E.out]; rfl, by first | exact HW.out | exact HW.out.alloc HW.out.size _⟩
  | some y =>
    obtain ⟨ua, qa, rfl, _⟩ := he
    by_cases hop : y.op = 21
    · have E2 : Hid (constF d id = some y.imm) := by show _ = _; rw [E.out]; exact if_pos hop
      clear E
      go_wp2_with fail
      go_ret2
      exact ⟨by rw [E2.out]; rfl, by first | exact HW.out | exact HW.out.alloc HW.out.size _⟩
    · have E2 : Hid (constF d id = none) := by show _ = _; rw [E.out]; exact if_neg hop
      clear E
      go_wp2_with fail
      go_ret2
      exact ⟨by rw [E2.out]; rfl, by first | exact HW.out | exact HW.out.alloc HW.out.size _⟩
end Go.Proofs.YtoknhppjdmoblaaGreatDoor
