/- The width that an instruction gives. -/
import Derived.Test.YtiflkkkggidhbaaKnd
namespace Go.Proofs.Ytiflkkkggidhbaa
open Go.RowKit

def instW (d : InstD) : Int := if opB d.op = true then resZ d.op d.w else d.w
set_option maxHeartbeats 2000000 in
set_option maxRecDepth 100000 in
theorem it_bin (d : InstD) (u : Option Addr) (q : Nat) (w : World) (h : opB d.op = true) :
    Calls Try.prog 30 #[.agg #[.int .i64 d.op, .int .i64 d.w, .int .i64 d.a, .int .i64 d.b, .int .i64 d.c, .int .i64 d.imm, .slice u d.args.length q]] w fun e w' => e = .returned (.int .i64 (instW d)) ∧ Below w.heap.size w w' := by
  have HK : Hid (kindV d u q = .iface 76 (.agg #[.int .i64 d.a, .int .i64 d.b])) := kv_bin h
  have HR : Hid (resZ d.op d.w = instW d) := by show _ = _; rw [instW, if_pos h]
  have has := as_binaryKind_binaryKind
  go_enter Try.func30, Try.ntmps30
  go_wp2_with (first | (go_at_call 48; refine (kind_any d u q _).mono ?_; rintro e w1 ⟨rfl, hb1⟩; rw [HK.out]; have hcc := bcell hb1) | (go_at_call 49; refine (resI _ _ _).mono ?_; rintro e w' ⟨rfl, rfl⟩))
  go_ret
  exact ⟨ret_int HR.out, ((Below.refl w.heap.size w).alloc (Nat.le_refl _) _).trans (hb1.mono (by simp))⟩
set_option maxHeartbeats 2000000 in
set_option maxRecDepth 100000 in
theorem it_18 (d : InstD) (u : Option Addr) (q : Nat) (w : World) (h : d.op = 18) :
    Calls Try.prog 30 #[.agg #[.int .i64 d.op, .int .i64 d.w, .int .i64 d.a, .int .i64 d.b, .int .i64 d.c, .int .i64 d.imm, .slice u d.args.length q]] w fun e w' => e = .returned (.int .i64 (instW d)) ∧ Below w.heap.size w w' := by
  have HK : Hid (kindV d u q = .iface 87 (.agg #[.int .i64 d.a])) := kv_18 h
  have HR : Hid (d.w = instW d) := by show _ = _; rw [instW, h]; rfl
  have has := as_unaryKind_binaryKind
  clear h
  go_enter Try.func30, Try.ntmps30
  go_wp2_with (first | (go_at_call 48; refine (kind_any d u q _).mono ?_; rintro e w1 ⟨rfl, hb1⟩; rw [HK.out]; have hcc := bcell hb1) | (go_at_call 49; refine (resI _ _ _).mono ?_; rintro e w' ⟨rfl, rfl⟩))
  go_ret
  exact ⟨ret_int HR.out, ((Below.refl w.heap.size w).alloc (Nat.le_refl _) _).trans (hb1.mono (by simp))⟩
set_option maxHeartbeats 2000000 in
set_option maxRecDepth 100000 in
theorem it_19 (d : InstD) (u : Option Addr) (q : Nat) (w : World) (h : d.op = 19) :
    Calls Try.prog 30 #[.agg #[.int .i64 d.op, .int .i64 d.w, .int .i64 d.a, .int .i64 d.b, .int .i64 d.c, .int .i64 d.imm, .slice u d.args.length q]] w fun e w' => e = .returned (.int .i64 (instW d)) ∧ Below w.heap.size w w' := by
  have HK : Hid (kindV d u q = .iface 87 (.agg #[.int .i64 d.a])) := kv_19 h
  have HR : Hid (d.w = instW d) := by show _ = _; rw [instW, h]; rfl
  have has := as_unaryKind_binaryKind
  clear h
  go_enter Try.func30, Try.ntmps30
  go_wp2_with (first | (go_at_call 48; refine (kind_any d u q _).mono ?_; rintro e w1 ⟨rfl, hb1⟩; rw [HK.out]; have hcc := bcell hb1) | (go_at_call 49; refine (resI _ _ _).mono ?_; rintro e w' ⟨rfl, rfl⟩))
  go_ret
  exact ⟨ret_int HR.out, ((Below.refl w.heap.size w).alloc (Nat.le_refl _) _).trans (hb1.mono (by simp))⟩
set_option maxHeartbeats 2000000 in
set_option maxRecDepth 100000 in
theorem it_20 (d : InstD) (u : Option Addr) (q : Nat) (w : World) (h : d.op = 20) :
    Calls Try.prog 30 #[.agg #[.int .i64 d.op, .int .i64 d.w, .int .i64 d.a, .int .i64 d.b, .int .i64 d.c, .int .i64 d.imm, .slice u d.args.length q]] w fun e w' => e = .returned (.int .i64 (instW d)) ∧ Below w.heap.size w w' := by
  have HK : Hid (kindV d u q = .iface 87 (.agg #[.int .i64 d.a])) := kv_20 h
  have HR : Hid (d.w = instW d) := by show _ = _; rw [instW, h]; rfl
  have has := as_unaryKind_binaryKind
  clear h
  go_enter Try.func30, Try.ntmps30
  go_wp2_with (first | (go_at_call 48; refine (kind_any d u q _).mono ?_; rintro e w1 ⟨rfl, hb1⟩; rw [HK.out]; have hcc := bcell hb1) | (go_at_call 49; refine (resI _ _ _).mono ?_; rintro e w' ⟨rfl, rfl⟩))
  go_ret
  exact ⟨ret_int HR.out, ((Below.refl w.heap.size w).alloc (Nat.le_refl _) _).trans (hb1.mono (by simp))⟩
set_option maxHeartbeats 2000000 in
set_option maxRecDepth 100000 in
theorem it_21 (d : InstD) (u : Option Addr) (q : Nat) (w : World) (h : d.op = 21) :
    Calls Try.prog 30 #[.agg #[.int .i64 d.op, .int .i64 d.w, .int .i64 d.a, .int .i64 d.b, .int .i64 d.c, .int .i64 d.imm, .slice u d.args.length q]] w fun e w' => e = .returned (.int .i64 (instW d)) ∧ Below w.heap.size w w' := by
  have HK : Hid (kindV d u q = .iface 89 (.agg #[.int .i64 d.imm])) := kv_21 h
  have HR : Hid (d.w = instW d) := by show _ = _; rw [instW, h]; rfl
  have has := as_constKind_binaryKind
  clear h
  go_enter Try.func30, Try.ntmps30
  go_wp2_with (first | (go_at_call 48; refine (kind_any d u q _).mono ?_; rintro e w1 ⟨rfl, hb1⟩; rw [HK.out]; have hcc := bcell hb1) | (go_at_call 49; refine (resI _ _ _).mono ?_; rintro e w' ⟨rfl, rfl⟩))
  go_ret
  exact ⟨ret_int HR.out, ((Below.refl w.heap.size w).alloc (Nat.le_refl _) _).trans (hb1.mono (by simp))⟩
set_option maxHeartbeats 2000000 in
set_option maxRecDepth 100000 in
theorem it_22 (d : InstD) (u : Option Addr) (q : Nat) (w : World) (h : d.op = 22) :
    Calls Try.prog 30 #[.agg #[.int .i64 d.op, .int .i64 d.w, .int .i64 d.a, .int .i64 d.b, .int .i64 d.c, .int .i64 d.imm, .slice u d.args.length q]] w fun e w' => e = .returned (.int .i64 (instW d)) ∧ Below w.heap.size w w' := by
  have HK : Hid (kindV d u q = .iface 91 (.agg #[.int .i64 d.a, .int .i64 d.b, .int .i64 d.c])) := kv_22 h
  have HR : Hid (d.w = instW d) := by show _ = _; rw [instW, h]; rfl
  have has := as_selectKind_binaryKind
  clear h
  go_enter Try.func30, Try.ntmps30
  go_wp2_with (first | (go_at_call 48; refine (kind_any d u q _).mono ?_; rintro e w1 ⟨rfl, hb1⟩; rw [HK.out]; have hcc := bcell hb1) | (go_at_call 49; refine (resI _ _ _).mono ?_; rintro e w' ⟨rfl, rfl⟩))
  go_ret
  exact ⟨ret_int HR.out, ((Below.refl w.heap.size w).alloc (Nat.le_refl _) _).trans (hb1.mono (by simp))⟩
set_option maxHeartbeats 2000000 in
set_option maxRecDepth 100000 in
theorem it_23 (d : InstD) (u : Option Addr) (q : Nat) (w : World) (h : d.op = 23) :
    Calls Try.prog 30 #[.agg #[.int .i64 d.op, .int .i64 d.w, .int .i64 d.a, .int .i64 d.b, .int .i64 d.c, .int .i64 d.imm, .slice u d.args.length q]] w fun e w' => e = .returned (.int .i64 (instW d)) ∧ Below w.heap.size w w' := by
  have HK : Hid (kindV d u q = .iface 92 (.agg #[.int .i64 d.a])) := kv_23 h
  have HR : Hid (d.w = instW d) := by show _ = _; rw [instW, h]; rfl
  have has := as_loadKind_binaryKind
  clear h
  go_enter Try.func30, Try.ntmps30
  go_wp2_with (first | (go_at_call 48; refine (kind_any d u q _).mono ?_; rintro e w1 ⟨rfl, hb1⟩; rw [HK.out]; have hcc := bcell hb1) | (go_at_call 49; refine (resI _ _ _).mono ?_; rintro e w' ⟨rfl, rfl⟩))
  go_ret
  exact ⟨ret_int HR.out, ((Below.refl w.heap.size w).alloc (Nat.le_refl _) _).trans (hb1.mono (by simp))⟩
set_option maxHeartbeats 2000000 in
set_option maxRecDepth 100000 in
theorem it_24 (d : InstD) (u : Option Addr) (q : Nat) (w : World) (h : d.op = 24) :
    Calls Try.prog 30 #[.agg #[.int .i64 d.op, .int .i64 d.w, .int .i64 d.a, .int .i64 d.b, .int .i64 d.c, .int .i64 d.imm, .slice u d.args.length q]] w fun e w' => e = .returned (.int .i64 (instW d)) ∧ Below w.heap.size w w' := by
  have HK : Hid (kindV d u q = .iface 93 (.agg #[.int .i64 d.a, .int .i64 d.b])) := kv_24 h
  have HR : Hid (d.w = instW d) := by show _ = _; rw [instW, h]; rfl
  have has := as_storeKind_binaryKind
  clear h
  go_enter Try.func30, Try.ntmps30
  go_wp2_with (first | (go_at_call 48; refine (kind_any d u q _).mono ?_; rintro e w1 ⟨rfl, hb1⟩; rw [HK.out]; have hcc := bcell hb1) | (go_at_call 49; refine (resI _ _ _).mono ?_; rintro e w' ⟨rfl, rfl⟩))
  go_ret
  exact ⟨ret_int HR.out, ((Below.refl w.heap.size w).alloc (Nat.le_refl _) _).trans (hb1.mono (by simp))⟩
set_option maxHeartbeats 2000000 in
set_option maxRecDepth 100000 in
theorem it_25 (d : InstD) (u : Option Addr) (q : Nat) (w : World) (h : d.op = 25) :
    Calls Try.prog 30 #[.agg #[.int .i64 d.op, .int .i64 d.w, .int .i64 d.a, .int .i64 d.b, .int .i64 d.c, .int .i64 d.imm, .slice u d.args.length q]] w fun e w' => e = .returned (.int .i64 (instW d)) ∧ Below w.heap.size w w' := by
  have HK : Hid (kindV d u q = .iface 94 (.agg #[.int .i64 d.a])) := kv_25 h
  have HR : Hid (d.w = instW d) := by show _ = _; rw [instW, h]; rfl
  have has := as_printKind_binaryKind
  clear h
  go_enter Try.func30, Try.ntmps30
  go_wp2_with (first | (go_at_call 48; refine (kind_any d u q _).mono ?_; rintro e w1 ⟨rfl, hb1⟩; rw [HK.out]; have hcc := bcell hb1) | (go_at_call 49; refine (resI _ _ _).mono ?_; rintro e w' ⟨rfl, rfl⟩))
  go_ret
  exact ⟨ret_int HR.out, ((Below.refl w.heap.size w).alloc (Nat.le_refl _) _).trans (hb1.mono (by simp))⟩
set_option maxHeartbeats 2000000 in
set_option maxRecDepth 100000 in
theorem it_26 (d : InstD) (u : Option Addr) (q : Nat) (w : World) (h : d.op = 26) :
    Calls Try.prog 30 #[.agg #[.int .i64 d.op, .int .i64 d.w, .int .i64 d.a, .int .i64 d.b, .int .i64 d.c, .int .i64 d.imm, .slice u d.args.length q]] w fun e w' => e = .returned (.int .i64 (instW d)) ∧ Below w.heap.size w w' := by
  have HK : Hid (kindV d u q = .iface 96 (.agg #[.int .i64 d.imm, .slice u d.args.length q])) := kv_26 h
  have HR : Hid (d.w = instW d) := by show _ = _; rw [instW, h]; rfl
  have has := as_callKind_binaryKind
  clear h
  go_enter Try.func30, Try.ntmps30
  go_wp2_with (first | (go_at_call 48; refine (kind_any d u q _).mono ?_; rintro e w1 ⟨rfl, hb1⟩; rw [HK.out]; have hcc := bcell hb1) | (go_at_call 49; refine (resI _ _ _).mono ?_; rintro e w' ⟨rfl, rfl⟩))
  go_ret
  exact ⟨ret_int HR.out, ((Below.refl w.heap.size w).alloc (Nat.le_refl _) _).trans (hb1.mono (by simp))⟩
set_option maxHeartbeats 2000000 in
set_option maxRecDepth 100000 in
theorem it_27 (d : InstD) (u : Option Addr) (q : Nat) (w : World) (h : d.op = 27) :
    Calls Try.prog 30 #[.agg #[.int .i64 d.op, .int .i64 d.w, .int .i64 d.a, .int .i64 d.b, .int .i64 d.c, .int .i64 d.imm, .slice u d.args.length q]] w fun e w' => e = .returned (.int .i64 (instW d)) ∧ Below w.heap.size w w' := by
  have HK : Hid (kindV d u q = .iface 87 (.agg #[.int .i64 d.a])) := kv_27 h
  have HR : Hid (d.w = instW d) := by show _ = _; rw [instW, h]; rfl
  have has := as_unaryKind_binaryKind
  clear h
  go_enter Try.func30, Try.ntmps30
  go_wp2_with (first | (go_at_call 48; refine (kind_any d u q _).mono ?_; rintro e w1 ⟨rfl, hb1⟩; rw [HK.out]; have hcc := bcell hb1) | (go_at_call 49; refine (resI _ _ _).mono ?_; rintro e w' ⟨rfl, rfl⟩))
  go_ret
  exact ⟨ret_int HR.out, ((Below.refl w.heap.size w).alloc (Nat.le_refl _) _).trans (hb1.mono (by simp))⟩
set_option maxHeartbeats 2000000 in
set_option maxRecDepth 100000 in
theorem it_no (d : InstD) (u : Option Addr) (q : Nat) (w : World) (ho : opB d.op = false) (h : d.op < 1 ∨ 27 < d.op) :
    Calls Try.prog 30 #[.agg #[.int .i64 d.op, .int .i64 d.w, .int .i64 d.a, .int .i64 d.b, .int .i64 d.c, .int .i64 d.imm, .slice u d.args.length q]] w fun e w' => e = .returned (.int .i64 (instW d)) ∧ Below w.heap.size w w' := by
  have HK : Hid (kindV d u q = .iface 98 (.agg #[])) := kv_no ho h
  have HR : Hid (d.w = instW d) := by show _ = _; rw [instW, ho]; rfl
  have has := as_strangeKind_binaryKind
  clear h ho
  go_enter Try.func30, Try.ntmps30
  go_wp2_with (first | (go_at_call 48; refine (kind_any d u q _).mono ?_; rintro e w1 ⟨rfl, hb1⟩; rw [HK.out]; have hcc := bcell hb1) | (go_at_call 49; refine (resI _ _ _).mono ?_; rintro e w' ⟨rfl, rfl⟩))
  go_ret
  exact ⟨ret_int HR.out, ((Below.refl w.heap.size w).alloc (Nat.le_refl _) _).trans (hb1.mono (by simp))⟩
theorem instI_any (d : InstD) (u : Option Addr) (q : Nat) (w : World) :
    Calls Try.prog 30 #[.agg #[.int .i64 d.op, .int .i64 d.w, .int .i64 d.a, .int .i64 d.b, .int .i64 d.c, .int .i64 d.imm, .slice u d.args.length q]] w fun e w' => e = .returned (.int .i64 (instW d)) ∧ Below w.heap.size w w' := by
  rcases op_split d.op with h | h | h | h | h | h | h | h | h | h | h | ⟨ho, h⟩
  · exact it_bin d u q w h
  · exact it_18 d u q w h
  · exact it_19 d u q w h
  · exact it_20 d u q w h
  · exact it_21 d u q w h
  · exact it_22 d u q w h
  · exact it_23 d u q w h
  · exact it_24 d u q w h
  · exact it_25 d u q w h
  · exact it_26 d u q w h
  · exact it_27 d u q w h
  · exact it_no d u q w ho h
set_option maxHeartbeats 2000000 in
theorem instS_any (d : InstD) (u : Option Addr) (q : Nat) (w : World) :
    Calls Try.prog 31 #[.agg #[.int .i64 d.op, .int .i64 d.w, .int .i64 d.a, .int .i64 d.b, .int .i64 d.c, .int .i64 d.imm, .slice u d.args.length q]] w fun e w' => e = .returned (.int .i64 (instW d)) ∧ Below w.heap.size w w' := by
  by_cases h : opB d.op = true
  · have HR : Hid (resZ d.op d.w = instW d) := by show _ = _; rw [instW, if_pos h]
    have dd : (decide (1 ≤ d.op) && decide (d.op ≤ 17)) = true := h
    clear h
    go_enter Try.func31, Try.ntmps31
    go_wp2_with (first | (go_at_call 50; refine (inS _ _ _ _).mono ?_; rintro e w' ⟨rfl, rfl⟩) | (go_at_call 51; refine (resS _ _ _).mono ?_; rintro e w' ⟨rfl, rfl⟩))
    go_ret
    exact ⟨ret_int HR.out, (Below.refl _ _).alloc (Nat.le_refl _) _⟩
  · have h' : opB d.op = false := by simpa using h
    have HR : Hid (d.w = instW d) := by show _ = _; rw [instW, if_neg h]
    have dd : (decide (1 ≤ d.op) && decide (d.op ≤ 17)) = false := h'
    clear h h'
    go_enter Try.func31, Try.ntmps31
    go_wp2_with (first | (go_at_call 50; refine (inS _ _ _ _).mono ?_; rintro e w' ⟨rfl, rfl⟩))
    go_ret
    exact ⟨ret_int HR.out, (Below.refl _ _).alloc (Nat.le_refl _) _⟩
end Go.Proofs.Ytiflkkkggidhbaa
