import Derived.Test.YtoknhppjdmoblaaGreatDoorKnd
import Derived.Test.YtoknhppjdmoblaaGreatDoorMemQ
namespace Go.Proofs.YtoknhppjdmoblaaGreatDoor
set_option linter.unusedVariables false
set_option linter.unusedSimpArgs false
open Go.RowKit
def instW (d : InstD) : Int := if opB d.op = true then resZ d.op d.w else d.w
set_option maxHeartbeats 2000000 in
set_option maxRecDepth 100000 in
theorem it_bin (d : InstD) (u : Option Addr) (q : Nat) (w : World) (h : opB d.op = true) :
  Calls Tryz.prog 134 #[.agg #[.int .i64 d.op, .int .i64 d.w, .int .i64 d.a, .int .i64 d.b, .int .i64 d.c, .int .i64 d.imm, .slice u d.args.length q]] w fun e w' => e = .returned (.int .i64 (instW d)) ∧ Below w.heap.size w w' := by
 have HK : Hid (kindV d u q = .iface 140 (.agg #[.int .i64 d.a, .int .i64 d.b])) := kv_bin h
 have HR : Hid (resZ d.op d.w = instW d) := by show _ = _; rw [instW, if_pos h]
 have has := as_binaryKind_binaryKind
 go_enter Tryz.func134, Tryz.ntmps134
 go_wp2_with (first | (go_at_call 53; refine (kind_any d u q _).mono ?_; rintro e w1 ⟨rfl, hb1⟩; rw [HK.out]; have hcc := bcell hb1) | (go_at_call 161; refine (resI _ _ _).mono ?_; rintro e w' ⟨rfl, rfl⟩))
 go_ret
 exact ⟨ret_int HR.out, ((Below.refl w.heap.size w).alloc (Nat.le_refl _) _).trans (hb1.mono (by simp))⟩
set_option maxHeartbeats 2000000 in
set_option maxRecDepth 100000 in
theorem it_18 (d : InstD) (u : Option Addr) (q : Nat) (w : World) (h : d.op = 18) :
  Calls Tryz.prog 134 #[.agg #[.int .i64 d.op, .int .i64 d.w, .int .i64 d.a, .int .i64 d.b, .int .i64 d.c, .int .i64 d.imm, .slice u d.args.length q]] w fun e w' => e = .returned (.int .i64 (instW d)) ∧ Below w.heap.size w w' := by
 have HK : Hid (kindV d u q = .iface 142 (.agg #[.int .i64 d.a])) := kv_18 h
 have HR : Hid (d.w = instW d) := by show _ = _; rw [instW, h]; rfl
 have has := as_unaryKind_binaryKind
 clear h
 go_enter Tryz.func134, Tryz.ntmps134
 go_wp2_with (first | (go_at_call 53; refine (kind_any d u q _).mono ?_; rintro e w1 ⟨rfl, hb1⟩; rw [HK.out]; have hcc := bcell hb1) | (go_at_call 161; refine (resI _ _ _).mono ?_; rintro e w' ⟨rfl, rfl⟩))
 go_ret
 exact ⟨ret_int HR.out, ((Below.refl w.heap.size w).alloc (Nat.le_refl _) _).trans (hb1.mono (by simp))⟩
set_option maxHeartbeats 2000000 in
set_option maxRecDepth 100000 in
theorem it_19 (d : InstD) (u : Option Addr) (q : Nat) (w : World) (h : d.op = 19) :
  Calls Tryz.prog 134 #[.agg #[.int .i64 d.op, .int .i64 d.w, .int .i64 d.a, .int .i64 d.b, .int .i64 d.c, .int .i64 d.imm, .slice u d.args.length q]] w fun e w' => e = .returned (.int .i64 (instW d)) ∧ Below w.heap.size w w' := by
 have HK : Hid (kindV d u q = .iface 142 (.agg #[.int .i64 d.a])) := kv_19 h
 have HR : Hid (d.w = instW d) := by show _ = _; rw [instW, h]; rfl
 have has := as_unaryKind_binaryKind
 clear h
 go_enter Tryz.func134, Tryz.ntmps134
 go_wp2_with (first | (go_at_call 53; refine (kind_any d u q _).mono ?_; rintro e w1 ⟨rfl, hb1⟩; rw [HK.out]; have hcc := bcell hb1) | (go_at_call 161; refine (resI _ _ _).mono ?_; rintro e w' ⟨rfl, rfl⟩))
 go_ret
 exact ⟨ret_int HR.out, ((Below.refl w.heap.size w).alloc (Nat.le_refl _) _).trans (hb1.mono (by simp))⟩
set_option maxHeartbeats 2000000 in
set_option maxRecDepth 100000 in
theorem it_20 (d : InstD) (u : Option Addr) (q : Nat) (w : World) (h : d.op = 20) :
  Calls Tryz.prog 134 #[.agg #[.int .i64 d.op, .int .i64 d.w, .int .i64 d.a, .int .i64 d.b, .int .i64 d.c, .int .i64 d.imm, .slice u d.args.length q]] w fun e w' => e = .returned (.int .i64 (instW d)) ∧ Below w.heap.size w w' := by
 have HK : Hid (kindV d u q = .iface 142 (.agg #[.int .i64 d.a])) := kv_20 h
 have HR : Hid (d.w = instW d) := by show _ = _; rw [instW, h]; rfl
 have has := as_unaryKind_binaryKind
 clear h
 go_enter Tryz.func134, Tryz.ntmps134
 go_wp2_with (first | (go_at_call 53; refine (kind_any d u q _).mono ?_; rintro e w1 ⟨rfl, hb1⟩; rw [HK.out]; have hcc := bcell hb1) | (go_at_call 161; refine (resI _ _ _).mono ?_; rintro e w' ⟨rfl, rfl⟩))
 go_ret
 exact ⟨ret_int HR.out, ((Below.refl w.heap.size w).alloc (Nat.le_refl _) _).trans (hb1.mono (by simp))⟩
set_option maxHeartbeats 2000000 in
set_option maxRecDepth 100000 in
theorem it_21 (d : InstD) (u : Option Addr) (q : Nat) (w : World) (h : d.op = 21) :
  Calls Tryz.prog 134 #[.agg #[.int .i64 d.op, .int .i64 d.w, .int .i64 d.a, .int .i64 d.b, .int .i64 d.c, .int .i64 d.imm, .slice u d.args.length q]] w fun e w' => e = .returned (.int .i64 (instW d)) ∧ Below w.heap.size w w' := by
 have HK : Hid (kindV d u q = .iface 144 (.agg #[.int .i64 d.imm])) := kv_21 h
 have HR : Hid (d.w = instW d) := by show _ = _; rw [instW, h]; rfl
 have has := as_constKind_binaryKind
 clear h
 go_enter Tryz.func134, Tryz.ntmps134
 go_wp2_with (first | (go_at_call 53; refine (kind_any d u q _).mono ?_; rintro e w1 ⟨rfl, hb1⟩; rw [HK.out]; have hcc := bcell hb1) | (go_at_call 161; refine (resI _ _ _).mono ?_; rintro e w' ⟨rfl, rfl⟩))
 go_ret
 exact ⟨ret_int HR.out, ((Below.refl w.heap.size w).alloc (Nat.le_refl _) _).trans (hb1.mono (by simp))⟩
set_option maxHeartbeats 2000000 in
set_option maxRecDepth 100000 in
theorem it_22 (d : InstD) (u : Option Addr) (q : Nat) (w : World) (h : d.op = 22) :
  Calls Tryz.prog 134 #[.agg #[.int .i64 d.op, .int .i64 d.w, .int .i64 d.a, .int .i64 d.b, .int .i64 d.c, .int .i64 d.imm, .slice u d.args.length q]] w fun e w' => e = .returned (.int .i64 (instW d)) ∧ Below w.heap.size w w' := by
 have HK : Hid (kindV d u q = .iface 146 (.agg #[.int .i64 d.a, .int .i64 d.b, .int .i64 d.c])) := kv_22 h
 have HR : Hid (d.w = instW d) := by show _ = _; rw [instW, h]; rfl
 have has := as_selectKind_binaryKind
 clear h
 go_enter Tryz.func134, Tryz.ntmps134
 go_wp2_with (first | (go_at_call 53; refine (kind_any d u q _).mono ?_; rintro e w1 ⟨rfl, hb1⟩; rw [HK.out]; have hcc := bcell hb1) | (go_at_call 161; refine (resI _ _ _).mono ?_; rintro e w' ⟨rfl, rfl⟩))
 go_ret
 exact ⟨ret_int HR.out, ((Below.refl w.heap.size w).alloc (Nat.le_refl _) _).trans (hb1.mono (by simp))⟩
set_option maxHeartbeats 2000000 in
set_option maxRecDepth 100000 in
theorem it_23 (d : InstD) (u : Option Addr) (q : Nat) (w : World) (h : d.op = 23) :
  Calls Tryz.prog 134 #[.agg #[.int .i64 d.op, .int .i64 d.w, .int .i64 d.a, .int .i64 d.b, .int .i64 d.c, .int .i64 d.imm, .slice u d.args.length q]] w fun e w' => e = .returned (.int .i64 (instW d)) ∧ Below w.heap.size w w' := by
 have HK : Hid (kindV d u q = .iface 147 (.agg #[.int .i64 d.a])) := kv_23 h
 have HR : Hid (d.w = instW d) := by show _ = _; rw [instW, h]; rfl
 have has := as_loadKind_binaryKind
 clear h
 go_enter Tryz.func134, Tryz.ntmps134
 go_wp2_with (first | (go_at_call 53; refine (kind_any d u q _).mono ?_; rintro e w1 ⟨rfl, hb1⟩; rw [HK.out]; have hcc := bcell hb1) | (go_at_call 161; refine (resI _ _ _).mono ?_; rintro e w' ⟨rfl, rfl⟩))
 go_ret
 exact ⟨ret_int HR.out, ((Below.refl w.heap.size w).alloc (Nat.le_refl _) _).trans (hb1.mono (by simp))⟩
set_option maxHeartbeats 2000000 in
set_option maxRecDepth 100000 in
theorem it_24 (d : InstD) (u : Option Addr) (q : Nat) (w : World) (h : d.op = 24) :
  Calls Tryz.prog 134 #[.agg #[.int .i64 d.op, .int .i64 d.w, .int .i64 d.a, .int .i64 d.b, .int .i64 d.c, .int .i64 d.imm, .slice u d.args.length q]] w fun e w' => e = .returned (.int .i64 (instW d)) ∧ Below w.heap.size w w' := by
 have HK : Hid (kindV d u q = .iface 148 (.agg #[.int .i64 d.a, .int .i64 d.b])) := kv_24 h
 have HR : Hid (d.w = instW d) := by show _ = _; rw [instW, h]; rfl
 have has := as_storeKind_binaryKind
 clear h
 go_enter Tryz.func134, Tryz.ntmps134
 go_wp2_with (first | (go_at_call 53; refine (kind_any d u q _).mono ?_; rintro e w1 ⟨rfl, hb1⟩; rw [HK.out]; have hcc := bcell hb1) | (go_at_call 161; refine (resI _ _ _).mono ?_; rintro e w' ⟨rfl, rfl⟩))
 go_ret
 exact ⟨ret_int HR.out, ((Below.refl w.heap.size w).alloc (Nat.le_refl _) _).trans (hb1.mono (by simp))⟩
set_option maxHeartbeats 2000000 in
set_option maxRecDepth 100000 in
theorem it_25 (d : InstD) (u : Option Addr) (q : Nat) (w : World) (h : d.op = 25) :
  Calls Tryz.prog 134 #[.agg #[.int .i64 d.op, .int .i64 d.w, .int .i64 d.a, .int .i64 d.b, .int .i64 d.c, .int .i64 d.imm, .slice u d.args.length q]] w fun e w' => e = .returned (.int .i64 (instW d)) ∧ Below w.heap.size w w' := by
 have HK : Hid (kindV d u q = .iface 149 (.agg #[.int .i64 d.a])) := kv_25 h
 have HR : Hid (d.w = instW d) := by show _ = _; rw [instW, h]; rfl
 have has := as_printKind_binaryKind
 clear h
 go_enter Tryz.func134, Tryz.ntmps134
 go_wp2_with (first | (go_at_call 53; refine (kind_any d u q _).mono ?_; rintro e w1 ⟨rfl, hb1⟩; rw [HK.out]; have hcc := bcell hb1) | (go_at_call 161; refine (resI _ _ _).mono ?_; rintro e w' ⟨rfl, rfl⟩))
 go_ret
 exact ⟨ret_int HR.out, ((Below.refl w.heap.size w).alloc (Nat.le_refl _) _).trans (hb1.mono (by simp))⟩
set_option maxHeartbeats 2000000 in
set_option maxRecDepth 100000 in
theorem it_26 (d : InstD) (u : Option Addr) (q : Nat) (w : World) (h : d.op = 26) :
  Calls Tryz.prog 134 #[.agg #[.int .i64 d.op, .int .i64 d.w, .int .i64 d.a, .int .i64 d.b, .int .i64 d.c, .int .i64 d.imm, .slice u d.args.length q]] w fun e w' => e = .returned (.int .i64 (instW d)) ∧ Below w.heap.size w w' := by
 have HK : Hid (kindV d u q = .iface 151 (.agg #[.int .i64 d.imm, .slice u d.args.length q])) := kv_26 h
 have HR : Hid (d.w = instW d) := by show _ = _; rw [instW, h]; rfl
 have has := as_callKind_binaryKind
 clear h
 go_enter Tryz.func134, Tryz.ntmps134
 go_wp2_with (first | (go_at_call 53; refine (kind_any d u q _).mono ?_; rintro e w1 ⟨rfl, hb1⟩; rw [HK.out]; have hcc := bcell hb1) | (go_at_call 161; refine (resI _ _ _).mono ?_; rintro e w' ⟨rfl, rfl⟩))
 go_ret
 exact ⟨ret_int HR.out, ((Below.refl w.heap.size w).alloc (Nat.le_refl _) _).trans (hb1.mono (by simp))⟩
set_option maxHeartbeats 2000000 in
set_option maxRecDepth 100000 in
theorem it_27 (d : InstD) (u : Option Addr) (q : Nat) (w : World) (h : d.op = 27) :
  Calls Tryz.prog 134 #[.agg #[.int .i64 d.op, .int .i64 d.w, .int .i64 d.a, .int .i64 d.b, .int .i64 d.c, .int .i64 d.imm, .slice u d.args.length q]] w fun e w' => e = .returned (.int .i64 (instW d)) ∧ Below w.heap.size w w' := by
 have HK : Hid (kindV d u q = .iface 142 (.agg #[.int .i64 d.a])) := kv_27 h
 have HR : Hid (d.w = instW d) := by show _ = _; rw [instW, h]; rfl
 have has := as_unaryKind_binaryKind
 clear h
 go_enter Tryz.func134, Tryz.ntmps134
 go_wp2_with (first | (go_at_call 53; refine (kind_any d u q _).mono ?_; rintro e w1 ⟨rfl, hb1⟩; rw [HK.out]; have hcc := bcell hb1) | (go_at_call 161; refine (resI _ _ _).mono ?_; rintro e w' ⟨rfl, rfl⟩))
 go_ret
 exact ⟨ret_int HR.out, ((Below.refl w.heap.size w).alloc (Nat.le_refl _) _).trans (hb1.mono (by simp))⟩
set_option maxHeartbeats 2000000 in
set_option maxRecDepth 100000 in
theorem it_no (d : InstD) (u : Option Addr) (q : Nat) (w : World) (ho : opB d.op = false) (h : d.op < 1 ∨ 27 < d.op) :
  Calls Tryz.prog 134 #[.agg #[.int .i64 d.op, .int .i64 d.w, .int .i64 d.a, .int .i64 d.b, .int .i64 d.c, .int .i64 d.imm, .slice u d.args.length q]] w fun e w' => e = .returned (.int .i64 (instW d)) ∧ Below w.heap.size w w' := by
 have HK : Hid (kindV d u q = .iface 153 (.agg #[])) := kv_no ho h
 have HR : Hid (d.w = instW d) := by show _ = _; rw [instW, ho]; rfl
 have has := as_strangeKind_binaryKind
 clear h ho
 go_enter Tryz.func134, Tryz.ntmps134
 go_wp2_with (first | (go_at_call 53; refine (kind_any d u q _).mono ?_; rintro e w1 ⟨rfl, hb1⟩; rw [HK.out]; have hcc := bcell hb1) | (go_at_call 161; refine (resI _ _ _).mono ?_; rintro e w' ⟨rfl, rfl⟩))
 go_ret
 exact ⟨ret_int HR.out, ((Below.refl w.heap.size w).alloc (Nat.le_refl _) _).trans (hb1.mono (by simp))⟩
theorem instI_any (d : InstD) (u : Option Addr) (q : Nat) (w : World) :
  Calls Tryz.prog 134 #[.agg #[.int .i64 d.op, .int .i64 d.w, .int .i64 d.a, .int .i64 d.b, .int .i64 d.c, .int .i64 d.imm, .slice u d.args.length q]] w fun e w' => e = .returned (.int .i64 (instW d)) ∧ Below w.heap.size w w' := by
 rcases op_split d.op with h | h | h | h | h | h | h | h | h | h | h | ⟨ho, h⟩
 ·exact it_bin d u q w h
 ·exact it_18 d u q w h
 ·exact it_19 d u q w h
 ·exact it_20 d u q w h
 ·exact it_21 d u q w h
 ·exact it_22 d u q w h
 ·exact it_23 d u q w h
 ·exact it_24 d u q w h
 ·exact it_25 d u q w h
 ·exact it_26 d u q w h
 ·exact it_27 d u q w h
 ·exact it_no d u q w ho h
set_option maxHeartbeats 2000000 in
theorem instS_any (d : InstD) (u : Option Addr) (q : Nat) (w : World) :
  Calls Tryz.prog 75 #[.agg #[.int .i64 d.op, .int .i64 d.w, .int .i64 d.a, .int .i64 d.b, .int .i64 d.c, .int .i64 d.imm, .slice u d.args.length q]] w fun e w' => e = .returned (.int .i64 (instW d)) ∧ Below w.heap.size w w' := by
 by_cases h : opB d.op = true
 ·have HR : Hid (resZ d.op d.w = instW d) := by show _ = _; rw [instW, if_pos h]
  have dd : (decide (1 ≤ d.op) && decide (d.op ≤ 17)) = true := h
  clear h
  go_enter Tryz.func75, Tryz.ntmps75
  go_wp2_with (first | (go_at_call 69; refine (inS _ _ _ _).mono ?_; rintro e w' ⟨rfl, rfl⟩) | (go_at_call 114; refine (resS _ _ _).mono ?_; rintro e w' ⟨rfl, rfl⟩))
  go_ret
  exact ⟨ret_int HR.out, (Below.refl _ _).alloc (Nat.le_refl _) _⟩
 ·have h' : opB d.op = false := by simpa using h
  have HR : Hid (d.w = instW d) := by show _ = _; rw [instW, if_neg h]
  have dd : (decide (1 ≤ d.op) && decide (d.op ≤ 17)) = false := h'
  clear h h'
  go_enter Tryz.func75, Tryz.ntmps75
  go_wp2_with (first | (go_at_call 69; refine (inS _ _ _ _).mono ?_; rintro e w' ⟨rfl, rfl⟩))
  go_ret
  exact ⟨ret_int HR.out, (Below.refl _ _).alloc (Nat.le_refl _) _⟩
end Go.Proofs.YtoknhppjdmoblaaGreatDoor
namespace Go.Proofs.YtoknhppjdmoblaaGreatDoor
set_option linter.unusedVariables false
set_option linter.unusedSimpArgs false
open Go.RowKit
def typeF (d : FuncD) (id : Int) : Int :=
 if (placeF d id).1 = -2 then -1 else if (placeF d id).1 = -1 then d.params.getD (placeF d id).2.toNat 0 else
 if (placeF d id).2 < (d.blocks.getD (placeF d id).1.toNat block0).phis.length then ((d.blocks.getD (placeF d id).1.toNat block0).phis.getD (placeF d id).2.toNat phi0).w
 else instW ((d.blocks.getD (placeF d id).1.toNat block0).insts.getD ((placeF d id).2 - (d.blocks.getD (placeF d id).1.toNat block0).phis.length).toNat inst0)
theorem placeL_cases : ∀ (r : List BlockD) (b : Nat) (x : Int), 0 ≤ x → placeL r b x = (-2, 0) ∨ ∃ i j : Nat, i < r.length ∧ j < cntB (r.getD i block0) ∧ placeL r b x = (((b + i : Nat) : Int), (j : Int))
 | [], _, _, _ => .inl rfl
 | d :: r, b, x, hx => by
  unfold placeL
  by_cases h : x < cntB d
  ·rw [if_pos h]
   exact .inr ⟨0, x.toNat, by simp, by simp; omega, by simp; omega⟩
  ·rw [if_neg h]
   rcases placeL_cases r (b + 1) (x - cntB d) (by omega) with k | ⟨i, j, k1, k2, k3⟩
   ·exact .inl k
   ·refine .inr ⟨i + 1, j, by simp; omega, by simpa using k2, ?_⟩
    rw [k3, show b + 1 + i = b + (i + 1) by omega]
theorem place_cases (d : FuncD) (id : Int) : placeF d id = (-2, 0) ∨ (∃ j : Nat, j < d.params.length ∧ placeF d id = (-1, (j : Int))) ∨ ∃ k j : Nat, k < d.blocks.length ∧ j < cntB (d.blocks.getD k block0) ∧ placeF d id = ((k : Int), (j : Int)) := by
 unfold placeF
 by_cases h1 : id < 0
 ·rw [if_pos h1]; exact .inl rfl
 ·rw [if_neg h1]
  by_cases h2 : id < d.params.length
  ·rw [if_pos h2]; exact .inr (.inl ⟨id.toNat, by omega, by simp; omega⟩)
  ·rw [if_neg h2]
   rcases placeL_cases d.blocks 0 (id - d.params.length) (by omega) with k | ⟨i, j, k1, k2, k3⟩
   ·exact .inl k
   ·exact .inr (.inr ⟨i, j, k1, k2, by rw [k3]; simp⟩)
set_option maxHeartbeats 4000000 in
theorem typeS_any_none (lo : Nat) (d : FuncD) (u0 : Option Addr) (c0 : Nat) (u2 : Option Addr) (c2 : Nat) (id : Int) (w : World) (hs : SmFunc d) (_k0 : IntsAt w lo u0 d.params) (k2 : BlocksAt w lo u2 d.blocks) (hi : id ≤ 9223372036854775807) (h : placeF d id = (-2, 0)) :
  Calls Tryz.prog 79 #[.agg #[.slice u0 d.params.length c0, .int .i64 d.ret, .slice u2 d.blocks.length c2], .int .i64 id] w fun e w' => e = .returned (.int .i64 (typeF d id)) ∧ Below w.heap.size w w' := by
 have E : Hid (-1 = typeF d id) := by show _ = _; simp [typeF, h]
 have q1 : (placeF d id).1 = -2 := by rw [h]
 have q2 : (placeF d id).2 = 0 := by rw [h]
 clear h
 go_enter Tryz.func79, Tryz.ntmps79
 go_wp2_with fail
 refine (placeS_any lo d _ _ _ _ _ _ hs (k2.keep (agree_alloc _ _ _)) hi).mono ?_
 rintro e w1 ⟨rfl, hb1⟩
 have hx1 := box_first hb1
 obtain ⟨p1, p2, p3⟩ := box3 hx1
 have hW := below_box hx1
 have HW : Hid (Below w.heap.size w w1) := hW
 clear hW hx1
 go_wp2_with fail
 go_ret
 exact ⟨ret_i E.out, HW.out⟩
set_option maxHeartbeats 4000000 in
theorem typeS_any_par (lo : Nat) (d : FuncD) (u0 : Option Addr) (c0 : Nat) (u2 : Option Addr) (c2 : Nat) (id : Int) (w : World) (hs : SmFunc d) (k0 : IntsAt w lo u0 d.params) (k2 : BlocksAt w lo u2 d.blocks) (hi : id ≤ 9223372036854775807) (j : Nat) (hj : j < d.params.length) (h : placeF d id = (-1, (j : Int))) :
  Calls Tryz.prog 79 #[.agg #[.slice u0 d.params.length c0, .int .i64 d.ret, .slice u2 d.blocks.length c2], .int .i64 id] w fun e w' => e = .returned (.int .i64 (typeF d id)) ∧ Below w.heap.size w w' := by
 have E : Hid (d.params.getD j 0 = typeF d id) := by show _ = _; simp [typeF, h]
 have q1 : (placeF d id).1 = -1 := by rw [h]
 have q2 : (placeF d id).2 = (j : Int) := by rw [h]
 clear h
 have hp := hs.1
 go_enter Tryz.func79, Tryz.ntmps79
 go_wp2_with fail
 refine (placeS_any lo d _ _ _ _ _ _ hs (k2.keep (agree_alloc _ _ _)) hi).mono ?_
 rintro e w1 ⟨rfl, hb1⟩
 have hx1 := box_first hb1
 obtain ⟨p1, p2, p3⟩ := box3 hx1
 have hW := below_box hx1
 rcases k0.2 with hn | ⟨b, off, rfl, hlo, hb, hcell⟩
 ·simp [hn] at hj
 have e0 : w1.cell? ⟨b, off + j, none⟩ = some (.int .i64 (d.params.getD j 0)) := (cell_block (hW.block b hb)).trans (hcell j hj)
 have HW : Hid (Below w.heap.size w w1) := hW
 generalize d.params.getD j 0 = pv at e0 E
 clear hW hx1 hcell
 go_wp2_with fail
 go_ret
 exact ⟨ret_i E.out, HW.out⟩
set_option maxHeartbeats 4000000 in
theorem typeS_any_phi (lo : Nat) (d : FuncD) (u0 : Option Addr) (c0 : Nat) (u2 : Option Addr) (c2 : Nat) (id : Int) (w : World) (hs : SmFunc d) (_k0 : IntsAt w lo u0 d.params) (k2 : BlocksAt w lo u2 d.blocks) (hi : id ≤ 9223372036854775807) (k j : Nat) (hk : k < d.blocks.length) (hj : j < (d.blocks.getD k block0).phis.length) (h : placeF d id = ((k : Int), (j : Int))) :
  Calls Tryz.prog 79 #[.agg #[.slice u0 d.params.length c0, .int .i64 d.ret, .slice u2 d.blocks.length c2], .int .i64 id] w fun e w' => e = .returned (.int .i64 (typeF d id)) ∧ Below w.heap.size w w' := by
 have E : Hid (((d.blocks.getD k block0).phis.getD j phi0).w = typeF d id) := by
  show _ = _
  have a1 : ¬ ((k : Int) = -2) := by omega
  have a2 : ¬ ((k : Int) = -1) := by omega
  have a3 : (j : Int) < (d.blocks.getD k block0).phis.length := by omega
  simp only [typeF, h, if_neg a1, if_neg a2, Int.toNat_natCast, if_pos a3]
 have q1 : (placeF d id).1 = (k : Int) := by rw [h]
 have q2 : (placeF d id).2 = (j : Int) := by rw [h]
 clear h
 go_enter Tryz.func79, Tryz.ntmps79
 go_wp2_with fail
 refine (placeS_any lo d _ _ _ _ _ _ hs (k2.keep (agree_alloc _ _ _)) hi).mono ?_
 rintro e w1 ⟨rfl, hb1⟩
 have hx1 := box_first hb1
 obtain ⟨p1, p2, p3⟩ := box3 hx1
 have hW := below_box hx1
 rcases k2.2 with hn | ⟨b, off, rfl, hlo, hb, hcell⟩
 ·simp [hn] at hk
 obtain ⟨⟨v0, r0, g0, n0⟩, ⟨v1, r1, g1, n1⟩, g2, g3, g4, g5⟩ := hcell k hk
 have hsm := hs.2.2 _ (getD_mem block0 d.blocks k hk)
 generalize d.blocks.getD k block0 = x at *
 have e0 : w1.cell? ⟨b, off + k * 6, none⟩ = some (.slice v0 x.phis.length r0) := (cell_block (hW.block b hb)).trans g0
 have e1 : w1.cell? ⟨b, off + k * 6 + 1, none⟩ = some (.slice v1 x.insts.length r1) := (cell_block (hW.block b hb)).trans g1
 have e2 : w1.cell? ⟨b, off + k * 6 + 2, none⟩ = some (.int .i64 x.term.kind) := (cell_block (hW.block b hb)).trans g2
 have e3 : w1.cell? ⟨b, off + k * 6 + 3, none⟩ = some (.int .i64 x.term.a) := (cell_block (hW.block b hb)).trans g3
 have e4 : w1.cell? ⟨b, off + k * 6 + 4, none⟩ = some (.int .i64 x.term.x) := (cell_block (hW.block b hb)).trans g4
 have e5 : w1.cell? ⟨b, off + k * 6 + 5, none⟩ = some (.int .i64 x.term.y) := (cell_block (hW.block b hb)).trans g5
 have s0 := hsm.1.1
 have s1 := hsm.2.1
 have hbl := hs.2.1
 have HW : Hid (Below w.heap.size w w1) := hW
 rcases n0.2 with hn | ⟨bp, op, rfl, hlp, hbp, hcp⟩
 ·simp [hn] at hj
 have f0 : w1.cell? ⟨bp, op + j * 2, none⟩ = some (.int .i64 (x.phis.getD j phi0).w) := (cell_block (hW.block bp hbp)).trans (hcp j hj).1
 have z1 : bp < w1.heap.size := Nat.lt_of_lt_of_le hbp hW.size
 generalize (x.phis.getD j phi0).w = pv at f0 E
 clear hW hx1 hcell hcp g0 g1 g2 g3 g4 g5 n0 n1 hsm _k0 k2
 go_wp2_with fail
 go_ret
 exact ⟨ret_i E.out, by first | exact HW.out | exact HW.out.alloc HW.out.size _⟩
set_option maxHeartbeats 4000000 in
theorem typeS_any_inst (lo : Nat) (d : FuncD) (u0 : Option Addr) (c0 : Nat) (u2 : Option Addr) (c2 : Nat) (id : Int) (w : World) (hs : SmFunc d) (_k0 : IntsAt w lo u0 d.params) (k2 : BlocksAt w lo u2 d.blocks) (hi : id ≤ 9223372036854775807) (k j : Nat) (hk : k < d.blocks.length) (hj : j < (d.blocks.getD k block0).insts.length) (h : placeF d id = ((k : Int), (((d.blocks.getD k block0).phis.length + j : Nat) : Int))) :
  Calls Tryz.prog 79 #[.agg #[.slice u0 d.params.length c0, .int .i64 d.ret, .slice u2 d.blocks.length c2], .int .i64 id] w fun e w' => e = .returned (.int .i64 (typeF d id)) ∧ Below w.heap.size w w' := by
 have E : Hid (instW ((d.blocks.getD k block0).insts.getD j inst0) = typeF d id) := by
  show _ = _
  have a1 : ¬ ((k : Int) = -2) := by omega
  have a2 : ¬ ((k : Int) = -1) := by omega
  have a3 : ¬ ((((d.blocks.getD k block0).phis.length + j : Nat) : Int) < (d.blocks.getD k block0).phis.length) := by omega
  have a4 : ((((d.blocks.getD k block0).phis.length + j : Nat) : Int) - (d.blocks.getD k block0).phis.length).toNat = j := by omega
  simp only [typeF, h, if_neg a1, if_neg a2, Int.toNat_natCast, if_neg a3, a4]
 have q1 : (placeF d id).1 = (k : Int) := by rw [h]
 have q2 : (placeF d id).2 = ((d.blocks.getD k block0).phis.length : Int) + (j : Int) := by rw [h]; simp
 clear h
 go_enter Tryz.func79, Tryz.ntmps79
 go_wp2_with fail
 refine (placeS_any lo d _ _ _ _ _ _ hs (k2.keep (agree_alloc _ _ _)) hi).mono ?_
 rintro e w1 ⟨rfl, hb1⟩
 have hx1 := box_first hb1
 obtain ⟨p1, p2, p3⟩ := box3 hx1
 have hW := below_box hx1
 rcases k2.2 with hn | ⟨b, off, rfl, hlo, hb, hcell⟩
 ·simp [hn] at hk
 obtain ⟨⟨v0, r0, g0, n0⟩, ⟨v1, r1, g1, n1⟩, g2, g3, g4, g5⟩ := hcell k hk
 have hsm := hs.2.2 _ (getD_mem block0 d.blocks k hk)
 generalize d.blocks.getD k block0 = x at *
 have e0 : w1.cell? ⟨b, off + k * 6, none⟩ = some (.slice v0 x.phis.length r0) := (cell_block (hW.block b hb)).trans g0
 have e1 : w1.cell? ⟨b, off + k * 6 + 1, none⟩ = some (.slice v1 x.insts.length r1) := (cell_block (hW.block b hb)).trans g1
 have e2 : w1.cell? ⟨b, off + k * 6 + 2, none⟩ = some (.int .i64 x.term.kind) := (cell_block (hW.block b hb)).trans g2
 have e3 : w1.cell? ⟨b, off + k * 6 + 3, none⟩ = some (.int .i64 x.term.a) := (cell_block (hW.block b hb)).trans g3
 have e4 : w1.cell? ⟨b, off + k * 6 + 4, none⟩ = some (.int .i64 x.term.x) := (cell_block (hW.block b hb)).trans g4
 have e5 : w1.cell? ⟨b, off + k * 6 + 5, none⟩ = some (.int .i64 x.term.y) := (cell_block (hW.block b hb)).trans g5
 have s0 := hsm.1.1
 have s1 := hsm.2.1
 have hbl := hs.2.1
 have HW : Hid (Below w.heap.size w w1) := hW
 rcases n1.2 with hn | ⟨bp, op, rfl, hlp, hbp, hcp⟩
 ·simp [hn] at hj
 obtain ⟨i0, i1, i2, i3, i4, i5, ⟨ua, qa, i6, _⟩⟩ := hcp j hj
 generalize x.insts.getD j inst0 = y at *
 have f0 : w1.cell? ⟨bp, op + j * 7, none⟩ = some (.int .i64 y.op) := (cell_block (hW.block bp hbp)).trans i0
 have f1 : w1.cell? ⟨bp, op + j * 7 + 1, none⟩ = some (.int .i64 y.w) := (cell_block (hW.block bp hbp)).trans i1
 have f2 : w1.cell? ⟨bp, op + j * 7 + 2, none⟩ = some (.int .i64 y.a) := (cell_block (hW.block bp hbp)).trans i2
 have f3 : w1.cell? ⟨bp, op + j * 7 + 3, none⟩ = some (.int .i64 y.b) := (cell_block (hW.block bp hbp)).trans i3
 have f4 : w1.cell? ⟨bp, op + j * 7 + 4, none⟩ = some (.int .i64 y.c) := (cell_block (hW.block bp hbp)).trans i4
 have f5 : w1.cell? ⟨bp, op + j * 7 + 5, none⟩ = some (.int .i64 y.imm) := (cell_block (hW.block bp hbp)).trans i5
 have f6 : w1.cell? ⟨bp, op + j * 7 + 6, none⟩ = some (.slice ua y.args.length qa) := (cell_block (hW.block bp hbp)).trans i6
 have z1 : bp < w1.heap.size := Nat.lt_of_lt_of_le hbp hW.size
 clear hW hx1 hcell hcp g0 g1 g2 g3 g4 g5 n0 n1 hsm _k0 k2 i0 i1 i2 i3 i4 i5 i6
 go_wp2_with (go_at_call 75; refine (instS_any y ua qa _).mono ?_; rintro e w2 ⟨rfl, hb2⟩)
 go_ret
 exact ⟨ret_i E.out, by first | exact HW.out.trans (hb2.mono HW.out.size) | exact (HW.out.alloc HW.out.size _).trans (hb2.mono (by have := HW.out.size; simp; omega))⟩
set_option maxHeartbeats 4000000 in
theorem typeS_any (lo : Nat) (d : FuncD) (u0 : Option Addr) (c0 : Nat) (u2 : Option Addr) (c2 : Nat) (id : Int) (w : World) (hs : SmFunc d) (k0 : IntsAt w lo u0 d.params) (k2 : BlocksAt w lo u2 d.blocks) (hi : id ≤ 9223372036854775807) :
  Calls Tryz.prog 79 #[.agg #[.slice u0 d.params.length c0, .int .i64 d.ret, .slice u2 d.blocks.length c2], .int .i64 id] w fun e w' => e = .returned (.int .i64 (typeF d id)) ∧ Below w.heap.size w w' := by
 rcases place_cases d id with h | ⟨j, hj, h⟩ | ⟨k, j, hk, hj, h⟩
 ·exact typeS_any_none lo d u0 c0 u2 c2 id w hs k0 k2 hi h
 ·exact typeS_any_par lo d u0 c0 u2 c2 id w hs k0 k2 hi j hj h
 ·by_cases hp : j < (d.blocks.getD k block0).phis.length
  ·exact typeS_any_phi lo d u0 c0 u2 c2 id w hs k0 k2 hi k j hk hp h
  ·unfold cntB at hj
   refine typeS_any_inst lo d u0 c0 u2 c2 id w hs k0 k2 hi k (j - (d.blocks.getD k block0).phis.length) hk (by omega) ?_
   rw [h, show (d.blocks.getD k block0).phis.length + (j - (d.blocks.getD k block0).phis.length) = j by omega]
set_option maxHeartbeats 4000000 in
theorem typeI_any_none (lo : Nat) (d : FuncD) (u0 : Option Addr) (c0 : Nat) (u2 : Option Addr) (c2 : Nat) (id : Int) (w : World) (hs : SmFunc d) (_k0 : IntsAt w lo u0 d.params) (k2 : BlocksAt w lo u2 d.blocks) (hi : id ≤ 9223372036854775807) (h : placeF d id = (-2, 0)) :
  Calls Tryz.prog 105 #[.agg #[.slice u0 d.params.length c0, .int .i64 d.ret, .slice u2 d.blocks.length c2], .int .i64 id] w fun e w' => e = .returned (.int .i64 (typeF d id)) ∧ Below w.heap.size w w' := by
 have E : Hid (-1 = typeF d id) := by show _ = _; simp [typeF, h]
 have q1 : (placeF d id).1 = -2 := by rw [h]
 have q2 : (placeF d id).2 = 0 := by rw [h]
 clear h
 go_enter Tryz.func105, Tryz.ntmps105
 go_wp2_with fail
 refine (placeI_any lo d _ _ _ _ _ _ hs (k2.keep (agree_alloc _ _ _)) hi).mono ?_
 rintro e w1 ⟨rfl, hb1⟩
 have hx1 := box_first hb1
 obtain ⟨p1, p2, p3⟩ := box3 hx1
 have hW := below_box hx1
 have HW : Hid (Below w.heap.size w w1) := hW
 clear hW hx1
 go_wp2_with fail
 go_ret
 exact ⟨ret_i E.out, HW.out⟩
set_option maxHeartbeats 4000000 in
theorem typeI_any_par (lo : Nat) (d : FuncD) (u0 : Option Addr) (c0 : Nat) (u2 : Option Addr) (c2 : Nat) (id : Int) (w : World) (hs : SmFunc d) (k0 : IntsAt w lo u0 d.params) (k2 : BlocksAt w lo u2 d.blocks) (hi : id ≤ 9223372036854775807) (j : Nat) (hj : j < d.params.length) (h : placeF d id = (-1, (j : Int))) :
  Calls Tryz.prog 105 #[.agg #[.slice u0 d.params.length c0, .int .i64 d.ret, .slice u2 d.blocks.length c2], .int .i64 id] w fun e w' => e = .returned (.int .i64 (typeF d id)) ∧ Below w.heap.size w w' := by
 have E : Hid (d.params.getD j 0 = typeF d id) := by show _ = _; simp [typeF, h]
 have q1 : (placeF d id).1 = -1 := by rw [h]
 have q2 : (placeF d id).2 = (j : Int) := by rw [h]
 clear h
 have hp := hs.1
 go_enter Tryz.func105, Tryz.ntmps105
 go_wp2_with fail
 refine (placeI_any lo d _ _ _ _ _ _ hs (k2.keep (agree_alloc _ _ _)) hi).mono ?_
 rintro e w1 ⟨rfl, hb1⟩
 have hx1 := box_first hb1
 obtain ⟨p1, p2, p3⟩ := box3 hx1
 have hW := below_box hx1
 rcases k0.2 with hn | ⟨b, off, rfl, hlo, hb, hcell⟩
 ·simp [hn] at hj
 have e0 : w1.cell? ⟨b, off + j, none⟩ = some (.int .i64 (d.params.getD j 0)) := (cell_block (hW.block b hb)).trans (hcell j hj)
 have HW : Hid (Below w.heap.size w w1) := hW
 generalize d.params.getD j 0 = pv at e0 E
 clear hW hx1 hcell
 go_wp2_with fail
 go_ret
 exact ⟨ret_i E.out, HW.out⟩
set_option maxHeartbeats 4000000 in
theorem typeI_any_phi (lo : Nat) (d : FuncD) (u0 : Option Addr) (c0 : Nat) (u2 : Option Addr) (c2 : Nat) (id : Int) (w : World) (hs : SmFunc d) (_k0 : IntsAt w lo u0 d.params) (k2 : BlocksAt w lo u2 d.blocks) (hi : id ≤ 9223372036854775807) (k j : Nat) (hk : k < d.blocks.length) (hj : j < (d.blocks.getD k block0).phis.length) (h : placeF d id = ((k : Int), (j : Int))) :
  Calls Tryz.prog 105 #[.agg #[.slice u0 d.params.length c0, .int .i64 d.ret, .slice u2 d.blocks.length c2], .int .i64 id] w fun e w' => e = .returned (.int .i64 (typeF d id)) ∧ Below w.heap.size w w' := by
 have E : Hid (((d.blocks.getD k block0).phis.getD j phi0).w = typeF d id) := by
  show _ = _
  have a1 : ¬ ((k : Int) = -2) := by omega
  have a2 : ¬ ((k : Int) = -1) := by omega
  have a3 : (j : Int) < (d.blocks.getD k block0).phis.length := by omega
  simp only [typeF, h, if_neg a1, if_neg a2, Int.toNat_natCast, if_pos a3]
 have q1 : (placeF d id).1 = (k : Int) := by rw [h]
 have q2 : (placeF d id).2 = (j : Int) := by rw [h]
 clear h
 go_enter Tryz.func105, Tryz.ntmps105
 go_wp2_with fail
 refine (placeI_any lo d _ _ _ _ _ _ hs (k2.keep (agree_alloc _ _ _)) hi).mono ?_
 rintro e w1 ⟨rfl, hb1⟩
 have hx1 := box_first hb1
 obtain ⟨p1, p2, p3⟩ := box3 hx1
 have hW := below_box hx1
 rcases k2.2 with hn | ⟨b, off, rfl, hlo, hb, hcell⟩
 ·simp [hn] at hk
 obtain ⟨⟨v0, r0, g0, n0⟩, ⟨v1, r1, g1, n1⟩, g2, g3, g4, g5⟩ := hcell k hk
 have hsm := hs.2.2 _ (getD_mem block0 d.blocks k hk)
 generalize d.blocks.getD k block0 = x at *
 have e0 : w1.cell? ⟨b, off + k * 6, none⟩ = some (.slice v0 x.phis.length r0) := (cell_block (hW.block b hb)).trans g0
 have e1 : w1.cell? ⟨b, off + k * 6 + 1, none⟩ = some (.slice v1 x.insts.length r1) := (cell_block (hW.block b hb)).trans g1
 have e2 : w1.cell? ⟨b, off + k * 6 + 2, none⟩ = some (.int .i64 x.term.kind) := (cell_block (hW.block b hb)).trans g2
 have e3 : w1.cell? ⟨b, off + k * 6 + 3, none⟩ = some (.int .i64 x.term.a) := (cell_block (hW.block b hb)).trans g3
 have e4 : w1.cell? ⟨b, off + k * 6 + 4, none⟩ = some (.int .i64 x.term.x) := (cell_block (hW.block b hb)).trans g4
 have e5 : w1.cell? ⟨b, off + k * 6 + 5, none⟩ = some (.int .i64 x.term.y) := (cell_block (hW.block b hb)).trans g5
 have s0 := hsm.1.1
 have s1 := hsm.2.1
 have hbl := hs.2.1
 have HW : Hid (Below w.heap.size w w1) := hW
 rcases n0.2 with hn | ⟨bp, op, rfl, hlp, hbp, hcp⟩
 ·simp [hn] at hj
 have f0 : w1.cell? ⟨bp, op + j * 2, none⟩ = some (.int .i64 (x.phis.getD j phi0).w) := (cell_block (hW.block bp hbp)).trans (hcp j hj).1
 have z1 : bp < w1.heap.size := Nat.lt_of_lt_of_le hbp hW.size
 generalize (x.phis.getD j phi0).w = pv at f0 E
 clear hW hx1 hcell hcp g0 g1 g2 g3 g4 g5 n0 n1 hsm _k0 k2
 go_wp2_with fail
 go_ret
 exact ⟨ret_i E.out, by first | exact HW.out | exact HW.out.alloc HW.out.size _⟩
set_option maxHeartbeats 4000000 in
theorem typeI_any_inst (lo : Nat) (d : FuncD) (u0 : Option Addr) (c0 : Nat) (u2 : Option Addr) (c2 : Nat) (id : Int) (w : World) (hs : SmFunc d) (_k0 : IntsAt w lo u0 d.params) (k2 : BlocksAt w lo u2 d.blocks) (hi : id ≤ 9223372036854775807) (k j : Nat) (hk : k < d.blocks.length) (hj : j < (d.blocks.getD k block0).insts.length) (h : placeF d id = ((k : Int), (((d.blocks.getD k block0).phis.length + j : Nat) : Int))) :
  Calls Tryz.prog 105 #[.agg #[.slice u0 d.params.length c0, .int .i64 d.ret, .slice u2 d.blocks.length c2], .int .i64 id] w fun e w' => e = .returned (.int .i64 (typeF d id)) ∧ Below w.heap.size w w' := by
 have E : Hid (instW ((d.blocks.getD k block0).insts.getD j inst0) = typeF d id) := by
  show _ = _
  have a1 : ¬ ((k : Int) = -2) := by omega
  have a2 : ¬ ((k : Int) = -1) := by omega
  have a3 : ¬ ((((d.blocks.getD k block0).phis.length + j : Nat) : Int) < (d.blocks.getD k block0).phis.length) := by omega
  have a4 : ((((d.blocks.getD k block0).phis.length + j : Nat) : Int) - (d.blocks.getD k block0).phis.length).toNat = j := by omega
  simp only [typeF, h, if_neg a1, if_neg a2, Int.toNat_natCast, if_neg a3, a4]
 have q1 : (placeF d id).1 = (k : Int) := by rw [h]
 have q2 : (placeF d id).2 = ((d.blocks.getD k block0).phis.length : Int) + (j : Int) := by rw [h]; simp
 clear h
 go_enter Tryz.func105, Tryz.ntmps105
 go_wp2_with fail
 refine (placeI_any lo d _ _ _ _ _ _ hs (k2.keep (agree_alloc _ _ _)) hi).mono ?_
 rintro e w1 ⟨rfl, hb1⟩
 have hx1 := box_first hb1
 obtain ⟨p1, p2, p3⟩ := box3 hx1
 have hW := below_box hx1
 rcases k2.2 with hn | ⟨b, off, rfl, hlo, hb, hcell⟩
 ·simp [hn] at hk
 obtain ⟨⟨v0, r0, g0, n0⟩, ⟨v1, r1, g1, n1⟩, g2, g3, g4, g5⟩ := hcell k hk
 have hsm := hs.2.2 _ (getD_mem block0 d.blocks k hk)
 generalize d.blocks.getD k block0 = x at *
 have e0 : w1.cell? ⟨b, off + k * 6, none⟩ = some (.slice v0 x.phis.length r0) := (cell_block (hW.block b hb)).trans g0
 have e1 : w1.cell? ⟨b, off + k * 6 + 1, none⟩ = some (.slice v1 x.insts.length r1) := (cell_block (hW.block b hb)).trans g1
 have e2 : w1.cell? ⟨b, off + k * 6 + 2, none⟩ = some (.int .i64 x.term.kind) := (cell_block (hW.block b hb)).trans g2
 have e3 : w1.cell? ⟨b, off + k * 6 + 3, none⟩ = some (.int .i64 x.term.a) := (cell_block (hW.block b hb)).trans g3
 have e4 : w1.cell? ⟨b, off + k * 6 + 4, none⟩ = some (.int .i64 x.term.x) := (cell_block (hW.block b hb)).trans g4
 have e5 : w1.cell? ⟨b, off + k * 6 + 5, none⟩ = some (.int .i64 x.term.y) := (cell_block (hW.block b hb)).trans g5
 have s0 := hsm.1.1
 have s1 := hsm.2.1
 have hbl := hs.2.1
 have HW : Hid (Below w.heap.size w w1) := hW
 rcases n1.2 with hn | ⟨bp, op, rfl, hlp, hbp, hcp⟩
 ·simp [hn] at hj
 obtain ⟨i0, i1, i2, i3, i4, i5, ⟨ua, qa, i6, _⟩⟩ := hcp j hj
 generalize x.insts.getD j inst0 = y at *
 have f0 : w1.cell? ⟨bp, op + j * 7, none⟩ = some (.int .i64 y.op) := (cell_block (hW.block bp hbp)).trans i0
 have f1 : w1.cell? ⟨bp, op + j * 7 + 1, none⟩ = some (.int .i64 y.w) := (cell_block (hW.block bp hbp)).trans i1
 have f2 : w1.cell? ⟨bp, op + j * 7 + 2, none⟩ = some (.int .i64 y.a) := (cell_block (hW.block bp hbp)).trans i2
 have f3 : w1.cell? ⟨bp, op + j * 7 + 3, none⟩ = some (.int .i64 y.b) := (cell_block (hW.block bp hbp)).trans i3
 have f4 : w1.cell? ⟨bp, op + j * 7 + 4, none⟩ = some (.int .i64 y.c) := (cell_block (hW.block bp hbp)).trans i4
 have f5 : w1.cell? ⟨bp, op + j * 7 + 5, none⟩ = some (.int .i64 y.imm) := (cell_block (hW.block bp hbp)).trans i5
 have f6 : w1.cell? ⟨bp, op + j * 7 + 6, none⟩ = some (.slice ua y.args.length qa) := (cell_block (hW.block bp hbp)).trans i6
 have z1 : bp < w1.heap.size := Nat.lt_of_lt_of_le hbp hW.size
 clear hW hx1 hcell hcp g0 g1 g2 g3 g4 g5 n0 n1 hsm _k0 k2 i0 i1 i2 i3 i4 i5 i6
 go_wp2_with (go_at_call 134; refine (instI_any y ua qa _).mono ?_; rintro e w2 ⟨rfl, hb2⟩)
 go_ret
 exact ⟨ret_i E.out, by first | exact HW.out.trans (hb2.mono HW.out.size) | exact (HW.out.alloc HW.out.size _).trans (hb2.mono (by have := HW.out.size; simp; omega))⟩
set_option maxHeartbeats 4000000 in
theorem typeI_any (lo : Nat) (d : FuncD) (u0 : Option Addr) (c0 : Nat) (u2 : Option Addr) (c2 : Nat) (id : Int) (w : World) (hs : SmFunc d) (k0 : IntsAt w lo u0 d.params) (k2 : BlocksAt w lo u2 d.blocks) (hi : id ≤ 9223372036854775807) :
  Calls Tryz.prog 105 #[.agg #[.slice u0 d.params.length c0, .int .i64 d.ret, .slice u2 d.blocks.length c2], .int .i64 id] w fun e w' => e = .returned (.int .i64 (typeF d id)) ∧ Below w.heap.size w w' := by
 rcases place_cases d id with h | ⟨j, hj, h⟩ | ⟨k, j, hk, hj, h⟩
 ·exact typeI_any_none lo d u0 c0 u2 c2 id w hs k0 k2 hi h
 ·exact typeI_any_par lo d u0 c0 u2 c2 id w hs k0 k2 hi j hj h
 ·by_cases hp : j < (d.blocks.getD k block0).phis.length
  ·exact typeI_any_phi lo d u0 c0 u2 c2 id w hs k0 k2 hi k j hk hp h
  ·unfold cntB at hj
   refine typeI_any_inst lo d u0 c0 u2 c2 id w hs k0 k2 hi k (j - (d.blocks.getD k block0).phis.length) hk (by omega) ?_
   rw [h, show (d.blocks.getD k block0).phis.length + (j - (d.blocks.getD k block0).phis.length) = j by omega]
end Go.Proofs.YtoknhppjdmoblaaGreatDoor
