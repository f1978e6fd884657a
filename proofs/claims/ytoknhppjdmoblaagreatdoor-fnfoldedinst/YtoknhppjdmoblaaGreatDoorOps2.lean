import Derived.Test.YtoknhppjdmoblaaGreatDoorRulQ
namespace Go.Proofs.YtoknhppjdmoblaaGreatDoor
set_option linter.unusedVariables false
set_option linter.unusedSimpArgs false
open Go.RowKit
set_option maxHeartbeats 1000000 in
theorem operS_18 (iw a b c imm : Int) (args : List Int) (u : Option Addr) (q : Nat) (w : World) :
  Calls Tryz.prog 71 #[.agg #[.int .i64 18, .int .i64 iw, .int .i64 a, .int .i64 b, .int .i64 c, .int .i64 imm, .slice u args.length q]] w fun e w' => ∃ v r, e = .returned (.slice v 1 r) ∧ OwnAt w' w.heap.size v [a] ∧ Below w.heap.size w w' := by
 go_enter Tryz.func71, Tryz.ntmps71
 go_wp2_with (go_at_call 69; refine (inS _ _ _ _).mono ?_; rintro e w' ⟨rfl, rfl⟩)
 go_ret
 exact ⟨_, _, rfl, own_mk2 rfl (by simp) (one_cells a), ((Below.refl _ _).alloc (Nat.le_refl _) _).alloc (by simp) _⟩
set_option maxHeartbeats 1000000 in
theorem operS_19 (iw a b c imm : Int) (args : List Int) (u : Option Addr) (q : Nat) (w : World) :
  Calls Tryz.prog 71 #[.agg #[.int .i64 19, .int .i64 iw, .int .i64 a, .int .i64 b, .int .i64 c, .int .i64 imm, .slice u args.length q]] w fun e w' => ∃ v r, e = .returned (.slice v 1 r) ∧ OwnAt w' w.heap.size v [a] ∧ Below w.heap.size w w' := by
 go_enter Tryz.func71, Tryz.ntmps71
 go_wp2_with (go_at_call 69; refine (inS _ _ _ _).mono ?_; rintro e w' ⟨rfl, rfl⟩)
 go_ret
 exact ⟨_, _, rfl, own_mk2 rfl (by simp) (one_cells a), ((Below.refl _ _).alloc (Nat.le_refl _) _).alloc (by simp) _⟩
set_option maxHeartbeats 1000000 in
theorem operS_20 (iw a b c imm : Int) (args : List Int) (u : Option Addr) (q : Nat) (w : World) :
  Calls Tryz.prog 71 #[.agg #[.int .i64 20, .int .i64 iw, .int .i64 a, .int .i64 b, .int .i64 c, .int .i64 imm, .slice u args.length q]] w fun e w' => ∃ v r, e = .returned (.slice v 1 r) ∧ OwnAt w' w.heap.size v [a] ∧ Below w.heap.size w w' := by
 go_enter Tryz.func71, Tryz.ntmps71
 go_wp2_with (go_at_call 69; refine (inS _ _ _ _).mono ?_; rintro e w' ⟨rfl, rfl⟩)
 go_ret
 exact ⟨_, _, rfl, own_mk2 rfl (by simp) (one_cells a), ((Below.refl _ _).alloc (Nat.le_refl _) _).alloc (by simp) _⟩
set_option maxHeartbeats 1000000 in
theorem operS_21 (iw a b c imm : Int) (args : List Int) (u : Option Addr) (q : Nat) (w : World) :
  Calls Tryz.prog 71 #[.agg #[.int .i64 21, .int .i64 iw, .int .i64 a, .int .i64 b, .int .i64 c, .int .i64 imm, .slice u args.length q]] w fun e w' => ∃ v r, e = .returned (.slice v 0 r) ∧ OwnAt w' w.heap.size v [] ∧ Below w.heap.size w w' := by
 go_enter Tryz.func71, Tryz.ntmps71
 go_wp2_with (go_at_call 69; refine (inS _ _ _ _).mono ?_; rintro e w' ⟨rfl, rfl⟩)
 go_ret
 exact ⟨_, _, rfl, own_mk2 rfl (by simp) (fun i hi => by simp at hi), ((Below.refl _ _).alloc (Nat.le_refl _) _).alloc (by simp) _⟩
set_option maxHeartbeats 1000000 in
theorem operS_22 (iw a b c imm : Int) (args : List Int) (u : Option Addr) (q : Nat) (w : World) :
  Calls Tryz.prog 71 #[.agg #[.int .i64 22, .int .i64 iw, .int .i64 a, .int .i64 b, .int .i64 c, .int .i64 imm, .slice u args.length q]] w fun e w' => ∃ v r, e = .returned (.slice v 3 r) ∧ OwnAt w' w.heap.size v [a, b, c] ∧ Below w.heap.size w w' := by
 go_enter Tryz.func71, Tryz.ntmps71
 go_wp2_with (go_at_call 69; refine (inS _ _ _ _).mono ?_; rintro e w' ⟨rfl, rfl⟩)
 go_ret
 exact ⟨_, _, rfl, own_mk2 rfl (by simp) (three_cells a b c), ((Below.refl _ _).alloc (Nat.le_refl _) _).alloc (by simp) _⟩
set_option maxHeartbeats 1000000 in
theorem operS_23 (iw a b c imm : Int) (args : List Int) (u : Option Addr) (q : Nat) (w : World) :
  Calls Tryz.prog 71 #[.agg #[.int .i64 23, .int .i64 iw, .int .i64 a, .int .i64 b, .int .i64 c, .int .i64 imm, .slice u args.length q]] w fun e w' => ∃ v r, e = .returned (.slice v 1 r) ∧ OwnAt w' w.heap.size v [a] ∧ Below w.heap.size w w' := by
 go_enter Tryz.func71, Tryz.ntmps71
 go_wp2_with (go_at_call 69; refine (inS _ _ _ _).mono ?_; rintro e w' ⟨rfl, rfl⟩)
 go_ret
 exact ⟨_, _, rfl, own_mk2 rfl (by simp) (one_cells a), ((Below.refl _ _).alloc (Nat.le_refl _) _).alloc (by simp) _⟩
set_option maxHeartbeats 1000000 in
theorem operS_24 (iw a b c imm : Int) (args : List Int) (u : Option Addr) (q : Nat) (w : World) :
  Calls Tryz.prog 71 #[.agg #[.int .i64 24, .int .i64 iw, .int .i64 a, .int .i64 b, .int .i64 c, .int .i64 imm, .slice u args.length q]] w fun e w' => ∃ v r, e = .returned (.slice v 2 r) ∧ OwnAt w' w.heap.size v [a, b] ∧ Below w.heap.size w w' := by
 go_enter Tryz.func71, Tryz.ntmps71
 go_wp2_with (go_at_call 69; refine (inS _ _ _ _).mono ?_; rintro e w' ⟨rfl, rfl⟩)
 go_ret
 exact ⟨_, _, rfl, own_mk2 rfl (by simp) (two_cells a b), ((Below.refl _ _).alloc (Nat.le_refl _) _).alloc (by simp) _⟩
set_option maxHeartbeats 1000000 in
theorem operS_25 (iw a b c imm : Int) (args : List Int) (u : Option Addr) (q : Nat) (w : World) :
  Calls Tryz.prog 71 #[.agg #[.int .i64 25, .int .i64 iw, .int .i64 a, .int .i64 b, .int .i64 c, .int .i64 imm, .slice u args.length q]] w fun e w' => ∃ v r, e = .returned (.slice v 1 r) ∧ OwnAt w' w.heap.size v [a] ∧ Below w.heap.size w w' := by
 go_enter Tryz.func71, Tryz.ntmps71
 go_wp2_with (go_at_call 69; refine (inS _ _ _ _).mono ?_; rintro e w' ⟨rfl, rfl⟩)
 go_ret
 exact ⟨_, _, rfl, own_mk2 rfl (by simp) (one_cells a), ((Below.refl _ _).alloc (Nat.le_refl _) _).alloc (by simp) _⟩
set_option maxHeartbeats 1000000 in
theorem operS_27 (iw a b c imm : Int) (args : List Int) (u : Option Addr) (q : Nat) (w : World) :
  Calls Tryz.prog 71 #[.agg #[.int .i64 27, .int .i64 iw, .int .i64 a, .int .i64 b, .int .i64 c, .int .i64 imm, .slice u args.length q]] w fun e w' => ∃ v r, e = .returned (.slice v 1 r) ∧ OwnAt w' w.heap.size v [a] ∧ Below w.heap.size w w' := by
 go_enter Tryz.func71, Tryz.ntmps71
 go_wp2_with (go_at_call 69; refine (inS _ _ _ _).mono ?_; rintro e w' ⟨rfl, rfl⟩)
 go_ret
 exact ⟨_, _, rfl, own_mk2 rfl (by simp) (one_cells a), ((Below.refl _ _).alloc (Nat.le_refl _) _).alloc (by simp) _⟩
set_option maxHeartbeats 1000000 in
theorem operS_26 (lo : Nat) (iw a b c imm : Int) (args : List Int) (u : Option Addr) (q : Nat) (w : World) (hs : args.length ≤ 1048576) (k : IntsAt w lo u args) :
  Calls Tryz.prog 71 #[.agg #[.int .i64 26, .int .i64 iw, .int .i64 a, .int .i64 b, .int .i64 c, .int .i64 imm, .slice u args.length q]] w fun e w' => ∃ v r, e = .returned (.slice v args.length r) ∧ OwnAt w' w.heap.size v args ∧ Below w.heap.size w w' := by
 go_enter Tryz.func71, Tryz.ntmps71
 go_wp2_with (first | (go_at_call 69; refine (inS _ _ _ _).mono ?_; rintro e w' ⟨rfl, rfl⟩) | (go_at_call 109; refine (copyS_any lo _ _ _ _ hs (k.keep (agree_alloc _ _ _))).mono ?_; rintro e w1 ⟨v, r, rfl, ho, hb1⟩))
 go_ret
 exact ⟨_, _, rfl, ho.low (by simp), ((Below.refl _ _).alloc (Nat.le_refl _) _).trans (hb1.mono (by simp))⟩
set_option maxHeartbeats 1000000 in
theorem operS_no (op iw a b c imm : Int) (args : List Int) (u : Option Addr) (q : Nat) (w : World) (h : op < 1 ∨ 27 < op) :
  Calls Tryz.prog 71 #[.agg #[.int .i64 op, .int .i64 iw, .int .i64 a, .int .i64 b, .int .i64 c, .int .i64 imm, .slice u args.length q]] w fun e w' => ∃ v r, e = .returned (.slice v 0 r) ∧ OwnAt w' w.heap.size v [] ∧ Below w.heap.size w w' := by
 have d1 : (decide (1 ≤ op) && decide (op ≤ 17)) = false := by simp; omega
 have d2 : (decide (18 ≤ op) && decide (op ≤ 20)) = false := by simp; omega
 have e1 : ¬ op = 24 := by omega
 have e2 : ¬ op = 23 := by omega
 have e3 : ¬ op = 25 := by omega
 have e4 : ¬ op = 27 := by omega
 have e5 : ¬ op = 22 := by omega
 have e6 : ¬ op = 26 := by omega
 clear h
 go_enter Tryz.func71, Tryz.ntmps71
 go_wp2_with (go_at_call 69; refine (inS _ _ _ _).mono ?_; rintro e w' ⟨rfl, rfl⟩)
 go_ret
 exact ⟨_, _, rfl, own_mk2 rfl (by simp) (fun i hi => by simp at hi), ((Below.refl _ _).alloc (Nat.le_refl _) _).alloc (by simp) _⟩
theorem operS (lo : Nat) (d : InstD) (u : Option Addr) (q : Nat) (w : World) (hs : d.args.length ≤ 1048576) (k : IntsAt w lo u d.args) :
  Calls Tryz.prog 71 #[.agg #[.int .i64 d.op, .int .i64 d.w, .int .i64 d.a, .int .i64 d.b, .int .i64 d.c, .int .i64 d.imm, .slice u d.args.length q]] w fun e w' => ∃ v r, e = .returned (.slice v (opsD d).length r) ∧ OwnAt w' w.heap.size v (opsD d) ∧ Below w.heap.size w w' := by
 rcases op_split d.op with h | h
 ·exact operS_bin d u q w h
 obtain ⟨op, iw, a, b, c, imm, args⟩ := d
 dsimp only at h hs k ⊢
 rcases h with h | h | h | h | h | h | h | h | h | h | ⟨ho, h⟩
 ·subst h
  have E : opsD ⟨18, iw, a, b, c, imm, args⟩ = [a] := by rfl
  rw [E]
  exact operS_18 iw a b c imm args u q w
 ·subst h
  have E : opsD ⟨19, iw, a, b, c, imm, args⟩ = [a] := by rfl
  rw [E]
  exact operS_19 iw a b c imm args u q w
 ·subst h
  have E : opsD ⟨20, iw, a, b, c, imm, args⟩ = [a] := by rfl
  rw [E]
  exact operS_20 iw a b c imm args u q w
 ·subst h
  have E : opsD ⟨21, iw, a, b, c, imm, args⟩ = [] := by rfl
  rw [E]
  exact operS_21 iw a b c imm args u q w
 ·subst h
  have E : opsD ⟨22, iw, a, b, c, imm, args⟩ = [a, b, c] := by rfl
  rw [E]
  exact operS_22 iw a b c imm args u q w
 ·subst h
  have E : opsD ⟨23, iw, a, b, c, imm, args⟩ = [a] := by rfl
  rw [E]
  exact operS_23 iw a b c imm args u q w
 ·subst h
  have E : opsD ⟨24, iw, a, b, c, imm, args⟩ = [a, b] := by rfl
  rw [E]
  exact operS_24 iw a b c imm args u q w
 ·subst h
  have E : opsD ⟨25, iw, a, b, c, imm, args⟩ = [a] := by rfl
  rw [E]
  exact operS_25 iw a b c imm args u q w
 ·subst h
  have E : opsD ⟨26, iw, a, b, c, imm, args⟩ = args := by rfl
  rw [E]
  exact operS_26 lo iw a b c imm args u q w hs k
 ·subst h
  have E : opsD ⟨27, iw, a, b, c, imm, args⟩ = [a] := by rfl
  rw [E]
  exact operS_27 iw a b c imm args u q w
 ·have E : opsD ⟨op, iw, a, b, c, imm, args⟩ = [] := by
   have e0 : ¬ opB op = true := by rw [ho]; decide
   unfold opsD
   dsimp only
   rw [if_neg (by simp only [not_or]; exact ⟨e0, by omega⟩), if_neg (by omega), if_neg (by omega), if_neg (by omega)]
  rw [E]
  exact operS_no op iw a b c imm args u q w h
theorem opsD_len (d : InstD) (hs : d.args.length ≤ 1048576) : (opsD d).length ≤ 1048576 := by
 unfold opsD
 split
 ·simp
 ·split
  ·simp
  ·split
   ·simp
   ·split
    ·exact hs
    ·simp
end Go.Proofs.YtoknhppjdmoblaaGreatDoor
