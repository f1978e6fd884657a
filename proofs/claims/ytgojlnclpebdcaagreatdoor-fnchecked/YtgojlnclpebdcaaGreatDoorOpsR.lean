import Derived.Test.YtgojlnclpebdcaaGreatDoorKndR
import Derived.Test.YtgojlnclpebdcaaGreatDoorMemR
import Derived.Test.YtgojlnclpebdcaaGreatDoorGrgR
import Derived.Deep.AppendLies
import Derived.Deep.RegionHeld2
import Derived.Test.YtgojlnclpebdcaaGreatDoorTypR
import Derived.Test.YtgojlnclpebdcaaGreatDoorPutR
namespace Go.Proofs.YtgojlnclpebdcaaGreatDoor
open Go.RowKit
def opsD (d : InstD) : List Int :=
 if opB d.op = true ∨ d.op = 24 then [d.a, d.b] else if d.op = 18 ∨ d.op = 19 ∨ d.op = 20 ∨ d.op = 23 ∨ d.op = 25 ∨ d.op = 27 then [d.a] else if d.op = 22 then [d.a, d.b, d.c] else if d.op = 26 then d.args else []
theorem own_mk {w : World} {l : List Int} {cs : Array Value} {v : List Int} (e : v = l) (hm : l.length ≤ 1000) (hc : ∀ i, i < l.length → cs[i]? = some (.int .i64 (l.getD i 0))) : OwnAt (w.alloc (.cells cs 2)) w.heap.size (some ⟨w.heap.size, 0, none⟩) v := by
 subst e; exact own_lit w _ hm cs hc
theorem own_mk2 {w : World} {o : Obj} {l : List Int} {cs : Array Value} {v : List Int} (e : v = l) (hm : l.length ≤ 1000) (hc : ∀ i, i < l.length → cs[i]? = some (.int .i64 (l.getD i 0))) : OwnAt ((w.alloc o).alloc (.cells cs 2)) w.heap.size (some ⟨w.heap.size + 1, 0, none⟩) v := by
 have h := own_mk (w := w.alloc o) e hm hc
 have hz : (w.alloc o).heap.size = w.heap.size + 1 := by simp
 rw [hz] at h
 exact h.low (by omega)
theorem two_cells (a b : Int) : ∀ i, i < [a, b].length → (#[Value.int .i64 a, Value.int .i64 b] : Array Value)[i]? = some (.int .i64 ([a, b].getD i 0)) := by
 intro i hi
 match i, hi with
 | 0, _ => rfl
 | 1, _ => rfl
theorem one_cells (a : Int) : ∀ i, i < [a].length → (#[Value.int .i64 a] : Array Value)[i]? = some (.int .i64 ([a].getD i 0)) := by
 intro i hi
 match i, hi with
 | 0, _ => rfl
theorem three_cells (a b c : Int) : ∀ i, i < [a, b, c].length → (#[Value.int .i64 a, Value.int .i64 b, Value.int .i64 c] : Array Value)[i]? = some (.int .i64 ([a, b, c].getD i 0)) := by
 intro i hi
 match i, hi with
 | 0, _ => rfl
 | 1, _ => rfl
 | 2, _ => rfl
set_option maxHeartbeats 1000000 in
theorem operS_bin (d : InstD) (u : Option Addr) (q : Nat) (w : World) (h : opB d.op = true) :
  Calls Tryz.prog 99 #[.agg #[.int .i64 d.op, .int .i64 d.w, .int .i64 d.a, .int .i64 d.b, .int .i64 d.c, .int .i64 d.imm, .slice u d.args.length q]] w fun e w' => ∃ u c, e = .returned (.slice u (opsD d).length c) ∧ OwnAt w' w.heap.size u (opsD d) ∧ Below w.heap.size w w' := by
 have E : opsD d = [d.a, d.b] := by simp [opsD, h]
 rw [E]; clear E
 have dd : (decide (1 ≤ d.op) && decide (d.op ≤ 17)) = true := h
 clear h
 go_enter Tryz.func99, Tryz.ntmps99
 go_wp2_with (go_at_call 32; refine (inS _ _ _ _).mono ?_; rintro e w' ⟨rfl, rfl⟩)
 go_ret
 refine ⟨_, _, rfl, own_mk2 rfl (by simp) (two_cells d.a d.b), ((Below.refl _ _).alloc (Nat.le_refl _) _).alloc (by simp) _⟩
set_option maxHeartbeats 1000000 in
theorem bk_oper (a b : Int) (w : World) : Calls Tryz.prog 169 #[.agg #[.int .i64 a, .int .i64 b]] w fun e w' => ∃ u c, e = .returned (.slice u 2 c) ∧ OwnAt w' w.heap.size u [a, b] ∧ Below w.heap.size w w' := by
 go_enter Tryz.func169, Tryz.ntmps169
 go_wp2_with fail
 go_ret
 refine ⟨_, _, rfl, own_mk2 rfl (by simp) (two_cells a b), ((Below.refl _ _).alloc (Nat.le_refl _) _).alloc (by simp) _⟩
end Go.Proofs.YtgojlnclpebdcaaGreatDoor
namespace Go.Proofs.YtgojlnclpebdcaaGreatDoor
open Go.RowKit
set_option maxHeartbeats 1000000 in
theorem operS_18 (iw a b c imm : Int) (args : List Int) (u : Option Addr) (q : Nat) (w : World) :
  Calls Tryz.prog 99 #[.agg #[.int .i64 18, .int .i64 iw, .int .i64 a, .int .i64 b, .int .i64 c, .int .i64 imm, .slice u args.length q]] w fun e w' => ∃ v r, e = .returned (.slice v 1 r) ∧ OwnAt w' w.heap.size v [a] ∧ Below w.heap.size w w' := by
 go_enter Tryz.func99, Tryz.ntmps99
 go_wp2_with (go_at_call 32; refine (inS _ _ _ _).mono ?_; rintro e w' ⟨rfl, rfl⟩)
 go_ret
 exact ⟨_, _, rfl, own_mk2 rfl (by simp) (one_cells a), ((Below.refl _ _).alloc (Nat.le_refl _) _).alloc (by simp) _⟩
set_option maxHeartbeats 1000000 in
theorem operS_19 (iw a b c imm : Int) (args : List Int) (u : Option Addr) (q : Nat) (w : World) :
  Calls Tryz.prog 99 #[.agg #[.int .i64 19, .int .i64 iw, .int .i64 a, .int .i64 b, .int .i64 c, .int .i64 imm, .slice u args.length q]] w fun e w' => ∃ v r, e = .returned (.slice v 1 r) ∧ OwnAt w' w.heap.size v [a] ∧ Below w.heap.size w w' := by
 go_enter Tryz.func99, Tryz.ntmps99
 go_wp2_with (go_at_call 32; refine (inS _ _ _ _).mono ?_; rintro e w' ⟨rfl, rfl⟩)
 go_ret
 exact ⟨_, _, rfl, own_mk2 rfl (by simp) (one_cells a), ((Below.refl _ _).alloc (Nat.le_refl _) _).alloc (by simp) _⟩
set_option maxHeartbeats 1000000 in
theorem operS_20 (iw a b c imm : Int) (args : List Int) (u : Option Addr) (q : Nat) (w : World) :
  Calls Tryz.prog 99 #[.agg #[.int .i64 20, .int .i64 iw, .int .i64 a, .int .i64 b, .int .i64 c, .int .i64 imm, .slice u args.length q]] w fun e w' => ∃ v r, e = .returned (.slice v 1 r) ∧ OwnAt w' w.heap.size v [a] ∧ Below w.heap.size w w' := by
 go_enter Tryz.func99, Tryz.ntmps99
 go_wp2_with (go_at_call 32; refine (inS _ _ _ _).mono ?_; rintro e w' ⟨rfl, rfl⟩)
 go_ret
 exact ⟨_, _, rfl, own_mk2 rfl (by simp) (one_cells a), ((Below.refl _ _).alloc (Nat.le_refl _) _).alloc (by simp) _⟩
set_option maxHeartbeats 1000000 in
theorem operS_21 (iw a b c imm : Int) (args : List Int) (u : Option Addr) (q : Nat) (w : World) :
  Calls Tryz.prog 99 #[.agg #[.int .i64 21, .int .i64 iw, .int .i64 a, .int .i64 b, .int .i64 c, .int .i64 imm, .slice u args.length q]] w fun e w' => ∃ v r, e = .returned (.slice v 0 r) ∧ OwnAt w' w.heap.size v [] ∧ Below w.heap.size w w' := by
 go_enter Tryz.func99, Tryz.ntmps99
 go_wp2_with (go_at_call 32; refine (inS _ _ _ _).mono ?_; rintro e w' ⟨rfl, rfl⟩)
 go_ret
 exact ⟨_, _, rfl, own_mk2 rfl (by simp) (fun i hi => by simp at hi), ((Below.refl _ _).alloc (Nat.le_refl _) _).alloc (by simp) _⟩
set_option maxHeartbeats 1000000 in
theorem operS_22 (iw a b c imm : Int) (args : List Int) (u : Option Addr) (q : Nat) (w : World) :
  Calls Tryz.prog 99 #[.agg #[.int .i64 22, .int .i64 iw, .int .i64 a, .int .i64 b, .int .i64 c, .int .i64 imm, .slice u args.length q]] w fun e w' => ∃ v r, e = .returned (.slice v 3 r) ∧ OwnAt w' w.heap.size v [a, b, c] ∧ Below w.heap.size w w' := by
 go_enter Tryz.func99, Tryz.ntmps99
 go_wp2_with (go_at_call 32; refine (inS _ _ _ _).mono ?_; rintro e w' ⟨rfl, rfl⟩)
 go_ret
 exact ⟨_, _, rfl, own_mk2 rfl (by simp) (three_cells a b c), ((Below.refl _ _).alloc (Nat.le_refl _) _).alloc (by simp) _⟩
set_option maxHeartbeats 1000000 in
theorem operS_23 (iw a b c imm : Int) (args : List Int) (u : Option Addr) (q : Nat) (w : World) :
  Calls Tryz.prog 99 #[.agg #[.int .i64 23, .int .i64 iw, .int .i64 a, .int .i64 b, .int .i64 c, .int .i64 imm, .slice u args.length q]] w fun e w' => ∃ v r, e = .returned (.slice v 1 r) ∧ OwnAt w' w.heap.size v [a] ∧ Below w.heap.size w w' := by
 go_enter Tryz.func99, Tryz.ntmps99
 go_wp2_with (go_at_call 32; refine (inS _ _ _ _).mono ?_; rintro e w' ⟨rfl, rfl⟩)
 go_ret
 exact ⟨_, _, rfl, own_mk2 rfl (by simp) (one_cells a), ((Below.refl _ _).alloc (Nat.le_refl _) _).alloc (by simp) _⟩
set_option maxHeartbeats 1000000 in
theorem operS_24 (iw a b c imm : Int) (args : List Int) (u : Option Addr) (q : Nat) (w : World) :
  Calls Tryz.prog 99 #[.agg #[.int .i64 24, .int .i64 iw, .int .i64 a, .int .i64 b, .int .i64 c, .int .i64 imm, .slice u args.length q]] w fun e w' => ∃ v r, e = .returned (.slice v 2 r) ∧ OwnAt w' w.heap.size v [a, b] ∧ Below w.heap.size w w' := by
 go_enter Tryz.func99, Tryz.ntmps99
 go_wp2_with (go_at_call 32; refine (inS _ _ _ _).mono ?_; rintro e w' ⟨rfl, rfl⟩)
 go_ret
 exact ⟨_, _, rfl, own_mk2 rfl (by simp) (two_cells a b), ((Below.refl _ _).alloc (Nat.le_refl _) _).alloc (by simp) _⟩
set_option maxHeartbeats 1000000 in
theorem operS_25 (iw a b c imm : Int) (args : List Int) (u : Option Addr) (q : Nat) (w : World) :
  Calls Tryz.prog 99 #[.agg #[.int .i64 25, .int .i64 iw, .int .i64 a, .int .i64 b, .int .i64 c, .int .i64 imm, .slice u args.length q]] w fun e w' => ∃ v r, e = .returned (.slice v 1 r) ∧ OwnAt w' w.heap.size v [a] ∧ Below w.heap.size w w' := by
 go_enter Tryz.func99, Tryz.ntmps99
 go_wp2_with (go_at_call 32; refine (inS _ _ _ _).mono ?_; rintro e w' ⟨rfl, rfl⟩)
 go_ret
 exact ⟨_, _, rfl, own_mk2 rfl (by simp) (one_cells a), ((Below.refl _ _).alloc (Nat.le_refl _) _).alloc (by simp) _⟩
set_option maxHeartbeats 1000000 in
theorem operS_27 (iw a b c imm : Int) (args : List Int) (u : Option Addr) (q : Nat) (w : World) :
  Calls Tryz.prog 99 #[.agg #[.int .i64 27, .int .i64 iw, .int .i64 a, .int .i64 b, .int .i64 c, .int .i64 imm, .slice u args.length q]] w fun e w' => ∃ v r, e = .returned (.slice v 1 r) ∧ OwnAt w' w.heap.size v [a] ∧ Below w.heap.size w w' := by
 go_enter Tryz.func99, Tryz.ntmps99
 go_wp2_with (go_at_call 32; refine (inS _ _ _ _).mono ?_; rintro e w' ⟨rfl, rfl⟩)
 go_ret
 exact ⟨_, _, rfl, own_mk2 rfl (by simp) (one_cells a), ((Below.refl _ _).alloc (Nat.le_refl _) _).alloc (by simp) _⟩
set_option maxHeartbeats 1000000 in
theorem operS_26 (lo : Nat) (iw a b c imm : Int) (args : List Int) (u : Option Addr) (q : Nat) (w : World) (hs : args.length ≤ 1048576) (k : IntsAt w lo u args) :
  Calls Tryz.prog 99 #[.agg #[.int .i64 26, .int .i64 iw, .int .i64 a, .int .i64 b, .int .i64 c, .int .i64 imm, .slice u args.length q]] w fun e w' => ∃ v r, e = .returned (.slice v args.length r) ∧ OwnAt w' w.heap.size v args ∧ Below w.heap.size w w' := by
 go_enter Tryz.func99, Tryz.ntmps99
 go_wp2_with (first | (go_at_call 32; refine (inS _ _ _ _).mono ?_; rintro e w' ⟨rfl, rfl⟩) | (go_at_call 131; refine (copyS_any lo _ _ _ _ hs (k.keep (agree_alloc _ _ _))).mono ?_; rintro e w1 ⟨v, r, rfl, ho, hb1⟩))
 go_ret
 exact ⟨_, _, rfl, ho.low (by simp), ((Below.refl _ _).alloc (Nat.le_refl _) _).trans (hb1.mono (by simp))⟩
set_option maxHeartbeats 1000000 in
theorem operS_no (op iw a b c imm : Int) (args : List Int) (u : Option Addr) (q : Nat) (w : World) (h : op < 1 ∨ 27 < op) :
  Calls Tryz.prog 99 #[.agg #[.int .i64 op, .int .i64 iw, .int .i64 a, .int .i64 b, .int .i64 c, .int .i64 imm, .slice u args.length q]] w fun e w' => ∃ v r, e = .returned (.slice v 0 r) ∧ OwnAt w' w.heap.size v [] ∧ Below w.heap.size w w' := by
 have d1 : (decide (1 ≤ op) && decide (op ≤ 17)) = false := by simp; omega
 have d2 : (decide (18 ≤ op) && decide (op ≤ 20)) = false := by simp; omega
 have e1 : ¬ op = 24 := by omega
 have e2 : ¬ op = 23 := by omega
 have e3 : ¬ op = 25 := by omega
 have e4 : ¬ op = 27 := by omega
 have e5 : ¬ op = 22 := by omega
 have e6 : ¬ op = 26 := by omega
 clear h
 go_enter Tryz.func99, Tryz.ntmps99
 go_wp2_with (go_at_call 32; refine (inS _ _ _ _).mono ?_; rintro e w' ⟨rfl, rfl⟩)
 go_ret
 exact ⟨_, _, rfl, own_mk2 rfl (by simp) (fun i hi => by simp at hi), ((Below.refl _ _).alloc (Nat.le_refl _) _).alloc (by simp) _⟩
theorem operS (lo : Nat) (d : InstD) (u : Option Addr) (q : Nat) (w : World) (hs : d.args.length ≤ 1048576) (k : IntsAt w lo u d.args) :
  Calls Tryz.prog 99 #[.agg #[.int .i64 d.op, .int .i64 d.w, .int .i64 d.a, .int .i64 d.b, .int .i64 d.c, .int .i64 d.imm, .slice u d.args.length q]] w fun e w' => ∃ v r, e = .returned (.slice v (opsD d).length r) ∧ OwnAt w' w.heap.size v (opsD d) ∧ Below w.heap.size w w' := by
 rcases op_split d.op with h | h
 ·exact operS_bin d u q w h
 obtain ⟨op, iw, a, b, c, imm, args⟩ := d
 dsimp only at h hs k ⊢
 rcases h with h | h | h | h | h | h | h | h | h | h | ⟨ho, h⟩
 ·subst h
  have E : opsD ⟨18, iw, a, b, c, imm, args⟩ = [a] := by rfl
  rw [E]
  exact operS_18 iw a b c imm args u q w
 ·subst h
  have E : opsD ⟨19, iw, a, b, c, imm, args⟩ = [a] := by rfl
  rw [E]
  exact operS_19 iw a b c imm args u q w
 ·subst h
  have E : opsD ⟨20, iw, a, b, c, imm, args⟩ = [a] := by rfl
  rw [E]
  exact operS_20 iw a b c imm args u q w
 ·subst h
  have E : opsD ⟨21, iw, a, b, c, imm, args⟩ = [] := by rfl
  rw [E]
  exact operS_21 iw a b c imm args u q w
 ·subst h
  have E : opsD ⟨22, iw, a, b, c, imm, args⟩ = [a, b, c] := by rfl
  rw [E]
  exact operS_22 iw a b c imm args u q w
 ·subst h
  have E : opsD ⟨23, iw, a, b, c, imm, args⟩ = [a] := by rfl
  rw [E]
  exact operS_23 iw a b c imm args u q w
 ·subst h
  have E : opsD ⟨24, iw, a, b, c, imm, args⟩ = [a, b] := by rfl
  rw [E]
  exact operS_24 iw a b c imm args u q w
 ·subst h
  have E : opsD ⟨25, iw, a, b, c, imm, args⟩ = [a] := by rfl
  rw [E]
  exact operS_25 iw a b c imm args u q w
 ·subst h
  have E : opsD ⟨26, iw, a, b, c, imm, args⟩ = args := by rfl
  rw [E]
  exact operS_26 lo iw a b c imm args u q w hs k
 ·subst h
  have E : opsD ⟨27, iw, a, b, c, imm, args⟩ = [a] := by rfl
  rw [E]
  exact operS_27 iw a b c imm args u q w
 ·have E : opsD ⟨op, iw, a, b, c, imm, args⟩ = [] := by
   have e0 : ¬ opB op = true := by rw [ho]; decide
   unfold opsD
   dsimp only
   rw [if_neg (by simp only [not_or]; exact ⟨e0, by omega⟩), if_neg (by omega), if_neg (by omega), if_neg (by omega)]
  rw [E]
  exact operS_no op iw a b c imm args u q w h
theorem opsD_len (d : InstD) (hs : d.args.length ≤ 1048576) : (opsD d).length ≤ 1048576 := by
 unfold opsD
 split
 ·simp
 ·split
  ·simp
  ·split
   ·simp
   ·split
    ·exact hs
    ·simp
end Go.Proofs.YtgojlnclpebdcaaGreatDoor
namespace Go.Proofs.YtgojlnclpebdcaaGreatDoor
open Go.RowKit
theorem op1_unary (a : Int) (w : World) : Calls Tryz.prog 170 #[.agg #[.int .i64 a]] w fun e w' => ∃ u c, e = .returned (.slice u 1 c) ∧ OwnAt w' w.heap.size u [a] ∧ Below w.heap.size w w' := by
 go_enter Tryz.func170, Tryz.ntmps170
 go_wp2_with fail
 go_ret
 exact ⟨_, _, rfl, own_mk2 rfl (by simp) (one_cells a), ((Below.refl _ _).alloc (Nat.le_refl _) _).alloc (by simp) _⟩
theorem op1_load (a : Int) (w : World) : Calls Tryz.prog 173 #[.agg #[.int .i64 a]] w fun e w' => ∃ u c, e = .returned (.slice u 1 c) ∧ OwnAt w' w.heap.size u [a] ∧ Below w.heap.size w w' := by
 go_enter Tryz.func173, Tryz.ntmps173
 go_wp2_with fail
 go_ret
 exact ⟨_, _, rfl, own_mk2 rfl (by simp) (one_cells a), ((Below.refl _ _).alloc (Nat.le_refl _) _).alloc (by simp) _⟩
theorem op1_print (a : Int) (w : World) : Calls Tryz.prog 175 #[.agg #[.int .i64 a]] w fun e w' => ∃ u c, e = .returned (.slice u 1 c) ∧ OwnAt w' w.heap.size u [a] ∧ Below w.heap.size w w' := by
 go_enter Tryz.func175, Tryz.ntmps175
 go_wp2_with fail
 go_ret
 exact ⟨_, _, rfl, own_mk2 rfl (by simp) (one_cells a), ((Below.refl _ _).alloc (Nat.le_refl _) _).alloc (by simp) _⟩
theorem op2_store (a b : Int) (w : World) : Calls Tryz.prog 174 #[.agg #[.int .i64 a, .int .i64 b]] w fun e w' => ∃ u c, e = .returned (.slice u 2 c) ∧ OwnAt w' w.heap.size u [a, b] ∧ Below w.heap.size w w' := by
 go_enter Tryz.func174, Tryz.ntmps174
 go_wp2_with fail
 go_ret
 exact ⟨_, _, rfl, own_mk2 rfl (by simp) (two_cells a b), ((Below.refl _ _).alloc (Nat.le_refl _) _).alloc (by simp) _⟩
theorem op3_select (a b c : Int) (w : World) : Calls Tryz.prog 172 #[.agg #[.int .i64 a, .int .i64 b, .int .i64 c]] w fun e w' => ∃ u q, e = .returned (.slice u 3 q) ∧ OwnAt w' w.heap.size u [a, b, c] ∧ Below w.heap.size w w' := by
 go_enter Tryz.func172, Tryz.ntmps172
 go_wp2_with fail
 go_ret
 exact ⟨_, _, rfl, own_mk2 rfl (by simp) (three_cells a b c), ((Below.refl _ _).alloc (Nat.le_refl _) _).alloc (by simp) _⟩
theorem op0_const (a : Int) (w : World) : Calls Tryz.prog 171 #[.agg #[.int .i64 a]] w fun e w' => ∃ u c, e = .returned (.slice u 0 c) ∧ OwnAt w' w.heap.size u [] ∧ Below w.heap.size w w' := by
 go_enter Tryz.func171, Tryz.ntmps171
 go_wp2_with fail
 go_ret
 exact ⟨_, _, rfl, ⟨by simp, .inl rfl⟩, by first | exact Below.refl _ _ | exact (Below.refl _ _).alloc (Nat.le_refl _) _⟩
theorem op0_strange (w : World) : Calls Tryz.prog 177 #[.agg #[]] w fun e w' => ∃ u c, e = .returned (.slice u 0 c) ∧ OwnAt w' w.heap.size u [] ∧ Below w.heap.size w w' := by
 go_enter Tryz.func177, Tryz.ntmps177
 go_wp2_with fail
 go_ret
 exact ⟨_, _, rfl, ⟨by simp, .inl rfl⟩, by first | exact Below.refl _ _ | exact (Below.refl _ _).alloc (Nat.le_refl _) _⟩
theorem append_nothing {t ty : TypeId} (a : Option Addr) (c : Nat) (w : World) (i : TypeInfo) (ht : Tryz.prog.underlying t = some (.slice 2)) (hi : Tryz.prog.info? 2 = some i) :
  (Builtin.append_ #[t, t] ty #[.slice none 0 0, .slice a 0 c]).run Tryz.prog w = .ok (.slice none 0 0) w := by
 cases a <;> simp [Builtin.append_, run_underlying ht, sizeOf, typeInfo, hi, Builtin.lenOf, Builtin.firstCells, loadCells, loadCellsFrom]
theorem wp_append_nothing {w : World} {o : Oper} {a : Act} {K : Act → World → Prop} {Q : Exit → Act → World → Prop} (s x : Operand) (t : TypeId)
  (ho : o.op = .call { callee := .builtin .append, args := #[s, x], argTypes := #[t, t] }) (i : TypeInfo) (ht : Tryz.prog.underlying t = some (.slice 2)) (hi : Tryz.prog.info? 2 = some i)
  (hs : a.eval s = .slice none 0 0) (ad : Option Addr) (c : Nat) (hx : a.eval x = .slice ad 0 c) (h : K (a.put o.dst (.slice none 0 0)) w) : o.wp Tryz.prog a w K Q := by
 have hr := append_nothing (ty := o.type) ad c w i ht hi
 unfold Oper.wp execOp
 simp only [ho, resolve, invoke, builtin, Sem.run_bind, Sem.run_pure, Result.andThen_ok, List.map_toArray, List.map_cons, List.map_nil, hs, hx, hr]
 exact h
theorem wpList_append_nothing {w : World} {ops : Array Oper} {rest : List Oper} {o : Oper} {a : Act} {Q : Exit → Act → World → Prop} (hgd : o.guard = none) (s x : Operand) (t : TypeId)
  (ho : o.op = .call { callee := .builtin .append, args := #[s, x], argTypes := #[t, t] }) (i : TypeInfo) (ht : Tryz.prog.underlying t = some (.slice 2)) (hi : Tryz.prog.info? 2 = some i)
  (hs : a.eval s = .slice none 0 0) (ad : Option Addr) (c : Nat) (hx : a.eval x = .slice ad 0 c) (h : wpList Tryz.prog ops Q rest (a.put o.dst (.slice none 0 0)) w) : wpList Tryz.prog ops Q (o :: rest) a w :=
 wpList_plain hgd fun _ hK => wp_append_nothing s x t ho i ht hi hs ad c hx (hK _ _ h)
theorem ints_src {w : World} {lo : Nat} {u : Option Addr} {l : List Int} (h : IntsAt w lo u l) (hp : 0 < l.length) : ∃ ad, u = some ad ∧ ∀ j x, (l.map (Value.int .i64))[j]? = some x → w.cell? (ad.add j) = some x := by
 rcases h.2 with h | ⟨b, off, ha, _, hb, hc⟩
 ·subst h; simp at hp
 ·refine ⟨_, ha, fun j x hj => ?_⟩
  have hjl : j < l.length := by
   have := (List.getElem?_eq_some_iff.1 hj).1
   simpa using this
  have hat : (⟨b, off, none⟩ : Addr).add j = ⟨b, off + j, none⟩ := by unfold Addr.add; split <;> simp_all
  rw [hat, hc j hjl]
  simp [hjl] at hj
  rw [← hj]; simp [List.getD, hjl]
theorem oi_row {w : World} {base g cap : Nat} {l : List Int} (hm : l.length ≤ 1048576) (h : w.ownsRow base 2 1 (.slice (some ⟨g, 0, none⟩) (0 + l.length) cap) (0 + l.length) ([] ++ l.map (Value.int .i64))) : OwnAt w base (some ⟨g, 0, none⟩) l := by
 rw [Nat.zero_add, List.nil_append] at h
 obtain ⟨u, c, e, ho⟩ := own_of_row hm h
 cases e
 exact ho
theorem opn_nil (imm : Int) (u : Option Addr) (q : Nat) (w : World) : Calls Tryz.prog 176 #[.agg #[.int .i64 imm, .slice u 0 q]] w fun e w' => ∃ u c, e = .returned (.slice u 0 c) ∧ OwnAt w' w.heap.size u [] ∧ Below w.heap.size w w' := by
 obtain ⟨i0, hi, _, _, _⟩ := info_parts infoI
 have HI : Hid (Tryz.prog.info? 2 = some i0) := hi
 clear hi
 go_enter Tryz.func176, Tryz.ntmps176
 go_wp2_with (at_builtin; refine wpList_append_nothing rfl _ _ 33 rfl i0 Tryz.underlying33 HI.out rfl u q rfl ?_)
 go_ret
 exact ⟨_, _, rfl, ⟨by simp, .inl rfl⟩, (Below.refl _ _).alloc (Nat.le_refl _) _⟩
theorem opn_call (lo : Nat) (imm : Int) (args : List Int) (u : Option Addr) (q : Nat) (w : World) (hs : args.length ≤ 1048576) (k : IntsAt w lo u args) : Calls Tryz.prog 176 #[.agg #[.int .i64 imm, .slice u args.length q]] w fun e w' => ∃ u c, e = .returned (.slice u args.length c) ∧ OwnAt w' w.heap.size u args ∧ Below w.heap.size w w' := by
 by_cases hp : 0 < args.length
 ·obtain ⟨i0, hi, hz0, hz1, hz2⟩ := info_parts infoI
  have HI : Hid (Tryz.prog.info? 2 = some i0) := hi
  have HZ0 : Hid (i0.zero = some (.int .i64 0)) := hz0
  have HZ1 : Hid (i0.size = 1) := hz1
  have HZ2 : Hid (i0.bytes = 8) := hz2
  clear hi hz0 hz1 hz2
  obtain ⟨ad, rfl, hn⟩ := ints_src (k.keep (agree_alloc w (.cells #[.int .i64 imm, .slice u args.length q] 132) _)) hp
  have HN : Hid (∀ j x, (args.map (Value.int .i64))[j]? = some x → (w.alloc (.cells #[.int .i64 imm, .slice (some ad) args.length q] 132)).cell? (ad.add j) = some x) := hn
  clear hn
  go_enter Tryz.func176, Tryz.ntmps176
  go_wp2_with (at_builtin; refine wpList_append_lies _ rfl _ _ 33 rfl w.heap.size 2 i0 (.int .i64 0) 1 8 Tryz.underlying33 HI.out HZ0.out HZ1.out HZ2.out rfl (by decide) (.slice none 0 0) 0 [] rfl ⟨rfl, .inl ⟨rfl, rfl⟩⟩ ad args.length q (args.map (Value.int .i64)) rfl (by simp) (by exact HN.out) (by simp [Value.oneCell']) hp (by unfold maxLen; omega) (by omega) (by simp) _ rfl ?_; intro g cap w1 hown hgrow hat hlt; have ho := oi_row hs hown)
  go_ret
  exact ⟨_, _, rfl, ho, ((Below.refl _ _).alloc (Nat.le_refl _) _).trans ⟨hgrow.os, hgrow.tape, hgrow.output, hgrow.size, fun k hk => hgrow.block k (by simp; omega) (by simp [Value.ownBlock])⟩⟩
 ·have hz : args = [] := List.length_eq_zero_iff.1 (by simpa using hp)
  subst hz
  exact opn_nil imm u q w
set_option maxRecDepth 100000 in
theorem meth_binary (a b : Int) (w : World) : (method 344 118 (.agg #[.int .i64 a, .int .i64 b]) "loop.example/g00457/impl.operands").run Tryz.prog w = .ok (169, .agg #[.int .i64 a, .int .i64 b]) w := by kernel_rfl
set_option maxRecDepth 100000 in
theorem meth_unary (a : Int) (w : World) : (method 344 123 (.agg #[.int .i64 a]) "loop.example/g00457/impl.operands").run Tryz.prog w = .ok (170, .agg #[.int .i64 a]) w := by kernel_rfl
set_option maxRecDepth 100000 in
theorem meth_const (a : Int) (w : World) : (method 344 125 (.agg #[.int .i64 a]) "loop.example/g00457/impl.operands").run Tryz.prog w = .ok (171, .agg #[.int .i64 a]) w := by kernel_rfl
set_option maxRecDepth 100000 in
theorem meth_select (a b c : Int) (w : World) : (method 344 127 (.agg #[.int .i64 a, .int .i64 b, .int .i64 c]) "loop.example/g00457/impl.operands").run Tryz.prog w = .ok (172, .agg #[.int .i64 a, .int .i64 b, .int .i64 c]) w := by kernel_rfl
set_option maxRecDepth 100000 in
theorem meth_load (a : Int) (w : World) : (method 344 128 (.agg #[.int .i64 a]) "loop.example/g00457/impl.operands").run Tryz.prog w = .ok (173, .agg #[.int .i64 a]) w := by kernel_rfl
set_option maxRecDepth 100000 in
theorem meth_store (a b : Int) (w : World) : (method 344 129 (.agg #[.int .i64 a, .int .i64 b]) "loop.example/g00457/impl.operands").run Tryz.prog w = .ok (174, .agg #[.int .i64 a, .int .i64 b]) w := by kernel_rfl
set_option maxRecDepth 100000 in
theorem meth_print (a : Int) (w : World) : (method 344 130 (.agg #[.int .i64 a]) "loop.example/g00457/impl.operands").run Tryz.prog w = .ok (175, .agg #[.int .i64 a]) w := by kernel_rfl
set_option maxRecDepth 100000 in
theorem meth_strange (w : World) : (method 344 134 (.agg #[]) "loop.example/g00457/impl.operands").run Tryz.prog w = .ok (177, .agg #[]) w := by kernel_rfl
set_option maxRecDepth 100000 in
theorem meth_call (a : Int) (u : Option Addr) (n q : Nat) (w : World) : (method 344 132 (.agg #[.int .i64 a, .slice u n q]) "loop.example/g00457/impl.operands").run Tryz.prog w = .ok (176, .agg #[.int .i64 a, .slice u n q]) w := by kernel_rfl
theorem box0 {w w1 : World} {o : Obj} (h : Below (w.alloc o).heap.size (w.alloc o) w1) : Below (w.heap.size + 1) (w.alloc o) w1 := h.mono (by simp)
structure Disp (d : InstD) (u : Option Addr) (q : Nat) (T : TypeId) (v : Value) (f : FuncId) : Prop where
 kv : kindV d u q = .iface T v
 meth : ∀ w : World, (method 344 T v "loop.example/g00457/impl.operands").run Tryz.prog w = .ok (f, v) w
 call : ∀ w : World, (callFunc f #[v]).run Tryz.prog w = .ok (.enter f #[v]) w
 con : ∀ (lo : Nat) (w : World), d.args.length ≤ 1048576 → IntsAt w lo u d.args → Calls Tryz.prog f #[v] w fun e w' => ∃ a r, e = .returned (.slice a (opsD d).length r) ∧ OwnAt w' w.heap.size a (opsD d) ∧ Below w.heap.size w w'
 as_strange : 1 ≤ d.op ∧ d.op ≤ 27 → ∀ w : World, (Instr.typeAssert (.iface T v) 80 134 true).run Tryz.prog w = .ok (.tuple #[.agg #[], .bool false]) w
 as_store : ¬ d.op = 24 → ∀ w : World, (Instr.typeAssert (.iface T v) 80 129 true).run Tryz.prog w = .ok (.tuple #[.agg #[.int .i64 0, .int .i64 0], .bool false]) w
 as_print : ¬ d.op = 25 → ∀ w : World, (Instr.typeAssert (.iface T v) 80 130 true).run Tryz.prog w = .ok (.tuple #[.agg #[.int .i64 0], .bool false]) w
 as_load : ¬ d.op = 23 → ∀ w : World, (Instr.typeAssert (.iface T v) 80 128 true).run Tryz.prog w = .ok (.tuple #[.agg #[.int .i64 0], .bool false]) w
 as_const : ¬ d.op = 21 → ∀ w : World, (Instr.typeAssert (.iface T v) 80 125 true).run Tryz.prog w = .ok (.tuple #[.agg #[.int .i64 0], .bool false]) w
 as_call : ¬ d.op = 26 → ∀ w : World, (Instr.typeAssert (.iface T v) 80 132 true).run Tryz.prog w = .ok (.tuple #[.agg #[.int .i64 0, .slice none 0 0], .bool false]) w
theorem disp (d : InstD) (u : Option Addr) (q : Nat) : ∃ T v f, Disp d u q T v f := by
 obtain ⟨op, iw, a, b, c, imm, args⟩ := d
 rcases op_split op with h | h | h | h | h | h | h | h | h | h | h | ⟨ho, h⟩
 ·have E : opsD ⟨op, iw, a, b, c, imm, args⟩ = [a, b] := by simp [opsD, h]
  refine ⟨_, _, _, ⟨kv_bin h, fun w => meth_binary a b w, fun w => by kernel_rfl, fun lo w hs k => by rw [E]; exact bk_oper a b w, fun _ w => as_binaryKind_strangeKind _ w, fun _ w => as_binaryKind_storeKind _ w, fun _ w => as_binaryKind_printKind _ w, fun _ w => as_binaryKind_loadKind _ w, fun _ w => as_binaryKind_constKind _ w, fun _ w => as_binaryKind_callKind _ w⟩⟩
 ·subst h
  have E : opsD ⟨18, iw, a, b, c, imm, args⟩ = [a] := rfl
  refine ⟨_, _, _, ⟨kv_18 rfl, fun w => meth_unary a w, fun w => by kernel_rfl, fun lo w hs k => by rw [E]; exact op1_unary a w, fun _ w => as_unaryKind_strangeKind _ w, fun _ w => as_unaryKind_storeKind _ w, fun _ w => as_unaryKind_printKind _ w, fun _ w => as_unaryKind_loadKind _ w, fun _ w => as_unaryKind_constKind _ w, fun _ w => as_unaryKind_callKind _ w⟩⟩
 ·subst h
  have E : opsD ⟨19, iw, a, b, c, imm, args⟩ = [a] := rfl
  refine ⟨_, _, _, ⟨kv_19 rfl, fun w => meth_unary a w, fun w => by kernel_rfl, fun lo w hs k => by rw [E]; exact op1_unary a w, fun _ w => as_unaryKind_strangeKind _ w, fun _ w => as_unaryKind_storeKind _ w, fun _ w => as_unaryKind_printKind _ w, fun _ w => as_unaryKind_loadKind _ w, fun _ w => as_unaryKind_constKind _ w, fun _ w => as_unaryKind_callKind _ w⟩⟩
 ·subst h
  have E : opsD ⟨20, iw, a, b, c, imm, args⟩ = [a] := rfl
  refine ⟨_, _, _, ⟨kv_20 rfl, fun w => meth_unary a w, fun w => by kernel_rfl, fun lo w hs k => by rw [E]; exact op1_unary a w, fun _ w => as_unaryKind_strangeKind _ w, fun _ w => as_unaryKind_storeKind _ w, fun _ w => as_unaryKind_printKind _ w, fun _ w => as_unaryKind_loadKind _ w, fun _ w => as_unaryKind_constKind _ w, fun _ w => as_unaryKind_callKind _ w⟩⟩
 ·subst h
  have E : opsD ⟨21, iw, a, b, c, imm, args⟩ = [] := rfl
  refine ⟨_, _, _, ⟨kv_21 rfl, fun w => meth_const imm w, fun w => by kernel_rfl, fun lo w hs k => by rw [E]; exact op0_const imm w, fun _ w => as_constKind_strangeKind _ w, fun _ w => as_constKind_storeKind _ w, fun _ w => as_constKind_printKind _ w, fun _ w => as_constKind_loadKind _ w, fun hn => by exact absurd rfl hn, fun _ w => as_constKind_callKind _ w⟩⟩
 ·subst h
  have E : opsD ⟨22, iw, a, b, c, imm, args⟩ = [a, b, c] := rfl
  refine ⟨_, _, _, ⟨kv_22 rfl, fun w => meth_select a b c w, fun w => by kernel_rfl, fun lo w hs k => by rw [E]; exact op3_select a b c w, fun _ w => as_selectKind_strangeKind _ w, fun _ w => as_selectKind_storeKind _ w, fun _ w => as_selectKind_printKind _ w, fun _ w => as_selectKind_loadKind _ w, fun _ w => as_selectKind_constKind _ w, fun _ w => as_selectKind_callKind _ w⟩⟩
 ·subst h
  have E : opsD ⟨23, iw, a, b, c, imm, args⟩ = [a] := rfl
  refine ⟨_, _, _, ⟨kv_23 rfl, fun w => meth_load a w, fun w => by kernel_rfl, fun lo w hs k => by rw [E]; exact op1_load a w, fun _ w => as_loadKind_strangeKind _ w, fun _ w => as_loadKind_storeKind _ w, fun _ w => as_loadKind_printKind _ w, fun hn => by exact absurd rfl hn, fun _ w => as_loadKind_constKind _ w, fun _ w => as_loadKind_callKind _ w⟩⟩
 ·subst h
  have E : opsD ⟨24, iw, a, b, c, imm, args⟩ = [a, b] := rfl
  refine ⟨_, _, _, ⟨kv_24 rfl, fun w => meth_store a b w, fun w => by kernel_rfl, fun lo w hs k => by rw [E]; exact op2_store a b w, fun _ w => as_storeKind_strangeKind _ w, fun hn => by exact absurd rfl hn, fun _ w => as_storeKind_printKind _ w, fun _ w => as_storeKind_loadKind _ w, fun _ w => as_storeKind_constKind _ w, fun _ w => as_storeKind_callKind _ w⟩⟩
 ·subst h
  have E : opsD ⟨25, iw, a, b, c, imm, args⟩ = [a] := rfl
  refine ⟨_, _, _, ⟨kv_25 rfl, fun w => meth_print a w, fun w => by kernel_rfl, fun lo w hs k => by rw [E]; exact op1_print a w, fun _ w => as_printKind_strangeKind _ w, fun _ w => as_printKind_storeKind _ w, fun hn => by exact absurd rfl hn, fun _ w => as_printKind_loadKind _ w, fun _ w => as_printKind_constKind _ w, fun _ w => as_printKind_callKind _ w⟩⟩
 ·subst h
  have E : opsD ⟨26, iw, a, b, c, imm, args⟩ = args := rfl
  refine ⟨_, _, _, ⟨kv_26 rfl, fun w => meth_call imm u args.length q w, fun w => by kernel_rfl, fun lo w hs k => by rw [E]; exact opn_call lo imm args u q w hs k, fun _ w => as_callKind_strangeKind _ w, fun _ w => as_callKind_storeKind _ w, fun _ w => as_callKind_printKind _ w, fun _ w => as_callKind_loadKind _ w, fun _ w => as_callKind_constKind _ w, fun hn => by exact absurd rfl hn⟩⟩
 ·subst h
  have E : opsD ⟨27, iw, a, b, c, imm, args⟩ = [a] := rfl
  refine ⟨_, _, _, ⟨kv_27 rfl, fun w => meth_unary a w, fun w => by kernel_rfl, fun lo w hs k => by rw [E]; exact op1_unary a w, fun _ w => as_unaryKind_strangeKind _ w, fun _ w => as_unaryKind_storeKind _ w, fun _ w => as_unaryKind_printKind _ w, fun _ w => as_unaryKind_loadKind _ w, fun _ w => as_unaryKind_constKind _ w, fun _ w => as_unaryKind_callKind _ w⟩⟩
 ·have E : opsD ⟨op, iw, a, b, c, imm, args⟩ = [] := by
   have e0 : ¬ opB op = true := by rw [ho]; decide
   unfold opsD
   dsimp only
   rw [if_neg (by simp only [not_or]; exact ⟨e0, by omega⟩), if_neg (by omega), if_neg (by omega), if_neg (by omega)]
  refine ⟨_, _, _, ⟨kv_no ho h, fun w => meth_strange  w, fun w => by kernel_rfl, fun lo w hs k => by rw [E]; exact op0_strange w, fun hn => by exact absurd hn (by dsimp only; omega), fun _ w => as_strangeKind_storeKind _ w, fun _ w => as_strangeKind_printKind _ w, fun _ w => as_strangeKind_loadKind _ w, fun _ w => as_strangeKind_constKind _ w, fun _ w => as_strangeKind_callKind _ w⟩⟩
set_option maxRecDepth 100000 in
theorem operI (lo : Nat) (d : InstD) (u : Option Addr) (q : Nat) (w : World) (hs : d.args.length ≤ 1048576) (k : IntsAt w lo u d.args) :
  Calls Tryz.prog 21 #[.agg #[.int .i64 d.op, .int .i64 d.w, .int .i64 d.a, .int .i64 d.b, .int .i64 d.c, .int .i64 d.imm, .slice u d.args.length q]] w fun e w' => ∃ v r, e = .returned (.slice v (opsD d).length r) ∧ OwnAt w' w.heap.size v (opsD d) ∧ Below w.heap.size w w' := by
 obtain ⟨T, V, f, D⟩ := disp d u q
 have E := D.kv
 have K := fun w => kind_any d u q w
 rw [E] at K
 clear E
 have M := D.meth
 have CF := D.call
 have HC : Hid (∀ W, Below w.heap.size w W → Calls Tryz.prog f #[V] W fun e w' => ∃ a r, e = .returned (.slice a (opsD d).length r) ∧ OwnAt w' W.heap.size a (opsD d) ∧ Below W.heap.size W w') := fun W hW => D.con lo W hs (k.keep (agree_of_below hW _))
 clear D hs k
 go_enter Tryz.func21, Tryz.ntmps21
 go_wp2_with fail
 refine (K _).mono ?_
 rintro e w1 ⟨rfl, hb1⟩
 have hB := below_box (box0 hb1)
 go_wp2_with fail
 refine (HC.out _ hB).mono ?_
 rintro e w2 ⟨v, r, rfl, ho, hb2⟩
 go_wp2_with fail
 go_ret
 exact ⟨_, _, rfl, ho.low hB.size, hB.trans (hb2.mono hB.size)⟩
end Go.Proofs.YtgojlnclpebdcaaGreatDoor
namespace Go.Proofs.YtgojlnclpebdcaaGreatDoor
open Go.RowKit
def namesT (t : TermD) : List Int := if t.kind = 1 ∨ t.kind = 3 then [t.a] else []
set_option maxHeartbeats 1000000 in
theorem termI (t : TermD) (w : World) : Calls Tryz.prog 124 #[.agg #[.int .i64 t.kind, .int .i64 t.a, .int .i64 t.x, .int .i64 t.y]] w fun e w' => ∃ v r, e = .returned (.slice v (namesT t).length r) ∧ OwnAt w' w.heap.size v (namesT t) ∧ Below w.heap.size w w' := by
 obtain ⟨kind, a, x, y⟩ := t
 dsimp only
 by_cases h1 : kind = 1
 ·subst h1
  have E : namesT ⟨1, a, x, y⟩ = [a] := rfl
  rw [E]
  clear E
  go_enter Tryz.func124, Tryz.ntmps124
  go_wp2_with fail
  go_ret
  exact ⟨_, _, rfl, own_mk2 rfl (by simp) (one_cells a), ((Below.refl _ _).alloc (Nat.le_refl _) _).alloc (by simp) _⟩
 ·by_cases h3 : kind = 3
  ·subst h3
   have E : namesT ⟨3, a, x, y⟩ = [a] := rfl
   rw [E]
   clear E
   go_enter Tryz.func124, Tryz.ntmps124
   go_wp2_with fail
   go_ret
   exact ⟨_, _, rfl, own_mk2 rfl (by simp) (one_cells a), ((Below.refl _ _).alloc (Nat.le_refl _) _).alloc (by simp) _⟩
  ·have E : namesT ⟨kind, a, x, y⟩ = [] := by simp [namesT, h1, h3]
   rw [E]
   clear E
   have g1 : (kind == 1) = false := by simpa using h1
   have g3 : (kind == 3) = false := by simpa using h3
   go_enter Tryz.func124, Tryz.ntmps124
   go_wp2_with fail
   go_ret
   exact ⟨_, _, rfl, ⟨by simp, .inl rfl⟩, (Below.refl _ _).alloc (Nat.le_refl _) _⟩
end Go.Proofs.YtgojlnclpebdcaaGreatDoor
namespace Go.Proofs.YtgojlnclpebdcaaGreatDoor
open Go.RowKit
set_option linter.unusedVariables false
def entB (d : FuncD) : Bool := decide ((d.blocks.getD 0 block0).phis.length = 0) && decide ((predN (succN d.blocks) d.blocks.length 0).length = 0)
def phaB (d : FuncD) (b : Nat) : Bool := (d.blocks.getD b block0).phis.all fun p => decide (p.ins.length = (predN (succN d.blocks) d.blocks.length b).length)
def phsB (d : FuncD) : Bool := (List.range d.blocks.length).all (phaB d)
def argB (t : Int → Int) (i : InstD) : Bool :=
 if opB i.op = true then t i.a == i.w && t i.b == i.w
 else if i.op = 18 ∨ i.op = 19 then t i.a != 0 && decide (t i.a < i.w)
 else if i.op = 20 then decide (i.w < t i.a)
 else if i.op = 27 then t i.a == i.w
 else if i.op = 22 then t i.a == 1 && t i.b == i.w && t i.c == i.w
 else if i.op = 23 then t i.a == 32
 else if i.op = 24 then t i.a == 32 && t i.b == 8
 else if i.op = 25 then t i.a != 0
 else true
def trmB (t : Int → Int) (x : TermD) (ret : Int) : Bool := if x.kind = 1 then t x.a == ret else if x.kind = 3 then t x.a == 1 else true
def blkTB (t : Int → Int) (ret : Int) (b : BlockD) : Bool := b.phis.all (fun p => p.ins.all fun id => t id == p.w) && b.insts.all (argB t) && trmB t b.term ret
def typB (d : FuncD) : Bool := d.blocks.all (blkTB (typeF d) d.ret)
def calB (t : Int → Int) (g : FuncD) (i : InstD) : Bool := i.w == g.ret && decide (i.args.length = g.params.length) && (List.range i.args.length).all fun k => t (i.args.getD k 0) == g.params.getD k 0
def cllB (l : List FuncD) (t : Int → Int) (i : InstD) : Bool := i.op != 26 || calB t (l.getD i.imm.toNat func0) i
def clsB (l : List FuncD) (d : FuncD) : Bool := d.blocks.all fun b => b.insts.all (cllB l (typeF d))
def Sees (d : FuncD) (id : Int) (b : Nat) (at' : Int) : Prop :=
 (placeF d id).1 = -1 ∨ ((placeF d id).1 = b ∧ (placeF d id).2 < at') ∨ (0 ≤ (placeF d id).1 ∧ (placeF d id).1 ≠ b ∧ Dom (succN d.blocks) (placeF d id).1.toNat b)
def endN (x : BlockD) : Int := (x.phis.length : Int) + x.insts.length
def SeesIn (d : FuncD) (b : Nat) : Prop :=
 (∀ k, k < (d.blocks.getD b block0).insts.length → ∀ id ∈ opsD ((d.blocks.getD b block0).insts.getD k inst0), Sees d id b ((d.blocks.getD b block0).phis.length + k)) ∧
 (∀ id ∈ namesT (d.blocks.getD b block0).term, Sees d id b (endN (d.blocks.getD b block0)))
def SeesP (d : FuncD) (n x j : Nat) : Prop := ∀ p ∈ (d.blocks.getD x block0).phis, Sees d (p.ins.getD j 0) n (endN (d.blocks.getD n block0))
def DomsP (d : FuncD) : Prop := ∀ n, Rch (succN d.blocks) none n → SeesIn d n ∧ ∀ x ∈ succN d.blocks n, ∀ j, j < (predN (succN d.blocks) d.blocks.length x).length → (predN (succN d.blocks) d.blocks.length x).getD j 0 = n → SeesP d n x j
def CodeF (l : List FuncD) (d : FuncD) (c : Int) : Prop :=
 (entB d = false ∧ c = 2) ∨ (entB d = true ∧ phsB d = false ∧ c = 3) ∨ (entB d = true ∧ phsB d = true ∧ typB d = false ∧ c = 4) ∨ (entB d = true ∧ phsB d = true ∧ typB d = true ∧ clsB l d = false ∧ c = 5) ∨
 (entB d = true ∧ phsB d = true ∧ typB d = true ∧ clsB l d = true ∧ ¬ DomsP d ∧ c = 6) ∨ (entB d = true ∧ phsB d = true ∧ typB d = true ∧ clsB l d = true ∧ DomsP d ∧ c = 0)
theorem CodeF.one {l : List FuncD} {d : FuncD} {c c' : Int} (h : CodeF l d c) (k : CodeF l d c') : c = c' := by
 unfold CodeF at h k
 rcases h with h | h | h | h | h | h <;> rcases k with k | k | k | k | k | k <;> simp_all
def tysF (d : FuncD) : List Int := (List.range (cntF d)).map fun i : Nat => typeF d (i : Int)
theorem tys_len (d : FuncD) : (tysF d).length = cntF d := by simp [tysF]
theorem tys_at {d : FuncD} {k : Nat} (h : k < cntF d) : (tysF d).getD k 0 = typeF d k := by simp [tysF, List.getD_eq_getElem?_getD, h]
theorem placeL_in : ∀ (r : List BlockD) (b : Nat) (x : Int), 0 ≤ x → x < cntL r → (placeL r b x).1 ≠ -2
 | [], _, x, h0, h => by simp [cntL] at h; omega
 | d :: r, b, x, h0, h => by
  unfold placeL
  by_cases k : x < cntB d
  ·rw [if_pos k]; show (b : Int) ≠ -2; omega
  ·rw [if_neg k]; exact placeL_in r (b + 1) _ (by omega) (by simp [cntL] at h; omega)
theorem place_in {d : FuncD} {id : Int} (h0 : 0 ≤ id) (h : id < cntF d) : (placeF d id).1 ≠ -2 := by
 unfold placeF
 rw [if_neg (by omega)]
 by_cases k : id < d.params.length
 ·rw [if_pos k]; simp
 ·rw [if_neg k]; exact placeL_in _ _ _ (by omega) (by unfold cntF at h; omega)
end Go.Proofs.YtgojlnclpebdcaaGreatDoor
