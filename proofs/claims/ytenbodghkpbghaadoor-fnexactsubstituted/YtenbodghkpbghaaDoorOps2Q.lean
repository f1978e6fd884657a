import Derived.Test.YtenbodghkpbghaaDoorSzQ
import Derived.Deep.AppendLies
import Derived.Deep.RegionHeld2
import Derived.Deep.QuietTactic
import Derived.BigQuiet
import Derived.Deep.RegionWith
import Derived.WalkSmall
import Derived.Laws.AppendOwnNone
namespace Go.Proofs.YtenbodghkpbghaaDoor
open Go.RowKit
set_option maxHeartbeats 1000000 in
theorem operS_18 (iw a b c imm : Int) (args : List Int) (u : Option Addr) (q : Nat) (w : World) :
  Calls Tryd.prog 77 #[.agg #[.int .i64 18, .int .i64 iw, .int .i64 a, .int .i64 b, .int .i64 c, .int .i64 imm, .slice u args.length q]] w fun e w' => ∃ v r, e = .returned (.slice v 1 r) ∧ OwnAt w' w.heap.size v [a] ∧ Below w.heap.size w w' := by
 go_enter Tryd.func77, Tryd.ntmps77
 go_wp2_with (go_at_call 30; refine (inS _ _ _ _).mono ?_; rintro e w' ⟨rfl, rfl⟩)
 go_ret
 exact ⟨_, _, rfl, own_mk2 rfl (by simp) (one_cells a), ((Below.refl _ _).alloc (Nat.le_refl _) _).alloc (by simp) _⟩
set_option maxHeartbeats 1000000 in
theorem operS_19 (iw a b c imm : Int) (args : List Int) (u : Option Addr) (q : Nat) (w : World) :
  Calls Tryd.prog 77 #[.agg #[.int .i64 19, .int .i64 iw, .int .i64 a, .int .i64 b, .int .i64 c, .int .i64 imm, .slice u args.length q]] w fun e w' => ∃ v r, e = .returned (.slice v 1 r) ∧ OwnAt w' w.heap.size v [a] ∧ Below w.heap.size w w' := by
 go_enter Tryd.func77, Tryd.ntmps77
 go_wp2_with (go_at_call 30; refine (inS _ _ _ _).mono ?_; rintro e w' ⟨rfl, rfl⟩)
 go_ret
 exact ⟨_, _, rfl, own_mk2 rfl (by simp) (one_cells a), ((Below.refl _ _).alloc (Nat.le_refl _) _).alloc (by simp) _⟩
set_option maxHeartbeats 1000000 in
theorem operS_20 (iw a b c imm : Int) (args : List Int) (u : Option Addr) (q : Nat) (w : World) :
  Calls Tryd.prog 77 #[.agg #[.int .i64 20, .int .i64 iw, .int .i64 a, .int .i64 b, .int .i64 c, .int .i64 imm, .slice u args.length q]] w fun e w' => ∃ v r, e = .returned (.slice v 1 r) ∧ OwnAt w' w.heap.size v [a] ∧ Below w.heap.size w w' := by
 go_enter Tryd.func77, Tryd.ntmps77
 go_wp2_with (go_at_call 30; refine (inS _ _ _ _).mono ?_; rintro e w' ⟨rfl, rfl⟩)
 go_ret
 exact ⟨_, _, rfl, own_mk2 rfl (by simp) (one_cells a), ((Below.refl _ _).alloc (Nat.le_refl _) _).alloc (by simp) _⟩
set_option maxHeartbeats 1000000 in
theorem operS_21 (iw a b c imm : Int) (args : List Int) (u : Option Addr) (q : Nat) (w : World) :
  Calls Tryd.prog 77 #[.agg #[.int .i64 21, .int .i64 iw, .int .i64 a, .int .i64 b, .int .i64 c, .int .i64 imm, .slice u args.length q]] w fun e w' => ∃ v r, e = .returned (.slice v 0 r) ∧ OwnAt w' w.heap.size v [] ∧ Below w.heap.size w w' := by
 go_enter Tryd.func77, Tryd.ntmps77
 go_wp2_with (go_at_call 30; refine (inS _ _ _ _).mono ?_; rintro e w' ⟨rfl, rfl⟩)
 go_ret
 exact ⟨_, _, rfl, own_mk2 rfl (by simp) (fun i hi => by simp at hi), ((Below.refl _ _).alloc (Nat.le_refl _) _).alloc (by simp) _⟩
set_option maxHeartbeats 1000000 in
theorem operS_22 (iw a b c imm : Int) (args : List Int) (u : Option Addr) (q : Nat) (w : World) :
  Calls Tryd.prog 77 #[.agg #[.int .i64 22, .int .i64 iw, .int .i64 a, .int .i64 b, .int .i64 c, .int .i64 imm, .slice u args.length q]] w fun e w' => ∃ v r, e = .returned (.slice v 3 r) ∧ OwnAt w' w.heap.size v [a, b, c] ∧ Below w.heap.size w w' := by
 go_enter Tryd.func77, Tryd.ntmps77
 go_wp2_with (go_at_call 30; refine (inS _ _ _ _).mono ?_; rintro e w' ⟨rfl, rfl⟩)
 go_ret
 exact ⟨_, _, rfl, own_mk2 rfl (by simp) (three_cells a b c), ((Below.refl _ _).alloc (Nat.le_refl _) _).alloc (by simp) _⟩
set_option maxHeartbeats 1000000 in
theorem operS_23 (iw a b c imm : Int) (args : List Int) (u : Option Addr) (q : Nat) (w : World) :
  Calls Tryd.prog 77 #[.agg #[.int .i64 23, .int .i64 iw, .int .i64 a, .int .i64 b, .int .i64 c, .int .i64 imm, .slice u args.length q]] w fun e w' => ∃ v r, e = .returned (.slice v 1 r) ∧ OwnAt w' w.heap.size v [a] ∧ Below w.heap.size w w' := by
 go_enter Tryd.func77, Tryd.ntmps77
 go_wp2_with (go_at_call 30; refine (inS _ _ _ _).mono ?_; rintro e w' ⟨rfl, rfl⟩)
 go_ret
 exact ⟨_, _, rfl, own_mk2 rfl (by simp) (one_cells a), ((Below.refl _ _).alloc (Nat.le_refl _) _).alloc (by simp) _⟩
set_option maxHeartbeats 1000000 in
theorem operS_24 (iw a b c imm : Int) (args : List Int) (u : Option Addr) (q : Nat) (w : World) :
  Calls Tryd.prog 77 #[.agg #[.int .i64 24, .int .i64 iw, .int .i64 a, .int .i64 b, .int .i64 c, .int .i64 imm, .slice u args.length q]] w fun e w' => ∃ v r, e = .returned (.slice v 2 r) ∧ OwnAt w' w.heap.size v [a, b] ∧ Below w.heap.size w w' := by
 go_enter Tryd.func77, Tryd.ntmps77
 go_wp2_with (go_at_call 30; refine (inS _ _ _ _).mono ?_; rintro e w' ⟨rfl, rfl⟩)
 go_ret
 exact ⟨_, _, rfl, own_mk2 rfl (by simp) (two_cells a b), ((Below.refl _ _).alloc (Nat.le_refl _) _).alloc (by simp) _⟩
set_option maxHeartbeats 1000000 in
theorem operS_25 (iw a b c imm : Int) (args : List Int) (u : Option Addr) (q : Nat) (w : World) :
  Calls Tryd.prog 77 #[.agg #[.int .i64 25, .int .i64 iw, .int .i64 a, .int .i64 b, .int .i64 c, .int .i64 imm, .slice u args.length q]] w fun e w' => ∃ v r, e = .returned (.slice v 1 r) ∧ OwnAt w' w.heap.size v [a] ∧ Below w.heap.size w w' := by
 go_enter Tryd.func77, Tryd.ntmps77
 go_wp2_with (go_at_call 30; refine (inS _ _ _ _).mono ?_; rintro e w' ⟨rfl, rfl⟩)
 go_ret
 exact ⟨_, _, rfl, own_mk2 rfl (by simp) (one_cells a), ((Below.refl _ _).alloc (Nat.le_refl _) _).alloc (by simp) _⟩
set_option maxHeartbeats 1000000 in
theorem operS_27 (iw a b c imm : Int) (args : List Int) (u : Option Addr) (q : Nat) (w : World) :
  Calls Tryd.prog 77 #[.agg #[.int .i64 27, .int .i64 iw, .int .i64 a, .int .i64 b, .int .i64 c, .int .i64 imm, .slice u args.length q]] w fun e w' => ∃ v r, e = .returned (.slice v 1 r) ∧ OwnAt w' w.heap.size v [a] ∧ Below w.heap.size w w' := by
 go_enter Tryd.func77, Tryd.ntmps77
 go_wp2_with (go_at_call 30; refine (inS _ _ _ _).mono ?_; rintro e w' ⟨rfl, rfl⟩)
 go_ret
 exact ⟨_, _, rfl, own_mk2 rfl (by simp) (one_cells a), ((Below.refl _ _).alloc (Nat.le_refl _) _).alloc (by simp) _⟩
set_option maxHeartbeats 1000000 in
theorem operS_26 (lo : Nat) (iw a b c imm : Int) (args : List Int) (u : Option Addr) (q : Nat) (w : World) (hs : args.length ≤ 1048576) (k : IntsAt w lo u args) :
  Calls Tryd.prog 77 #[.agg #[.int .i64 26, .int .i64 iw, .int .i64 a, .int .i64 b, .int .i64 c, .int .i64 imm, .slice u args.length q]] w fun e w' => ∃ v r, e = .returned (.slice v args.length r) ∧ OwnAt w' w.heap.size v args ∧ Below w.heap.size w w' := by
 go_enter Tryd.func77, Tryd.ntmps77
 go_wp2_with (first | (go_at_call 30; refine (inS _ _ _ _).mono ?_; rintro e w' ⟨rfl, rfl⟩) | (go_at_call 79; refine (copyS_any lo _ _ _ _ hs (k.keep (agree_alloc _ _ _))).mono ?_; rintro e w1 ⟨v, r, rfl, ho, hb1⟩))
 go_ret
 exact ⟨_, _, rfl, ho.low (by simp), ((Below.refl _ _).alloc (Nat.le_refl _) _).trans (hb1.mono (by simp))⟩
set_option maxHeartbeats 1000000 in
theorem operS_no (op iw a b c imm : Int) (args : List Int) (u : Option Addr) (q : Nat) (w : World) (h : op < 1 ∨ 27 < op) :
  Calls Tryd.prog 77 #[.agg #[.int .i64 op, .int .i64 iw, .int .i64 a, .int .i64 b, .int .i64 c, .int .i64 imm, .slice u args.length q]] w fun e w' => ∃ v r, e = .returned (.slice v 0 r) ∧ OwnAt w' w.heap.size v [] ∧ Below w.heap.size w w' := by
 have d1 : (decide (1 ≤ op) && decide (op ≤ 17)) = false := by simp; omega
 have d2 : (decide (18 ≤ op) && decide (op ≤ 20)) = false := by simp; omega
 have e1 : ¬ op = 24 := by omega
 have e2 : ¬ op = 23 := by omega
 have e3 : ¬ op = 25 := by omega
 have e4 : ¬ op = 27 := by omega
 have e5 : ¬ op = 22 := by omega
 have e6 : ¬ op = 26 := by omega
 clear h
 go_enter Tryd.func77, Tryd.ntmps77
 go_wp2_with (go_at_call 30; refine (inS _ _ _ _).mono ?_; rintro e w' ⟨rfl, rfl⟩)
 go_ret
 exact ⟨_, _, rfl, own_mk2 rfl (by simp) (fun i hi => by simp at hi), ((Below.refl _ _).alloc (Nat.le_refl _) _).alloc (by simp) _⟩
theorem operS (lo : Nat) (d : InstD) (u : Option Addr) (q : Nat) (w : World) (hs : d.args.length ≤ 1048576) (k : IntsAt w lo u d.args) :
  Calls Tryd.prog 77 #[.agg #[.int .i64 d.op, .int .i64 d.w, .int .i64 d.a, .int .i64 d.b, .int .i64 d.c, .int .i64 d.imm, .slice u d.args.length q]] w fun e w' => ∃ v r, e = .returned (.slice v (opsD d).length r) ∧ OwnAt w' w.heap.size v (opsD d) ∧ Below w.heap.size w w' := by
 rcases op_split d.op with h | h
 ·exact operS_bin d u q w h
 obtain ⟨op, iw, a, b, c, imm, args⟩ := d
 dsimp only at h hs k ⊢
 rcases h with h | h | h | h | h | h | h | h | h | h | ⟨ho, h⟩
 ·subst h
  have E : opsD ⟨18, iw, a, b, c, imm, args⟩ = [a] := by rfl
  rw [E]
  exact operS_18 iw a b c imm args u q w
 ·subst h
  have E : opsD ⟨19, iw, a, b, c, imm, args⟩ = [a] := by rfl
  rw [E]
  exact operS_19 iw a b c imm args u q w
 ·subst h
  have E : opsD ⟨20, iw, a, b, c, imm, args⟩ = [a] := by rfl
  rw [E]
  exact operS_20 iw a b c imm args u q w
 ·subst h
  have E : opsD ⟨21, iw, a, b, c, imm, args⟩ = [] := by rfl
  rw [E]
  exact operS_21 iw a b c imm args u q w
 ·subst h
  have E : opsD ⟨22, iw, a, b, c, imm, args⟩ = [a, b, c] := by rfl
  rw [E]
  exact operS_22 iw a b c imm args u q w
 ·subst h
  have E : opsD ⟨23, iw, a, b, c, imm, args⟩ = [a] := by rfl
  rw [E]
  exact operS_23 iw a b c imm args u q w
 ·subst h
  have E : opsD ⟨24, iw, a, b, c, imm, args⟩ = [a, b] := by rfl
  rw [E]
  exact operS_24 iw a b c imm args u q w
 ·subst h
  have E : opsD ⟨25, iw, a, b, c, imm, args⟩ = [a] := by rfl
  rw [E]
  exact operS_25 iw a b c imm args u q w
 ·subst h
  have E : opsD ⟨26, iw, a, b, c, imm, args⟩ = args := by rfl
  rw [E]
  exact operS_26 lo iw a b c imm args u q w hs k
 ·subst h
  have E : opsD ⟨27, iw, a, b, c, imm, args⟩ = [a] := by rfl
  rw [E]
  exact operS_27 iw a b c imm args u q w
 ·have E : opsD ⟨op, iw, a, b, c, imm, args⟩ = [] := by
   have e0 : ¬ opB op = true := by rw [ho]; decide
   unfold opsD
   dsimp only
   rw [if_neg (by simp only [not_or]; exact ⟨e0, by omega⟩), if_neg (by omega), if_neg (by omega), if_neg (by omega)]
  rw [E]
  exact operS_no op iw a b c imm args u q w h
theorem opsD_len (d : InstD) (hs : d.args.length ≤ 1048576) : (opsD d).length ≤ 1048576 := by
 unfold opsD
 split
 ·simp
 ·split
  ·simp
  ·split
   ·simp
   ·split
    ·exact hs
    ·simp
end Go.Proofs.YtenbodghkpbghaaDoor
namespace Go.Proofs.YtenbodghkpbghaaDoor
open Go.RowKit
theorem op1_unary (a : Int) (w : World) : Calls Tryd.prog 134 #[.agg #[.int .i64 a]] w fun e w' => ∃ u c, e = .returned (.slice u 1 c) ∧ OwnAt w' w.heap.size u [a] ∧ Below w.heap.size w w' := by
 go_enter Tryd.func134, Tryd.ntmps134
 go_wp2_with fail
 go_ret
 exact ⟨_, _, rfl, own_mk2 rfl (by simp) (one_cells a), ((Below.refl _ _).alloc (Nat.le_refl _) _).alloc (by simp) _⟩
theorem op1_load (a : Int) (w : World) : Calls Tryd.prog 137 #[.agg #[.int .i64 a]] w fun e w' => ∃ u c, e = .returned (.slice u 1 c) ∧ OwnAt w' w.heap.size u [a] ∧ Below w.heap.size w w' := by
 go_enter Tryd.func137, Tryd.ntmps137
 go_wp2_with fail
 go_ret
 exact ⟨_, _, rfl, own_mk2 rfl (by simp) (one_cells a), ((Below.refl _ _).alloc (Nat.le_refl _) _).alloc (by simp) _⟩
theorem op1_print (a : Int) (w : World) : Calls Tryd.prog 139 #[.agg #[.int .i64 a]] w fun e w' => ∃ u c, e = .returned (.slice u 1 c) ∧ OwnAt w' w.heap.size u [a] ∧ Below w.heap.size w w' := by
 go_enter Tryd.func139, Tryd.ntmps139
 go_wp2_with fail
 go_ret
 exact ⟨_, _, rfl, own_mk2 rfl (by simp) (one_cells a), ((Below.refl _ _).alloc (Nat.le_refl _) _).alloc (by simp) _⟩
theorem op2_store (a b : Int) (w : World) : Calls Tryd.prog 138 #[.agg #[.int .i64 a, .int .i64 b]] w fun e w' => ∃ u c, e = .returned (.slice u 2 c) ∧ OwnAt w' w.heap.size u [a, b] ∧ Below w.heap.size w w' := by
 go_enter Tryd.func138, Tryd.ntmps138
 go_wp2_with fail
 go_ret
 exact ⟨_, _, rfl, own_mk2 rfl (by simp) (two_cells a b), ((Below.refl _ _).alloc (Nat.le_refl _) _).alloc (by simp) _⟩
theorem op3_select (a b c : Int) (w : World) : Calls Tryd.prog 136 #[.agg #[.int .i64 a, .int .i64 b, .int .i64 c]] w fun e w' => ∃ u q, e = .returned (.slice u 3 q) ∧ OwnAt w' w.heap.size u [a, b, c] ∧ Below w.heap.size w w' := by
 go_enter Tryd.func136, Tryd.ntmps136
 go_wp2_with fail
 go_ret
 exact ⟨_, _, rfl, own_mk2 rfl (by simp) (three_cells a b c), ((Below.refl _ _).alloc (Nat.le_refl _) _).alloc (by simp) _⟩
theorem op0_const (a : Int) (w : World) : Calls Tryd.prog 135 #[.agg #[.int .i64 a]] w fun e w' => ∃ u c, e = .returned (.slice u 0 c) ∧ OwnAt w' w.heap.size u [] ∧ Below w.heap.size w w' := by
 go_enter Tryd.func135, Tryd.ntmps135
 go_wp2_with fail
 go_ret
 exact ⟨_, _, rfl, ⟨by simp, .inl rfl⟩, by first | exact Below.refl _ _ | exact (Below.refl _ _).alloc (Nat.le_refl _) _⟩
theorem op0_strange (w : World) : Calls Tryd.prog 141 #[.agg #[]] w fun e w' => ∃ u c, e = .returned (.slice u 0 c) ∧ OwnAt w' w.heap.size u [] ∧ Below w.heap.size w w' := by
 go_enter Tryd.func141, Tryd.ntmps141
 go_wp2_with fail
 go_ret
 exact ⟨_, _, rfl, ⟨by simp, .inl rfl⟩, by first | exact Below.refl _ _ | exact (Below.refl _ _).alloc (Nat.le_refl _) _⟩
theorem append_nothing {t ty : TypeId} (a : Option Addr) (c : Nat) (w : World) (i : TypeInfo) (ht : Tryd.prog.underlying t = some (.slice 2)) (hi : Tryd.prog.info? 2 = some i) :
  (Builtin.append_ #[t, t] ty #[.slice none 0 0, .slice a 0 c]).run Tryd.prog w = .ok (.slice none 0 0) w := by
 cases a <;> simp [Builtin.append_, run_underlying ht, sizeOf, typeInfo, hi, Builtin.lenOf, Builtin.firstCells, loadCells, loadCellsFrom]
theorem wp_append_nothing {w : World} {o : Oper} {a : Act} {K : Act → World → Prop} {Q : Exit → Act → World → Prop} (s x : Operand) (t : TypeId)
  (ho : o.op = .call { callee := .builtin .append, args := #[s, x], argTypes := #[t, t] }) (i : TypeInfo) (ht : Tryd.prog.underlying t = some (.slice 2)) (hi : Tryd.prog.info? 2 = some i)
  (hs : a.eval s = .slice none 0 0) (ad : Option Addr) (c : Nat) (hx : a.eval x = .slice ad 0 c) (h : K (a.put o.dst (.slice none 0 0)) w) : o.wp Tryd.prog a w K Q := by
 have hr := append_nothing (ty := o.type) ad c w i ht hi
 unfold Oper.wp execOp
 simp only [ho, resolve, invoke, builtin, Sem.run_bind, Sem.run_pure, Result.andThen_ok, List.map_toArray, List.map_cons, List.map_nil, hs, hx, hr]
 exact h
theorem wpList_append_nothing {w : World} {ops : Array Oper} {rest : List Oper} {o : Oper} {a : Act} {Q : Exit → Act → World → Prop} (hgd : o.guard = none) (s x : Operand) (t : TypeId)
  (ho : o.op = .call { callee := .builtin .append, args := #[s, x], argTypes := #[t, t] }) (i : TypeInfo) (ht : Tryd.prog.underlying t = some (.slice 2)) (hi : Tryd.prog.info? 2 = some i)
  (hs : a.eval s = .slice none 0 0) (ad : Option Addr) (c : Nat) (hx : a.eval x = .slice ad 0 c) (h : wpList Tryd.prog ops Q rest (a.put o.dst (.slice none 0 0)) w) : wpList Tryd.prog ops Q (o :: rest) a w :=
 wpList_plain hgd fun _ hK => wp_append_nothing s x t ho i ht hi hs ad c hx (hK _ _ h)
theorem ints_src {w : World} {lo : Nat} {u : Option Addr} {l : List Int} (h : IntsAt w lo u l) (hp : 0 < l.length) : ∃ ad, u = some ad ∧ ∀ j x, (l.map (Value.int .i64))[j]? = some x → w.cell? (ad.add j) = some x := by
 rcases h.2 with h | ⟨b, off, ha, _, hb, hc⟩
 ·subst h; simp at hp
 ·refine ⟨_, ha, fun j x hj => ?_⟩
  have hjl : j < l.length := by
   have := (List.getElem?_eq_some_iff.1 hj).1
   simpa using this
  have hat : (⟨b, off, none⟩ : Addr).add j = ⟨b, off + j, none⟩ := by unfold Addr.add; split <;> simp_all
  rw [hat, hc j hjl]
  simp [hjl] at hj
  rw [← hj]; simp [List.getD, hjl]
theorem oi_row {w : World} {base g cap : Nat} {l : List Int} (hm : l.length ≤ 1048576) (h : w.ownsRow base 2 1 (.slice (some ⟨g, 0, none⟩) (0 + l.length) cap) (0 + l.length) ([] ++ l.map (Value.int .i64))) : OwnAt w base (some ⟨g, 0, none⟩) l := by
 rw [Nat.zero_add, List.nil_append] at h
 obtain ⟨u, c, e, ho⟩ := own_of_row hm h
 cases e
 exact ho
theorem opn_nil (imm : Int) (u : Option Addr) (q : Nat) (w : World) : Calls Tryd.prog 140 #[.agg #[.int .i64 imm, .slice u 0 q]] w fun e w' => ∃ u c, e = .returned (.slice u 0 c) ∧ OwnAt w' w.heap.size u [] ∧ Below w.heap.size w w' := by
 obtain ⟨i0, hi, _, _, _⟩ := info_parts infoI
 have HI : Hid (Tryd.prog.info? 2 = some i0) := hi
 clear hi
 go_enter Tryd.func140, Tryd.ntmps140
 go_wp2_with (at_builtin; refine wpList_append_nothing rfl _ _ 24 rfl i0 Tryd.underlying24 HI.out rfl u q rfl ?_)
 go_ret
 exact ⟨_, _, rfl, ⟨by simp, .inl rfl⟩, (Below.refl _ _).alloc (Nat.le_refl _) _⟩
theorem opn_call (lo : Nat) (imm : Int) (args : List Int) (u : Option Addr) (q : Nat) (w : World) (hs : args.length ≤ 1048576) (k : IntsAt w lo u args) : Calls Tryd.prog 140 #[.agg #[.int .i64 imm, .slice u args.length q]] w fun e w' => ∃ u c, e = .returned (.slice u args.length c) ∧ OwnAt w' w.heap.size u args ∧ Below w.heap.size w w' := by
 by_cases hp : 0 < args.length
 ·obtain ⟨i0, hi, hz0, hz1, hz2⟩ := info_parts infoI
  have HI : Hid (Tryd.prog.info? 2 = some i0) := hi
  have HZ0 : Hid (i0.zero = some (.int .i64 0)) := hz0
  have HZ1 : Hid (i0.size = 1) := hz1
  have HZ2 : Hid (i0.bytes = 8) := hz2
  clear hi hz0 hz1 hz2
  obtain ⟨ad, rfl, hn⟩ := ints_src (k.keep (agree_alloc w (.cells #[.int .i64 imm, .slice u args.length q] 107) _)) hp
  have HN : Hid (∀ j x, (args.map (Value.int .i64))[j]? = some x → (w.alloc (.cells #[.int .i64 imm, .slice (some ad) args.length q] 107)).cell? (ad.add j) = some x) := hn
  clear hn
  go_enter Tryd.func140, Tryd.ntmps140
  go_wp2_with (at_builtin; refine wpList_append_lies _ rfl _ _ 24 rfl w.heap.size 2 i0 (.int .i64 0) 1 8 Tryd.underlying24 HI.out HZ0.out HZ1.out HZ2.out rfl (by decide) (.slice none 0 0) 0 [] rfl ⟨rfl, .inl ⟨rfl, rfl⟩⟩ ad args.length q (args.map (Value.int .i64)) rfl (by simp) (by exact HN.out) (by simp [Value.oneCell']) hp (by unfold maxLen; omega) (by omega) (by simp) _ rfl ?_; intro g cap w1 hown hgrow hat hlt; have ho := oi_row hs hown)
  go_ret
  exact ⟨_, _, rfl, ho, ((Below.refl _ _).alloc (Nat.le_refl _) _).trans ⟨hgrow.os, hgrow.tape, hgrow.output, hgrow.size, fun k hk => hgrow.block k (by simp; omega) (by simp [Value.ownBlock])⟩⟩
 ·have hz : args = [] := List.length_eq_zero_iff.1 (by simpa using hp)
  subst hz
  exact opn_nil imm u q w
set_option maxRecDepth 100000 in
theorem meth_binary (a b : Int) (w : World) : (method 284 96 (.agg #[.int .i64 a, .int .i64 b]) "loop.example/g00457/impl.operands").run Tryd.prog w = .ok (133, .agg #[.int .i64 a, .int .i64 b]) w := by kernel_rfl
set_option maxRecDepth 100000 in
theorem meth_unary (a : Int) (w : World) : (method 284 98 (.agg #[.int .i64 a]) "loop.example/g00457/impl.operands").run Tryd.prog w = .ok (134, .agg #[.int .i64 a]) w := by kernel_rfl
set_option maxRecDepth 100000 in
theorem meth_const (a : Int) (w : World) : (method 284 100 (.agg #[.int .i64 a]) "loop.example/g00457/impl.operands").run Tryd.prog w = .ok (135, .agg #[.int .i64 a]) w := by kernel_rfl
set_option maxRecDepth 100000 in
theorem meth_select (a b c : Int) (w : World) : (method 284 102 (.agg #[.int .i64 a, .int .i64 b, .int .i64 c]) "loop.example/g00457/impl.operands").run Tryd.prog w = .ok (136, .agg #[.int .i64 a, .int .i64 b, .int .i64 c]) w := by kernel_rfl
set_option maxRecDepth 100000 in
theorem meth_load (a : Int) (w : World) : (method 284 103 (.agg #[.int .i64 a]) "loop.example/g00457/impl.operands").run Tryd.prog w = .ok (137, .agg #[.int .i64 a]) w := by kernel_rfl
set_option maxRecDepth 100000 in
theorem meth_store (a b : Int) (w : World) : (method 284 104 (.agg #[.int .i64 a, .int .i64 b]) "loop.example/g00457/impl.operands").run Tryd.prog w = .ok (138, .agg #[.int .i64 a, .int .i64 b]) w := by kernel_rfl
set_option maxRecDepth 100000 in
theorem meth_print (a : Int) (w : World) : (method 284 105 (.agg #[.int .i64 a]) "loop.example/g00457/impl.operands").run Tryd.prog w = .ok (139, .agg #[.int .i64 a]) w := by kernel_rfl
set_option maxRecDepth 100000 in
theorem meth_strange (w : World) : (method 284 109 (.agg #[]) "loop.example/g00457/impl.operands").run Tryd.prog w = .ok (141, .agg #[]) w := by kernel_rfl
set_option maxRecDepth 100000 in
theorem meth_call (a : Int) (u : Option Addr) (n q : Nat) (w : World) : (method 284 107 (.agg #[.int .i64 a, .slice u n q]) "loop.example/g00457/impl.operands").run Tryd.prog w = .ok (140, .agg #[.int .i64 a, .slice u n q]) w := by kernel_rfl
theorem box0 {w w1 : World} {o : Obj} (h : Below (w.alloc o).heap.size (w.alloc o) w1) : Below (w.heap.size + 1) (w.alloc o) w1 := h.mono (by simp)
theorem below_box {w w' : World} {o : Obj} (h : Below (w.heap.size + 1) (w.alloc o) w') : Below w.heap.size w w' :=
 ((Below.refl w.heap.size w).alloc (Nat.le_refl _) o).trans (h.mono (by omega))
structure Disp (d : InstD) (u : Option Addr) (q : Nat) (T : TypeId) (v : Value) (f : FuncId) : Prop where
 kv : kindV d u q = .iface T v
 meth : ∀ w : World, (method 284 T v "loop.example/g00457/impl.operands").run Tryd.prog w = .ok (f, v) w
 call : ∀ w : World, (callFunc f #[v]).run Tryd.prog w = .ok (.enter f #[v]) w
 con : ∀ (lo : Nat) (w : World), d.args.length ≤ 1048576 → IntsAt w lo u d.args → Calls Tryd.prog f #[v] w fun e w' => ∃ a r, e = .returned (.slice a (opsD d).length r) ∧ OwnAt w' w.heap.size a (opsD d) ∧ Below w.heap.size w w'
 as_strange : 1 ≤ d.op ∧ d.op ≤ 27 → ∀ w : World, (Instr.typeAssert (.iface T v) 73 109 true).run Tryd.prog w = .ok (.tuple #[.agg #[], .bool false]) w
 as_store : ¬ d.op = 24 → ∀ w : World, (Instr.typeAssert (.iface T v) 73 104 true).run Tryd.prog w = .ok (.tuple #[.agg #[.int .i64 0, .int .i64 0], .bool false]) w
 as_print : ¬ d.op = 25 → ∀ w : World, (Instr.typeAssert (.iface T v) 73 105 true).run Tryd.prog w = .ok (.tuple #[.agg #[.int .i64 0], .bool false]) w
 as_load : ¬ d.op = 23 → ∀ w : World, (Instr.typeAssert (.iface T v) 73 103 true).run Tryd.prog w = .ok (.tuple #[.agg #[.int .i64 0], .bool false]) w
 as_const : ¬ d.op = 21 → ∀ w : World, (Instr.typeAssert (.iface T v) 73 100 true).run Tryd.prog w = .ok (.tuple #[.agg #[.int .i64 0], .bool false]) w
 as_call : ¬ d.op = 26 → ∀ w : World, (Instr.typeAssert (.iface T v) 73 107 true).run Tryd.prog w = .ok (.tuple #[.agg #[.int .i64 0, .slice none 0 0], .bool false]) w
theorem disp (d : InstD) (u : Option Addr) (q : Nat) : ∃ T v f, Disp d u q T v f := by
 obtain ⟨op, iw, a, b, c, imm, args⟩ := d
 rcases op_split op with h | h | h | h | h | h | h | h | h | h | h | ⟨ho, h⟩
 ·have E : opsD ⟨op, iw, a, b, c, imm, args⟩ = [a, b] := by simp [opsD, h]
  refine ⟨_, _, _, ⟨kv_bin h, fun w => meth_binary a b w, fun w => by kernel_rfl, fun lo w hs k => by rw [E]; exact bk_oper a b w, fun _ w => as_binaryKind_strangeKind _ w, fun _ w => as_binaryKind_storeKind _ w, fun _ w => as_binaryKind_printKind _ w, fun _ w => as_binaryKind_loadKind _ w, fun _ w => as_binaryKind_constKind _ w, fun _ w => as_binaryKind_callKind _ w⟩⟩
 ·subst h
  have E : opsD ⟨18, iw, a, b, c, imm, args⟩ = [a] := rfl
  refine ⟨_, _, _, ⟨kv_18 rfl, fun w => meth_unary a w, fun w => by kernel_rfl, fun lo w hs k => by rw [E]; exact op1_unary a w, fun _ w => as_unaryKind_strangeKind _ w, fun _ w => as_unaryKind_storeKind _ w, fun _ w => as_unaryKind_printKind _ w, fun _ w => as_unaryKind_loadKind _ w, fun _ w => as_unaryKind_constKind _ w, fun _ w => as_unaryKind_callKind _ w⟩⟩
 ·subst h
  have E : opsD ⟨19, iw, a, b, c, imm, args⟩ = [a] := rfl
  refine ⟨_, _, _, ⟨kv_19 rfl, fun w => meth_unary a w, fun w => by kernel_rfl, fun lo w hs k => by rw [E]; exact op1_unary a w, fun _ w => as_unaryKind_strangeKind _ w, fun _ w => as_unaryKind_storeKind _ w, fun _ w => as_unaryKind_printKind _ w, fun _ w => as_unaryKind_loadKind _ w, fun _ w => as_unaryKind_constKind _ w, fun _ w => as_unaryKind_callKind _ w⟩⟩
 ·subst h
  have E : opsD ⟨20, iw, a, b, c, imm, args⟩ = [a] := rfl
  refine ⟨_, _, _, ⟨kv_20 rfl, fun w => meth_unary a w, fun w => by kernel_rfl, fun lo w hs k => by rw [E]; exact op1_unary a w, fun _ w => as_unaryKind_strangeKind _ w, fun _ w => as_unaryKind_storeKind _ w, fun _ w => as_unaryKind_printKind _ w, fun _ w => as_unaryKind_loadKind _ w, fun _ w => as_unaryKind_constKind _ w, fun _ w => as_unaryKind_callKind _ w⟩⟩
 ·subst h
  have E : opsD ⟨21, iw, a, b, c, imm, args⟩ = [] := rfl
  refine ⟨_, _, _, ⟨kv_21 rfl, fun w => meth_const imm w, fun w => by kernel_rfl, fun lo w hs k => by rw [E]; exact op0_const imm w, fun _ w => as_constKind_strangeKind _ w, fun _ w => as_constKind_storeKind _ w, fun _ w => as_constKind_printKind _ w, fun _ w => as_constKind_loadKind _ w, fun hn => by exact absurd rfl hn, fun _ w => as_constKind_callKind _ w⟩⟩
 ·subst h
  have E : opsD ⟨22, iw, a, b, c, imm, args⟩ = [a, b, c] := rfl
  refine ⟨_, _, _, ⟨kv_22 rfl, fun w => meth_select a b c w, fun w => by kernel_rfl, fun lo w hs k => by rw [E]; exact op3_select a b c w, fun _ w => as_selectKind_strangeKind _ w, fun _ w => as_selectKind_storeKind _ w, fun _ w => as_selectKind_printKind _ w, fun _ w => as_selectKind_loadKind _ w, fun _ w => as_selectKind_constKind _ w, fun _ w => as_selectKind_callKind _ w⟩⟩
 ·subst h
  have E : opsD ⟨23, iw, a, b, c, imm, args⟩ = [a] := rfl
  refine ⟨_, _, _, ⟨kv_23 rfl, fun w => meth_load a w, fun w => by kernel_rfl, fun lo w hs k => by rw [E]; exact op1_load a w, fun _ w => as_loadKind_strangeKind _ w, fun _ w => as_loadKind_storeKind _ w, fun _ w => as_loadKind_printKind _ w, fun hn => by exact absurd rfl hn, fun _ w => as_loadKind_constKind _ w, fun _ w => as_loadKind_callKind _ w⟩⟩
 ·subst h
  have E : opsD ⟨24, iw, a, b, c, imm, args⟩ = [a, b] := rfl
  refine ⟨_, _, _, ⟨kv_24 rfl, fun w => meth_store a b w, fun w => by kernel_rfl, fun lo w hs k => by rw [E]; exact op2_store a b w, fun _ w => as_storeKind_strangeKind _ w, fun hn => by exact absurd rfl hn, fun _ w => as_storeKind_printKind _ w, fun _ w => as_storeKind_loadKind _ w, fun _ w => as_storeKind_constKind _ w, fun _ w => as_storeKind_callKind _ w⟩⟩
 ·subst h
  have E : opsD ⟨25, iw, a, b, c, imm, args⟩ = [a] := rfl
  refine ⟨_, _, _, ⟨kv_25 rfl, fun w => meth_print a w, fun w => by kernel_rfl, fun lo w hs k => by rw [E]; exact op1_print a w, fun _ w => as_printKind_strangeKind _ w, fun _ w => as_printKind_storeKind _ w, fun hn => by exact absurd rfl hn, fun _ w => as_printKind_loadKind _ w, fun _ w => as_printKind_constKind _ w, fun _ w => as_printKind_callKind _ w⟩⟩
 ·subst h
  have E : opsD ⟨26, iw, a, b, c, imm, args⟩ = args := rfl
  refine ⟨_, _, _, ⟨kv_26 rfl, fun w => meth_call imm u args.length q w, fun w => by kernel_rfl, fun lo w hs k => by rw [E]; exact opn_call lo imm args u q w hs k, fun _ w => as_callKind_strangeKind _ w, fun _ w => as_callKind_storeKind _ w, fun _ w => as_callKind_printKind _ w, fun _ w => as_callKind_loadKind _ w, fun _ w => as_callKind_constKind _ w, fun hn => by exact absurd rfl hn⟩⟩
 ·subst h
  have E : opsD ⟨27, iw, a, b, c, imm, args⟩ = [a] := rfl
  refine ⟨_, _, _, ⟨kv_27 rfl, fun w => meth_unary a w, fun w => by kernel_rfl, fun lo w hs k => by rw [E]; exact op1_unary a w, fun _ w => as_unaryKind_strangeKind _ w, fun _ w => as_unaryKind_storeKind _ w, fun _ w => as_unaryKind_printKind _ w, fun _ w => as_unaryKind_loadKind _ w, fun _ w => as_unaryKind_constKind _ w, fun _ w => as_unaryKind_callKind _ w⟩⟩
 ·have E : opsD ⟨op, iw, a, b, c, imm, args⟩ = [] := by
   have e0 : ¬ opB op = true := by rw [ho]; decide
   unfold opsD
   dsimp only
   rw [if_neg (by simp only [not_or]; exact ⟨e0, by omega⟩), if_neg (by omega), if_neg (by omega), if_neg (by omega)]
  refine ⟨_, _, _, ⟨kv_no ho h, fun w => meth_strange  w, fun w => by kernel_rfl, fun lo w hs k => by rw [E]; exact op0_strange w, fun hn => by exact absurd hn (by dsimp only; omega), fun _ w => as_strangeKind_storeKind _ w, fun _ w => as_strangeKind_printKind _ w, fun _ w => as_strangeKind_loadKind _ w, fun _ w => as_strangeKind_constKind _ w, fun _ w => as_strangeKind_callKind _ w⟩⟩
set_option maxRecDepth 100000 in
theorem operI (lo : Nat) (d : InstD) (u : Option Addr) (q : Nat) (w : World) (hs : d.args.length ≤ 1048576) (k : IntsAt w lo u d.args) :
  Calls Tryd.prog 12 #[.agg #[.int .i64 d.op, .int .i64 d.w, .int .i64 d.a, .int .i64 d.b, .int .i64 d.c, .int .i64 d.imm, .slice u d.args.length q]] w fun e w' => ∃ v r, e = .returned (.slice v (opsD d).length r) ∧ OwnAt w' w.heap.size v (opsD d) ∧ Below w.heap.size w w' := by
 obtain ⟨T, V, f, D⟩ := disp d u q
 have E := D.kv
 have K := fun w => kind_any d u q w
 rw [E] at K
 clear E
 have M := D.meth
 have CF := D.call
 have HC : Hid (∀ W, Below w.heap.size w W → Calls Tryd.prog f #[V] W fun e w' => ∃ a r, e = .returned (.slice a (opsD d).length r) ∧ OwnAt w' W.heap.size a (opsD d) ∧ Below W.heap.size W w') := fun W hW => D.con lo W hs (k.keep (agree_of_below hW _))
 clear D hs k
 go_enter Tryd.func12, Tryd.ntmps12
 go_wp2_with fail
 refine (K _).mono ?_
 rintro e w1 ⟨rfl, hb1⟩
 have hB := below_box (box0 hb1)
 go_wp2_with fail
 refine (HC.out _ hB).mono ?_
 rintro e w2 ⟨v, r, rfl, ho, hb2⟩
 go_wp2_with fail
 go_ret
 exact ⟨_, _, rfl, ho.low hB.size, hB.trans (hb2.mono hB.size)⟩
end Go.Proofs.YtenbodghkpbghaaDoor
namespace Go.Proofs.YtenbodghkpbghaaDoor
open Go.RowKit
set_option maxHeartbeats 1000000 in
theorem eqInts_any (lo lo' : Nat) (a b : Option Addr) (ca cb : Nat) (l : List Int) (w : World) (ha : IntsAt w lo a l) (hb : IntsAt w lo' b l) :
  Calls Tryd.prog 17 #[.slice a l.length ca, .slice b l.length cb] w fun e w' => e = .returned (.bool true) ∧ Below w.heap.size w w' := by
 have hm := ha.1
 go_enter Tryd.func17, Tryd.ntmps17
 go_wp2_with fail
 go_loopw [5] (fun i wr => ∃ (k : Nat), k ≤ l.length ∧ i = .int .i64 k ∧ Below w.heap.size w wr) (fun i _ => l.length - (intOf i).toNat)
 case atStart => exact ⟨0, by omega, rfl, Below.refl _ _⟩
 case round =>
  obtain ⟨k, hk, rfl, hB⟩ := hrel
  by_cases hlt : k < l.length
  ·rcases ha.2 with rfl | ⟨ba, offa, rfl, hla, hba, hca⟩
   ·simp at hlt
   rcases hb.2 with rfl | ⟨bb, offb, rfl, hlb, hbb, hcb⟩
   ·simp at hlt
   have e0 : wr.cell? ⟨ba, offa + k, none⟩ = some (.int .i64 (l.getD k 0)) := (cell_block (hB.block ba hba)).trans (hca k hlt)
   have e1 : wr.cell? ⟨bb, offb + k, none⟩ = some (.int .i64 (l.getD k 0)) := (cell_block (hB.block bb hbb)).trans (hcb k hlt)
   generalize l.getD k 0 = d at e0 e1
   have HB : Hid (Below w.heap.size w wr) := hB
   clear hca hcb hB ha hb
   go_wp2_with fail
   go_quiet (fail)
   go_wp2_with fail
   go_roundw
   case rel => exact ⟨k + 1, by omega, by go_num, below_drewN HB.out _⟩
   case measure => simp [intOf]; omega
  ·go_wp2_with fail
   go_ret
   exact ⟨rfl, hB⟩
set_option maxHeartbeats 2000000 in
theorem eqPhi_any (lo lo' : Nat) (d : PhiD) (u1 : Option Addr) (c1 : Nat) (v1 : Option Addr) (q1 : Nat) (w : World) (k1 : IntsAt w lo u1 d.ins) (n1 : IntsAt w lo' v1 d.ins) :
  Calls Tryd.prog 106 #[.agg #[.int .i64 d.w, .slice u1 d.ins.length c1], .agg #[.int .i64 d.w, .slice v1 d.ins.length q1]] w fun e w' => e = .returned (.bool true) ∧ Below w.heap.size w w' := by
 go_enter Tryd.func106, Tryd.ntmps106
 go_wp2_with (first | (go_at_call 17; refine (eqInts_any lo lo' _ _ _ _ _ _ (k1.keep (agree_of_below (((Below.refl w.heap.size w).alloc (Nat.le_refl _) _).alloc (by first | (simp; done) | (simp; omega)) _) _)) (n1.keep (agree_of_below (((Below.refl w.heap.size w).alloc (Nat.le_refl _) _).alloc (by first | (simp; done) | (simp; omega)) _) _))).mono ?_; rintro e w1 ⟨rfl, hb1⟩; have hcc1 := bcell hb1; have z1a : w.heap.size < w1.heap.size := (by have := hb1.size; (try simp at this); omega); have z1b : w.heap.size + 1 < w1.heap.size := (by have := hb1.size; (try simp at this); omega); have hB1 : Below w.heap.size w w1 := (((Below.refl w.heap.size w).alloc (Nat.le_refl _) _).alloc (by first | (simp; done) | (simp; omega)) _).trans (hb1.mono (by first | (simp; done) | (simp; omega)))))
 go_ret
 exact ⟨rfl, hB1⟩
set_option maxHeartbeats 2000000 in
theorem eqPhiS_any (lo lo' : Nat) (a b : Option Addr) (ca cb : Nat) (l : List PhiD) (w : World) (ha : PhisAt w lo a l) (hb : PhisAt w lo' b l) :
  Calls Tryd.prog 87 #[.slice a l.length ca, .slice b l.length cb] w fun e w' => e = .returned (.bool true) ∧ Below w.heap.size w w' := by
 have hm := ha.1
 go_enter Tryd.func87, Tryd.ntmps87
 go_wp2_with fail
 go_loopw [5] (fun i wr => ∃ (k : Nat), k ≤ l.length ∧ i = .int .i64 k ∧ Below w.heap.size w wr) (fun i _ => l.length - (intOf i).toNat)
 case atStart => exact ⟨0, by omega, rfl, Below.refl _ _⟩
 case round =>
  obtain ⟨k, hk, rfl, hB⟩ := hrel
  by_cases hlt : k < l.length
  ·rcases ha.2 with rfl | ⟨ba, offa, rfl, hla, hba, hca⟩
   ·simp at hlt
   rcases hb.2 with rfl | ⟨bb, offb, rfl, hlb, hbb, hcb⟩
   ·simp at hlt
   obtain ⟨h0, ⟨u1, c1, h1, k1⟩⟩ := hca k hlt
   obtain ⟨g0, ⟨v1, q1, g1, n1⟩⟩ := hcb k hlt
   generalize l.getD k phi0 = d at h0 g0 h1 g1 k1 n1
   have e0 : wr.cell? ⟨ba, offa + k * 2, none⟩ = some (.int .i64 d.w) := (cell_block (hB.block ba hba)).trans h0
   have f0 : wr.cell? ⟨bb, offb + k * 2, none⟩ = some (.int .i64 d.w) := (cell_block (hB.block bb hbb)).trans g0
   have e1 : wr.cell? ⟨ba, offa + k * 2 + 1, none⟩ = some (.slice u1 d.ins.length c1) := (cell_block (hB.block ba hba)).trans h1
   have f1 : wr.cell? ⟨bb, offb + k * 2 + 1, none⟩ = some (.slice v1 d.ins.length q1) := (cell_block (hB.block bb hbb)).trans g1
   have m1 := k1.keep (agree_of_below hB _)
   have o1 := n1.keep (agree_of_below hB _)
   have HB : Hid (Below w.heap.size w wr) := hB
   clear hca hcb hB ha hb h0 g0 h1 g1 k1 n1
   go_wp2_with fail
   go_region_with (go_at_call 106; refine (eqPhi_any lo lo' d _ _ _ _ _ (by exact m1) (by exact o1)).mono ?_; rintro e w1 ⟨rfl, hb1⟩)
   all_goals
    go_wp2_with fail
    go_roundw
    case rel =>
     have hx := HB.out
     have hy := hb1.mono (B' := w.heap.size) hx.size
     exact ⟨k + 1, by omega, by go_num, ⟨hy.os.trans hx.os, hy.tape.trans hx.tape, hy.output.trans hx.output, Nat.le_trans hx.size hy.size, fun i hi => (hy.block i hi).trans (hx.block i hi)⟩⟩
    case measure => simp [intOf]; omega
  ·go_wp2_with fail
   go_ret
   exact ⟨rfl, hB⟩
set_option maxHeartbeats 2000000 in
theorem eqInst_any (lo lo' : Nat) (d : InstD) (u6 : Option Addr) (c6 : Nat) (v6 : Option Addr) (q6 : Nat) (w : World) (k6 : IntsAt w lo u6 d.args) (n6 : IntsAt w lo' v6 d.args) :
  Calls Tryd.prog 107 #[.agg #[.int .i64 d.op, .int .i64 d.w, .int .i64 d.a, .int .i64 d.b, .int .i64 d.c, .int .i64 d.imm, .slice u6 d.args.length c6], .agg #[.int .i64 d.op, .int .i64 d.w, .int .i64 d.a, .int .i64 d.b, .int .i64 d.c, .int .i64 d.imm, .slice v6 d.args.length q6]] w fun e w' => e = .returned (.bool true) ∧ Below w.heap.size w w' := by
 go_enter Tryd.func107, Tryd.ntmps107
 go_wp2_with (first | (go_at_call 17; refine (eqInts_any lo lo' _ _ _ _ _ _ (k6.keep (agree_of_below (((Below.refl w.heap.size w).alloc (Nat.le_refl _) _).alloc (by first | (simp; done) | (simp; omega)) _) _)) (n6.keep (agree_of_below (((Below.refl w.heap.size w).alloc (Nat.le_refl _) _).alloc (by first | (simp; done) | (simp; omega)) _) _))).mono ?_; rintro e w1 ⟨rfl, hb1⟩; have hcc1 := bcell hb1; have z1a : w.heap.size < w1.heap.size := (by have := hb1.size; (try simp at this); omega); have z1b : w.heap.size + 1 < w1.heap.size := (by have := hb1.size; (try simp at this); omega); have hB1 : Below w.heap.size w w1 := (((Below.refl w.heap.size w).alloc (Nat.le_refl _) _).alloc (by first | (simp; done) | (simp; omega)) _).trans (hb1.mono (by first | (simp; done) | (simp; omega)))))
 go_ret
 exact ⟨rfl, hB1⟩
set_option maxHeartbeats 2000000 in
theorem eqInstS_any (lo lo' : Nat) (a b : Option Addr) (ca cb : Nat) (l : List InstD) (w : World) (ha : InstsAt w lo a l) (hb : InstsAt w lo' b l) :
  Calls Tryd.prog 88 #[.slice a l.length ca, .slice b l.length cb] w fun e w' => e = .returned (.bool true) ∧ Below w.heap.size w w' := by
 have hm := ha.1
 go_enter Tryd.func88, Tryd.ntmps88
 go_wp2_with fail
 go_loopw [5] (fun i wr => ∃ (k : Nat), k ≤ l.length ∧ i = .int .i64 k ∧ Below w.heap.size w wr) (fun i _ => l.length - (intOf i).toNat)
 case atStart => exact ⟨0, by omega, rfl, Below.refl _ _⟩
 case round =>
  obtain ⟨k, hk, rfl, hB⟩ := hrel
  by_cases hlt : k < l.length
  ·rcases ha.2 with rfl | ⟨ba, offa, rfl, hla, hba, hca⟩
   ·simp at hlt
   rcases hb.2 with rfl | ⟨bb, offb, rfl, hlb, hbb, hcb⟩
   ·simp at hlt
   obtain ⟨h0, h1, h2, h3, h4, h5, ⟨u6, c6, h6, k6⟩⟩ := hca k hlt
   obtain ⟨g0, g1, g2, g3, g4, g5, ⟨v6, q6, g6, n6⟩⟩ := hcb k hlt
   generalize l.getD k inst0 = d at h0 g0 h1 g1 h2 g2 h3 g3 h4 g4 h5 g5 h6 g6 k6 n6
   have e0 : wr.cell? ⟨ba, offa + k * 7, none⟩ = some (.int .i64 d.op) := (cell_block (hB.block ba hba)).trans h0
   have f0 : wr.cell? ⟨bb, offb + k * 7, none⟩ = some (.int .i64 d.op) := (cell_block (hB.block bb hbb)).trans g0
   have e1 : wr.cell? ⟨ba, offa + k * 7 + 1, none⟩ = some (.int .i64 d.w) := (cell_block (hB.block ba hba)).trans h1
   have f1 : wr.cell? ⟨bb, offb + k * 7 + 1, none⟩ = some (.int .i64 d.w) := (cell_block (hB.block bb hbb)).trans g1
   have e2 : wr.cell? ⟨ba, offa + k * 7 + 2, none⟩ = some (.int .i64 d.a) := (cell_block (hB.block ba hba)).trans h2
   have f2 : wr.cell? ⟨bb, offb + k * 7 + 2, none⟩ = some (.int .i64 d.a) := (cell_block (hB.block bb hbb)).trans g2
   have e3 : wr.cell? ⟨ba, offa + k * 7 + 3, none⟩ = some (.int .i64 d.b) := (cell_block (hB.block ba hba)).trans h3
   have f3 : wr.cell? ⟨bb, offb + k * 7 + 3, none⟩ = some (.int .i64 d.b) := (cell_block (hB.block bb hbb)).trans g3
   have e4 : wr.cell? ⟨ba, offa + k * 7 + 4, none⟩ = some (.int .i64 d.c) := (cell_block (hB.block ba hba)).trans h4
   have f4 : wr.cell? ⟨bb, offb + k * 7 + 4, none⟩ = some (.int .i64 d.c) := (cell_block (hB.block bb hbb)).trans g4
   have e5 : wr.cell? ⟨ba, offa + k * 7 + 5, none⟩ = some (.int .i64 d.imm) := (cell_block (hB.block ba hba)).trans h5
   have f5 : wr.cell? ⟨bb, offb + k * 7 + 5, none⟩ = some (.int .i64 d.imm) := (cell_block (hB.block bb hbb)).trans g5
   have e6 : wr.cell? ⟨ba, offa + k * 7 + 6, none⟩ = some (.slice u6 d.args.length c6) := (cell_block (hB.block ba hba)).trans h6
   have f6 : wr.cell? ⟨bb, offb + k * 7 + 6, none⟩ = some (.slice v6 d.args.length q6) := (cell_block (hB.block bb hbb)).trans g6
   have m6 := k6.keep (agree_of_below hB _)
   have o6 := n6.keep (agree_of_below hB _)
   have HB : Hid (Below w.heap.size w wr) := hB
   clear hca hcb hB ha hb h0 g0 h1 g1 h2 g2 h3 g3 h4 g4 h5 g5 h6 g6 k6 n6
   go_wp2_with fail
   go_region_with (go_at_call 107; refine (eqInst_any lo lo' d _ _ _ _ _ (by exact m6) (by exact o6)).mono ?_; rintro e w1 ⟨rfl, hb1⟩)
   all_goals
    go_wp2_with fail
    go_roundw
    case rel =>
     have hx := HB.out
     have hy := hb1.mono (B' := w.heap.size) hx.size
     exact ⟨k + 1, by omega, by go_num, ⟨hy.os.trans hx.os, hy.tape.trans hx.tape, hy.output.trans hx.output, Nat.le_trans hx.size hy.size, fun i hi => (hy.block i hi).trans (hx.block i hi)⟩⟩
    case measure => simp [intOf]; omega
  ·go_wp2_with fail
   go_ret
   exact ⟨rfl, hB⟩
set_option maxHeartbeats 2000000 in
theorem eqTerm_any (k a x y : Int) (w : World) :
  Calls Tryd.prog 89 #[.agg #[.int .i64 k, .int .i64 a, .int .i64 x, .int .i64 y], .agg #[.int .i64 k, .int .i64 a, .int .i64 x, .int .i64 y]] w fun e w' => e = .returned (.bool true) ∧ Below w.heap.size w w' := by
 go_enter Tryd.func89, Tryd.ntmps89
 go_wp2_with fail
 go_ret
 exact ⟨rfl, ((Below.refl w.heap.size w).alloc (Nat.le_refl _) _).alloc (by first | (simp; done) | (simp; omega)) _⟩
end Go.Proofs.YtenbodghkpbghaaDoor
namespace Go.Proofs.YtenbodghkpbghaaDoor
open Go.RowKit
set_option maxHeartbeats 2000000 in
theorem eqBlock_any (lo lo' : Nat) (d : BlockD) (u0 : Option Addr) (c0 : Nat) (u1 : Option Addr) (c1 : Nat) (v0 : Option Addr) (q0 : Nat) (v1 : Option Addr) (q1 : Nat) (w : World) (k0 : PhisAt w lo u0 d.phis) (k1 : InstsAt w lo u1 d.insts) (n0 : PhisAt w lo' v0 d.phis) (n1 : InstsAt w lo' v1 d.insts) :
  Calls Tryd.prog 58 #[.agg #[.slice u0 d.phis.length c0, .slice u1 d.insts.length c1, .int .i64 d.term.kind, .int .i64 d.term.a, .int .i64 d.term.x, .int .i64 d.term.y], .agg #[.slice v0 d.phis.length q0, .slice v1 d.insts.length q1, .int .i64 d.term.kind, .int .i64 d.term.a, .int .i64 d.term.x, .int .i64 d.term.y]] w fun e w' => e = .returned (.bool true) ∧ Below w.heap.size w w' := by
 go_enter Tryd.func58, Tryd.ntmps58
 go_wp2_with (first | (go_at_call 87; refine (eqPhiS_any lo lo' _ _ _ _ _ _ (k0.keep (agree_of_below (((Below.refl w.heap.size w).alloc (Nat.le_refl _) _).alloc (by first | (simp; done) | (simp; omega)) _) _)) (n0.keep (agree_of_below (((Below.refl w.heap.size w).alloc (Nat.le_refl _) _).alloc (by first | (simp; done) | (simp; omega)) _) _))).mono ?_; rintro e w1 ⟨rfl, hb1⟩; have hcc1 := bcell hb1; have z1a : w.heap.size < w1.heap.size := (by have := hb1.size; (try simp at this); omega); have z1b : w.heap.size + 1 < w1.heap.size := (by have := hb1.size; (try simp at this); omega); have hB1 : Below w.heap.size w w1 := (((Below.refl w.heap.size w).alloc (Nat.le_refl _) _).alloc (by first | (simp; done) | (simp; omega)) _).trans (hb1.mono (by first | (simp; done) | (simp; omega)))) | (go_at_call 88; refine (eqInstS_any lo lo' _ _ _ _ _ _ (k1.keep (agree_of_below hB1 _)) (n1.keep (agree_of_below hB1 _))).mono ?_; rintro e w2 ⟨rfl, hb2⟩; have hcc2 := bcell hb2; have z2a : w.heap.size < w2.heap.size := (by have := hb2.size; (try simp at this); omega); have z2b : w.heap.size + 1 < w2.heap.size := (by have := hb2.size; (try simp at this); omega); have hB2 : Below w.heap.size w w2 := hB1.trans (hb2.mono hB1.size)) | (go_at_call 89; refine (eqTerm_any _ _ _ _ _).mono ?_; rintro e w3 ⟨rfl, hb3⟩; have hcc3 := bcell hb3; have z3a : w.heap.size < w3.heap.size := (by have := hb3.size; (try simp at this); omega); have z3b : w.heap.size + 1 < w3.heap.size := (by have := hb3.size; (try simp at this); omega); have hB3 : Below w.heap.size w w3 := hB2.trans (hb3.mono hB2.size)))
 go_ret
 exact ⟨rfl, hB3⟩
set_option maxHeartbeats 2000000 in
theorem eqBlockS_any (lo lo' : Nat) (a b : Option Addr) (ca cb : Nat) (l : List BlockD) (w : World) (ha : BlocksAt w lo a l) (hb : BlocksAt w lo' b l) :
  Calls Tryd.prog 38 #[.slice a l.length ca, .slice b l.length cb] w fun e w' => e = .returned (.bool true) ∧ Below w.heap.size w w' := by
 have hm := ha.1
 go_enter Tryd.func38, Tryd.ntmps38
 go_wp2_with fail
 go_loopw [5] (fun i wr => ∃ (k : Nat), k ≤ l.length ∧ i = .int .i64 k ∧ Below w.heap.size w wr) (fun i _ => l.length - (intOf i).toNat)
 case atStart => exact ⟨0, by omega, rfl, Below.refl _ _⟩
 case round =>
  obtain ⟨k, hk, rfl, hB⟩ := hrel
  by_cases hlt : k < l.length
  ·rcases ha.2 with rfl | ⟨ba, offa, rfl, hla, hba, hca⟩
   ·simp at hlt
   rcases hb.2 with rfl | ⟨bb, offb, rfl, hlb, hbb, hcb⟩
   ·simp at hlt
   obtain ⟨⟨u0, c0, h0, k0⟩, ⟨u1, c1, h1, k1⟩, h2, h3, h4, h5⟩ := hca k hlt
   obtain ⟨⟨v0, q0, g0, n0⟩, ⟨v1, q1, g1, n1⟩, g2, g3, g4, g5⟩ := hcb k hlt
   generalize l.getD k block0 = d at h0 g0 h1 g1 h2 g2 h3 g3 h4 g4 h5 g5 k0 n0 k1 n1
   have e0 : wr.cell? ⟨ba, offa + k * 6, none⟩ = some (.slice u0 d.phis.length c0) := (cell_block (hB.block ba hba)).trans h0
   have f0 : wr.cell? ⟨bb, offb + k * 6, none⟩ = some (.slice v0 d.phis.length q0) := (cell_block (hB.block bb hbb)).trans g0
   have m0 := k0.keep (agree_of_below hB _)
   have o0 := n0.keep (agree_of_below hB _)
   have e1 : wr.cell? ⟨ba, offa + k * 6 + 1, none⟩ = some (.slice u1 d.insts.length c1) := (cell_block (hB.block ba hba)).trans h1
   have f1 : wr.cell? ⟨bb, offb + k * 6 + 1, none⟩ = some (.slice v1 d.insts.length q1) := (cell_block (hB.block bb hbb)).trans g1
   have m1 := k1.keep (agree_of_below hB _)
   have o1 := n1.keep (agree_of_below hB _)
   have e2 : wr.cell? ⟨ba, offa + k * 6 + 2, none⟩ = some (.int .i64 d.term.kind) := (cell_block (hB.block ba hba)).trans h2
   have f2 : wr.cell? ⟨bb, offb + k * 6 + 2, none⟩ = some (.int .i64 d.term.kind) := (cell_block (hB.block bb hbb)).trans g2
   have e3 : wr.cell? ⟨ba, offa + k * 6 + 3, none⟩ = some (.int .i64 d.term.a) := (cell_block (hB.block ba hba)).trans h3
   have f3 : wr.cell? ⟨bb, offb + k * 6 + 3, none⟩ = some (.int .i64 d.term.a) := (cell_block (hB.block bb hbb)).trans g3
   have e4 : wr.cell? ⟨ba, offa + k * 6 + 4, none⟩ = some (.int .i64 d.term.x) := (cell_block (hB.block ba hba)).trans h4
   have f4 : wr.cell? ⟨bb, offb + k * 6 + 4, none⟩ = some (.int .i64 d.term.x) := (cell_block (hB.block bb hbb)).trans g4
   have e5 : wr.cell? ⟨ba, offa + k * 6 + 5, none⟩ = some (.int .i64 d.term.y) := (cell_block (hB.block ba hba)).trans h5
   have f5 : wr.cell? ⟨bb, offb + k * 6 + 5, none⟩ = some (.int .i64 d.term.y) := (cell_block (hB.block bb hbb)).trans g5
   have HB : Hid (Below w.heap.size w wr) := hB
   clear hca hcb hB ha hb h0 g0 h1 g1 h2 g2 h3 g3 h4 g4 h5 g5 k0 n0 k1 n1
   go_wp2_with fail
   go_region_with (go_at_call 58; refine (eqBlock_any lo lo' d _ _ _ _ _ _ _ _ _ (by exact m0) (by exact m1) (by exact o0) (by exact o1)).mono ?_; rintro e w1 ⟨rfl, hb1⟩)
   all_goals
    go_wp2_with fail
    go_roundw
    case rel =>
     have hx := HB.out
     have hy := hb1.mono (B' := w.heap.size) hx.size
     exact ⟨k + 1, by omega, by go_num, ⟨hy.os.trans hx.os, hy.tape.trans hx.tape, hy.output.trans hx.output, Nat.le_trans hx.size hy.size, fun i hi => (hy.block i hi).trans (hx.block i hi)⟩⟩
    case measure => simp [intOf]; omega
  ·go_wp2_with fail
   go_ret
   exact ⟨rfl, hB⟩
set_option maxHeartbeats 2000000 in
theorem eqFunc_any (lo lo' : Nat) (d : FuncD) (u0 : Option Addr) (c0 : Nat) (u2 : Option Addr) (c2 : Nat) (v0 : Option Addr) (q0 : Nat) (v2 : Option Addr) (q2 : Nat) (w : World) (k0 : IntsAt w lo u0 d.params) (k2 : BlocksAt w lo u2 d.blocks) (n0 : IntsAt w lo' v0 d.params) (n2 : BlocksAt w lo' v2 d.blocks) :
  Calls Tryd.prog 16 #[.agg #[.slice u0 d.params.length c0, .int .i64 d.ret, .slice u2 d.blocks.length c2], .agg #[.slice v0 d.params.length q0, .int .i64 d.ret, .slice v2 d.blocks.length q2]] w fun e w' => e = .returned (.bool true) ∧ Below w.heap.size w w' := by
 go_enter Tryd.func16, Tryd.ntmps16
 go_wp2_with (first | (go_at_call 17; refine (eqInts_any lo lo' _ _ _ _ _ _ (k0.keep (agree_of_below (((Below.refl w.heap.size w).alloc (Nat.le_refl _) _).alloc (by first | (simp; done) | (simp; omega)) _) _)) (n0.keep (agree_of_below (((Below.refl w.heap.size w).alloc (Nat.le_refl _) _).alloc (by first | (simp; done) | (simp; omega)) _) _))).mono ?_; rintro e w1 ⟨rfl, hb1⟩; have hcc1 := bcell hb1; have z1a : w.heap.size < w1.heap.size := (by have := hb1.size; (try simp at this); omega); have z1b : w.heap.size + 1 < w1.heap.size := (by have := hb1.size; (try simp at this); omega); have hB1 : Below w.heap.size w w1 := (((Below.refl w.heap.size w).alloc (Nat.le_refl _) _).alloc (by first | (simp; done) | (simp; omega)) _).trans (hb1.mono (by first | (simp; done) | (simp; omega)))) | (go_at_call 38; refine (eqBlockS_any lo lo' _ _ _ _ _ _ (k2.keep (agree_of_below hB1 _)) (n2.keep (agree_of_below hB1 _))).mono ?_; rintro e w2 ⟨rfl, hb2⟩; have hcc2 := bcell hb2; have z2a : w.heap.size < w2.heap.size := (by have := hb2.size; (try simp at this); omega); have z2b : w.heap.size + 1 < w2.heap.size := (by have := hb2.size; (try simp at this); omega); have hB2 : Below w.heap.size w w2 := hB1.trans (hb2.mono hB1.size)))
 go_ret
 exact ⟨rfl, hB2⟩
end Go.Proofs.YtenbodghkpbghaaDoor
namespace Go.Proofs.YtenbodghkpbghaaDoor
open Go.RowKit
def namesT (t : TermD) : List Int := if t.kind = 1 ∨ t.kind = 3 then [t.a] else []
set_option maxHeartbeats 1000000 in
theorem termI (t : TermD) (w : World) : Calls Tryd.prog 98 #[.agg #[.int .i64 t.kind, .int .i64 t.a, .int .i64 t.x, .int .i64 t.y]] w fun e w' => ∃ v r, e = .returned (.slice v (namesT t).length r) ∧ OwnAt w' w.heap.size v (namesT t) ∧ Below w.heap.size w w' := by
 obtain ⟨kind, a, x, y⟩ := t
 dsimp only
 by_cases h1 : kind = 1
 ·subst h1
  have E : namesT ⟨1, a, x, y⟩ = [a] := rfl
  rw [E]
  clear E
  go_enter Tryd.func98, Tryd.ntmps98
  go_wp2_with fail
  go_ret
  exact ⟨_, _, rfl, own_mk2 rfl (by simp) (one_cells a), ((Below.refl _ _).alloc (Nat.le_refl _) _).alloc (by simp) _⟩
 ·by_cases h3 : kind = 3
  ·subst h3
   have E : namesT ⟨3, a, x, y⟩ = [a] := rfl
   rw [E]
   clear E
   go_enter Tryd.func98, Tryd.ntmps98
   go_wp2_with fail
   go_ret
   exact ⟨_, _, rfl, own_mk2 rfl (by simp) (one_cells a), ((Below.refl _ _).alloc (Nat.le_refl _) _).alloc (by simp) _⟩
  ·have E : namesT ⟨kind, a, x, y⟩ = [] := by simp [namesT, h1, h3]
   rw [E]
   clear E
   have g1 : (kind == 1) = false := by simpa using h1
   have g3 : (kind == 3) = false := by simpa using h3
   go_enter Tryd.func98, Tryd.ntmps98
   go_wp2_with fail
   go_ret
   exact ⟨_, _, rfl, ⟨by simp, .inl rfl⟩, (Below.refl _ _).alloc (Nat.le_refl _) _⟩
end Go.Proofs.YtenbodghkpbghaaDoor
namespace Go.Proofs.YtenbodghkpbghaaDoor
open Go.RowKit
def Row (w : World) (base : Nat) (v : Value) (l : List Int) : Prop := w.ownsRow base 2 1 v l.length (l.map (Value.int .i64))
theorem Row.nil (w : World) (base : Nat) : Row w base (.slice none 0 0) [] := World.ownsRow_nil _ _ _ _
theorem Row.slice {w : World} {base : Nat} {v : Value} {l : List Int} (h : Row w base v l) : ∃ a c, v = .slice a l.length c := by
 rcases h.2 with ⟨rfl, hn⟩ | ⟨g, cap, cur, rfl, _⟩
 ·exact ⟨none, 0, by rw [hn]⟩
 ·exact ⟨_, _, rfl⟩
theorem Row.ge {w : World} {base : Nat} {v : Value} {l : List Int} (h : Row w base v l) {g : Nat} (hv : v.ownBlock = some g) : base ≤ g ∧ g < w.heap.size := by
 rcases h.2 with ⟨rfl, _⟩ | ⟨g', cap, cur, rfl, hb, hg, r⟩
 ·cases hv
 ·cases hv; exact ⟨hb, (Array.getElem?_eq_some_iff.1 hg).1⟩
theorem Row.block {w w' : World} {base : Nat} {v : Value} {l : List Int} (h : Row w base v l) (k : ∀ g, v.ownBlock = some g → g < w.heap.size → w'.heap[g]? = w.heap[g]?) : Row w' base v l := by
 refine ⟨h.1, ?_⟩
 rcases h.2 with h2 | ⟨g, cap, cur, rfl, hb, hg, r⟩
 ·exact .inl h2
 ·exact .inr ⟨g, cap, cur, rfl, hb, (k g rfl (Array.getElem?_eq_some_iff.1 hg).1).trans hg, r⟩
theorem Row.keep {w w' : World} {base : Nat} {v : Value} {l : List Int} (h : Row w base v l) (k : Below w.heap.size w w') : Row w' base v l := h.block fun g _ hg => k.block g hg
theorem Row.alloc {w : World} {base : Nat} {v : Value} {l : List Int} (h : Row w base v l) (o : Obj) : Row (w.alloc o) base v l := World.ownsRow.alloc h o
theorem Row.low {w : World} {lo lo' : Nat} {v : Value} {l : List Int} (h : Row w lo v l) (k : lo' ≤ lo) : Row w lo' v l := by
 refine ⟨h.1, ?_⟩
 rcases h.2 with h2 | ⟨g, cap, cur, hv, hb, r⟩
 ·exact .inl h2
 ·exact .inr ⟨g, cap, cur, hv, Nat.le_trans k hb, r⟩
theorem Row.ints {w : World} {base : Nat} {v : Value} {l : List Int} (hm : l.length ≤ 4194304) (h : Row w base v l) : ∃ u c, v = .slice u l.length c ∧ IntsAt w base u l := by
 rcases h.2 with ⟨hv, hn⟩ | ⟨g, cap, cur, hv, hb, hg, hnc, _, hcs, htk⟩
 ·exact ⟨none, 0, by rw [hv, hn], by omega, .inl (List.length_eq_zero_iff.1 hn)⟩
 ·refine ⟨_, cap, hv, by omega, .inr ⟨g, 0, rfl, hb, (Array.getElem?_eq_some_iff.1 hg).1, fun i hi => ?_⟩⟩
  have e : (cur.toList.take (l.length * 1))[i]? = (l.map (Value.int .i64))[i]? := by rw [htk]
  rw [List.getElem?_take, if_pos (by omega)] at e
  simp [hi] at e
  rw [Nat.zero_add, cell_of_heap hg]
  simpa [List.getD, hi] using e
theorem Row.lit (w : World) (base : Nat) (h : base ≤ w.heap.size) : Row (w.alloc (.cells #[] 2)) base (.slice (some ⟨w.heap.size, 0, none⟩) 0 0) [] :=
 World.ownsRow_lit w #[] 0 h (by decide) (by simp)
theorem one_cell (w : World) (v : Value) (t : TypeId) : (w.alloc (.cells #[v] t)).cell? ⟨w.heap.size, 0, none⟩ = some v := (cell_of_heap (heap_alloc_last _ _)).trans rfl
theorem one_cell_at {w : World} {v : Value} {t : TypeId} {s : Nat} (h : w.heap.size = s) : (w.alloc (.cells #[v] t)).cell? ⟨s, 0, none⟩ = some v := by subst h; exact one_cell w v t
theorem push_int {ops : Array Oper} {rest : List Oper} {o : Oper} {a : Act} {Q : Exit → Act → World → Prop} {w : World} (hgd : o.guard = none) (s x : Operand)
  (ho : o.op = .call { callee := .builtin .append, args := #[s, x], argTypes := #[24, 24] })
  (base : Nat) (v : Value) (l : List Int) (hs : a.eval s = v) (hown : Row w base v l) (n : Int) (b c : Nat) (hx : a.eval x = .slice (some ⟨b, 0, none⟩) 1 c) (hc : w.cell? ⟨b, 0, none⟩ = some (.int .i64 n)) (hl : l.length ≤ 4194304) (hbase : base ≤ w.heap.size)
  (h : ∀ v' w', Row w' base v' (l ++ [n]) → w.grownBy w' v.ownBlock → wpList Tryd.prog ops Q rest (a.put o.dst v') w') : wpList Tryd.prog ops Q (o :: rest) a w := by
 obtain ⟨i0, hi, hz0, hz1, hz2⟩ := info_parts infoI
 refine wpList_append_own w hgd s x 24 ho base 2 i0 (.int .i64 0) 1 8 Tryd.underlying24 hi hz0 hz1 hz2 rfl (by decide) v l.length (l.map (Value.int .i64)) hs hown ⟨b, 0, none⟩ 1 c [.int .i64 n] hx (by simp) ?_ (by simp [Value.oneCell']) (by unfold maxLen; omega) (by omega) hbase ?_
 ·intro j u hj
  match j, hj with
  | 0, hj => rw [Addr.add_lit]; simp at hj; rw [← hj]; exact hc
 ·intro v' w' h1 h2 _
  refine h v' w' ?_ h2
  unfold Row
  rw [List.length_append, List.map_append]
  exact h1
end Go.Proofs.YtenbodghkpbghaaDoor
