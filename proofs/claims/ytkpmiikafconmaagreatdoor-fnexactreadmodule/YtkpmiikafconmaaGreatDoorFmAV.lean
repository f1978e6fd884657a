import Derived.Test.YtkpmiikafconmaaGreatDoorOps2V
import Derived.Test.YtkpmiikafconmaaGreatDoorCntV
namespace Go.Proofs.YtkpmiikafconmaaGreatDoor
open Go.RowKit
set_option linter.unusedVariables false
def belowB (n c : Int) : Bool := decide (0 ≤ n) && decide (n < c)
def termB (t : TermD) (ids blocks : Int) : Bool :=
 if t.kind = 1 then belowB t.a ids && t.x == 0 && t.y == 0
 else if t.kind = 2 then belowB t.x blocks && t.a == 0 && t.y == 0
 else if t.kind = 3 then belowB t.a ids && belowB t.x blocks && belowB t.y blocks && t.x != t.y
 else t.kind == 4 && t.a == 0 && t.x == 0 && t.y == 0
theorem in_below (n c : Int) : (decide (0 ≤ n) && decide (n ≤ c - 1)) = belowB n c := by
 unfold belowB
 by_cases h : n < c
 ·rw [decide_eq_true h, decide_eq_true (show n ≤ c - 1 by omega)]
 ·rw [decide_eq_false h, decide_eq_false (show ¬ n ≤ c - 1 by omega)]
theorem inB (n c : Int) (w : World) : Calls Tryz.prog 49 #[.int .i64 n, .int .i64 0, .int .i64 (c - 1)] w fun e w' => e = .returned (.bool (belowB n c)) ∧ w' = w := by
 have h := inS n 0 (c - 1) w
 rw [in_below] at h
 exact h
theorem belowFI (n c : Int) (w : World) : Calls Tryz.prog 137 #[.int .i64 n, .int .i64 c] w fun e w' => e = .returned (.bool (belowB n c)) ∧ w' = w := by
 by_cases h0 : 0 ≤ n
 ·by_cases h1 : n < c
  ·have E : Hid (true = belowB n c) := by show _ = _; rw [belowB, decide_eq_true h0, decide_eq_true h1]; rfl
   go_enter Tryz.func137, Tryz.ntmps137
   go_wp2_with fail
   go_ret
   exact ⟨ret_bool (by simpa [h0, h1] using E.out), rfl⟩
  ·have E : Hid (false = belowB n c) := by show _ = _; rw [belowB, decide_eq_true h0, decide_eq_false h1]; rfl
   go_enter Tryz.func137, Tryz.ntmps137
   go_wp2_with fail
   go_ret
   exact ⟨ret_bool (by simpa [h0, h1] using E.out), rfl⟩
 ·have E : Hid (false = belowB n c) := by show _ = _; rw [belowB, decide_eq_false h0]; rfl
  go_enter Tryz.func137, Tryz.ntmps137
  go_wp2_with fail
  go_ret
  exact ⟨ret_bool (by simpa [h0] using E.out), rfl⟩
theorem all_no {α : Type} (z : α) {f : α → Bool} (l : List α) (k : Nat) (h : k < l.length) (hn : ¬ f (l.getD k z) = true) : l.all f = false := by
 rw [List.all_eq_false]
 exact ⟨_, getD_mem z l k h, hn⟩
theorem all_yes {α : Type} (z : α) {f : α → Bool} (l : List α) (h : ∀ j, j < l.length → f (l.getD j z) = true) : l.all f = true := by
 rw [List.all_eq_true]
 intro x hx
 obtain ⟨j, hj, e⟩ := List.getElem_of_mem hx
 have := h j hj
 simp [List.getD, hj] at this
 rw [← e]; exact this
set_option maxHeartbeats 1000000 in
theorem allBelowI (lo : Nat) (a : Option Addr) (cap : Nat) (l : List Int) (c : Int) (w : World) (hv : IntsAt w lo a l) :
  Calls Tryz.prog 108 #[.slice a l.length cap, .int .i64 c] w fun e w' => e = .returned (.bool (l.all fun n => belowB n c)) ∧ w' = w := by
 have hm := hv.1
 go_enter Tryz.func108, Tryz.ntmps108
 go_wp2_with fail
 go_loop [9] (fun i => ∃ k : Nat, k ≤ l.length ∧ i = .int .i64 k ∧ Hid (∀ j, j < k → (fun n => belowB n c) (l.getD j 0) = true)) (fun i => l.length - (intOf i).toNat)
 case atStart => exact ⟨0, by omega, rfl, fun j hj => by omega⟩
 case round =>
  obtain ⟨k, hk, rfl, HD⟩ := hrel
  by_cases hlt : k < l.length
  ·rcases hv.2 with rfl | ⟨b, off, rfl, hlo, hb, hcell⟩
   ·simp at hlt
   have e0 := hcell k hlt
   generalize hx : l.getD k 0 = x at e0
   have HX : Hid (l.getD k 0 = x) := hx
   clear hcell hx hv
   by_cases hp : (fun n => belowB n c) x = true
   ·have HP : Hid ((fun n => belowB n c) x = true) := hp
    dsimp only at hp
    go_wp2_with (go_at_call 137; refine (belowFI _ _ _).mono ?_; rintro e w' ⟨rfl, rfl⟩)
    exact ⟨⟨k + 1, by omega, by go_num, fun j hj => by
     by_cases e : j = k
     ·subst e; rw [HX.out]; exact HP.out
     ·exact HD.out j (by omega)⟩, by simp only [intOf]; omega⟩
   ·have HP : Hid (¬ (fun n => belowB n c) x = true) := hp
    dsimp only at hp
    have hp2 := Bool.eq_false_iff.2 hp
    clear hp
    go_wp2_with (go_at_call 137; refine (belowFI _ _ _).mono ?_; rintro e w' ⟨rfl, rfl⟩)
    go_ret
    refine ⟨ret_bool ?_, rfl⟩
    exact (all_no 0 l k hlt (by rw [HX.out]; exact HP.out)).symm
  ·have hke : k = l.length := by omega
   go_wp2_with fail
   go_ret
   exact ⟨ret_bool (all_yes 0 l (fun j hj => HD.out j (by omega))).symm, rfl⟩
set_option maxHeartbeats 1000000 in
theorem allWidthsI (lo : Nat) (a : Option Addr) (cap : Nat) (l : List Int) (w : World) (hv : IntsAt w lo a l) :
  Calls Tryz.prog 70 #[.slice a l.length cap] w fun e w' => e = .returned (.bool (l.all fun n => widthB n)) ∧ w' = w := by
 have hm := hv.1
 go_enter Tryz.func70, Tryz.ntmps70
 go_wp2_with fail
 go_loop [7] (fun i => ∃ k : Nat, k ≤ l.length ∧ i = .int .i64 k ∧ Hid (∀ j, j < k → (fun n => widthB n) (l.getD j 0) = true)) (fun i => l.length - (intOf i).toNat)
 case atStart => exact ⟨0, by omega, rfl, fun j hj => by omega⟩
 case round =>
  obtain ⟨k, hk, rfl, HD⟩ := hrel
  by_cases hlt : k < l.length
  ·rcases hv.2 with rfl | ⟨b, off, rfl, hlo, hb, hcell⟩
   ·simp at hlt
   have e0 := hcell k hlt
   generalize hx : l.getD k 0 = x at e0
   have HX : Hid (l.getD k 0 = x) := hx
   clear hcell hx hv
   by_cases hp : (fun n => widthB n) x = true
   ·have HP : Hid ((fun n => widthB n) x = true) := hp
    dsimp only at hp
    go_wp2_with (go_at_call 71; refine (widthI _ _).mono ?_; rintro e w' ⟨rfl, rfl⟩)
    exact ⟨⟨k + 1, by omega, by go_num, fun j hj => by
     by_cases e : j = k
     ·subst e; rw [HX.out]; exact HP.out
     ·exact HD.out j (by omega)⟩, by simp only [intOf]; omega⟩
   ·have HP : Hid (¬ (fun n => widthB n) x = true) := hp
    dsimp only at hp
    have hp2 := Bool.eq_false_iff.2 hp
    clear hp
    go_wp2_with (go_at_call 71; refine (widthI _ _).mono ?_; rintro e w' ⟨rfl, rfl⟩)
    go_ret
    refine ⟨ret_bool ?_, rfl⟩
    exact (all_no 0 l k hlt (by rw [HX.out]; exact HP.out)).symm
  ·have hke : k = l.length := by omega
   go_wp2_with fail
   go_ret
   exact ⟨ret_bool (all_yes 0 l (fun j hj => HD.out j (by omega))).symm, rfl⟩
set_option maxHeartbeats 1000000 in
theorem termShI1 (a x y ids blocks funcs : Int) (w : World) :
  Calls Tryz.prog 110 #[.agg #[.int .i64 1, .int .i64 a, .int .i64 x, .int .i64 y], .agg #[.int .i64 ids, .int .i64 blocks, .int .i64 funcs]] w fun e w' => e = .returned (.bool (termB ⟨1, a, x, y⟩ ids blocks)) ∧ Below w.heap.size w w' := by
 go_enter Tryz.func110, Tryz.ntmps110
 go_wp2_with (go_at_call 137; refine (belowFI _ _ _).mono ?_; rintro e w' ⟨rfl, rfl⟩)
 all_goals
  go_ret
  refine ⟨ret_bool ?_, ((Below.refl _ _).alloc (Nat.le_refl _) _).alloc (by simp) _⟩
  simp_all [termB]
set_option maxHeartbeats 1000000 in
theorem termShS1 (a x y ids blocks : Int) (w : World) (g0 : 0 ≤ ids) (g1 : ids ≤ 4611686018427387904) (g2 : 0 ≤ blocks) (g3 : blocks ≤ 4611686018427387904) :
  Calls Tryz.prog 88 #[.agg #[.int .i64 1, .int .i64 a, .int .i64 x, .int .i64 y], .int .i64 ids, .int .i64 blocks] w fun e w' => e = .returned (.bool (termB ⟨1, a, x, y⟩ ids blocks)) ∧ Below w.heap.size w w' := by
 go_enter Tryz.func88, Tryz.ntmps88
 go_wp2_with (go_at_call 49; refine (inB _ _ _).mono ?_; rintro e w' ⟨rfl, rfl⟩)
 all_goals
  go_ret
  refine ⟨ret_bool ?_, (Below.refl _ _).alloc (Nat.le_refl _) _⟩
  simp_all [termB]
set_option maxHeartbeats 1000000 in
theorem termShI2 (a x y ids blocks funcs : Int) (w : World) :
  Calls Tryz.prog 110 #[.agg #[.int .i64 2, .int .i64 a, .int .i64 x, .int .i64 y], .agg #[.int .i64 ids, .int .i64 blocks, .int .i64 funcs]] w fun e w' => e = .returned (.bool (termB ⟨2, a, x, y⟩ ids blocks)) ∧ Below w.heap.size w w' := by
 go_enter Tryz.func110, Tryz.ntmps110
 go_wp2_with (go_at_call 137; refine (belowFI _ _ _).mono ?_; rintro e w' ⟨rfl, rfl⟩)
 all_goals
  go_ret
  refine ⟨ret_bool ?_, ((Below.refl _ _).alloc (Nat.le_refl _) _).alloc (by simp) _⟩
  simp_all [termB]
set_option maxHeartbeats 1000000 in
theorem termShS2 (a x y ids blocks : Int) (w : World) (g0 : 0 ≤ ids) (g1 : ids ≤ 4611686018427387904) (g2 : 0 ≤ blocks) (g3 : blocks ≤ 4611686018427387904) :
  Calls Tryz.prog 88 #[.agg #[.int .i64 2, .int .i64 a, .int .i64 x, .int .i64 y], .int .i64 ids, .int .i64 blocks] w fun e w' => e = .returned (.bool (termB ⟨2, a, x, y⟩ ids blocks)) ∧ Below w.heap.size w w' := by
 go_enter Tryz.func88, Tryz.ntmps88
 go_wp2_with (go_at_call 49; refine (inB _ _ _).mono ?_; rintro e w' ⟨rfl, rfl⟩)
 all_goals
  go_ret
  refine ⟨ret_bool ?_, (Below.refl _ _).alloc (Nat.le_refl _) _⟩
  simp_all [termB]
set_option maxHeartbeats 1000000 in
theorem termShI3 (a x y ids blocks funcs : Int) (w : World) :
  Calls Tryz.prog 110 #[.agg #[.int .i64 3, .int .i64 a, .int .i64 x, .int .i64 y], .agg #[.int .i64 ids, .int .i64 blocks, .int .i64 funcs]] w fun e w' => e = .returned (.bool (termB ⟨3, a, x, y⟩ ids blocks)) ∧ Below w.heap.size w w' := by
 go_enter Tryz.func110, Tryz.ntmps110
 go_wp2_with (go_at_call 137; refine (belowFI _ _ _).mono ?_; rintro e w' ⟨rfl, rfl⟩)
 all_goals
  go_ret
  refine ⟨ret_bool ?_, ((Below.refl _ _).alloc (Nat.le_refl _) _).alloc (by simp) _⟩
  simp_all [termB]
set_option maxHeartbeats 1000000 in
theorem termShS3 (a x y ids blocks : Int) (w : World) (g0 : 0 ≤ ids) (g1 : ids ≤ 4611686018427387904) (g2 : 0 ≤ blocks) (g3 : blocks ≤ 4611686018427387904) :
  Calls Tryz.prog 88 #[.agg #[.int .i64 3, .int .i64 a, .int .i64 x, .int .i64 y], .int .i64 ids, .int .i64 blocks] w fun e w' => e = .returned (.bool (termB ⟨3, a, x, y⟩ ids blocks)) ∧ Below w.heap.size w w' := by
 go_enter Tryz.func88, Tryz.ntmps88
 go_wp2_with (go_at_call 49; refine (inB _ _ _).mono ?_; rintro e w' ⟨rfl, rfl⟩)
 all_goals
  go_ret
  refine ⟨ret_bool ?_, (Below.refl _ _).alloc (Nat.le_refl _) _⟩
  simp_all [termB]
set_option maxHeartbeats 1000000 in
theorem termShI4 (a x y ids blocks funcs : Int) (w : World) :
  Calls Tryz.prog 110 #[.agg #[.int .i64 4, .int .i64 a, .int .i64 x, .int .i64 y], .agg #[.int .i64 ids, .int .i64 blocks, .int .i64 funcs]] w fun e w' => e = .returned (.bool (termB ⟨4, a, x, y⟩ ids blocks)) ∧ Below w.heap.size w w' := by
 go_enter Tryz.func110, Tryz.ntmps110
 go_wp2_with (go_at_call 137; refine (belowFI _ _ _).mono ?_; rintro e w' ⟨rfl, rfl⟩)
 all_goals
  go_ret
  refine ⟨ret_bool ?_, ((Below.refl _ _).alloc (Nat.le_refl _) _).alloc (by simp) _⟩
  simp_all [termB]
set_option maxHeartbeats 1000000 in
theorem termShS4 (a x y ids blocks : Int) (w : World) (g0 : 0 ≤ ids) (g1 : ids ≤ 4611686018427387904) (g2 : 0 ≤ blocks) (g3 : blocks ≤ 4611686018427387904) :
  Calls Tryz.prog 88 #[.agg #[.int .i64 4, .int .i64 a, .int .i64 x, .int .i64 y], .int .i64 ids, .int .i64 blocks] w fun e w' => e = .returned (.bool (termB ⟨4, a, x, y⟩ ids blocks)) ∧ Below w.heap.size w w' := by
 go_enter Tryz.func88, Tryz.ntmps88
 go_wp2_with (go_at_call 49; refine (inB _ _ _).mono ?_; rintro e w' ⟨rfl, rfl⟩)
 all_goals
  go_ret
  refine ⟨ret_bool ?_, (Below.refl _ _).alloc (Nat.le_refl _) _⟩
  simp_all [termB]
set_option maxHeartbeats 1000000 in
theorem termShI0 (k a x y ids blocks funcs : Int) (w : World) (h1 : ¬ k = 1) (h2 : ¬ k = 2) (h3 : ¬ k = 3) (h4 : ¬ k = 4) :
  Calls Tryz.prog 110 #[.agg #[.int .i64 k, .int .i64 a, .int .i64 x, .int .i64 y], .agg #[.int .i64 ids, .int .i64 blocks, .int .i64 funcs]] w fun e w' => e = .returned (.bool (termB ⟨k, a, x, y⟩ ids blocks)) ∧ Below w.heap.size w w' := by
 go_enter Tryz.func110, Tryz.ntmps110
 go_wp2_with (go_at_call 137; refine (belowFI _ _ _).mono ?_; rintro e w' ⟨rfl, rfl⟩)
 go_ret
 refine ⟨ret_bool ?_, ((Below.refl _ _).alloc (Nat.le_refl _) _).alloc (by simp) _⟩
 simp [termB, h1, h2, h3, h4]
set_option maxHeartbeats 1000000 in
theorem termShS0 (k a x y ids blocks : Int) (w : World) (g0 : 0 ≤ ids) (g1 : ids ≤ 4611686018427387904) (g2 : 0 ≤ blocks) (g3 : blocks ≤ 4611686018427387904) (h1 : ¬ k = 1) (h2 : ¬ k = 2) (h3 : ¬ k = 3) (h4 : ¬ k = 4) :
  Calls Tryz.prog 88 #[.agg #[.int .i64 k, .int .i64 a, .int .i64 x, .int .i64 y], .int .i64 ids, .int .i64 blocks] w fun e w' => e = .returned (.bool (termB ⟨k, a, x, y⟩ ids blocks)) ∧ Below w.heap.size w w' := by
 have g4 : (k == 4) = false := by simpa using h4
 go_enter Tryz.func88, Tryz.ntmps88
 go_wp2_with (go_at_call 49; refine (inB _ _ _).mono ?_; rintro e w' ⟨rfl, rfl⟩)
 all_goals
  go_ret
  refine ⟨ret_bool ?_, (Below.refl _ _).alloc (Nat.le_refl _) _⟩
  simp_all [termB]
theorem termShI (t : TermD) (ids blocks funcs : Int) (w : World) :
  Calls Tryz.prog 110 #[.agg #[.int .i64 t.kind, .int .i64 t.a, .int .i64 t.x, .int .i64 t.y], .agg #[.int .i64 ids, .int .i64 blocks, .int .i64 funcs]] w fun e w' => e = .returned (.bool (termB t ids blocks)) ∧ Below w.heap.size w w' := by
 obtain ⟨k, a, x, y⟩ := t
 by_cases h1 : k = 1
 ·subst h1; exact termShI1 a x y ids blocks funcs w
 by_cases h2 : k = 2
 ·subst h2; exact termShI2 a x y ids blocks funcs w
 by_cases h3 : k = 3
 ·subst h3; exact termShI3 a x y ids blocks funcs w
 by_cases h4 : k = 4
 ·subst h4; exact termShI4 a x y ids blocks funcs w
 exact termShI0 k a x y ids blocks funcs w h1 h2 h3 h4
theorem termShS (t : TermD) (ids blocks : Int) (w : World) (g0 : 0 ≤ ids) (g1 : ids ≤ 4611686018427387904) (g2 : 0 ≤ blocks) (g3 : blocks ≤ 4611686018427387904) :
  Calls Tryz.prog 88 #[.agg #[.int .i64 t.kind, .int .i64 t.a, .int .i64 t.x, .int .i64 t.y], .int .i64 ids, .int .i64 blocks] w fun e w' => e = .returned (.bool (termB t ids blocks)) ∧ Below w.heap.size w w' := by
 obtain ⟨k, a, x, y⟩ := t
 by_cases h1 : k = 1
 ·subst h1; exact termShS1 a x y ids blocks w g0 g1 g2 g3
 by_cases h2 : k = 2
 ·subst h2; exact termShS2 a x y ids blocks w g0 g1 g2 g3
 by_cases h3 : k = 3
 ·subst h3; exact termShS3 a x y ids blocks w g0 g1 g2 g3
 by_cases h4 : k = 4
 ·subst h4; exact termShS4 a x y ids blocks w g0 g1 g2 g3
 exact termShS0 k a x y ids blocks w g0 g1 g2 g3 h1 h2 h3 h4
end Go.Proofs.YtkpmiikafconmaaGreatDoor
namespace Go.Proofs.YtkpmiikafconmaaGreatDoor
open Go.RowKit
set_option linter.unusedVariables false
def wB (d : InstD) : Bool := if d.op < 1 ∨ 27 < d.op then false else if d.op = 24 ∨ d.op = 25 then d.w == 0 else if d.op = 23 then d.w == 8 else widthB d.w
def iB (d : InstD) (funcs : Int) : Bool := if d.op = 21 then valueB d.w d.imm else if d.op = 26 then belowB d.imm funcs else d.imm == 0
def fB (d : InstD) : Bool :=
 if d.op = 26 then decide (d.args.length ≤ 4) && d.a == 0 && d.b == 0 && d.c == 0
 else decide (d.args.length = 0) && (decide (1 ≤ (opsD d).length) || d.a == 0) && (decide (2 ≤ (opsD d).length) || d.b == 0) && (decide (3 ≤ (opsD d).length) || d.c == 0)
def instB (d : InstD) (ids funcs : Int) : Bool := wB d && iB d funcs && fB d && (opsD d).all fun n => belowB n ids
set_option maxRecDepth 100000 in
theorem wI_no (d : InstD) (u : Option Addr) (q : Nat) (w : World) (ho : opB d.op = false) (h : d.op < 1 ∨ 27 < d.op) : Calls Tryz.prog 139 #[.agg #[.int .i64 d.op, .int .i64 d.w, .int .i64 d.a, .int .i64 d.b, .int .i64 d.c, .int .i64 d.imm, .slice u d.args.length q], kindV d u q] w fun e w' => e = .returned (.bool (wB d)) ∧ Below w.heap.size w w' := by
 rw [kv_no ho h]
 have E : Hid (false = wB d) := by show _ = _; rw [wB, if_pos h]
 have A := as_strangeKind_strangeKind
 go_enter Tryz.func139, Tryz.ntmps139
 go_wp2_with (go_at_call 71; refine (widthI _ _).mono ?_; rintro e w' ⟨rfl, rfl⟩)
 go_ret
 exact ⟨ret_bool E.out, (Below.refl _ _).alloc (Nat.le_refl _) _⟩
set_option maxRecDepth 100000 in
theorem wI_24 (d : InstD) (u : Option Addr) (q : Nat) (w : World) (h : d.op = 24) : Calls Tryz.prog 139 #[.agg #[.int .i64 d.op, .int .i64 d.w, .int .i64 d.a, .int .i64 d.b, .int .i64 d.c, .int .i64 d.imm, .slice u d.args.length q], kindV d u q] w fun e w' => e = .returned (.bool (wB d)) ∧ Below w.heap.size w w' := by
 rw [kv_24 h]
 have E : Hid ((d.w == 0) = wB d) := by show _ = _; rw [wB, h]; rfl
 have A_strange := as_storeKind_strangeKind
 have A_store := as_storeKind_storeKind
 have A_print := as_storeKind_printKind
 have A_load := as_storeKind_loadKind
 go_enter Tryz.func139, Tryz.ntmps139
 go_wp2_with (go_at_call 71; refine (widthI _ _).mono ?_; rintro e w' ⟨rfl, rfl⟩)
 go_ret
 exact ⟨ret_bool E.out, (Below.refl _ _).alloc (Nat.le_refl _) _⟩
set_option maxRecDepth 100000 in
theorem wI_25 (d : InstD) (u : Option Addr) (q : Nat) (w : World) (h : d.op = 25) : Calls Tryz.prog 139 #[.agg #[.int .i64 d.op, .int .i64 d.w, .int .i64 d.a, .int .i64 d.b, .int .i64 d.c, .int .i64 d.imm, .slice u d.args.length q], kindV d u q] w fun e w' => e = .returned (.bool (wB d)) ∧ Below w.heap.size w w' := by
 rw [kv_25 h]
 have E : Hid ((d.w == 0) = wB d) := by show _ = _; rw [wB, h]; rfl
 have A_strange := as_printKind_strangeKind
 have A_store := as_printKind_storeKind
 have A_print := as_printKind_printKind
 have A_load := as_printKind_loadKind
 go_enter Tryz.func139, Tryz.ntmps139
 go_wp2_with (go_at_call 71; refine (widthI _ _).mono ?_; rintro e w' ⟨rfl, rfl⟩)
 go_ret
 exact ⟨ret_bool E.out, (Below.refl _ _).alloc (Nat.le_refl _) _⟩
set_option maxRecDepth 100000 in
theorem wI_23 (d : InstD) (u : Option Addr) (q : Nat) (w : World) (h : d.op = 23) : Calls Tryz.prog 139 #[.agg #[.int .i64 d.op, .int .i64 d.w, .int .i64 d.a, .int .i64 d.b, .int .i64 d.c, .int .i64 d.imm, .slice u d.args.length q], kindV d u q] w fun e w' => e = .returned (.bool (wB d)) ∧ Below w.heap.size w w' := by
 rw [kv_23 h]
 have E : Hid ((d.w == 8) = wB d) := by show _ = _; rw [wB, h]; rfl
 have A_strange := as_loadKind_strangeKind
 have A_store := as_loadKind_storeKind
 have A_print := as_loadKind_printKind
 have A_load := as_loadKind_loadKind
 go_enter Tryz.func139, Tryz.ntmps139
 go_wp2_with (go_at_call 71; refine (widthI _ _).mono ?_; rintro e w' ⟨rfl, rfl⟩)
 go_ret
 exact ⟨ret_bool E.out, (Below.refl _ _).alloc (Nat.le_refl _) _⟩
set_option maxRecDepth 100000 in
theorem wI_more (d : InstD) (u : Option Addr) (q : Nat) (w : World) (h1 : 1 ≤ d.op ∧ d.op ≤ 27) (h4 : ¬ d.op = 24) (h5 : ¬ d.op = 25) (h3 : ¬ d.op = 23) : Calls Tryz.prog 139 #[.agg #[.int .i64 d.op, .int .i64 d.w, .int .i64 d.a, .int .i64 d.b, .int .i64 d.c, .int .i64 d.imm, .slice u d.args.length q], kindV d u q] w fun e w' => e = .returned (.bool (wB d)) ∧ Below w.heap.size w w' := by
 obtain ⟨T, v, f, D⟩ := disp d u q
 rw [D.kv]
 have E : Hid (widthB d.w = wB d) := by show _ = _; rw [wB, if_neg (by omega), if_neg (by omega), if_neg h3]
 have A1 := D.as_strange h1
 have A2 := D.as_store h4
 have A3 := D.as_print h5
 have A4 := D.as_load h3
 clear D h1 h4 h5 h3
 go_enter Tryz.func139, Tryz.ntmps139
 go_wp2_with (go_at_call 71; refine (widthI _ _).mono ?_; rintro e w' ⟨rfl, rfl⟩)
 go_ret
 exact ⟨ret_bool E.out, (Below.refl _ _).alloc (Nat.le_refl _) _⟩
theorem wI (d : InstD) (u : Option Addr) (q : Nat) (w : World) : Calls Tryz.prog 139 #[.agg #[.int .i64 d.op, .int .i64 d.w, .int .i64 d.a, .int .i64 d.b, .int .i64 d.c, .int .i64 d.imm, .slice u d.args.length q], kindV d u q] w fun e w' => e = .returned (.bool (wB d)) ∧ Below w.heap.size w w' := by
 by_cases h : d.op < 1 ∨ 27 < d.op
 ·exact wI_no d u q w (by simp [opB]; omega) h
 by_cases h4 : d.op = 24
 ·exact wI_24 d u q w h4
 by_cases h5 : d.op = 25
 ·exact wI_25 d u q w h5
 by_cases h3 : d.op = 23
 ·exact wI_23 d u q w h3
 exact wI_more d u q w (by omega) h4 h5 h3
set_option maxRecDepth 100000 in
theorem immI_21 (d : InstD) (u : Option Addr) (q : Nat) (ids blocks funcs : Int) (w : World) (h : d.op = 21) : Calls Tryz.prog 140 #[.agg #[.int .i64 d.op, .int .i64 d.w, .int .i64 d.a, .int .i64 d.b, .int .i64 d.c, .int .i64 d.imm, .slice u d.args.length q], kindV d u q, .agg #[.int .i64 ids, .int .i64 blocks, .int .i64 funcs]] w fun e w' => e = .returned (.bool (iB d funcs)) ∧ Below w.heap.size w w' := by
 rw [kv_21 h]
 have E : Hid (valueB d.w d.imm = iB d funcs) := by show _ = _; rw [iB, if_pos h]
 have A := as_constKind_constKind
 go_enter Tryz.func140, Tryz.ntmps140
 go_wp2_with (go_at_call 165; refine (valueI _ _ _).mono ?_; rintro e w' ⟨rfl, rfl⟩)
 go_ret
 exact ⟨ret_bool E.out, by first | exact ((Below.refl _ _).alloc (Nat.le_refl _) _).alloc (by simp) _ | exact (((Below.refl _ _).alloc (Nat.le_refl _) _).alloc (by simp) _).alloc (by simp; omega) _ | exact (Below.refl _ _).alloc (Nat.le_refl _) _⟩
set_option maxRecDepth 100000 in
theorem immI_26 (d : InstD) (u : Option Addr) (q : Nat) (ids blocks funcs : Int) (w : World) (h : d.op = 26) : Calls Tryz.prog 140 #[.agg #[.int .i64 d.op, .int .i64 d.w, .int .i64 d.a, .int .i64 d.b, .int .i64 d.c, .int .i64 d.imm, .slice u d.args.length q], kindV d u q, .agg #[.int .i64 ids, .int .i64 blocks, .int .i64 funcs]] w fun e w' => e = .returned (.bool (iB d funcs)) ∧ Below w.heap.size w w' := by
 rw [kv_26 h]
 have E : Hid (belowB d.imm funcs = iB d funcs) := by show _ = _; rw [iB, h]; rfl
 have A := as_callKind_constKind
 have A2 := as_callKind_callKind
 go_enter Tryz.func140, Tryz.ntmps140
 go_wp2_with (go_at_call 137; refine (belowFI _ _ _).mono ?_; rintro e w' ⟨rfl, rfl⟩)
 go_ret
 exact ⟨ret_bool E.out, by first | exact ((Below.refl _ _).alloc (Nat.le_refl _) _).alloc (by simp) _ | exact (((Below.refl _ _).alloc (Nat.le_refl _) _).alloc (by simp) _).alloc (by simp; omega) _ | exact (Below.refl _ _).alloc (Nat.le_refl _) _⟩
set_option maxRecDepth 100000 in
theorem immI_more (d : InstD) (u : Option Addr) (q : Nat) (ids blocks funcs : Int) (w : World) (h1 : ¬ d.op = 21) (h6 : ¬ d.op = 26) : Calls Tryz.prog 140 #[.agg #[.int .i64 d.op, .int .i64 d.w, .int .i64 d.a, .int .i64 d.b, .int .i64 d.c, .int .i64 d.imm, .slice u d.args.length q], kindV d u q, .agg #[.int .i64 ids, .int .i64 blocks, .int .i64 funcs]] w fun e w' => e = .returned (.bool (iB d funcs)) ∧ Below w.heap.size w w' := by
 obtain ⟨T, v, f, D⟩ := disp d u q
 rw [D.kv]
 have E : Hid ((d.imm == 0) = iB d funcs) := by show _ = _; rw [iB, if_neg h1, if_neg h6]
 have A1 := D.as_const h1
 have A2 := D.as_call h6
 clear D h1 h6
 go_enter Tryz.func140, Tryz.ntmps140
 go_wp2_with fail
 go_ret
 exact ⟨ret_bool E.out, by first | exact ((Below.refl _ _).alloc (Nat.le_refl _) _).alloc (by simp) _ | exact (((Below.refl _ _).alloc (Nat.le_refl _) _).alloc (by simp) _).alloc (by simp; omega) _ | exact (Below.refl _ _).alloc (Nat.le_refl _) _⟩
theorem immI (d : InstD) (u : Option Addr) (q : Nat) (ids blocks funcs : Int) (w : World) : Calls Tryz.prog 140 #[.agg #[.int .i64 d.op, .int .i64 d.w, .int .i64 d.a, .int .i64 d.b, .int .i64 d.c, .int .i64 d.imm, .slice u d.args.length q], kindV d u q, .agg #[.int .i64 ids, .int .i64 blocks, .int .i64 funcs]] w fun e w' => e = .returned (.bool (iB d funcs)) ∧ Below w.heap.size w w' := by
 by_cases h1 : d.op = 21
 ·exact immI_21 d u q ids blocks funcs w h1
 by_cases h6 : d.op = 26
 ·exact immI_26 d u q ids blocks funcs w h6
 exact immI_more d u q ids blocks funcs w h1 h6
end Go.Proofs.YtkpmiikafconmaaGreatDoor
namespace Go.Proofs.YtkpmiikafconmaaGreatDoor
open Go.RowKit
set_option linter.unusedVariables false
structure Noughts (n k : Nat) (a b c : Int) : Prop where
 f0 : n ≤ 0 → 0 < k → a = 0
 f1 : n ≤ 1 → 1 < k → b = 0
 f2 : n ≤ 2 → 2 < k → c = 0
theorem Noughts.start (n : Nat) (a b c : Int) : Noughts n n a b c := ⟨fun _ _ => by omega, fun _ _ => by omega, fun _ _ => by omega⟩
theorem Noughts.next0 {n : Nat} {a b c : Int} (h : Noughts n 0 a b c) (e : a = 0) : Noughts n 1 a b c := ⟨fun _ _ => e, fun _ _ => by omega, fun _ _ => by omega⟩
theorem Noughts.next1 {n : Nat} {a b c : Int} (h : Noughts n 1 a b c) (e : b = 0) : Noughts n 2 a b c := ⟨fun h1 _ => h.f0 h1 (by omega), fun _ _ => e, fun _ _ => by omega⟩
theorem Noughts.next2 {n : Nat} {a b c : Int} (h : Noughts n 2 a b c) (e : c = 0) : Noughts n 3 a b c := ⟨fun h1 _ => h.f0 h1 (by omega), fun h1 _ => h.f1 h1 (by omega), fun _ _ => e⟩
theorem Noughts.full {n k : Nat} {a b c : Int} (h : Noughts n k a b c) (hk : 3 ≤ k) : Noughts n 3 a b c := ⟨fun h1 _ => h.f0 h1 (by omega), fun h1 _ => h.f1 h1 (by omega), fun h1 _ => h.f2 h1 (by omega)⟩
theorem flds_yes {n : Nat} {a b c : Int} (h : Noughts n 3 a b c) : (true && (decide (1 ≤ n) || a == 0) && (decide (2 ≤ n) || b == 0) && (decide (3 ≤ n) || c == 0)) = true := by
 simp only [Bool.true_and, Bool.and_eq_true, Bool.or_eq_true, decide_eq_true_eq, beq_iff_eq]
 refine ⟨⟨?_, ?_⟩, ?_⟩
 ·by_cases e : 1 ≤ n
  ·exact .inl e
  ·exact .inr (h.f0 (by omega) (by omega))
 ·by_cases e : 2 ≤ n
  ·exact .inl e
  ·exact .inr (h.f1 (by omega) (by omega))
 ·by_cases e : 3 ≤ n
  ·exact .inl e
  ·exact .inr (h.f2 (by omega) (by omega))
theorem cells3 {w w' : World} {o : Obj} {a b c : Int} {T : TypeId} (h : Below ((w.alloc o).alloc (.cells #[.int .i64 a, .int .i64 b, .int .i64 c] T)).heap.size ((w.alloc o).alloc (.cells #[.int .i64 a, .int .i64 b, .int .i64 c] T)) w') :
  w'.cell? ⟨w.heap.size + 1, 0, none⟩ = some (.int .i64 a) ∧ w'.cell? ⟨w.heap.size + 1, 1, none⟩ = some (.int .i64 b) ∧ w'.cell? ⟨w.heap.size + 1, 2, none⟩ = some (.int .i64 c) ∧ Below w.heap.size w w' := by
 have hl := heap_alloc_last (w.alloc o) (.cells #[.int .i64 a, .int .i64 b, .int .i64 c] T)
 have e : (w.alloc o).heap.size = w.heap.size + 1 := by simp
 rw [e] at hl
 have hb := (h.block (w.heap.size + 1) (by simp)).trans hl
 exact ⟨(cell_of_heap hb).trans rfl, (cell_of_heap hb).trans rfl, (cell_of_heap hb).trans rfl, (((Below.refl _ _).alloc (Nat.le_refl _) _).alloc (by simp) _).trans (h.mono (by simp; omega))⟩
set_option maxHeartbeats 1000000 in
set_option maxRecDepth 100000 in
theorem fldI_more (lo : Nat) (d : InstD) (u : Option Addr) (q : Nat) (w : World) (h6 : ¬ d.op = 26) (hz : d.args.length = 0) (hk : IntsAt w lo u d.args) : Calls Tryz.prog 141 #[.agg #[.int .i64 d.op, .int .i64 d.w, .int .i64 d.a, .int .i64 d.b, .int .i64 d.c, .int .i64 d.imm, .slice u d.args.length q], kindV d u q] w fun e w' => e = .returned (.bool (fB d)) ∧ Below w.heap.size w w' := by
 obtain ⟨T, v, f, D⟩ := disp d u q
 rw [D.kv]
 have A2 := D.as_call h6
 have M := D.meth
 have C := fun w => D.con lo w (by omega)
 have F := D.call
 have yes' : Noughts (opsD d).length 3 d.a d.b d.c → true = fB d := fun h => by
  rw [fB, if_neg h6, decide_eq_true hz]
  exact (flds_yes h).symm
 have no0' : (opsD d).length ≤ 0 → ¬ d.a = 0 → false = fB d := fun h e => by
  rw [fB, if_neg h6]; simp [show ¬ 1 ≤ (opsD d).length by omega, e]
 have no1' : (opsD d).length ≤ 1 → ¬ d.b = 0 → false = fB d := fun h e => by
  rw [fB, if_neg h6]; simp [show ¬ 2 ≤ (opsD d).length by omega, e]
 have no2' : (opsD d).length ≤ 2 → ¬ d.c = 0 → false = fB d := fun h e => by
  rw [fB, if_neg h6]; simp [show ¬ 3 ≤ (opsD d).length by omega, e]
 have yes : Hid (Noughts (opsD d).length 3 d.a d.b d.c → true = fB d) := yes'
 have no0 : Hid ((opsD d).length ≤ 0 → ¬ d.a = 0 → false = fB d) := no0'
 have no1 : Hid ((opsD d).length ≤ 1 → ¬ d.b = 0 → false = fB d) := no1'
 have no2 : Hid ((opsD d).length ≤ 2 → ¬ d.c = 0 → false = fB d) := no2'
 clear yes' no0' no1' no2'
 clear D
 go_enter Tryz.func141, Tryz.ntmps141
 go_wp2_with fail
 refine (C _ (hk.keep ((agree_alloc _ _ _).trans (agree_alloc _ _ _)))).mono ?_
 rintro e w1 ⟨a, r, rfl, _, hb1⟩
 obtain ⟨x0, x1, x2, hB⟩ := cells3 hb1
 clear hb1 C F M A2
 go_wp2_with fail
 go_loop [9] (fun i => ∃ k : Nat, i = .int .i64 k ∧ (opsD d).length ≤ k ∧ (k ≤ 3 ∨ k ≤ (opsD d).length) ∧ Hid (Noughts (opsD d).length k d.a d.b d.c)) (fun i => 3 - (intOf i).toNat)
 case atStart => exact ⟨(opsD d).length, by go_num, by omega, by omega, Noughts.start _ _ _ _⟩
 case round =>
  obtain ⟨k, rfl, hk0, hk1, HN⟩ := hrel
  by_cases hlt : k < 3
  ·rcases (show k = 0 ∨ k = 1 ∨ k = 2 by omega) with rfl | rfl | rfl
   ·by_cases h0 : d.a = 0
    ·have HM : Hid (Noughts (opsD d).length 1 d.a d.b d.c) := HN.out.next0 h0
     go_wp2_with fail
     exact ⟨⟨1, by go_num, by omega, by omega, HM.out⟩, by simp only [intOf]; omega⟩
    ·have HF : Hid (false = fB d) := no0.out (by omega) h0
     go_wp2_with fail
     go_ret
     exact ⟨ret_bool HF.out, hB⟩
   ·by_cases h0 : d.b = 0
    ·have HM : Hid (Noughts (opsD d).length 2 d.a d.b d.c) := HN.out.next1 h0
     go_wp2_with fail
     exact ⟨⟨2, by go_num, by omega, by omega, HM.out⟩, by simp only [intOf]; omega⟩
    ·have HF : Hid (false = fB d) := no1.out (by omega) h0
     go_wp2_with fail
     go_ret
     exact ⟨ret_bool HF.out, hB⟩
   ·by_cases h0 : d.c = 0
    ·have HM : Hid (Noughts (opsD d).length 3 d.a d.b d.c) := HN.out.next2 h0
     go_wp2_with fail
     exact ⟨⟨3, by go_num, by omega, by omega, HM.out⟩, by simp only [intOf]; omega⟩
    ·have HF : Hid (false = fB d) := no2.out (by omega) h0
     go_wp2_with fail
     go_ret
     exact ⟨ret_bool HF.out, hB⟩
  ·have HF : Hid (true = fB d) := yes.out (HN.out.full (by omega))
   go_wp2_with fail
   go_ret
   exact ⟨ret_bool HF.out, hB⟩
end Go.Proofs.YtkpmiikafconmaaGreatDoor
