/- Instructions of a machine: what one uses; the contracts of the program. -/
import Derived.Test.YtpmanjkaiknlhaaDoorPgA
import Derived.Test.YtpmanjkaiknlhaaDoorTo1
import Derived.BigRegion
import Derived.Laws.Rows
namespace Go.Proofs.YtpmanjkaiknlhaaDoor
open Go.RowKit
set_option linter.unusedVariables false
set_option linter.unusedSimpArgs false

def castOpB (op : Int) : Bool := decide (18 ≤ op) && decide (op ≤ 20)
def okU (op : Int) : Bool := opB op || castOpB op || op == 21 || op == 22 || op == 23 || op == 35 || op == 24 || op == 25 || op == 31 || op == 32 || op == 33 || op == 34
def usedD (i : MInsD) : MInsD :=
  if opB i.op = true then ⟨i.op, i.w, i.d, i.a, i.b, 0, 0⟩
  else if castOpB i.op = true then ⟨i.op, i.w, i.d, i.a, 0, i.c, 0⟩
  else if i.op = 21 then ⟨i.op, i.w, i.d, 0, 0, 0, i.imm⟩
  else if i.op = 22 then ⟨i.op, i.w, i.d, i.a, i.b, i.c, 0⟩
  else if i.op = 23 ∨ i.op = 35 then ⟨i.op, i.w, i.d, i.a, 0, 0, 0⟩
  else if i.op = 24 then ⟨i.op, 0, 0, i.a, i.b, 0, 0⟩
  else if i.op = 25 then ⟨i.op, 0, 0, i.a, 0, 0, 0⟩
  else if i.op = 31 then ⟨i.op, 0, 0, 0, 0, 0, i.imm⟩
  else if i.op = 32 then ⟨i.op, 0, 0, i.a, 0, 0, i.imm⟩
  else if i.op = 33 then ⟨i.op, i.w, 0, i.a, 0, 0, 0⟩
  else if i.op = 34 then ⟨i.op, 0, 0, 0, 0, 0, 0⟩
  else mins0
def usedV (i : MInsD) : Value := .tuple #[.agg #[.int .i64 (usedD i).op, .int .i64 (usedD i).w, .int .i64 (usedD i).d, .int .i64 (usedD i).a, .int .i64 (usedD i).b, .int .i64 (usedD i).c, .int .i64 (usedD i).imm], .bool (okU i.op)]
theorem castOpI (op : Int) (w : World) : Calls Tryd.prog 59 #[.int .i64 op] w fun e w' => e = .returned (.bool (castOpB op)) ∧ w' = w := by
  by_cases h1 : 18 ≤ op
  · by_cases h2 : op ≤ 20
    · have E : Hid (true = castOpB op) := by show _ = _; simp [castOpB, h1, h2]
      have d1 : decide (18 ≤ op) = true := by simpa using h1
      have d2 : decide (op ≤ 20) = true := by simpa using h2
      go_enter Tryd.func59, Tryd.ntmps59
      go_wp2_with fail
      go_ret
      exact ⟨ret_bool E.out, rfl⟩
    · have E : Hid (false = castOpB op) := by show _ = _; simp [castOpB, h2]
      have d1 : decide (18 ≤ op) = true := by simpa using h1
      have d2 : decide (op ≤ 20) = false := by simpa using h2
      go_enter Tryd.func59, Tryd.ntmps59
      go_wp2_with fail
      go_ret
      exact ⟨ret_bool E.out, rfl⟩
  · have E : Hid (false = castOpB op) := by show _ = _; simp [castOpB, h1]
    have d1 : decide (18 ≤ op) = false := by simpa using h1
    go_enter Tryd.func59, Tryd.ntmps59
    go_wp2_with fail
    go_ret
    exact ⟨ret_bool E.out, rfl⟩
def goesB (op : Int) : Bool := !(op == 31) && !(op == 33) && !(op == 34)
theorem goesI (op : Int) (w : World) : Calls Tryd.prog 52 #[.int .i64 op] w fun e w' => e = .returned (.bool (goesB op)) ∧ w' = w := by
  by_cases h1 : op = 31
  · subst h1
    go_enter Tryd.func52, Tryd.ntmps52
    go_wp2_with fail
    go_ret
    exact ⟨rfl, rfl⟩
  by_cases h2 : op = 33
  · subst h2
    go_enter Tryd.func52, Tryd.ntmps52
    go_wp2_with fail
    go_ret
    exact ⟨rfl, rfl⟩
  by_cases h3 : op = 34
  · subst h3
    go_enter Tryd.func52, Tryd.ntmps52
    go_wp2_with fail
    go_ret
    exact ⟨rfl, rfl⟩
  have E : Hid (true = goesB op) := by show _ = _; simp [goesB, h1, h2, h3]
  go_enter Tryd.func52, Tryd.ntmps52
  go_wp2_with fail
  go_ret
  exact ⟨ret_bool rfl, rfl⟩
def mwB (i : MInsD) : Bool := if i.op = 24 ∨ i.op = 25 ∨ i.op = 31 ∨ i.op = 32 ∨ i.op = 34 then true else if i.op = 23 then i.w == 8 else widthB i.w
def miB (i : MInsD) (n : Int) : Bool := if i.op = 21 then valueB i.w i.imm else if i.op = 31 ∨ i.op = 32 then belowB i.imm n else true
set_option maxHeartbeats 1000000 in
theorem mwI_24  (w0 d a b c imm : Int) (w : World) : Calls Tryd.prog 54 #[.agg #[.int .i64 24, .int .i64 w0, .int .i64 d, .int .i64 a, .int .i64 b, .int .i64 c, .int .i64 imm]] w fun e w' => e = .returned (.bool (mwB ⟨24, w0, d, a, b, c, imm⟩)) ∧ Below w.heap.size w w' := by
  go_enter Tryd.func54, Tryd.ntmps54
  go_wp2_with (go_at_call 51; refine (widthI _ _).mono ?_; rintro e w' ⟨rfl, rfl⟩)
  go_ret
  exact ⟨ret_bool (by simp_all [mwB]), (Below.refl _ _).alloc (Nat.le_refl _) _⟩
set_option maxHeartbeats 1000000 in
theorem mwI_25  (w0 d a b c imm : Int) (w : World) : Calls Tryd.prog 54 #[.agg #[.int .i64 25, .int .i64 w0, .int .i64 d, .int .i64 a, .int .i64 b, .int .i64 c, .int .i64 imm]] w fun e w' => e = .returned (.bool (mwB ⟨25, w0, d, a, b, c, imm⟩)) ∧ Below w.heap.size w w' := by
  go_enter Tryd.func54, Tryd.ntmps54
  go_wp2_with (go_at_call 51; refine (widthI _ _).mono ?_; rintro e w' ⟨rfl, rfl⟩)
  go_ret
  exact ⟨ret_bool (by simp_all [mwB]), (Below.refl _ _).alloc (Nat.le_refl _) _⟩
set_option maxHeartbeats 1000000 in
theorem mwI_31  (w0 d a b c imm : Int) (w : World) : Calls Tryd.prog 54 #[.agg #[.int .i64 31, .int .i64 w0, .int .i64 d, .int .i64 a, .int .i64 b, .int .i64 c, .int .i64 imm]] w fun e w' => e = .returned (.bool (mwB ⟨31, w0, d, a, b, c, imm⟩)) ∧ Below w.heap.size w w' := by
  go_enter Tryd.func54, Tryd.ntmps54
  go_wp2_with (go_at_call 51; refine (widthI _ _).mono ?_; rintro e w' ⟨rfl, rfl⟩)
  go_ret
  exact ⟨ret_bool (by simp_all [mwB]), (Below.refl _ _).alloc (Nat.le_refl _) _⟩
set_option maxHeartbeats 1000000 in
theorem mwI_32  (w0 d a b c imm : Int) (w : World) : Calls Tryd.prog 54 #[.agg #[.int .i64 32, .int .i64 w0, .int .i64 d, .int .i64 a, .int .i64 b, .int .i64 c, .int .i64 imm]] w fun e w' => e = .returned (.bool (mwB ⟨32, w0, d, a, b, c, imm⟩)) ∧ Below w.heap.size w w' := by
  go_enter Tryd.func54, Tryd.ntmps54
  go_wp2_with (go_at_call 51; refine (widthI _ _).mono ?_; rintro e w' ⟨rfl, rfl⟩)
  go_ret
  exact ⟨ret_bool (by simp_all [mwB]), (Below.refl _ _).alloc (Nat.le_refl _) _⟩
set_option maxHeartbeats 1000000 in
theorem mwI_34  (w0 d a b c imm : Int) (w : World) : Calls Tryd.prog 54 #[.agg #[.int .i64 34, .int .i64 w0, .int .i64 d, .int .i64 a, .int .i64 b, .int .i64 c, .int .i64 imm]] w fun e w' => e = .returned (.bool (mwB ⟨34, w0, d, a, b, c, imm⟩)) ∧ Below w.heap.size w w' := by
  go_enter Tryd.func54, Tryd.ntmps54
  go_wp2_with (go_at_call 51; refine (widthI _ _).mono ?_; rintro e w' ⟨rfl, rfl⟩)
  go_ret
  exact ⟨ret_bool (by simp_all [mwB]), (Below.refl _ _).alloc (Nat.le_refl _) _⟩
set_option maxHeartbeats 1000000 in
theorem mwI_23  (w0 d a b c imm : Int) (w : World) : Calls Tryd.prog 54 #[.agg #[.int .i64 23, .int .i64 w0, .int .i64 d, .int .i64 a, .int .i64 b, .int .i64 c, .int .i64 imm]] w fun e w' => e = .returned (.bool (mwB ⟨23, w0, d, a, b, c, imm⟩)) ∧ Below w.heap.size w w' := by
  go_enter Tryd.func54, Tryd.ntmps54
  go_wp2_with (go_at_call 51; refine (widthI _ _).mono ?_; rintro e w' ⟨rfl, rfl⟩)
  go_ret
  exact ⟨ret_bool (by simp_all [mwB]), (Below.refl _ _).alloc (Nat.le_refl _) _⟩
set_option maxHeartbeats 1000000 in
theorem mwI_else (op : Int) (w0 d a b c imm : Int) (w : World) (n24 : ¬ op = 24) (n25 : ¬ op = 25) (n31 : ¬ op = 31) (n32 : ¬ op = 32) (n34 : ¬ op = 34) (n23 : ¬ op = 23) : Calls Tryd.prog 54 #[.agg #[.int .i64 op, .int .i64 w0, .int .i64 d, .int .i64 a, .int .i64 b, .int .i64 c, .int .i64 imm]] w fun e w' => e = .returned (.bool (mwB ⟨op, w0, d, a, b, c, imm⟩)) ∧ Below w.heap.size w w' := by
  go_enter Tryd.func54, Tryd.ntmps54
  go_wp2_with (go_at_call 51; refine (widthI _ _).mono ?_; rintro e w' ⟨rfl, rfl⟩)
  go_ret
  exact ⟨ret_bool (by simp_all [mwB]), (Below.refl _ _).alloc (Nat.le_refl _) _⟩
theorem mwI (i : MInsD) (w : World) : Calls Tryd.prog 54 #[.agg #[.int .i64 i.op, .int .i64 i.w, .int .i64 i.d, .int .i64 i.a, .int .i64 i.b, .int .i64 i.c, .int .i64 i.imm]] w fun e w' => e = .returned (.bool (mwB i)) ∧ Below w.heap.size w w' := by
  obtain ⟨op, w0, d, a, b, c, imm⟩ := i
  by_cases n24 : op = 24
  · subst n24; exact mwI_24 w0 d a b c imm w
  by_cases n25 : op = 25
  · subst n25; exact mwI_25 w0 d a b c imm w
  by_cases n31 : op = 31
  · subst n31; exact mwI_31 w0 d a b c imm w
  by_cases n32 : op = 32
  · subst n32; exact mwI_32 w0 d a b c imm w
  by_cases n34 : op = 34
  · subst n34; exact mwI_34 w0 d a b c imm w
  by_cases n23 : op = 23
  · subst n23; exact mwI_23 w0 d a b c imm w
  exact mwI_else op w0 d a b c imm w n24 n25 n31 n32 n34 n23
set_option maxHeartbeats 1000000 in
theorem miI_21  (w0 d a b c imm n : Int) (w : World) : Calls Tryd.prog 55 #[.agg #[.int .i64 21, .int .i64 w0, .int .i64 d, .int .i64 a, .int .i64 b, .int .i64 c, .int .i64 imm], .int .i64 n] w fun e w' => e = .returned (.bool (miB ⟨21, w0, d, a, b, c, imm⟩ n)) ∧ Below w.heap.size w w' := by
  go_enter Tryd.func55, Tryd.ntmps55
  go_wp2_with (first | (go_at_call 61; refine (valueI _ _ _).mono ?_; rintro e w' ⟨rfl, rfl⟩) | (go_at_call 50; refine (belowFI _ _ _).mono ?_; rintro e w' ⟨rfl, rfl⟩))
  go_ret
  exact ⟨ret_bool (by simp_all [miB]), (Below.refl _ _).alloc (Nat.le_refl _) _⟩
set_option maxHeartbeats 1000000 in
theorem miI_31  (w0 d a b c imm n : Int) (w : World) : Calls Tryd.prog 55 #[.agg #[.int .i64 31, .int .i64 w0, .int .i64 d, .int .i64 a, .int .i64 b, .int .i64 c, .int .i64 imm], .int .i64 n] w fun e w' => e = .returned (.bool (miB ⟨31, w0, d, a, b, c, imm⟩ n)) ∧ Below w.heap.size w w' := by
  go_enter Tryd.func55, Tryd.ntmps55
  go_wp2_with (first | (go_at_call 61; refine (valueI _ _ _).mono ?_; rintro e w' ⟨rfl, rfl⟩) | (go_at_call 50; refine (belowFI _ _ _).mono ?_; rintro e w' ⟨rfl, rfl⟩))
  go_ret
  exact ⟨ret_bool (by simp_all [miB]), (Below.refl _ _).alloc (Nat.le_refl _) _⟩
set_option maxHeartbeats 1000000 in
theorem miI_32  (w0 d a b c imm n : Int) (w : World) : Calls Tryd.prog 55 #[.agg #[.int .i64 32, .int .i64 w0, .int .i64 d, .int .i64 a, .int .i64 b, .int .i64 c, .int .i64 imm], .int .i64 n] w fun e w' => e = .returned (.bool (miB ⟨32, w0, d, a, b, c, imm⟩ n)) ∧ Below w.heap.size w w' := by
  go_enter Tryd.func55, Tryd.ntmps55
  go_wp2_with (first | (go_at_call 61; refine (valueI _ _ _).mono ?_; rintro e w' ⟨rfl, rfl⟩) | (go_at_call 50; refine (belowFI _ _ _).mono ?_; rintro e w' ⟨rfl, rfl⟩))
  go_ret
  exact ⟨ret_bool (by simp_all [miB]), (Below.refl _ _).alloc (Nat.le_refl _) _⟩
set_option maxHeartbeats 1000000 in
theorem miI_else (op : Int) (w0 d a b c imm n : Int) (w : World) (n21 : ¬ op = 21) (n31 : ¬ op = 31) (n32 : ¬ op = 32) : Calls Tryd.prog 55 #[.agg #[.int .i64 op, .int .i64 w0, .int .i64 d, .int .i64 a, .int .i64 b, .int .i64 c, .int .i64 imm], .int .i64 n] w fun e w' => e = .returned (.bool (miB ⟨op, w0, d, a, b, c, imm⟩ n)) ∧ Below w.heap.size w w' := by
  go_enter Tryd.func55, Tryd.ntmps55
  go_wp2_with (first | (go_at_call 61; refine (valueI _ _ _).mono ?_; rintro e w' ⟨rfl, rfl⟩) | (go_at_call 50; refine (belowFI _ _ _).mono ?_; rintro e w' ⟨rfl, rfl⟩))
  go_ret
  exact ⟨ret_bool (by simp_all [miB]), (Below.refl _ _).alloc (Nat.le_refl _) _⟩
theorem miI (i : MInsD) (n : Int) (w : World) : Calls Tryd.prog 55 #[.agg #[.int .i64 i.op, .int .i64 i.w, .int .i64 i.d, .int .i64 i.a, .int .i64 i.b, .int .i64 i.c, .int .i64 i.imm], .int .i64 n] w fun e w' => e = .returned (.bool (miB i n)) ∧ Below w.heap.size w w' := by
  obtain ⟨op, w0, d, a, b, c, imm⟩ := i
  by_cases n21 : op = 21
  · subst n21; exact miI_21 w0 d a b c imm n w
  by_cases n31 : op = 31
  · subst n31; exact miI_31 w0 d a b c imm n w
  by_cases n32 : op = 32
  · subst n32; exact miI_32 w0 d a b c imm n w
  exact miI_else op w0 d a b c imm n w n21 n31 n32
end Go.Proofs.YtpmanjkaiknlhaaDoor
