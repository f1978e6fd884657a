/- Instructions of a machine: the contract of fieldsOk. -/
import Derived.Test.YtpmanjkaiknlhaaDoorPgE2
namespace Go.Proofs.YtpmanjkaiknlhaaDoor
open Go.RowKit
set_option linter.unusedVariables false
set_option linter.unusedSimpArgs false

def sameB (i j : MInsD) : Bool := i.op == j.op && i.w == j.w && i.d == j.d && i.a == j.a && i.b == j.b && i.c == j.c && i.imm == j.imm
def fieldsB (i : MInsD) (regs : Int) : Bool :=
  okU i.op && (sameB i (usedD i) && (([i.d, i.a, i.b].all fun n => belowB n regs) && (if castOpB i.op = true then castB i.op i.c i.w 0 else belowB i.c regs)))
theorem same_eq {i j : MInsD} (h : sameB i j = true) : j = i := by
  cases i; cases j; simp [sameB] at h; simp [h]
theorem allBelow3 (B : Nat) (x y z c : Int) (w : World) (hB : B < w.heap.size) (h0 : w.cell? ⟨B, 0, none⟩ = some (.int .i64 x)) (h1 : w.cell? ⟨B, 1, none⟩ = some (.int .i64 y)) (h2 : w.cell? ⟨B, 2, none⟩ = some (.int .i64 z)) :
    Calls Tryd.prog 41 #[.slice (some ⟨B, 0, none⟩) 3 3, .int .i64 c] w fun e w' => e = .returned (.bool ([x, y, z].all fun n => belowB n c)) ∧ w' = w :=
  allBelowI 0 (some ⟨B, 0, none⟩) 3 [x, y, z] c w ⟨by simp, .inr ⟨B, 0, rfl, Nat.zero_le _, hB, fun i hi => by
    have hi : i < 3 := hi
    match i, hi with
    | 0, _ => exact h0
    | 1, _ => exact h1
    | 2, _ => exact h2⟩⟩
theorem three_new (w : World) (B : Nat) (hB : w.heap.size = B) (x y z c : Int) (T : TypeId) : Calls Tryd.prog 41 #[.slice (some ⟨B, 0, none⟩) 3 3, .int .i64 c] (w.alloc (.cells #[.int .i64 x, .int .i64 y, .int .i64 z] T)) fun e w' => e = .returned (.bool ([x, y, z].all fun n => belowB n c)) ∧ w' = (w.alloc (.cells #[.int .i64 x, .int .i64 y, .int .i64 z] T)) :=
  hB ▸ allBelow3 w.heap.size x y z c _ (by simp) ((cell_of_heap (heap_alloc_at _ _)).trans rfl) ((cell_of_heap (heap_alloc_at _ _)).trans rfl) ((cell_of_heap (heap_alloc_at _ _)).trans rfl)
set_option maxHeartbeats 1000000 in
theorem fieldsI (i : MInsD) (regs : Int) (w : World) :
    Calls Tryd.prog 53 #[.agg #[.int .i64 i.op, .int .i64 i.w, .int .i64 i.d, .int .i64 i.a, .int .i64 i.b, .int .i64 i.c, .int .i64 i.imm], .int .i64 regs] w fun e w' => e = .returned (.bool (fieldsB i regs)) ∧ Below w.heap.size w w' := by
  have U := usedI i (w.alloc (.cells #[.int .i64 i.op, .int .i64 i.w, .int .i64 i.d, .int .i64 i.a, .int .i64 i.b, .int .i64 i.c, .int .i64 i.imm] 38))
  unfold usedV at U
  generalize hu : usedD i = u at U
  obtain ⟨op, w0, d, a, b, c, imm⟩ := i
  dsimp only at U ⊢
  cases ho : okU op with
  | false =>
    rw [ho] at U
    have E : Hid (false = fieldsB ⟨op, w0, d, a, b, c, imm⟩ regs) := by show _ = _; simp [fieldsB, ho]
    clear ho hu
    go_enter Tryd.func53, Tryd.ntmps53
    go_wp2_with fail
    refine U.mono ?_
    rintro e w1 ⟨rfl, hb1⟩
    have hcc := bcell hb1
    have z1a : w.heap.size < w1.heap.size := (by have := hb1.size; simp at this; omega)
    go_wp2_with fail
    go_ret
    exact ⟨ret_bool E.out, (((Below.refl w.heap.size w).alloc (Nat.le_refl _) _).trans (hb1.mono (by simp))).alloc (by omega) _⟩
  | true =>
    rw [ho] at U
    cases hs : sameB ⟨op, w0, d, a, b, c, imm⟩ u with
    | false =>
      have E : Hid (false = fieldsB ⟨op, w0, d, a, b, c, imm⟩ regs) := by show _ = _; simp [fieldsB, hu, hs]
      obtain ⟨uo, uw, ud, ua, ub, uc, ui⟩ := u
      have HS : Hid (¬ (op = uo ∧ w0 = uw ∧ d = ud ∧ a = ua ∧ b = ub ∧ c = uc ∧ imm = ui)) := by
        rintro ⟨rfl, rfl, rfl, rfl, rfl, rfl, rfl⟩
        simp [sameB] at hs
      dsimp only at U
      clear ho hu hs
      go_enter Tryd.func53, Tryd.ntmps53
      go_wp2_with fail
      refine U.mono ?_
      rintro e w1 ⟨rfl, hb1⟩
      have hcc := bcell hb1
      have z1a : w.heap.size < w1.heap.size := (by have := hb1.size; simp at this; omega)
      go_wp2_with fail
      all_goals first
        | (exfalso; refine HS.out ?_; simp_all; done)
        | (go_ret; exact ⟨ret_bool E.out, (((Below.refl w.heap.size w).alloc (Nat.le_refl _) _).trans (hb1.mono (by simp))).alloc (by omega) _⟩)
    | true =>
      obtain rfl := same_eq hs
      dsimp only at U
      cases h3 : ([d, a, b].all fun n => belowB n regs) with
      | false =>
        have E : Hid (false = fieldsB ⟨op, w0, d, a, b, c, imm⟩ regs) := by show _ = _; rw [fieldsB, h3]; simp
        clear ho hu hs
        go_enter Tryd.func53, Tryd.ntmps53
        go_wp2_with fail
        refine U.mono ?_
        rintro e w1 ⟨rfl, hb1⟩
        have hcc := bcell hb1
        have z1a : w.heap.size < w1.heap.size := (by have := hb1.size; simp at this; omega)
        have ALL := three_new (w1.alloc (.cells #[.int .i64 op, .int .i64 w0, .int .i64 d, .int .i64 a, .int .i64 b, .int .i64 c, .int .i64 imm] 38)) (w1.heap.size + 1) (by simp) d a b regs 2
        rw [h3] at ALL
        go_wp2_with (go_at_call 41; refine ALL.mono ?_; rintro e w' ⟨rfl, rfl⟩)
        go_ret
        exact ⟨ret_bool E.out, ((((Below.refl w.heap.size w).alloc (Nat.le_refl _) _).trans (hb1.mono (by simp))).alloc (by omega) _).alloc (by simp; omega) _⟩
      | true =>
        cases hk : castOpB op with
        | true =>
          have E : Hid (castB op c w0 0 = fieldsB ⟨op, w0, d, a, b, c, imm⟩ regs) := by show _ = _; rw [fieldsB, h3]; simp [ho, hu, hs, hk]
          clear ho hu hs
          go_enter Tryd.func53, Tryd.ntmps53
          go_wp2_with fail
          refine U.mono ?_
          rintro e w1 ⟨rfl, hb1⟩
          have hcc := bcell hb1
          have z1a : w.heap.size < w1.heap.size := (by have := hb1.size; simp at this; omega)
          have ALL := three_new (w1.alloc (.cells #[.int .i64 op, .int .i64 w0, .int .i64 d, .int .i64 a, .int .i64 b, .int .i64 c, .int .i64 imm] 38)) (w1.heap.size + 1) (by simp) d a b regs 2
          rw [h3] at ALL
          go_wp2_with (first | (go_at_call 41; refine ALL.mono ?_; rintro e w' ⟨rfl, rfl⟩) | (go_at_call 59; refine (castOpI _ _).mono ?_; rintro e w' ⟨rfl, rfl⟩) | (go_at_call 60; refine (castI _ _ _ _ _).mono ?_; rintro e w' ⟨rfl, rfl⟩))
          go_ret
          exact ⟨ret_bool E.out, ((((Below.refl w.heap.size w).alloc (Nat.le_refl _) _).trans (hb1.mono (by simp))).alloc (by omega) _).alloc (by simp; omega) _⟩
        | false =>
          have E : Hid (belowB c regs = fieldsB ⟨op, w0, d, a, b, c, imm⟩ regs) := by show _ = _; rw [fieldsB, h3]; simp [ho, hu, hs, hk]
          clear ho hu hs
          go_enter Tryd.func53, Tryd.ntmps53
          go_wp2_with fail
          refine U.mono ?_
          rintro e w1 ⟨rfl, hb1⟩
          have hcc := bcell hb1
          have z1a : w.heap.size < w1.heap.size := (by have := hb1.size; simp at this; omega)
          have ALL := three_new (w1.alloc (.cells #[.int .i64 op, .int .i64 w0, .int .i64 d, .int .i64 a, .int .i64 b, .int .i64 c, .int .i64 imm] 38)) (w1.heap.size + 1) (by simp) d a b regs 2
          rw [h3] at ALL
          go_wp2_with (first | (go_at_call 41; refine ALL.mono ?_; rintro e w' ⟨rfl, rfl⟩) | (go_at_call 59; refine (castOpI _ _).mono ?_; rintro e w' ⟨rfl, rfl⟩) | (go_at_call 50; refine (belowFI _ _ _).mono ?_; rintro e w' ⟨rfl, rfl⟩))
          go_ret
          exact ⟨ret_bool E.out, ((((Below.refl w.heap.size w).alloc (Nat.le_refl _) _).trans (hb1.mono (by simp))).alloc (by omega) _).alloc (by simp; omega) _⟩
end Go.Proofs.YtpmanjkaiknlhaaDoor
