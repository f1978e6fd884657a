/- Instructions of a machine: the contract of the model that asks whether one is right. -/
import Derived.Test.YtpmanjkaiknlhaaDoorPgA
namespace Go.Proofs.YtpmanjkaiknlhaaDoor
open Go.RowKit
set_option linter.unusedVariables false

set_option maxHeartbeats 4000000 in
set_option maxRecDepth 100000 in
theorem minsS_imm (op : Int) (w0 d a b c imm regs n : Int) (w : World) (h0 : 1 ≤ regs) (h1 : regs ≤ 130) (h2 : 1 ≤ n) (h3 : n ≤ 600) (n31 : ¬ op = 31) (n32 : ¬ op = 32) (n34 : ¬ op = 34) (n33 : ¬ op = 33) (n35 : ¬ op = 35) (n21 : ¬ op = 21) (hi : ¬ imm = 0) :
    Calls Tryd.prog 37 #[.agg #[.int .i64 op, .int .i64 w0, .int .i64 d, .int .i64 a, .int .i64 b, .int .i64 c, .int .i64 imm], .int .i64 regs, .int .i64 n] w fun e w' => e = .returned (.bool (minsB ⟨op, w0, d, a, b, c, imm⟩ regs n)) ∧ Below w.heap.size w w' := by
  have R := regS ⟨op, w0, d, a, b, c, imm⟩ regs (w.alloc (.cells #[.int .i64 op, .int .i64 w0, .int .i64 d, .int .i64 a, .int .i64 b, .int .i64 c, .int .i64 imm] 38)) h0 h1
  have E : Hid (∀ r, regB ⟨op, w0, d, a, b, c, imm⟩ regs = r → minsB ⟨op, w0, d, a, b, c, imm⟩ regs n = minsB ⟨op, w0, d, a, b, c, imm⟩ regs n) := fun _ _ => rfl
  dsimp only at R
  generalize hr : regB ⟨op, w0, d, a, b, c, imm⟩ regs = r at R
  have HR : Hid (regB ⟨op, w0, d, a, b, c, imm⟩ regs = r) := hr
  clear hr E
  go_enter Tryd.func37, Tryd.ntmps37
  go_wp2_with (first | (go_at_call 44; refine R.mono ?_; rintro e w1 ⟨rfl, hb1⟩; have hcc := bcell hb1) | (go_at_call 35; refine (inS _ _ _ _).mono ?_; rintro e w' ⟨rfl, rfl⟩) | (go_at_call 36; refine (widthS _ _).mono ?_; rintro e w' ⟨rfl, rfl⟩) | (go_at_call 45; refine (valueS _ _ _).mono ?_; rintro e w' ⟨rfl, rfl⟩))
  all_goals
    go_ret
    refine ⟨ret_bool ?_, (((Below.refl w.heap.size w).alloc (Nat.le_refl _) _).trans (hb1.mono (by simp)))⟩
    have hr := HR.out
    clear hb1 hcc HR R
    first | (simp_all [minsB]; done) | (simp_all [minsB]; intros; omega) | (simp_all [minsB]; rw [if_neg (by omega)]; intros; omega)
set_option maxHeartbeats 4000000 in
set_option maxRecDepth 100000 in
theorem minsS_bin (op : Int) (w0 d a b c imm regs n : Int) (w : World) (h0 : 1 ≤ regs) (h1 : regs ≤ 130) (h2 : 1 ≤ n) (h3 : n ≤ 600) (n31 : ¬ op = 31) (n32 : ¬ op = 32) (n34 : ¬ op = 34) (n33 : ¬ op = 33) (n35 : ¬ op = 35) (n21 : ¬ op = 21) (p1 : 1 ≤ op) (p2 : op ≤ 17) (hi : imm = 0) :
    Calls Tryd.prog 37 #[.agg #[.int .i64 op, .int .i64 w0, .int .i64 d, .int .i64 a, .int .i64 b, .int .i64 c, .int .i64 imm], .int .i64 regs, .int .i64 n] w fun e w' => e = .returned (.bool (minsB ⟨op, w0, d, a, b, c, imm⟩ regs n)) ∧ Below w.heap.size w w' := by
  subst hi
  have c1 : (decide (1 ≤ op) && decide (op ≤ 17)) = true := by simp; omega
  have R := regS ⟨op, w0, d, a, b, c, 0⟩ regs (w.alloc (.cells #[.int .i64 op, .int .i64 w0, .int .i64 d, .int .i64 a, .int .i64 b, .int .i64 c, .int .i64 0] 38)) h0 h1
  have E : Hid (∀ r, regB ⟨op, w0, d, a, b, c, 0⟩ regs = r → minsB ⟨op, w0, d, a, b, c, 0⟩ regs n = minsB ⟨op, w0, d, a, b, c, 0⟩ regs n) := fun _ _ => rfl
  dsimp only at R
  generalize hr : regB ⟨op, w0, d, a, b, c, 0⟩ regs = r at R
  have HR : Hid (regB ⟨op, w0, d, a, b, c, 0⟩ regs = r) := hr
  clear hr E
  go_enter Tryd.func37, Tryd.ntmps37
  go_wp2_with (first | (go_at_call 44; refine R.mono ?_; rintro e w1 ⟨rfl, hb1⟩; have hcc := bcell hb1) | (go_at_call 35; refine (inS _ _ _ _).mono ?_; rintro e w' ⟨rfl, rfl⟩) | (go_at_call 36; refine (widthS _ _).mono ?_; rintro e w' ⟨rfl, rfl⟩) | (go_at_call 45; refine (valueS _ _ _).mono ?_; rintro e w' ⟨rfl, rfl⟩))
  all_goals
    go_ret
    refine ⟨ret_bool ?_, (((Below.refl w.heap.size w).alloc (Nat.le_refl _) _).trans (hb1.mono (by simp)))⟩
    have hr := HR.out
    clear hb1 hcc HR R
    first | (simp_all [minsB]; done) | (simp_all [minsB]; intros; omega) | (simp_all [minsB]; rw [if_neg (by omega)]; intros; omega)
set_option maxHeartbeats 4000000 in
set_option maxRecDepth 100000 in
theorem minsS_else (op : Int) (w0 d a b c imm regs n : Int) (w : World) (h0 : 1 ≤ regs) (h1 : regs ≤ 130) (h2 : 1 ≤ n) (h3 : n ≤ 600) (n31 : ¬ op = 31) (n32 : ¬ op = 32) (n34 : ¬ op = 34) (n33 : ¬ op = 33) (n35 : ¬ op = 35) (n21 : ¬ op = 21) (n22 : ¬ op = 22) (n23 : ¬ op = 23) (n24 : ¬ op = 24) (n25 : ¬ op = 25) (q1 : ¬ (1 ≤ op ∧ op ≤ 17)) (q2 : ¬ (18 ≤ op ∧ op ≤ 20)) (hi : imm = 0) :
    Calls Tryd.prog 37 #[.agg #[.int .i64 op, .int .i64 w0, .int .i64 d, .int .i64 a, .int .i64 b, .int .i64 c, .int .i64 imm], .int .i64 regs, .int .i64 n] w fun e w' => e = .returned (.bool (minsB ⟨op, w0, d, a, b, c, imm⟩ regs n)) ∧ Below w.heap.size w w' := by
  subst hi
  have c1 : (decide (1 ≤ op) && decide (op ≤ 17)) = false := by simp; omega
  have c2 : (decide (18 ≤ op) && decide (op ≤ 20)) = false := by simp; omega
  have R := regS ⟨op, w0, d, a, b, c, 0⟩ regs (w.alloc (.cells #[.int .i64 op, .int .i64 w0, .int .i64 d, .int .i64 a, .int .i64 b, .int .i64 c, .int .i64 0] 38)) h0 h1
  have E : Hid (∀ r, regB ⟨op, w0, d, a, b, c, 0⟩ regs = r → minsB ⟨op, w0, d, a, b, c, 0⟩ regs n = minsB ⟨op, w0, d, a, b, c, 0⟩ regs n) := fun _ _ => rfl
  dsimp only at R
  generalize hr : regB ⟨op, w0, d, a, b, c, 0⟩ regs = r at R
  have HR : Hid (regB ⟨op, w0, d, a, b, c, 0⟩ regs = r) := hr
  clear hr E
  go_enter Tryd.func37, Tryd.ntmps37
  go_wp2_with (first | (go_at_call 44; refine R.mono ?_; rintro e w1 ⟨rfl, hb1⟩; have hcc := bcell hb1) | (go_at_call 35; refine (inS _ _ _ _).mono ?_; rintro e w' ⟨rfl, rfl⟩) | (go_at_call 36; refine (widthS _ _).mono ?_; rintro e w' ⟨rfl, rfl⟩) | (go_at_call 45; refine (valueS _ _ _).mono ?_; rintro e w' ⟨rfl, rfl⟩))
  all_goals
    go_ret
    refine ⟨ret_bool ?_, (((Below.refl w.heap.size w).alloc (Nat.le_refl _) _).trans (hb1.mono (by simp)))⟩
    have hr := HR.out
    clear hb1 hcc HR R
    first | (simp_all [minsB]; done) | (simp_all [minsB]; intros; omega) | (simp_all [minsB]; rw [if_neg (by omega)]; intros; omega)
end Go.Proofs.YtpmanjkaiknlhaaDoor
