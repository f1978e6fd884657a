/- Instructions of a machine: the contract of the model that asks whether one is right. -/
import Derived.Test.YtpmanjkaiknlhaaDoorPgA
namespace Go.Proofs.YtpmanjkaiknlhaaDoor
open Go.RowKit
set_option linter.unusedVariables false

set_option maxHeartbeats 4000000 in
set_option maxRecDepth 100000 in
theorem minsS_31  (w0 d a b c imm regs n : Int) (w : World) (h0 : 1 ≤ regs) (h1 : regs ≤ 130) (h2 : 1 ≤ n) (h3 : n ≤ 600) :
    Calls Tryd.prog 37 #[.agg #[.int .i64 31, .int .i64 w0, .int .i64 d, .int .i64 a, .int .i64 b, .int .i64 c, .int .i64 imm], .int .i64 regs, .int .i64 n] w fun e w' => e = .returned (.bool (minsB ⟨31, w0, d, a, b, c, imm⟩ regs n)) ∧ Below w.heap.size w w' := by
  have R := regS ⟨31, w0, d, a, b, c, imm⟩ regs (w.alloc (.cells #[.int .i64 31, .int .i64 w0, .int .i64 d, .int .i64 a, .int .i64 b, .int .i64 c, .int .i64 imm] 38)) h0 h1
  have E : Hid (∀ r, regB ⟨31, w0, d, a, b, c, imm⟩ regs = r → minsB ⟨31, w0, d, a, b, c, imm⟩ regs n = minsB ⟨31, w0, d, a, b, c, imm⟩ regs n) := fun _ _ => rfl
  dsimp only at R
  generalize hr : regB ⟨31, w0, d, a, b, c, imm⟩ regs = r at R
  have HR : Hid (regB ⟨31, w0, d, a, b, c, imm⟩ regs = r) := hr
  clear hr E
  go_enter Tryd.func37, Tryd.ntmps37
  go_wp2_with (first | (go_at_call 44; refine R.mono ?_; rintro e w1 ⟨rfl, hb1⟩; have hcc := bcell hb1) | (go_at_call 35; refine (inB _ _ _).mono ?_; rintro e w' ⟨rfl, rfl⟩) | (go_at_call 36; refine (widthS _ _).mono ?_; rintro e w' ⟨rfl, rfl⟩) | (go_at_call 45; refine (valueS _ _ _).mono ?_; rintro e w' ⟨rfl, rfl⟩))
  all_goals
    go_ret
    refine ⟨ret_bool ?_, (((Below.refl w.heap.size w).alloc (Nat.le_refl _) _).trans (hb1.mono (by simp)))⟩
    have hr := HR.out
    clear hb1 hcc HR R
    first | (simp_all [minsB]; done) | (simp_all [minsB]; intros; omega) | (simp_all [minsB]; rw [if_neg (by omega)]; intros; omega)
set_option maxHeartbeats 4000000 in
set_option maxRecDepth 100000 in
theorem minsS_32  (w0 d a b c imm regs n : Int) (w : World) (h0 : 1 ≤ regs) (h1 : regs ≤ 130) (h2 : 1 ≤ n) (h3 : n ≤ 600) :
    Calls Tryd.prog 37 #[.agg #[.int .i64 32, .int .i64 w0, .int .i64 d, .int .i64 a, .int .i64 b, .int .i64 c, .int .i64 imm], .int .i64 regs, .int .i64 n] w fun e w' => e = .returned (.bool (minsB ⟨32, w0, d, a, b, c, imm⟩ regs n)) ∧ Below w.heap.size w w' := by
  have R := regS ⟨32, w0, d, a, b, c, imm⟩ regs (w.alloc (.cells #[.int .i64 32, .int .i64 w0, .int .i64 d, .int .i64 a, .int .i64 b, .int .i64 c, .int .i64 imm] 38)) h0 h1
  have E : Hid (∀ r, regB ⟨32, w0, d, a, b, c, imm⟩ regs = r → minsB ⟨32, w0, d, a, b, c, imm⟩ regs n = minsB ⟨32, w0, d, a, b, c, imm⟩ regs n) := fun _ _ => rfl
  dsimp only at R
  generalize hr : regB ⟨32, w0, d, a, b, c, imm⟩ regs = r at R
  have HR : Hid (regB ⟨32, w0, d, a, b, c, imm⟩ regs = r) := hr
  clear hr E
  go_enter Tryd.func37, Tryd.ntmps37
  go_wp2_with (first | (go_at_call 44; refine R.mono ?_; rintro e w1 ⟨rfl, hb1⟩; have hcc := bcell hb1) | (go_at_call 35; refine (inB _ _ _).mono ?_; rintro e w' ⟨rfl, rfl⟩) | (go_at_call 36; refine (widthS _ _).mono ?_; rintro e w' ⟨rfl, rfl⟩) | (go_at_call 45; refine (valueS _ _ _).mono ?_; rintro e w' ⟨rfl, rfl⟩))
  all_goals
    go_ret
    refine ⟨ret_bool ?_, (((Below.refl w.heap.size w).alloc (Nat.le_refl _) _).trans (hb1.mono (by simp)))⟩
    have hr := HR.out
    clear hb1 hcc HR R
    first | (simp_all [minsB]; done) | (simp_all [minsB]; intros; omega) | (simp_all [minsB]; rw [if_neg (by omega)]; intros; omega)
set_option maxHeartbeats 4000000 in
set_option maxRecDepth 100000 in
theorem minsS_34  (w0 d a b c imm regs n : Int) (w : World) (h0 : 1 ≤ regs) (h1 : regs ≤ 130) (h2 : 1 ≤ n) (h3 : n ≤ 600) :
    Calls Tryd.prog 37 #[.agg #[.int .i64 34, .int .i64 w0, .int .i64 d, .int .i64 a, .int .i64 b, .int .i64 c, .int .i64 imm], .int .i64 regs, .int .i64 n] w fun e w' => e = .returned (.bool (minsB ⟨34, w0, d, a, b, c, imm⟩ regs n)) ∧ Below w.heap.size w w' := by
  have R := regS ⟨34, w0, d, a, b, c, imm⟩ regs (w.alloc (.cells #[.int .i64 34, .int .i64 w0, .int .i64 d, .int .i64 a, .int .i64 b, .int .i64 c, .int .i64 imm] 38)) h0 h1
  have E : Hid (∀ r, regB ⟨34, w0, d, a, b, c, imm⟩ regs = r → minsB ⟨34, w0, d, a, b, c, imm⟩ regs n = minsB ⟨34, w0, d, a, b, c, imm⟩ regs n) := fun _ _ => rfl
  dsimp only at R
  generalize hr : regB ⟨34, w0, d, a, b, c, imm⟩ regs = r at R
  have HR : Hid (regB ⟨34, w0, d, a, b, c, imm⟩ regs = r) := hr
  clear hr E
  go_enter Tryd.func37, Tryd.ntmps37
  go_wp2_with (first | (go_at_call 44; refine R.mono ?_; rintro e w1 ⟨rfl, hb1⟩; have hcc := bcell hb1) | (go_at_call 35; refine (inB _ _ _).mono ?_; rintro e w' ⟨rfl, rfl⟩) | (go_at_call 36; refine (widthS _ _).mono ?_; rintro e w' ⟨rfl, rfl⟩) | (go_at_call 45; refine (valueS _ _ _).mono ?_; rintro e w' ⟨rfl, rfl⟩))
  all_goals
    go_ret
    refine ⟨ret_bool ?_, (((Below.refl w.heap.size w).alloc (Nat.le_refl _) _).trans (hb1.mono (by simp)))⟩
    have hr := HR.out
    clear hb1 hcc HR R
    first | (simp_all [minsB]; done) | (simp_all [minsB]; intros; omega) | (simp_all [minsB]; rw [if_neg (by omega)]; intros; omega)
end Go.Proofs.YtpmanjkaiknlhaaDoor
