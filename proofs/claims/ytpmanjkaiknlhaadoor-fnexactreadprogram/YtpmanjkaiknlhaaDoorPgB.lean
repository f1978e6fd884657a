/- Instructions of a machine: the contract of the model that asks whether one is right. -/
import Derived.Test.YtpmanjkaiknlhaaDoorPgB1
import Derived.Test.YtpmanjkaiknlhaaDoorPgB2
import Derived.Test.YtpmanjkaiknlhaaDoorPgB3
import Derived.Test.YtpmanjkaiknlhaaDoorPgB4
import Derived.Test.YtpmanjkaiknlhaaDoorPgB5
namespace Go.Proofs.YtpmanjkaiknlhaaDoor
open Go.RowKit
set_option linter.unusedVariables false

theorem minsS (i : MInsD) (regs n : Int) (w : World) (h0 : 1 ≤ regs) (h1 : regs ≤ 130) (h2 : 1 ≤ n) (h3 : n ≤ 600) :
    Calls Tryd.prog 37 #[.agg #[.int .i64 i.op, .int .i64 i.w, .int .i64 i.d, .int .i64 i.a, .int .i64 i.b, .int .i64 i.c, .int .i64 i.imm], .int .i64 regs, .int .i64 n] w fun e w' => e = .returned (.bool (minsB i regs n)) ∧ Below w.heap.size w w' := by
  obtain ⟨op, w0, d, a, b, c, imm⟩ := i
  by_cases n31 : op = 31
  · subst n31; exact minsS_31 w0 d a b c imm regs n w h0 h1 h2 h3
  by_cases n32 : op = 32
  · subst n32; exact minsS_32 w0 d a b c imm regs n w h0 h1 h2 h3
  by_cases n34 : op = 34
  · subst n34; exact minsS_34 w0 d a b c imm regs n w h0 h1 h2 h3
  by_cases n33 : op = 33
  · subst n33; exact minsS_33 w0 d a b c imm regs n w h0 h1 h2 h3
  by_cases n35 : op = 35
  · subst n35; exact minsS_35 w0 d a b c imm regs n w h0 h1 h2 h3
  by_cases n21 : op = 21
  · subst n21; exact minsS_21 w0 d a b c imm regs n w h0 h1 h2 h3
  by_cases hi : imm = 0
  case neg => exact minsS_imm op w0 d a b c imm regs n w h0 h1 h2 h3 n31 n32 n34 n33 n35 n21 hi
  by_cases q1 : 1 ≤ op ∧ op ≤ 17
  · exact minsS_bin op w0 d a b c imm regs n w h0 h1 h2 h3 n31 n32 n34 n33 n35 n21 q1.1 q1.2 hi
  by_cases n18 : op = 18
  · subst n18; exact minsS_18 w0 d a b c imm regs n w h0 h1 h2 h3 hi
  by_cases n19 : op = 19
  · subst n19; exact minsS_19 w0 d a b c imm regs n w h0 h1 h2 h3 hi
  by_cases n20 : op = 20
  · subst n20; exact minsS_20 w0 d a b c imm regs n w h0 h1 h2 h3 hi
  by_cases n22 : op = 22
  · subst n22; exact minsS_22 w0 d a b c imm regs n w h0 h1 h2 h3 hi
  by_cases n23 : op = 23
  · subst n23; exact minsS_23 w0 d a b c imm regs n w h0 h1 h2 h3 hi
  by_cases n24 : op = 24
  · subst n24; exact minsS_24 w0 d a b c imm regs n w h0 h1 h2 h3 hi
  by_cases n25 : op = 25
  · subst n25; exact minsS_25 w0 d a b c imm regs n w h0 h1 h2 h3 hi
  exact minsS_else op w0 d a b c imm regs n w h0 h1 h2 h3 n31 n32 n34 n33 n35 n21 n22 n23 n24 n25 q1 (by omega) hi
end Go.Proofs.YtpmanjkaiknlhaaDoor
