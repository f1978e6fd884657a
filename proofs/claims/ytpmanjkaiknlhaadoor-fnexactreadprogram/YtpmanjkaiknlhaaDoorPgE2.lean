/- Instructions of a machine: what one uses; the contracts of the program. -/
import Derived.Test.YtpmanjkaiknlhaaDoorPgD1
import Derived.Test.YtpmanjkaiknlhaaDoorPgD2
import Derived.Test.YtpmanjkaiknlhaaDoorPgD3
import Derived.Test.YtpmanjkaiknlhaaDoorTo1
import Derived.BigRegion
import Derived.Laws.Rows
import Derived.Laws.ResultCell
namespace Go.Proofs.YtpmanjkaiknlhaaDoor
open Go.RowKit
set_option linter.unusedVariables false
set_option linter.unusedSimpArgs false

theorem usedI (i : MInsD) (w : World) : Calls Tryd.prog 58 #[.agg #[.int .i64 i.op, .int .i64 i.w, .int .i64 i.d, .int .i64 i.a, .int .i64 i.b, .int .i64 i.c, .int .i64 i.imm]] w fun e w' => e = .returned (usedV i) ∧ Below w.heap.size w w' := by
  obtain ⟨op, w0, d, a, b, c, imm⟩ := i
  cases b1 : opB op with
  | true => exact usedI_bin op w0 d a b c imm w b1
  | false =>
  cases b2 : castOpB op with
  | true => exact usedI_cast op w0 d a b c imm w b1 b2
  | false =>
  by_cases n21 : op = 21
  · subst n21; exact usedI_21 w0 d a b c imm w
  by_cases n22 : op = 22
  · subst n22; exact usedI_22 w0 d a b c imm w
  by_cases n23 : op = 23
  · subst n23; exact usedI_23 w0 d a b c imm w
  by_cases n35 : op = 35
  · subst n35; exact usedI_35 w0 d a b c imm w
  by_cases n24 : op = 24
  · subst n24; exact usedI_24 w0 d a b c imm w
  by_cases n25 : op = 25
  · subst n25; exact usedI_25 w0 d a b c imm w
  by_cases n31 : op = 31
  · subst n31; exact usedI_31 w0 d a b c imm w
  by_cases n32 : op = 32
  · subst n32; exact usedI_32 w0 d a b c imm w
  by_cases n33 : op = 33
  · subst n33; exact usedI_33 w0 d a b c imm w
  by_cases n34 : op = 34
  · subst n34; exact usedI_34 w0 d a b c imm w
  exact usedI_else op w0 d a b c imm w b1 b2 n21 n22 n23 n35 n24 n25 n31 n32 n33 n34
end Go.Proofs.YtpmanjkaiknlhaaDoor
