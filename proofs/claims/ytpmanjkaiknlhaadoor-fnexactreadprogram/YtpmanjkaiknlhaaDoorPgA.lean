/- Instructions of a machine: what is right, and the contracts of the model that asks it. -/
import Derived.Test.YtpmanjkaiknlhaaDoorBlw
import Derived.Test.YtpmanjkaiknlhaaDoorPgM
import Derived.Deep.QuietTactic
import Derived.Deep.RegionWith
namespace Go.Proofs.YtpmanjkaiknlhaaDoor
open Go.RowKit
set_option linter.unusedVariables false

def regB (i : MInsD) (regs : Int) : Bool := belowB i.d regs && belowB i.a regs && belowB i.b regs && belowB i.c regs
def minsB (i : MInsD) (regs n : Int) : Bool :=
  if i.op = 31 ∨ i.op = 32 then regB i regs && belowB i.imm n && i.w == 0 && i.d == 0 && i.b == 0 && i.c == 0 && (i.op == 32 || i.a == 0)
  else if i.op = 34 then i.w == 0 && i.d == 0 && i.a == 0 && i.b == 0 && i.c == 0 && i.imm == 0
  else if i.op = 33 ∨ i.op = 35 then regB i regs && widthB i.w && i.imm == 0 && i.b == 0 && i.c == 0 && (i.op == 35 || i.d == 0)
  else if i.op = 21 then regB i regs && valueB i.w i.imm && i.a == 0 && i.b == 0 && i.c == 0
  else if ¬ i.imm = 0 then false
  else if 1 ≤ i.op ∧ i.op ≤ 17 then regB i regs && widthB i.w && i.c == 0
  else if 18 ≤ i.op ∧ i.op ≤ 20 then belowB i.d regs && belowB i.a regs && widthB i.w && widthB i.c && ((i.op == 20) == decide (i.w < i.c)) && i.c != i.w && i.b == 0
  else if i.op = 22 then regB i regs && widthB i.w
  else if i.op = 23 then regB i regs && i.w == 8 && i.b == 0 && i.c == 0
  else if i.op = 24 then regB i regs && i.w == 0 && i.d == 0 && i.c == 0
  else if i.op = 25 then regB i regs && i.w == 0 && i.d == 0 && i.b == 0 && i.c == 0
  else false
set_option maxHeartbeats 1000000 in
theorem regS (i : MInsD) (regs : Int) (w : World) (h0 : 1 ≤ regs) (h1 : regs ≤ 130) :
    Calls Tryd.prog 44 #[.agg #[.int .i64 i.op, .int .i64 i.w, .int .i64 i.d, .int .i64 i.a, .int .i64 i.b, .int .i64 i.c, .int .i64 i.imm], .int .i64 regs] w fun e w' => e = .returned (.bool (regB i regs)) ∧ Below w.heap.size w w' := by
  have E : Hid ((belowB i.d regs && belowB i.a regs && belowB i.b regs && belowB i.c regs) = regB i regs) := rfl
  go_enter Tryd.func44, Tryd.ntmps44
  cases h1 : belowB i.d regs with
  | false =>
    go_wp2_with (go_at_call 35; refine (inB _ _ _).mono ?_; rintro e w' ⟨rfl, rfl⟩)
    go_ret
    exact ⟨ret_bool (by simp [regB, h1]), (Below.refl _ _).alloc (Nat.le_refl _) _⟩
  | true =>
    cases h2 : belowB i.a regs with
    | false =>
      go_wp2_with (go_at_call 35; refine (inB _ _ _).mono ?_; rintro e w' ⟨rfl, rfl⟩)
      go_ret
      exact ⟨ret_bool (by simp [regB, h1, h2]), (Below.refl _ _).alloc (Nat.le_refl _) _⟩
    | true =>
      cases h3 : belowB i.b regs with
      | false =>
        go_wp2_with (go_at_call 35; refine (inB _ _ _).mono ?_; rintro e w' ⟨rfl, rfl⟩)
        go_ret
        exact ⟨ret_bool (by simp [regB, h1, h2, h3]), (Below.refl _ _).alloc (Nat.le_refl _) _⟩
      | true =>
        go_wp2_with (go_at_call 35; refine (inB _ _ _).mono ?_; rintro e w' ⟨rfl, rfl⟩)
        go_ret
        exact ⟨ret_bool (by simp [regB, h1, h2, h3]), (Below.refl _ _).alloc (Nat.le_refl _) _⟩
end Go.Proofs.YtpmanjkaiknlhaaDoor
