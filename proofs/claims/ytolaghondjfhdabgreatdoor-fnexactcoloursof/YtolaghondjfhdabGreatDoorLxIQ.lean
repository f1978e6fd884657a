/- What is alive: what the model asks of a function first. -/
import Derived.Test.YtolaghondjfhdabGreatDoorLxHQ
import Derived.Test.YtolaghondjfhdabGreatDoorFmJQ
import Derived.Test.YtolaghondjfhdabGreatDoorChEQ
namespace Go.Proofs.YtolaghondjfhdabGreatDoor
open Go.RowKit
set_option linter.unusedVariables false

set_option maxHeartbeats 4000000 in
set_option maxRecDepth 100000 in
theorem okS (lo : Nat) (d : FuncD) (u0 : Option Addr) (c0 : Nat) (u2 : Option Addr) (c2 : Nat) (w : World) (hs : SmFunc d) (k0 : IntsAt w lo u0 d.params) (k2 : BlocksAt w lo u2 d.blocks) :
    Calls Tryz.prog 15 #[.agg #[.slice u0 d.params.length c0, .int .i64 d.ret, .slice u2 d.blocks.length c2]] w fun e w' => e = .returned (.bool (okB d)) ∧ Below w.heap.size w w' := by
  have F0 := FBox.start (d := d) (u0 := u0) (u2 := u2) (c0 := c0) (c2 := c2) (w := w) (T := 30)
  have P := funcShS lo d u0 c0 u2 c2 3 _ hs (k0.keep (agree_of_below F0.below lo)) (k2.keep (agree_of_below F0.below lo)) (by omega) (by omega)
  have a0 := F0.a0
  have a1 := F0.a1
  have a2 := F0.a2
  have HF0 : Hid (FBox d u0 c0 u2 c2 w _) := F0
  by_cases hf : funcB 3 d = true
  · have Q := fun W (k : Below w.heap.size w W) => phsS lo d u0 c0 u2 c2 W hs (k2.keep (agree_of_below k lo)) (form_of hf).right
    have E : Hid (phsB d = okB d) := by show _ = _; simp [okB, hf]
    rw [hf] at P
    clear hs k0 k2 F0 hf
    go_enter Tryz.func15, Tryz.ntmps15
    go_wp2_with (first | (go_at_call 26; refine P.mono ?_; rintro e w2 ⟨rfl, b2⟩; have HF2 : Hid (FBox d u0 c0 u2 c2 w w2) := HF0.out.keep b2; have z0 := HF2.out.a0; have z1 := HF2.out.a1; have z2 := HF2.out.a2) | (go_at_call 27; refine (Q _ HF2.out.below).mono ?_; rintro e w3 ⟨rfl, b3⟩; have HF3 : Hid (FBox d u0 c0 u2 c2 w w3) := HF2.out.keep b3))
    go_ret
    exact ⟨ret_bool E.out, HF3.out.below⟩
  · have hf' : funcB 3 d = false := by simpa using hf
    have E : Hid (false = okB d) := by show _ = _; simp [okB, hf']
    rw [hf'] at P
    clear hs k0 k2 F0 hf hf'
    go_enter Tryz.func15, Tryz.ntmps15
    go_wp2_with (first | (go_at_call 26; refine P.mono ?_; rintro e w2 ⟨rfl, b2⟩; have HF2 : Hid (FBox d u0 c0 u2 c2 w w2) := HF0.out.keep b2))
    go_ret
    exact ⟨ret_bool E.out, HF2.out.below⟩
end Go.Proofs.YtolaghondjfhdabGreatDoor
