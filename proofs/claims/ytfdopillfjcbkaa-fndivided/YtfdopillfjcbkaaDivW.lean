/- The walk of the law FnDivided, out of the contracts. -/
import Derived.Test.YtfdopillfjcbkaaLawA
import Derived.Test.YtfdopillfjcbkaaDivM
import Derived.Test.YtfdopillfjcbkaaBinS
import Derived.Test.YtfdopillfjcbkaaBinI
namespace Go.Proofs.Ytfdopillfjcbkaa
open Go.RowKit

set_option maxHeartbeats 2000000 in
theorem fnDivided_core (a0 : Option Addr) (len cap : Nat) (w : World) (hc : Code a0 len w.heap.size w) :
    Calls Try.prog 4 #[.slice a0 len cap] w fun e w' => e = .returned (.bool true) ∧ Below w.heap.size w w' := by
  by_cases hb : 1048576 < len
  · have d : decide (1048576 < len) = true := by simpa using hb
    go_enter Try.func4, Try.ntmps4
    go_wp2_with (go_at_call 8; refine (big_any _ _ _ _).mono ?_; rintro e w' ⟨rfl, rfl⟩)
    go_ret
    exact ⟨rfl, Below.refl _ _⟩
  · have d : decide (1048576 < len) = false := by simpa using hb
    have hl : len ≤ 1048576 := by omega
    go_enter Try.func4, Try.ntmps4
    go_wp2_with (first | (go_at_call 8; refine (big_any _ _ _ _).mono ?_; rintro e w' ⟨rfl, rfl⟩) | (go_at_call 9; refine (drawBinary _ _ _ _ (by assumption) (by assumption)).mono ?_; rintro e w1 ⟨op, x, a, b, rfl, hB⟩))
    have h46 := binC_46 (x := x) (a := a) (b := b)
    by_cases hk : binC 4 x a b = 0
    · obtain ⟨_, ha, hv, hd⟩ := binC_yes hk
      have hz : ¬ b = 0 := fun e => hd ⟨by decide, e⟩
      obtain ⟨q, r, f1, f2, m0, m1, r0, r1, hs⟩ := div_u ha hv hz
      have f3 := div_s ha hv hz
      have hab := value_bd ha
      have hs' : wrap64 (q * b + r) = a := by rw [hs]; unfold wrap64; omega
      clear ha hv hd hs
      go_wp2_with (first | (go_at_call 10; refine (binI _ _ _ _ _).mono ?_; rintro e w2 ⟨rfl, hb2, _⟩; replace hB := hB.trans (hb2.mono hB.size); clear hb2) | (go_at_call 11; refine (binS _ _ _ _ _).mono ?_; rintro e w2 ⟨rfl, rfl⟩) | (go_at_call 13; refine (maskI _ _ _).mono ?_; rintro e w2 ⟨rfl, rfl⟩) | (go_at_call 14; refine (signI _ _ _).mono ?_; rintro e w2 ⟨rfl, rfl⟩) | (go_at_call 12; refine (resI _ _ _).mono ?_; rintro e w2 ⟨rfl, rfl⟩))
      go_ret
      exact ⟨ret_bool (by first | rfl | (simp; omega)), hB⟩
    · have hk' : (binC 4 x a b == 0) = false := by simpa using hk
      by_cases h1 : binC 4 x a b = 1
      · have hz := binC_one h1
        subst hz
        go_wp2_with (first | (go_at_call 10; refine (binI _ _ _ _ _).mono ?_; rintro e w2 ⟨rfl, hb2, _⟩; replace hB := hB.trans (hb2.mono hB.size); clear hb2) | (go_at_call 11; refine (binS _ _ _ _ _).mono ?_; rintro e w2 ⟨rfl, rfl⟩) | (go_at_call 13; refine (maskI _ _ _).mono ?_; rintro e w2 ⟨rfl, rfl⟩) | (go_at_call 14; refine (signI _ _ _).mono ?_; rintro e w2 ⟨rfl, rfl⟩) | (go_at_call 12; refine (resI _ _ _).mono ?_; rintro e w2 ⟨rfl, rfl⟩))
        go_ret
        exact ⟨ret_bool (by first | rfl | (simp; omega)), hB⟩
      · have h1' : (binC 4 x a b == 1) = false := by simpa using h1
        go_wp2_with (first | (go_at_call 10; refine (binI _ _ _ _ _).mono ?_; rintro e w2 ⟨rfl, hb2, _⟩; replace hB := hB.trans (hb2.mono hB.size); clear hb2) | (go_at_call 11; refine (binS _ _ _ _ _).mono ?_; rintro e w2 ⟨rfl, rfl⟩) | (go_at_call 13; refine (maskI _ _ _).mono ?_; rintro e w2 ⟨rfl, rfl⟩) | (go_at_call 14; refine (signI _ _ _).mono ?_; rintro e w2 ⟨rfl, rfl⟩) | (go_at_call 12; refine (resI _ _ _).mono ?_; rintro e w2 ⟨rfl, rfl⟩))
        go_ret
        exact ⟨ret_bool (by first | rfl | (simp; omega)), hB⟩
end Go.Proofs.Ytfdopillfjcbkaa
