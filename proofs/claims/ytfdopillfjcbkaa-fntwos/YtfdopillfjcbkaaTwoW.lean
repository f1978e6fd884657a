/- The walk of the law FnTwos, out of the contracts. -/
import Derived.Test.YtfdopillfjcbkaaLawA
import Derived.Test.YtfdopillfjcbkaaBinM
import Derived.Test.YtfdopillfjcbkaaBinS
import Derived.Test.YtfdopillfjcbkaaBinI
namespace Go.Proofs.Ytfdopillfjcbkaa
open Go.RowKit

set_option maxHeartbeats 2000000 in
theorem fnTwos_core (a0 : Option Addr) (len cap : Nat) (w : World) (hc : Code a0 len w.heap.size w) :
    Calls Try.prog 3 #[.slice a0 len cap] w fun e w' => e = .returned (.bool true) ∧ Below w.heap.size w w' := by
  by_cases hb : 1048576 < len
  · have d : decide (1048576 < len) = true := by simpa using hb
    go_enter Try.func3, Try.ntmps3
    go_wp2_with (go_at_call 8; refine (big_any _ _ _ _).mono ?_; rintro e w' ⟨rfl, rfl⟩)
    go_ret
    exact ⟨rfl, Below.refl _ _⟩
  · have d : decide (1048576 < len) = false := by simpa using hb
    have hl : len ≤ 1048576 := by omega
    go_enter Try.func3, Try.ntmps3
    go_wp2_with (first | (go_at_call 8; refine (big_any _ _ _ _).mono ?_; rintro e w' ⟨rfl, rfl⟩) | (go_at_call 9; refine (drawBinary _ _ _ _ (by assumption) (by assumption)).mono ?_; rintro e w1 ⟨op, x, a, b, rfl, hB⟩))
    by_cases hk : binC op x a b = 0
    · obtain ⟨ho, ha, hv, hd⟩ := binC_yes hk
      have f1 := add_sub ha hv
      have f2 := xor_xor ha hv
      obtain ⟨f3, f4⟩ := res_mask ho ha hv hd
      clear ho ha hv hd
      go_wp2_with (first | (go_at_call 10; refine (binI _ _ _ _ _).mono ?_; rintro e w2 ⟨rfl, hb2, _⟩; replace hB := hB.trans (hb2.mono hB.size); clear hb2) | (go_at_call 11; refine (binS _ _ _ _ _).mono ?_; rintro e w2 ⟨rfl, rfl⟩) | (go_at_call 13; refine (maskI _ _ _).mono ?_; rintro e w2 ⟨rfl, rfl⟩) | (go_at_call 14; refine (signI _ _ _).mono ?_; rintro e w2 ⟨rfl, rfl⟩) | (go_at_call 12; refine (resI _ _ _).mono ?_; rintro e w2 ⟨rfl, rfl⟩))
      go_ret
      exact ⟨ret_bool (by first | rfl | (simp; omega)), hB⟩
    · have hk' : (binC op x a b == 0) = false := by simpa using hk
      go_wp2_with (first | (go_at_call 10; refine (binI _ _ _ _ _).mono ?_; rintro e w2 ⟨rfl, hb2, _⟩; replace hB := hB.trans (hb2.mono hB.size); clear hb2) | (go_at_call 11; refine (binS _ _ _ _ _).mono ?_; rintro e w2 ⟨rfl, rfl⟩) | (go_at_call 13; refine (maskI _ _ _).mono ?_; rintro e w2 ⟨rfl, rfl⟩) | (go_at_call 14; refine (signI _ _ _).mono ?_; rintro e w2 ⟨rfl, rfl⟩) | (go_at_call 12; refine (resI _ _ _).mono ?_; rintro e w2 ⟨rfl, rfl⟩))
      go_ret
      exact ⟨ret_bool (by first | rfl | (simp; omega)), hB⟩
end Go.Proofs.Ytfdopillfjcbkaa
