/- The walk of the law FnOrders, out of the contracts. -/
import Derived.Test.YtfdopillfjcbkaaLawA
import Derived.Test.YtfdopillfjcbkaaBinM
import Derived.Test.YtfdopillfjcbkaaBinS
import Derived.Test.YtfdopillfjcbkaaBinI
namespace Go.Proofs.Ytfdopillfjcbkaa
open Go.RowKit

set_option maxHeartbeats 2000000 in
theorem fnOrders_core (a0 : Option Addr) (len cap : Nat) (w : World) (hc : Code a0 len w.heap.size w) :
    Calls Try.prog 5 #[.slice a0 len cap] w fun e w' => e = .returned (.bool true) ∧ Below w.heap.size w w' := by
  by_cases hb : 1048576 < len
  · have d : decide (1048576 < len) = true := by simpa using hb
    go_enter Try.func5, Try.ntmps5
    go_wp2_with (go_at_call 8; refine (big_any _ _ _ _).mono ?_; rintro e w' ⟨rfl, rfl⟩)
    go_ret
    exact ⟨rfl, Below.refl _ _⟩
  · have d : decide (1048576 < len) = false := by simpa using hb
    have hl : len ≤ 1048576 := by omega
    go_enter Try.func5, Try.ntmps5
    go_wp2_with (first | (go_at_call 8; refine (big_any _ _ _ _).mono ?_; rintro e w' ⟨rfl, rfl⟩) | (go_at_call 9; refine (drawBinary _ _ _ _ (by assumption) (by assumption)).mono ?_; rintro e w1 ⟨op, x, a, b, rfl, hB⟩))
    by_cases hk : binC 14 x a b = 0
    · obtain ⟨_, ha, hv, _⟩ := binC_yes hk
      by_cases hab : a = b
      · subst hab
        have f1 : binZ 14 x a a = 1 := by rw [bin14 ha ha]; simp [bitZ]
        have f2 : binZ 15 x a a = 0 := by rw [bin15 ha ha]; simp [bitZ]
        have f3 : binZ 16 x a a = 0 := by rw [bin16 ha ha]; simp [bitZ]
        have f4 : binZ 17 x a a = 0 := by rw [bin17 ha ha]; simp [bitZ]
        clear ha hv
        go_wp2_with (first | (go_at_call 10; refine (binI _ _ _ _ _).mono ?_; rintro e w2 ⟨rfl, hb2, _⟩; replace hB := hB.trans (hb2.mono hB.size); clear hb2) | (go_at_call 11; refine (binS _ _ _ _ _).mono ?_; rintro e w2 ⟨rfl, rfl⟩) | (go_at_call 13; refine (maskI _ _ _).mono ?_; rintro e w2 ⟨rfl, rfl⟩) | (go_at_call 14; refine (signI _ _ _).mono ?_; rintro e w2 ⟨rfl, rfl⟩) | (go_at_call 12; refine (resI _ _ _).mono ?_; rintro e w2 ⟨rfl, rfl⟩))
        go_ret
        exact ⟨ret_bool (by first | rfl | (simp; omega)), hB⟩
      · have st := stand ha hv hab
        have hba : ¬ b = a := fun e => hab e.symm
        have f1 : binZ 14 x a b = 0 := by rw [bin14 ha hv]; simp [bitZ, hab]
        have f2 : binZ 15 x a b = 1 := by rw [bin15 ha hv]; simp [bitZ, hab]
        have g1 := bin16 ha hv
        have g2 := bin16 hv ha
        have g3 := bin17 ha hv
        have g4 := bin17 hv ha
        rw [← sign_val ha, ← sign_val hv] at g3 g4
        clear ha hv
        obtain ⟨s1 | s1, s2 | s2⟩ := st
        all_goals
          have t1 : ¬ (a < b ∧ b < a) := by omega
          simp only [bitZ, decide_eq_true_eq] at g1 g2 g3 g4
          first | rw [if_pos s1] at g1 | rw [if_neg (by omega)] at g1
          first | rw [if_pos s1] at g2 | rw [if_neg (by omega)] at g2
          first | rw [if_pos s2] at g3 | rw [if_neg (by omega)] at g3
          first | rw [if_pos s2] at g4 | rw [if_neg (by omega)] at g4
          clear t1
          go_wp2_with (first | (go_at_call 10; refine (binI _ _ _ _ _).mono ?_; rintro e w2 ⟨rfl, hb2, _⟩; replace hB := hB.trans (hb2.mono hB.size); clear hb2) | (go_at_call 11; refine (binS _ _ _ _ _).mono ?_; rintro e w2 ⟨rfl, rfl⟩) | (go_at_call 13; refine (maskI _ _ _).mono ?_; rintro e w2 ⟨rfl, rfl⟩) | (go_at_call 14; refine (signI _ _ _).mono ?_; rintro e w2 ⟨rfl, rfl⟩) | (go_at_call 12; refine (resI _ _ _).mono ?_; rintro e w2 ⟨rfl, rfl⟩))
          go_ret
          exact ⟨ret_bool (by first | rfl | (simp; omega)), hB⟩
    · have hk' : (binC 14 x a b == 0) = false := by simpa using hk
      go_wp2_with (first | (go_at_call 10; refine (binI _ _ _ _ _).mono ?_; rintro e w2 ⟨rfl, hb2, _⟩; replace hB := hB.trans (hb2.mono hB.size); clear hb2) | (go_at_call 11; refine (binS _ _ _ _ _).mono ?_; rintro e w2 ⟨rfl, rfl⟩) | (go_at_call 13; refine (maskI _ _ _).mono ?_; rintro e w2 ⟨rfl, rfl⟩) | (go_at_call 14; refine (signI _ _ _).mono ?_; rintro e w2 ⟨rfl, rfl⟩) | (go_at_call 12; refine (resI _ _ _).mono ?_; rintro e w2 ⟨rfl, rfl⟩))
      go_ret
      exact ⟨ret_bool (by first | rfl | (simp; omega)), hB⟩
end Go.Proofs.Ytfdopillfjcbkaa
