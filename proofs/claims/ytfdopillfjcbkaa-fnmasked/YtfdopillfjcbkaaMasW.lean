/- The walk of the law FnMasked, out of the contracts. -/
import Derived.Test.YtfdopillfjcbkaaLawA
import Derived.Test.YtfdopillfjcbkaaBin
namespace Go.Proofs.Ytfdopillfjcbkaa
open Go.RowKit

theorem mask_bd {x n : Int} (hx : widthB x = true) : 0 ≤ maskZ x n ∧ maskZ x n < topZ x := by
  have tp := top_pos x
  rw [maskZ, if_pos hx]
  exact ⟨Int.emod_nonneg _ (by omega), Int.emod_lt_of_pos _ (by omega)⟩
theorem mask_mask {x n : Int} (hx : widthB x = true) : maskZ x (maskZ x n) = maskZ x n := by
  have tp := top_pos x
  obtain ⟨h0, h1⟩ := mask_bd (n := n) hx
  rw [maskZ, if_pos hx, Int.emod_eq_of_lt h0 h1]
theorem tmod_of {a b : Int} (h : a % b = 0) : a.tmod b = 0 := Int.tmod_eq_zero_of_dvd (Int.dvd_of_emod_eq_zero h)
theorem mask_q1 {x n : Int} (hx : widthB x = true) : (wrap64 (n - maskZ x n)).tmod (topZ x) = 0 := by
  apply tmod_of
  rw [maskZ, if_pos hx]
  unfold wrap64
  rcases width_yes hx with rfl | rfl | rfl | rfl
  all_goals simp only [top1, top8, top16, top32]
  all_goals omega
theorem mask_q2 {x n : Int} (hx : widthB x = true) : (wrap64 (signZ x (maskZ x n) - maskZ x n)).tmod (topZ x) = 0 := by
  obtain ⟨h0, h1⟩ := mask_bd (n := n) hx
  rw [signZ, if_pos (value_mk hx h0 h1)]
  apply tmod_of
  generalize maskZ x n = m at h0 h1
  unfold sgnZ wrap64
  rcases width_yes hx with rfl | rfl | rfl | rfl
  all_goals simp only [top1, top8, top16, top32] at *
  all_goals split
  all_goals omega
set_option maxHeartbeats 1000000 in
theorem fnMasked_core (a0 : Option Addr) (len cap : Nat) (w : World) (hc : Code a0 len w.heap.size w) :
    Calls Try.prog 7 #[.slice a0 len cap] w fun e w' => e = .returned (.bool true) ∧ Below w.heap.size w w' := by
  by_cases hb : 1048576 < len
  · have d : decide (1048576 < len) = true := by simpa using hb
    go_enter Try.func7, Try.ntmps7
    go_wp2_with (go_at_call 8; refine (big_any _ _ _ _).mono ?_; rintro e w' ⟨rfl, rfl⟩)
    go_ret
    exact ⟨rfl, Below.refl _ _⟩
  · have d : decide (1048576 < len) = false := by simpa using hb
    have hl : len ≤ 1048576 := by omega
    go_enter Try.func7, Try.ntmps7
    go_wp2_with (first | (go_at_call 8; refine (big_any _ _ _ _).mono ?_; rintro e w' ⟨rfl, rfl⟩) | (go_at_call 18; refine (drawMasked _ _ _ _ (by assumption) (by assumption)).mono ?_; rintro e w1 ⟨x, n, rfl, hB⟩) | (go_at_call 13; refine (maskI _ _ _).mono ?_; rintro e w' ⟨rfl, rfl⟩))
    go_wp2_with (go_at_call 19; refine (drawSignOf _ _ _ _ (by assumption) (hc.below hB)).mono ?_; rintro e w2 ⟨u, y, rfl, hB2⟩)
    have hB3 := hB.trans (hB2.mono hB.size)
    clear hB hB2
    by_cases hx : widthB x = true
    · have hz := width_yes hx
      obtain ⟨m0, m1⟩ := mask_bd (n := n) hx
      have mm := mask_mask (n := n) hx
      have q1 := mask_q1 (n := n) hx
      have q2 := mask_q2 (n := n) hx
      rcases hz with rfl | rfl | rfl | rfl
      all_goals
        simp only [top1, top8, top16, top32] at m1 q1 q2
        go_wp2_with (first | (go_at_call 20; refine (maskS _ _ _).mono ?_; rintro e w' ⟨rfl, rfl⟩) | (go_at_call 14; refine (signI _ _ _).mono ?_; rintro e w' ⟨rfl, rfl⟩) | (go_at_call 21; refine (signS _ _ _).mono ?_; rintro e w' ⟨rfl, rfl⟩) | (go_at_call 22; refine (widthI _ _).mono ?_; rintro e w' ⟨rfl, rfl⟩) | (go_at_call 23; refine (widthS _ _).mono ?_; rintro e w' ⟨rfl, rfl⟩) | (go_at_call 13; refine (maskI _ _ _).mono ?_; rintro e w' ⟨rfl, rfl⟩))
        go_ret
        exact ⟨rfl, hB3⟩
    · have hx : widthB x = false := by simpa using hx
      go_wp2_with (first | (go_at_call 20; refine (maskS _ _ _).mono ?_; rintro e w' ⟨rfl, rfl⟩) | (go_at_call 14; refine (signI _ _ _).mono ?_; rintro e w' ⟨rfl, rfl⟩) | (go_at_call 21; refine (signS _ _ _).mono ?_; rintro e w' ⟨rfl, rfl⟩) | (go_at_call 22; refine (widthI _ _).mono ?_; rintro e w' ⟨rfl, rfl⟩) | (go_at_call 23; refine (widthS _ _).mono ?_; rintro e w' ⟨rfl, rfl⟩))
      go_ret
      exact ⟨rfl, hB3⟩
end Go.Proofs.Ytfdopillfjcbkaa
