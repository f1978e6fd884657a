/- A short list of numbers, turned round by the library. -/
import Derived.Test.YtilhmpilkhadfaaSrt
namespace Go.Proofs.Ytilhmpilkhadfaa
open Go.RowKit

theorem rev_getD (l : List Int) (p : Nat) (h : p < l.length) : l.reverse.getD p 0 = l.getD (l.length - 1 - p) 0 := by
  simp only [List.getD]
  rw [List.getElem?_reverse h]
theorem list_ext {a b : List Int} (h : a.length = b.length) (k : ∀ p, p < b.length → a.getD p 0 = b.getD p 0) : a = b := by
  apply List.ext_getElem h
  intro i h1 h2
  have := k i h2
  simpa [List.getD, h1, h2] using this
theorem revZero (u : Option Addr) (c : Nat) (w : World) : Calls Try.prog 50 #[.slice u 0 c] w fun e w' => e = .returned (.tuple #[]) ∧ w' = w := by
  go_enter Try.func50, Try.ntmps50
  go_wp2_with fail
  go_loop [2, 3] (fun a b => a = .int .i64 0 ∧ b = .int .i64 (-1)) (fun _ _ => 0)
  case atStart => exact ⟨rfl, rfl⟩
  case round =>
    obtain ⟨rfl, rfl⟩ := hrel
    go_wp2_with fail
    go_end0
    exact ⟨rfl, rfl⟩
set_option maxHeartbeats 4000000 in
theorem revRow (g cap : Nat) (l : List Int) (w : World) (hn : l.length ≤ 1000) (h0 : 0 < l.length) (hr : Row w g l) :
    Calls Try.prog 50 #[.slice (some ⟨g, 0, none⟩) l.length cap] w fun e w' => e = .returned (.tuple #[]) ∧ Only g w w' ∧ Row w' g l.reverse := by
  have HR : Hid (Row w g l) := hr
  clear hr
  go_enter Try.func50, Try.ntmps50
  go_wp2_with fail
  go_loopw [2, 3] (fun a b wr => ∃ (i : Nat) (L : List Int), a = .int .i64 i ∧ b = .int .i64 ((l.length : Int) - 1 - i) ∧ 2 * i ≤ l.length + 1 ∧ Hid (L.length = l.length) ∧ Hid (Row wr g L) ∧ Hid (Only g w wr) ∧ Hid (∀ p, p < l.length → L.getD p 0 = if p < i ∨ l.length - 1 - i < p then l.getD (l.length - 1 - p) 0 else l.getD p 0)) (fun a _ _ => l.length - (intOf a).toNat)
  case atStart => exact ⟨0, l, rfl, by refine congrArg (Value.int .i64) ?_; omega, by omega, rfl, HR.out, Only.refl _ _, fun p hp => by rw [if_neg (by omega)]⟩
  case round =>
    obtain ⟨i, L, rfl, rfl, hi, HL, HW, HO, HP⟩ := hrel
    by_cases hlt : (i : Int) < (l.length : Int) - 1 - i
    · have hiL : i < L.length := by have := HL.out; omega
      have hjL : l.length - 1 - i < L.length := by have := HL.out; omega
      obtain ⟨x, HX⟩ : ∃ x : Int, Hid (L.getD i 0 = x) := ⟨_, rfl⟩
      obtain ⟨y, HY⟩ : ∃ y : Int, Hid (L.getD (l.length - 1 - i) 0 = y) := ⟨_, rfl⟩
      obtain ⟨e1, f1⟩ := HW.out.cell hiL
      obtain ⟨e2, f2⟩ := HW.out.cell hjL
      rw [HX.out] at e1
      rw [HY.out] at e2
      obtain ⟨j, hj⟩ : ∃ j : Nat, j = l.length - 1 - i := ⟨_, rfl⟩
      have hjI : ((l.length : Int) - 1 - i) = (j : Int) := by omega
      rw [← hj] at e2 f2 hjL
      rw [hjI] at hlt ⊢
      have HJ : Hid (j = l.length - 1 - i) := hj
      have HB : Hid (i < L.length ∧ j < L.length) := ⟨hiL, hjL⟩
      have hjl : j < l.length := by omega
      have hil : i < l.length := by omega
      clear hj hjI hiL hjL
      go_wp2_with fail
      go_region
      all_goals go_wp2_with fail
      all_goals
        have hjj := HJ.out
        have hbb := HB.out
        have hLL := HL.out
        refine ⟨⟨i + 1, swp L i j, by go_num, by refine congrArg (Value.int .i64) ?_; omega, by omega, by show _ = _; rw [swp_len]; exact hLL, ?_, (((HO.out.set i (.int .i64 y)).set j (.int .i64 x)).drew 1), fun p hp => ?_⟩, by simp only [intOf]; omega⟩
        · show Row _ _ _
          unfold swp
          rw [HX.out, hjj, HY.out, ← hjj]
          exact ((HW.out.set hbb.1 y).set (by simpa using hbb.2) x).drew 1
        · rw [swp_at hbb.1 hbb.2]
          by_cases h1 : j = p
          · rw [if_pos h1, if_pos (by omega), HP.out i (by omega), if_neg (by omega)]
            congr 1; omega
          · rw [if_neg h1]
            by_cases h2 : i = p
            · rw [if_pos h2, if_pos (by omega), HP.out j (by omega), if_neg (by omega)]
              congr 1; omega
            · rw [if_neg h2, HP.out p hp]
              by_cases h3 : p < i ∨ l.length - 1 - i < p
              · rw [if_pos h3, if_pos (by omega)]
              · rw [if_neg h3, if_neg (by omega)]
    · go_wp2_with fail
      go_end0
      refine ⟨rfl, HO.out, ?_⟩
      have e : L = l.reverse := list_ext (by rw [HL.out]; simp) fun p hp => by
        rw [List.length_reverse] at hp
        rw [HP.out p hp, rev_getD l p hp]
        by_cases h : p < i ∨ l.length - 1 - i < p
        · rw [if_pos h]
        · rw [if_neg h]; congr 1; omega
      rw [← e]; exact HW.out
theorem revI (base : Nat) (u : Option Addr) (c : Nat) (l : List Int) (w : World) (hl : l.length ≤ 1000) (h : OI w base u l) :
    Calls Try.prog 50 #[.slice u l.length c] w fun e w' => e = .returned (.tuple #[]) ∧ OI w' base u l.reverse ∧ ∃ g, base ≤ g ∧ Only g w w' := by
  rcases h.2 with rfl | ⟨g, cur, rfl, hg, hb, hc⟩
  · refine (revZero u c w).mono ?_
    rintro e w1 ⟨rfl, rfl⟩
    exact ⟨rfl, h, base, Nat.le_refl _, Only.refl _ _⟩
  · by_cases h0 : 0 < l.length
    · refine (revRow g c l w hl h0 ⟨cur, hb, hc⟩).mono ?_
      rintro e w1 ⟨rfl, ho, cur', hb', hc'⟩
      exact ⟨rfl, ⟨by rw [List.length_reverse]; omega, .inr ⟨g, cur', rfl, hg, hb', hc'⟩⟩, g, hg, ho⟩
    · have e : l = [] := List.length_eq_zero_iff.1 (by omega)
      subst e
      refine (revZero (some ⟨g, 0, none⟩) c w).mono ?_
      rintro e w1 ⟨rfl, rfl⟩
      exact ⟨rfl, h, base, Nat.le_refl _, Only.refl _ _⟩
end Go.Proofs.Ytilhmpilkhadfaa
