/- What is below a count, and lists of such, and of widths: the contracts. -/
import Derived.Test.YtpmanjkaiknlhaaDoorCas
import Derived.Test.YtpmanjkaiknlhaaDoorSz
namespace Go.Proofs.YtpmanjkaiknlhaaDoor
open Go.RowKit
set_option linter.unusedVariables false

def belowB (n c : Int) : Bool := decide (0 ≤ n) && decide (n < c)
theorem in_below (n c : Int) : (decide (0 ≤ n) && decide (n ≤ c - 1)) = belowB n c := by
  unfold belowB
  by_cases h : n < c
  · rw [decide_eq_true h, decide_eq_true (show n ≤ c - 1 by omega)]
  · rw [decide_eq_false h, decide_eq_false (show ¬ n ≤ c - 1 by omega)]
theorem inB (n c : Int) (w : World) : Calls Tryd.prog 35 #[.int .i64 n, .int .i64 0, .int .i64 (c - 1)] w fun e w' => e = .returned (.bool (belowB n c)) ∧ w' = w := by
  have h := inS n 0 (c - 1) w
  rw [in_below] at h
  exact h
theorem belowFI (n c : Int) (w : World) : Calls Tryd.prog 50 #[.int .i64 n, .int .i64 c] w fun e w' => e = .returned (.bool (belowB n c)) ∧ w' = w := by
  by_cases h0 : 0 ≤ n
  · by_cases h1 : n < c
    · have E : Hid (true = belowB n c) := by show _ = _; rw [belowB, decide_eq_true h0, decide_eq_true h1]; rfl
      go_enter Tryd.func50, Tryd.ntmps50
      go_wp2_with fail
      go_ret
      exact ⟨ret_bool (by simpa [h0, h1] using E.out), rfl⟩
    · have E : Hid (false = belowB n c) := by show _ = _; rw [belowB, decide_eq_true h0, decide_eq_false h1]; rfl
      go_enter Tryd.func50, Tryd.ntmps50
      go_wp2_with fail
      go_ret
      exact ⟨ret_bool (by simpa [h0, h1] using E.out), rfl⟩
  · have E : Hid (false = belowB n c) := by show _ = _; rw [belowB, decide_eq_false h0]; rfl
    go_enter Tryd.func50, Tryd.ntmps50
    go_wp2_with fail
    go_ret
    exact ⟨ret_bool (by simpa [h0] using E.out), rfl⟩
theorem all_no {α : Type} (z : α) {f : α → Bool} (l : List α) (k : Nat) (h : k < l.length) (hn : ¬ f (l.getD k z) = true) : l.all f = false := by
  rw [List.all_eq_false]
  exact ⟨_, getD_mem z l k h, hn⟩
theorem all_yes {α : Type} (z : α) {f : α → Bool} (l : List α) (h : ∀ j, j < l.length → f (l.getD j z) = true) : l.all f = true := by
  rw [List.all_eq_true]
  intro x hx
  obtain ⟨j, hj, e⟩ := List.getElem_of_mem hx
  have := h j hj
  simp [List.getD, hj] at this
  rw [← e]; exact this
set_option maxHeartbeats 1000000 in
theorem allBelowI (lo : Nat) (a : Option Addr) (cap : Nat) (l : List Int) (c : Int) (w : World) (hv : IntsAt w lo a l) :
    Calls Tryd.prog 41 #[.slice a l.length cap, .int .i64 c] w fun e w' => e = .returned (.bool (l.all fun n => belowB n c)) ∧ w' = w := by
  have hm := hv.1
  go_enter Tryd.func41, Tryd.ntmps41
  go_wp2_with fail
  go_loop [9] (fun i => ∃ k : Nat, k ≤ l.length ∧ i = .int .i64 k ∧ Hid (∀ j, j < k → (fun n => belowB n c) (l.getD j 0) = true)) (fun i => l.length - (intOf i).toNat)
  case atStart => exact ⟨0, by omega, rfl, fun j hj => by omega⟩
  case round =>
    obtain ⟨k, hk, rfl, HD⟩ := hrel
    by_cases hlt : k < l.length
    · rcases hv.2 with rfl | ⟨b, off, rfl, hlo, hb, hcell⟩
      · simp at hlt
      have e0 := hcell k hlt
      generalize hx : l.getD k 0 = x at e0
      have HX : Hid (l.getD k 0 = x) := hx
      clear hcell hx hv
      by_cases hp : (fun n => belowB n c) x = true
      · have HP : Hid ((fun n => belowB n c) x = true) := hp
        dsimp only at hp
        go_wp2_with (go_at_call 50; refine (belowFI _ _ _).mono ?_; rintro e w' ⟨rfl, rfl⟩)
        exact ⟨⟨k + 1, by omega, by go_num, fun j hj => by
          by_cases e : j = k
          · subst e; rw [HX.out]; exact HP.out
          · exact HD.out j (by omega)⟩, by simp only [intOf]; omega⟩
      · have HP : Hid (¬ (fun n => belowB n c) x = true) := hp
        dsimp only at hp
        have hp2 := Bool.eq_false_iff.2 hp
        clear hp
        go_wp2_with (go_at_call 50; refine (belowFI _ _ _).mono ?_; rintro e w' ⟨rfl, rfl⟩)
        go_ret
        refine ⟨ret_bool ?_, rfl⟩
        exact (all_no 0 l k hlt (by rw [HX.out]; exact HP.out)).symm
    · have hke : k = l.length := by omega
      go_wp2_with fail
      go_ret
      exact ⟨ret_bool (all_yes 0 l (fun j hj => HD.out j (by omega))).symm, rfl⟩
set_option maxHeartbeats 1000000 in
theorem allWidthsI (lo : Nat) (a : Option Addr) (cap : Nat) (l : List Int) (w : World) (hv : IntsAt w lo a l) :
    Calls Tryd.prog 42 #[.slice a l.length cap] w fun e w' => e = .returned (.bool (l.all fun n => widthB n)) ∧ w' = w := by
  have hm := hv.1
  go_enter Tryd.func42, Tryd.ntmps42
  go_wp2_with fail
  go_loop [7] (fun i => ∃ k : Nat, k ≤ l.length ∧ i = .int .i64 k ∧ Hid (∀ j, j < k → (fun n => widthB n) (l.getD j 0) = true)) (fun i => l.length - (intOf i).toNat)
  case atStart => exact ⟨0, by omega, rfl, fun j hj => by omega⟩
  case round =>
    obtain ⟨k, hk, rfl, HD⟩ := hrel
    by_cases hlt : k < l.length
    · rcases hv.2 with rfl | ⟨b, off, rfl, hlo, hb, hcell⟩
      · simp at hlt
      have e0 := hcell k hlt
      generalize hx : l.getD k 0 = x at e0
      have HX : Hid (l.getD k 0 = x) := hx
      clear hcell hx hv
      by_cases hp : (fun n => widthB n) x = true
      · have HP : Hid ((fun n => widthB n) x = true) := hp
        dsimp only at hp
        go_wp2_with (go_at_call 51; refine (widthI _ _).mono ?_; rintro e w' ⟨rfl, rfl⟩)
        exact ⟨⟨k + 1, by omega, by go_num, fun j hj => by
          by_cases e : j = k
          · subst e; rw [HX.out]; exact HP.out
          · exact HD.out j (by omega)⟩, by simp only [intOf]; omega⟩
      · have HP : Hid (¬ (fun n => widthB n) x = true) := hp
        dsimp only at hp
        have hp2 := Bool.eq_false_iff.2 hp
        clear hp
        go_wp2_with (go_at_call 51; refine (widthI _ _).mono ?_; rintro e w' ⟨rfl, rfl⟩)
        go_ret
        refine ⟨ret_bool ?_, rfl⟩
        exact (all_no 0 l k hlt (by rw [HX.out]; exact HP.out)).symm
    · have hke : k = l.length := by omega
      go_wp2_with fail
      go_ret
      exact ⟨ret_bool (all_yes 0 l (fun j hj => HD.out j (by omega))).symm, rfl⟩
end Go.Proofs.YtpmanjkaiknlhaaDoor
