/- A short list of numbers, sorted by the library; and turned round. -/
import Derived.Test.YtilhmpilkhadfaaMrk
import Derived.Test.YtilhmpilkhadfaaGra
import Derived.Deep.RegionWith
import Derived.BigQuiet
namespace Go.Proofs.Ytilhmpilkhadfaa
open Go.RowKit

/-- A row of numbers at the head of a block of the call's own. -/
def Row (w : World) (g : Nat) (l : List Int) : Prop := ∃ cur, w.heap[g]? = some (.cells cur 2 (0, 0)) ∧ ∀ i, i < l.length → cur[i]? = some (.int .i64 (l.getD i 0))
theorem Row.cell {w : World} {g : Nat} {l : List Int} (h : Row w g l) {i : Nat} (hi : i < l.length) : w.cell? ⟨g, i, none⟩ = some (.int .i64 (l.getD i 0)) ∧ w.frozen? ⟨g, i, none⟩ = false := by
  obtain ⟨cur, hb, hc⟩ := h
  exact ⟨(cell_of_heap hb).trans (hc i hi), froz_of_heap hb⟩
theorem getD_set {l : List Int} {i j : Nat} {v : Int} (hi : i < l.length) : (l.set i v).getD j 0 = if i = j then v else l.getD j 0 := by
  simp only [List.getD, List.getElem?_set]
  split
  · simp
  · rfl
theorem Row.set {w : World} {g : Nat} {l : List Int} (h : Row w g l) {i : Nat} (hi : i < l.length) (v : Int) : Row (w.setCell ⟨g, i, none⟩ (.int .i64 v)) g (l.set i v) := by
  obtain ⟨cur, hb, hc⟩ := h
  refine ⟨_, heap_set hb, fun j hj => ?_⟩
  rw [List.length_set] at hj
  rw [getD_set hi]
  by_cases e : i = j
  · subst e
    have := (Array.getElem?_eq_some_iff.1 (hc i hi)).1
    simp [this]
  · rw [Array.getElem?_setIfInBounds_ne e, hc j hj, if_neg e]
theorem Row.drew {w : World} {g : Nat} {l : List Int} (h : Row w g l) (n : Nat) : Row (w.drewN n) g l := h
theorem Only.drew {g : Nat} {w w' : World} (h : Only g w w') (n : Nat) : Only g w (w'.drewN n) := ⟨h.os, h.tape, h.output, h.size, h.other⟩
/-- Two of a list, one for the other. -/
def swp (l : List Int) (i j : Nat) : List Int := (l.set i (l.getD j 0)).set j (l.getD i 0)
theorem swp_len (l : List Int) (i j : Nat) : (swp l i j).length = l.length := by simp [swp]
theorem swp_perm {l : List Int} {i j : Nat} (hi : i < l.length) (hj : j < l.length) : (swp l i j).Perm l := by
  have h := List.set_set_perm hi hj
  unfold swp
  rw [show l.getD j 0 = l[j] by simp [List.getD, hj], show l.getD i 0 = l[i] by simp [List.getD, hi]]
  exact h
theorem swp_at {l : List Int} {i j k : Nat} (hi : i < l.length) (hj : j < l.length) : (swp l i j).getD k 0 = if j = k then l.getD i 0 else if i = k then l.getD j 0 else l.getD k 0 := by
  unfold swp
  rw [getD_set (by simpa using hj), getD_set hi]

/-- The inner loop's step. -/
theorem ins_step {L : List Int} {i j : Nat} (hj : 0 < j) (hji : j ≤ i) (hi : i < L.length) (hxy : L.getD j 0 < L.getD (j - 1) 0)
    (h : (∀ p q, p < q → q ≤ i → p ≠ j → q ≠ j → L.getD p 0 ≤ L.getD q 0) ∧ ∀ q, j < q → q ≤ i → L.getD j 0 ≤ L.getD q 0) :
    (∀ p q, p < q → q ≤ i → p ≠ j - 1 → q ≠ j - 1 → (swp L j (j - 1)).getD p 0 ≤ (swp L j (j - 1)).getD q 0) ∧ ∀ q, j - 1 < q → q ≤ i → (swp L j (j - 1)).getD (j - 1) 0 ≤ (swp L j (j - 1)).getD q 0 := by
  have hjl : j < L.length := by omega
  have hjl1 : j - 1 < L.length := by omega
  constructor
  · intro p q h1 h2 h3 h4
    rw [swp_at (k := p) hjl hjl1, swp_at (k := q) hjl hjl1, if_neg (show ¬ j - 1 = p by omega), if_neg (show ¬ j - 1 = q by omega)]
    by_cases hp : j = p
    · rw [if_pos hp, if_neg (by omega)]
      exact h.1 (j - 1) q (by omega) h2 (by omega) (by omega)
    · rw [if_neg hp]
      by_cases hq : j = q
      · rw [if_pos hq]
        exact h.1 p (j - 1) (by omega) (by omega) (by omega) (by omega)
      · rw [if_neg hq]
        exact h.1 p q h1 h2 (by omega) (by omega)
  · intro q h1 h2
    rw [swp_at (k := j - 1) hjl hjl1, swp_at (k := q) hjl hjl1, if_pos rfl, if_neg (show ¬ j - 1 = q by omega)]
    by_cases hq : j = q
    · rw [if_pos hq]; omega
    · rw [if_neg hq]; exact h.2 q (by omega) h2
/-- .. and its end. -/
theorem ins_end {L : List Int} {i j : Nat} (hji : j ≤ i) (h0 : j = 0 ∨ L.getD (j - 1) 0 ≤ L.getD j 0)
    (h : (∀ p q, p < q → q ≤ i → p ≠ j → q ≠ j → L.getD p 0 ≤ L.getD q 0) ∧ ∀ q, j < q → q ≤ i → L.getD j 0 ≤ L.getD q 0) : ∀ p q, p < q → q < i + 1 → L.getD p 0 ≤ L.getD q 0 := by
  intro p q h1 h2
  by_cases hp : p = j
  · subst hp; exact h.2 q h1 (by omega)
  · by_cases hq : q = j
    · subst hq
      rcases h0 with h0 | h0
      · omega
      · by_cases hpq : p = q - 1
        · rw [hpq]; exact h0
        · exact Int.le_trans (h.1 p (q - 1) (by omega) (by omega) hp (by omega)) h0
    · exact h.1 p q h1 (by omega) hp hq

theorem nanI (x : Int) (w : World) : Calls Try.prog 105 #[.int .i64 x] w fun e w' => e = .returned (.bool false) ∧ w' = w := by
  go_enter Try.func105, Try.ntmps105
  go_wp2_with fail
  go_ret
  exact ⟨rfl, rfl⟩
theorem lessI (x y : Int) (w : World) : Calls Try.prog 85 #[.int .i64 x, .int .i64 y] w fun e w' => e = .returned (.bool (decide (x < y))) ∧ w' = w := by
  go_enter Try.func85, Try.ntmps85
  go_wp2_with (go_at_call 105; refine (nanI _ _).mono ?_; rintro e w1 ⟨rfl, rfl⟩)
  go_ret
  exact ⟨rfl, rfl⟩

set_option maxHeartbeats 4000000 in
theorem insI (g cap : Nat) (l : List Int) (w : World) (hn : l.length ≤ 1000) (hr : Row w g l) :
    Calls Try.prog 79 #[.slice (some ⟨g, 0, none⟩) l.length cap, .int .i64 0, .int .i64 l.length] w fun e w' => e = .returned (.tuple #[]) ∧ Only g w w' ∧ ∃ l', l'.Perm l ∧ Row w' g l' ∧ ∀ p q, p < q → q < l.length → l'.getD p 0 ≤ l'.getD q 0 := by
  have HR : Hid (Row w g l) := hr
  clear hr
  go_enter Try.func79, Try.ntmps79
  go_wp2_with fail
  go_loopw [6] (fun vi wr => ∃ (i : Nat) (L : List Int), vi = .int .i64 i ∧ 0 < i ∧ i ≤ 1001 ∧ Hid (L.Perm l) ∧ Hid (L.length = l.length) ∧ Hid (Row wr g L) ∧ Hid (Only g w wr) ∧ Hid (∀ p q, p < q → q < i → q < l.length → L.getD p 0 ≤ L.getD q 0)) (fun vi _ => 1001 - (intOf vi).toNat)
  case atStart => exact ⟨1, l, by go_num, by omega, by omega, List.Perm.refl _, rfl, HR.out, Only.refl _ _, fun p q h1 h2 _ => by omega⟩
  case round =>
    obtain ⟨i, L, rfl, hi0, hi1, HP, HL, HW, HO, HS⟩ := hrel
    by_cases hlt : i < l.length
    · go_wp2_with fail
      go_loopw [7] (fun vj wq => ∃ (j : Nat) (L : List Int), vj = .int .i64 j ∧ j ≤ i ∧ Hid (L.Perm l) ∧ Hid (L.length = l.length) ∧ Hid (Row wq g L) ∧ Hid (Only g w wq) ∧ Hid ((∀ p q, p < q → q ≤ i → p ≠ j → q ≠ j → L.getD p 0 ≤ L.getD q 0) ∧ ∀ q, j < q → q ≤ i → L.getD j 0 ≤ L.getD q 0)) (fun vj _ => (intOf vj).toNat)
      case atStart => exact ⟨i, L, rfl, Nat.le_refl _, HP.out, HL.out, HW.out, HO.out, fun p q h1 h2 _ h4 => HS.out p q h1 (by omega) (by omega), fun q h1 h2 => by omega⟩
      case round =>
        obtain ⟨j, L, rfl, hj, HP, HL, HW, HO, HI⟩ := hrel
        by_cases hj0 : 0 < j
        · have hjl : j < L.length := by have := HL.out; omega
          have hjl1 : j - 1 < L.length := by omega
          obtain ⟨x, HX⟩ : ∃ x : Int, Hid (L.getD j 0 = x) := ⟨_, rfl⟩
          obtain ⟨y, HY⟩ : ∃ y : Int, Hid (L.getD (j - 1) 0 = y) := ⟨_, rfl⟩
          obtain ⟨e1, f1⟩ := HW.out.cell hjl
          obtain ⟨e2, f2⟩ := HW.out.cell hjl1
          rw [HX.out] at e1
          rw [HY.out] at e2
          go_wp2_with fail
          by_cases hxy : x < y
          · have hd : decide (x < y) = true := by simpa using hxy
            have HJ : Hid (j < L.length ∧ j - 1 < L.length) := ⟨hjl, hjl1⟩
            clear hjl hjl1
            go_quiet (first | (go_at_call 85; refine Calls.quiet_of_same (lessI _ _ _)))
            go_wp2_with fail
            go_region
            all_goals go_wp2_with fail
            all_goals
              refine ⟨⟨j - 1, swp L j (j - 1), by go_num, by omega, (swp_perm HJ.out.1 HJ.out.2).trans HP.out, by show _ = _; rw [swp_len]; exact HL.out, ?_, ((HO.out.drew _).set _ _).set _ _, ins_step hj0 hj (by rw [HL.out]; omega) (by rw [HX.out, HY.out]; exact hxy) HI.out⟩, by simp only [intOf]; omega⟩
              show Row _ _ _
              unfold swp
              rw [HX.out, HY.out]
              exact ((HW.out.drew _).set HJ.out.1 y).set (by simpa using HJ.out.2) x
          · have hd : decide (x < y) = false := by simpa using hxy
            go_quiet (first | (go_at_call 85; refine Calls.quiet_of_same (lessI _ _ _)))
            go_wp2_with fail
            exact ⟨⟨i + 1, L, by go_num, by omega, by omega, HP.out, HL.out, HW.out.drew _, HO.out.drew _, fun p q h1 h2 _ => ins_end hj (.inr (by rw [HX.out, HY.out]; omega)) HI.out p q h1 h2⟩, by simp only [intOf]; omega⟩
        · have hd : decide ((0 : Int) < (j : Int)) = false := by simp; omega
          go_wp2_with fail
          go_quiet (first | (go_at_call 85; refine Calls.quiet_of_same (lessI _ _ _)))
          go_wp2_with fail
          exact ⟨⟨i + 1, L, by go_num, by omega, by omega, HP.out, HL.out, HW.out.drew _, HO.out.drew _, fun p q h1 h2 _ => ins_end hj (.inl (by omega)) HI.out p q h1 h2⟩, by simp only [intOf]; omega⟩
    · go_wp2_with fail
      go_end0
      exact ⟨rfl, HO.out, L, HP.out, HW.out, fun p q h1 h2 => HS.out p q h1 (by omega) h2⟩
set_option maxRecDepth 1000000 in
set_option maxHeartbeats 4000000 in
theorem len64I (x : Int) (w : World) (h0 : 0 ≤ x) (h1 : x ≤ 12) : Calls Try.prog 89 #[.int .u64 x] w fun e w' => (∃ y : Int, e = .returned (.int .i64 y)) ∧ w' = w := by
  have hx : x = 0 ∨ x = 1 ∨ x = 2 ∨ x = 3 ∨ x = 4 ∨ x = 5 ∨ x = 6 ∨ x = 7 ∨ x = 8 ∨ x = 9 ∨ x = 10 ∨ x = 11 ∨ x = 12 := by omega
  clear h0 h1
  rcases hx with rfl | rfl | rfl | rfl | rfl | rfl | rfl | rfl | rfl | rfl | rfl | rfl | rfl
  all_goals
    go_enter Try.func89, Try.ntmps89
    go_wp2_with fail
    go_ret
    exact ⟨⟨_, rfl⟩, rfl⟩
end Go.Proofs.Ytilhmpilkhadfaa
