/- The laws' own functions over lists of numbers: has, within, rising, sameInts. -/
import Derived.Test.YtiflkkkggidhbaaTo1
import Derived.Deep.QuietTactic
import Derived.BigQuiet
namespace Go.Proofs.Ytiflkkkggidhbaa
open Go.RowKit

/-- The cells of a list, wherever it stands. -/
theorem ints_cell {w : World} {lo : Nat} {a : Option Addr} {l : List Int} (h : IntsAt w lo a l) {k : Nat} (hk : k < l.length) : ∃ b off, a = some ⟨b, off, none⟩ ∧ w.cell? ⟨b, off + k, none⟩ = some (.int .i64 (l.getD k 0)) := by
  rcases h.2 with h | ⟨b, off, ha, _, _, hc⟩
  · rw [h] at hk; simp at hk
  · exact ⟨b, off, ha, hc k hk⟩
set_option maxHeartbeats 1000000 in
theorem hasL (lo : Nat) (a : Option Addr) (c : Nat) (l : List Int) (n : Int) (v : Bool) (w : World) (hl : l.length ≤ 1048576) (h : IntsAt w lo a l) (hv : v = true ↔ n ∈ l) :
    Calls Try.prog 20 #[.slice a l.length c, .int .i64 n] w fun e w' => e = .returned (.bool v) ∧ w' = w := by
  have HI : Hid (IntsAt w lo a l) := h
  have HV : Hid (v = true ↔ n ∈ l) := hv
  clear h hv
  go_enter Try.func20, Try.ntmps20
  go_wp2_with fail
  go_loop [5] (fun q => ∃ k : Nat, k ≤ l.length ∧ q = .int .i64 k ∧ Hid (∀ j, j < k → l.getD j 0 ≠ n)) (fun q => l.length - (intOf q).toNat)
  case atStart => exact ⟨0, by omega, rfl, fun j hj => by omega⟩
  case round =>
    obtain ⟨k, hk, rfl, HD⟩ := hrel
    by_cases hlt : k < l.length
    · obtain ⟨b, off, rfl, e1⟩ := ints_cell HI.out hlt
      obtain ⟨x, HX⟩ : ∃ x : Int, Hid (l.getD k 0 = x) := ⟨_, rfl⟩
      rw [HX.out] at e1
      by_cases hx : x = n
      · have hd : (x == n) = true := by simpa using hx
        go_wp2_with fail
        go_ret
        have hm : n ∈ l := by rw [← hx, ← HX.out]; exact getD_mem 0 l k hlt
        exact ⟨by rw [HV.out.2 hm]; rfl, rfl⟩
      · have hd : (x == n) = false := by simpa using hx
        go_wp2_with fail
        refine ⟨⟨k + 1, by omega, by go_num, fun j hj => ?_⟩, by simp only [intOf]; omega⟩
        by_cases e : j = k
        · subst e; rw [HX.out]; exact hx
        · exact HD.out j (by omega)
    · go_wp2_with fail
      go_ret
      have hm : n ∉ l := fun hm => by
        obtain ⟨j, hj, e⟩ := List.getElem_of_mem hm
        exact HD.out j (by omega) (by simp [List.getD, hj, e])
      have hf : v = false := by
        cases hq : v with
        | false => rfl
        | true => exact absurd (HV.out.1 hq) hm
      exact ⟨by rw [hf]; rfl, rfl⟩
set_option maxHeartbeats 1000000 in
theorem risingL (lo : Nat) (a : Option Addr) (c : Nat) (l : List Int) (w : World) (hl : l.length ≤ 1048576) (h : IntsAt w lo a l) (hr : l.Pairwise (· < ·)) :
    Calls Try.prog 21 #[.slice a l.length c] w fun e w' => e = .returned (.bool true) ∧ ∃ n, w' = w.drewN n := by
  have HI : Hid (IntsAt w lo a l) := h
  have HR : Hid (l.Pairwise (· < ·)) := hr
  clear h hr
  go_enter Try.func21, Try.ntmps21
  go_wp2_with fail
  go_loopw [3] (fun q wr => ∃ k : Nat, 1 ≤ k ∧ k ≤ l.length + 1 ∧ q = .int .i64 k ∧ ∃ n, wr = w.drewN n) (fun q _ => l.length + 1 - (intOf q).toNat)
  case atStart => exact ⟨1, by omega, by omega, by go_num, 0, rfl⟩
  case round =>
    obtain ⟨k, hk1, hk, rfl, n, rfl⟩ := hrel
    by_cases hlt : k < l.length
    · obtain ⟨b, off, rfl, e1⟩ := ints_cell HI.out hlt
      obtain ⟨b', off', hbb, e2⟩ := ints_cell HI.out (show k - 1 < l.length by omega)
      cases hbb
      obtain ⟨x, HX⟩ : ∃ x : Int, Hid (l.getD k 0 = x) := ⟨_, rfl⟩
      obtain ⟨y, HY⟩ : ∃ y : Int, Hid (l.getD (k - 1) 0 = y) := ⟨_, rfl⟩
      rw [HX.out] at e1
      rw [HY.out] at e2
      have hxy : y < x := by
        have h := List.pairwise_iff_getElem.1 HR.out (k - 1) k (by omega) hlt (by omega)
        rw [← HX.out, ← HY.out]
        simpa [List.getD, hlt, show k - 1 < l.length by omega] using h
      have hd : decide (x ≤ y) = false := by simp; omega
      go_wp2_with fail
      go_quiet (fail)
      go_wp2_with fail
      exact ⟨⟨k + 1, by omega, by omega, by go_num, _, rfl⟩, by simp only [intOf]; omega⟩
    · go_wp2_with fail
      go_ret
      exact ⟨rfl, n, rfl⟩
set_option maxHeartbeats 1000000 in
theorem sameL (lo lo' : Nat) (a b : Option Addr) (c c' : Nat) (l : List Int) (w : World) (hl : l.length ≤ 1048576) (h : IntsAt w lo a l) (h' : IntsAt w lo' b l) :
    Calls Try.prog 15 #[.slice a l.length c, .slice b l.length c'] w fun e w' => e = .returned (.bool true) ∧ ∃ n, w' = w.drewN n := by
  have HI : Hid (IntsAt w lo a l) := h
  have HM : Hid (IntsAt w lo' b l) := h'
  clear h h'
  go_enter Try.func15, Try.ntmps15
  go_wp2_with fail
  go_loopw [5] (fun q wr => ∃ k : Nat, k ≤ l.length ∧ q = .int .i64 k ∧ ∃ n, wr = w.drewN n) (fun q _ => l.length - (intOf q).toNat)
  case atStart => exact ⟨0, by omega, rfl, 0, rfl⟩
  case round =>
    obtain ⟨k, hk, rfl, n, rfl⟩ := hrel
    by_cases hlt : k < l.length
    · obtain ⟨b1, o1, rfl, e1⟩ := ints_cell HI.out hlt
      obtain ⟨b2, o2, rfl, e2⟩ := ints_cell HM.out hlt
      obtain ⟨x, HX⟩ : ∃ x : Int, Hid (l.getD k 0 = x) := ⟨_, rfl⟩
      rw [HX.out] at e1 e2
      go_wp2_with fail
      go_quiet (fail)
      go_wp2_with fail
      exact ⟨⟨k + 1, by omega, by go_num, _, rfl⟩, by simp only [intOf]; omega⟩
    · go_wp2_with fail
      go_ret
      exact ⟨rfl, n, rfl⟩
end Go.Proofs.Ytiflkkkggidhbaa
