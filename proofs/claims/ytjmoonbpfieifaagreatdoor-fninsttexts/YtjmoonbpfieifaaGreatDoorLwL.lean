/- The laws' own functions over lists of numbers: has, within, rising, sameInts. -/
import Derived.Test.YtjmoonbpfieifaaGreatDoorSzQ
import Derived.Deep.QuietTactic
import Derived.BigQuiet
namespace Go.Proofs.YtjmoonbpfieifaaGreatDoor
open Go.RowKit

/-- The cells of a list, wherever it stands. -/
theorem ints_cell {w : World} {lo : Nat} {a : Option Addr} {l : List Int} (h : IntsAt w lo a l) {k : Nat} (hk : k < l.length) : ∃ b off, a = some ⟨b, off, none⟩ ∧ w.cell? ⟨b, off + k, none⟩ = some (.int .i64 (l.getD k 0)) := by
  rcases h.2 with h | ⟨b, off, ha, _, _, hc⟩
  · rw [h] at hk; simp at hk
  · exact ⟨b, off, ha, hc k hk⟩
set_option maxHeartbeats 1000000 in
theorem sameL (lo lo' : Nat) (a b : Option Addr) (c c' : Nat) (l : List Int) (w : World) (hl : l.length ≤ 1048576) (h : IntsAt w lo a l) (h' : IntsAt w lo' b l) :
    Calls Tryz.prog 26 #[.slice a l.length c, .slice b l.length c'] w fun e w' => e = .returned (.bool true) ∧ ∃ n, w' = w.drewN n := by
  have HI : Hid (IntsAt w lo a l) := h
  have HM : Hid (IntsAt w lo' b l) := h'
  clear h h'
  go_enter Tryz.func26, Tryz.ntmps26
  go_wp2_with fail
  go_loopw [5] (fun q wr => ∃ k : Nat, k ≤ l.length ∧ q = .int .i64 k ∧ ∃ n, wr = w.drewN n) (fun q _ => l.length - (intOf q).toNat)
  case atStart => exact ⟨0, by omega, rfl, 0, rfl⟩
  case round =>
    obtain ⟨k, hk, rfl, n, rfl⟩ := hrel
    by_cases hlt : k < l.length
    · obtain ⟨b1, o1, rfl, e1⟩ := ints_cell HI.out hlt
      obtain ⟨b2, o2, rfl, e2⟩ := ints_cell HM.out hlt
      obtain ⟨x, HX⟩ : ∃ x : Int, Hid (l.getD k 0 = x) := ⟨_, rfl⟩
      rw [HX.out] at e1 e2
      go_wp2_with fail
      go_quiet (fail)
      go_wp2_with fail
      exact ⟨⟨k + 1, by omega, by go_num, _, rfl⟩, by simp only [intOf]; omega⟩
    · go_wp2_with fail
      go_ret
      exact ⟨rfl, n, rfl⟩
end Go.Proofs.YtjmoonbpfieifaaGreatDoor
