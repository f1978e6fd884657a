/- Contracts of the reader's making, of the draw of a value, and of the four draws of numbers that the laws of widths take. -/
import Derived.Test.YtclagbdomfgodaaGreatDoorRdr2
namespace Go.Proofs.YtclagbdomfgodaaGreatDoor
open Go.RowKit

theorem open_any (a0 : Option Addr) (len cap : Nat) (w : World) :
    Calls Tryz.prog 20 #[.slice a0 len cap] w fun e w' => e = .returned (.pointer (some ⟨w.heap.size, 0, none⟩)) ∧ w' = w.alloc (.cells #[.slice a0 len cap, .int .i64 0] 78) := by
  go_enter Tryz.func20, Tryz.ntmps20
  go_wp2_with fail
  go_ret
  exact ⟨rfl, rfl⟩
theorem rd_open {a0 : Option Addr} {len cap : Nat} {w : World} (hl : len ≤ 1048576) (hc : Code a0 len w.heap.size w) : Rd w.heap.size a0 len cap (w.alloc (.cells #[.slice a0 len cap, .int .i64 0] 78)) := by
  refine ⟨by simp, hl, hc.alloc (Nat.le_refl _) _, 0, by omega, ?_⟩
  show (w.heap.push _)[w.heap.size]? = _
  simp
/-- What was there ahead of the reader is as it was. -/
theorem rd_below {w w' : World} {o : Obj} (k : (w.alloc o).grownBy w' (some w.heap.size)) : Below w.heap.size w w' :=
  ((Below.refl _ _).alloc (Nat.le_refl _) o).grown k (by simp) (by simp)

set_option maxHeartbeats 800000 in
theorem value_any (g : Nat) (a0 : Option Addr) (len cap : Nat) (x : Int) (w : World) (h : Rd g a0 len cap w) (hx : x = 1 ∨ x = 8 ∨ x = 16 ∨ x = 32) :
    Calls Tryz.prog 90 #[.pointer (some ⟨g, 0, none⟩), .int .i64 x] w fun e w' => ∃ n : Int, e = .returned (.int .i64 n) ∧ 0 ≤ n ∧ n ≤ 4294967295 ∧ Rd g a0 len cap w' ∧ w.grownBy w' (some g) := by
  rcases hx with rfl | rfl | rfl | rfl
  all_goals
    go_enter Tryz.func90, Tryz.ntmps90
    go_wp2_with (first | (go_at_call 41; refine (below_any g a0 len cap _ _ (by assumption)).mono ?_; rintro e w1 ⟨n1, rfl, hn0, hn1, hr1, hg1⟩) | (go_at_call 78; refine (word_any g a0 len cap _ (by assumption)).mono ?_; rintro e w2 ⟨n2, rfl, hm0, hm1, hr2, hg2⟩))
    all_goals go_ret
    all_goals first | exact ⟨_, rfl, by omega, by omega, by assumption, by assumption⟩ | exact ⟨_, rfl, by omega, by omega, by assumption, grown_trans (by assumption) (by assumption)⟩ | trace_state

theorem results4 {fn : Func} {p q r s : Tmp} (h : fn.results = #[.tmp p, .tmp q, .tmp r, .tmp s]) (tmps : Array Value) (P : Program) (w : World) :
    (results fn tmps).run P w = .ok (.tuple #[tmps.getD p undef, tmps.getD q undef, tmps.getD r undef, tmps.getD s undef]) w := by
  simp only [results, h]
  simp

end Go.Proofs.YtclagbdomfgodaaGreatDoor
