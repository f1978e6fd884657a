/- Contracts of the reader's making, of the draw of a value, and of the four draws of numbers that the laws of widths take. -/
import Derived.Test.YtfdopillfjcbkaaRdr2
namespace Go.Proofs.Ytfdopillfjcbkaa
open Go.RowKit

theorem open_any (a0 : Option Addr) (len cap : Nat) (w : World) :
    Calls Try.prog 24 #[.slice a0 len cap] w fun e w' => e = .returned (.pointer (some ⟨w.heap.size, 0, none⟩)) ∧ w' = w.alloc (.cells #[.slice a0 len cap, .int .i64 0] 48) := by
  go_enter Try.func24, Try.ntmps24
  go_wp2_with fail
  go_ret
  exact ⟨rfl, rfl⟩
theorem rd_open {a0 : Option Addr} {len cap : Nat} {w : World} (hl : len ≤ 1048576) (hc : Code a0 len w.heap.size w) : Rd w.heap.size a0 len cap (w.alloc (.cells #[.slice a0 len cap, .int .i64 0] 48)) := by
  refine ⟨by simp, hl, hc.alloc (Nat.le_refl _) _, 0, by omega, ?_⟩
  show (w.heap.push _)[w.heap.size]? = _
  simp
/-- What was there ahead of the reader is as it was. -/
theorem rd_below {w w' : World} {o : Obj} (k : (w.alloc o).grownBy w' (some w.heap.size)) : Below w.heap.size w w' :=
  ((Below.refl _ _).alloc (Nat.le_refl _) o).grown k (by simp) (by simp)

set_option maxHeartbeats 800000 in
theorem value_any (g : Nat) (a0 : Option Addr) (len cap : Nat) (x : Int) (w : World) (h : Rd g a0 len cap w) (hx : x = 1 ∨ x = 8 ∨ x = 16 ∨ x = 32) :
    Calls Try.prog 27 #[.pointer (some ⟨g, 0, none⟩), .int .i64 x] w fun e w' => ∃ n : Int, e = .returned (.int .i64 n) ∧ 0 ≤ n ∧ n ≤ 4294967295 ∧ Rd g a0 len cap w' ∧ w.grownBy w' (some g) := by
  rcases hx with rfl | rfl | rfl | rfl
  all_goals
    go_enter Try.func27, Try.ntmps27
    go_wp2_with (first | (go_at_call 26; refine (below_any g a0 len cap _ _ (by assumption)).mono ?_; rintro e w1 ⟨n1, rfl, hn0, hn1, hr1, hg1⟩) | (go_at_call 41; refine (word_any g a0 len cap _ (by assumption)).mono ?_; rintro e w2 ⟨n2, rfl, hm0, hm1, hr2, hg2⟩))
    all_goals go_ret
    all_goals first | exact ⟨_, rfl, by omega, by omega, by assumption, by assumption⟩ | exact ⟨_, rfl, by omega, by omega, by assumption, grown_trans (by assumption) (by assumption)⟩ | trace_state

theorem results4 {fn : Func} {p q r s : Tmp} (h : fn.results = #[.tmp p, .tmp q, .tmp r, .tmp s]) (tmps : Array Value) (P : Program) (w : World) :
    (results fn tmps).run P w = .ok (.tuple #[tmps.getD p undef, tmps.getD q undef, tmps.getD r undef, tmps.getD s undef]) w := by
  simp only [results, h]
  simp

set_option maxHeartbeats 1000000 in
theorem drawCasted (a0 : Option Addr) (len cap : Nat) (w : World) (hl : len ≤ 1048576) (hc : Code a0 len w.heap.size w) :
    Calls Try.prog 15 #[.slice a0 len cap] w fun e w' => ∃ op x y v : Int, e = .returned (.tuple #[.int .i64 op, .int .i64 x, .int .i64 y, .int .i64 v]) ∧ Below w.heap.size w w' := by
  go_enter Try.func15, Try.ntmps15
  go_wp2_with (first | (go_at_call 24; refine (open_any _ _ _ _).mono ?_; rintro e w0 ⟨rfl, rfl⟩; have hr0 := rd_open (cap := cap) hl hc; have hG := World.grownBy.refl (w.alloc (.cells #[.slice a0 len cap, .int .i64 0] 48)) (some w.heap.size)) | (go_at_call 25; refine (width_any _ a0 len cap _ (by assumption)).mono ?_; rintro e w1 ⟨x, rfl, hx, hr1, hg1⟩; replace hG := grown_trans hG hg1; clear hg1) | (go_at_call 26; refine (below_any _ a0 len cap _ _ (by assumption)).mono ?_; rintro e w1 ⟨n1, rfl, hn0, hn1, hr1, hg1⟩; replace hG := grown_trans hG hg1; clear hg1) | (go_at_call 27; refine (value_any _ a0 len cap _ _ (by assumption) (by assumption)).mono ?_; rintro e w1 ⟨v1, rfl, hv0, hv1, hr1, hg1⟩; replace hG := grown_trans hG hg1; clear hg1) | (go_at_call 28; refine (once_any _ a0 len cap _ _ (by assumption) (by omega)).mono ?_; rintro e w1 ⟨b1, rfl, hr1, hg1⟩; replace hG := grown_trans hG hg1; clear hg1) | (go_at_call 29; refine (off_any _ a0 len cap _ _ _ (by assumption) (by omega) (by omega) (by omega)).mono ?_; rintro e w1 ⟨o1, rfl, ho0, ho1, hr1, hg1⟩; replace hG := grown_trans hG hg1; clear hg1))
  all_goals
    exact bodyPost_ret (results4 Try.results15 _ _ _) rfl ⟨_, _, _, _, rfl, rd_below hG⟩

set_option maxHeartbeats 1000000 in
theorem drawSignOf (a0 : Option Addr) (len cap : Nat) (w : World) (hl : len ≤ 1048576) (hc : Code a0 len w.heap.size w) :
    Calls Try.prog 19 #[.slice a0 len cap] w fun e w' => ∃ x v : Int, e = .returned (.tuple #[.int .i64 x, .int .i64 v]) ∧ Below w.heap.size w w' := by
  go_enter Try.func19, Try.ntmps19
  go_wp2_with (first | (go_at_call 24; refine (open_any _ _ _ _).mono ?_; rintro e w0 ⟨rfl, rfl⟩; have hr0 := rd_open (cap := cap) hl hc; have hG := World.grownBy.refl (w.alloc (.cells #[.slice a0 len cap, .int .i64 0] 48)) (some w.heap.size)) | (go_at_call 25; refine (width_any _ a0 len cap _ (by assumption)).mono ?_; rintro e w1 ⟨x, rfl, hx, hr1, hg1⟩; replace hG := grown_trans hG hg1; clear hg1) | (go_at_call 26; refine (below_any _ a0 len cap _ _ (by assumption)).mono ?_; rintro e w1 ⟨n1, rfl, hn0, hn1, hr1, hg1⟩; replace hG := grown_trans hG hg1; clear hg1) | (go_at_call 27; refine (value_any _ a0 len cap _ _ (by assumption) (by assumption)).mono ?_; rintro e w1 ⟨v1, rfl, hv0, hv1, hr1, hg1⟩; replace hG := grown_trans hG hg1; clear hg1) | (go_at_call 28; refine (once_any _ a0 len cap _ _ (by assumption) (by omega)).mono ?_; rintro e w1 ⟨b1, rfl, hr1, hg1⟩; replace hG := grown_trans hG hg1; clear hg1) | (go_at_call 29; refine (off_any _ a0 len cap _ _ _ (by assumption) (by omega) (by omega) (by omega)).mono ?_; rintro e w1 ⟨o1, rfl, ho0, ho1, hr1, hg1⟩; replace hG := grown_trans hG hg1; clear hg1))
  all_goals
    go_ret2
    exact ⟨_, _, rfl, rd_below hG⟩

set_option maxHeartbeats 1000000 in
theorem drawMasked (a0 : Option Addr) (len cap : Nat) (w : World) (hl : len ≤ 1048576) (hc : Code a0 len w.heap.size w) :
    Calls Try.prog 18 #[.slice a0 len cap] w fun e w' => ∃ x v : Int, e = .returned (.tuple #[.int .i64 x, .int .i64 v]) ∧ Below w.heap.size w w' := by
  go_enter Try.func18, Try.ntmps18
  go_wp2_with (first | (go_at_call 24; refine (open_any _ _ _ _).mono ?_; rintro e w0 ⟨rfl, rfl⟩; have hr0 := rd_open (cap := cap) hl hc; have hG := World.grownBy.refl (w.alloc (.cells #[.slice a0 len cap, .int .i64 0] 48)) (some w.heap.size)) | (go_at_call 25; refine (width_any _ a0 len cap _ (by assumption)).mono ?_; rintro e w1 ⟨x, rfl, hx, hr1, hg1⟩; replace hG := grown_trans hG hg1; clear hg1) | (go_at_call 26; refine (below_any _ a0 len cap _ _ (by assumption)).mono ?_; rintro e w1 ⟨n1, rfl, hn0, hn1, hr1, hg1⟩; replace hG := grown_trans hG hg1; clear hg1) | (go_at_call 27; refine (value_any _ a0 len cap _ _ (by assumption) (by assumption)).mono ?_; rintro e w1 ⟨v1, rfl, hv0, hv1, hr1, hg1⟩; replace hG := grown_trans hG hg1; clear hg1) | (go_at_call 28; refine (once_any _ a0 len cap _ _ (by assumption) (by omega)).mono ?_; rintro e w1 ⟨b1, rfl, hr1, hg1⟩; replace hG := grown_trans hG hg1; clear hg1) | (go_at_call 29; refine (off_any _ a0 len cap _ _ _ (by assumption) (by omega) (by omega) (by omega)).mono ?_; rintro e w1 ⟨o1, rfl, ho0, ho1, hr1, hg1⟩; replace hG := grown_trans hG hg1; clear hg1))
  all_goals
    go_ret2
    exact ⟨_, _, rfl, rd_below hG⟩

set_option maxHeartbeats 1000000 in
theorem drawBinary (a0 : Option Addr) (len cap : Nat) (w : World) (hl : len ≤ 1048576) (hc : Code a0 len w.heap.size w) :
    Calls Try.prog 9 #[.slice a0 len cap] w fun e w' => ∃ op x y v : Int, e = .returned (.tuple #[.int .i64 op, .int .i64 x, .int .i64 y, .int .i64 v]) ∧ Below w.heap.size w w' := by
  go_enter Try.func9, Try.ntmps9
  go_wp2_with (first | (go_at_call 24; refine (open_any _ _ _ _).mono ?_; rintro e w0 ⟨rfl, rfl⟩; have hr0 := rd_open (cap := cap) hl hc; have hG := World.grownBy.refl (w.alloc (.cells #[.slice a0 len cap, .int .i64 0] 48)) (some w.heap.size)) | (go_at_call 25; refine (width_any _ a0 len cap _ (by assumption)).mono ?_; rintro e w1 ⟨x, rfl, hx, hr1, hg1⟩; replace hG := grown_trans hG hg1; clear hg1))
  rcases hx with rfl | rfl | rfl | rfl
  all_goals
    go_wp2_with (first | (go_at_call 26; refine (below_any _ a0 len cap _ _ (by assumption)).mono ?_; rintro e w1 ⟨n1, rfl, hn0, hn1, hr1, hg1⟩; replace hG := grown_trans hG hg1; clear hg1) | (go_at_call 27; refine (value_any _ a0 len cap _ _ (by assumption) (by omega)).mono ?_; rintro e w1 ⟨v1, rfl, hv0, hv1, hr1, hg1⟩; replace hG := grown_trans hG hg1; clear hg1) | (go_at_call 28; refine (once_any _ a0 len cap _ _ (by assumption) (by omega)).mono ?_; rintro e w1 ⟨b1, rfl, hr1, hg1⟩; replace hG := grown_trans hG hg1; clear hg1) | (go_at_call 29; refine (off_any _ a0 len cap _ _ _ (by assumption) (by omega) (by omega) (by omega)).mono ?_; rintro e w1 ⟨o1, rfl, ho0, ho1, hr1, hg1⟩; replace hG := grown_trans hG hg1; clear hg1))
    all_goals
      exact bodyPost_ret (results4 Try.results9 _ _ _) rfl ⟨_, _, _, _, rfl, rd_below hG⟩
end Go.Proofs.Ytfdopillfjcbkaa
