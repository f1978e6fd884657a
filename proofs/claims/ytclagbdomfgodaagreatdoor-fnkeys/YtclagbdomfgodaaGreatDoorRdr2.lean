/- Contracts of the reader's draws of numbers: near, off, width, value; and of its making. -/
import Derived.Test.YtclagbdomfgodaaGreatDoorRdr
namespace Go.Proofs.YtclagbdomfgodaaGreatDoor
open Go.RowKit

theorem Code.alloc {a0 : Option Addr} {len g : Nat} {w : World} (h : Code a0 len g w) (hg : g ≤ w.heap.size) (o : Obj) : Code a0 len g (w.alloc o) := by
  rcases h with h | ⟨b, off, ha, hb, hc⟩
  · exact .inl h
  · refine .inr ⟨b, off, ha, hb, fun i hi => ?_⟩
    obtain ⟨n, h0, h1, h2⟩ := hc i hi
    exact ⟨n, h0, h1, by rw [cell_blk (Below.heap_alloc w o b (by omega))]; exact h2⟩
theorem Rd.alloc {g : Nat} {a0 : Option Addr} {len cap : Nat} {w : World} (h : Rd g a0 len cap w) (o : Obj) : Rd g a0 len cap (w.alloc o) := by
  obtain ⟨hg, hl, hc, p, hp, hb⟩ := h
  exact ⟨by simp; omega, hl, hc.alloc (by omega) o, p, hp, by rw [Below.heap_alloc w o g hg]; exact hb⟩
theorem Rd.lt {g : Nat} {a0 : Option Addr} {len cap : Nat} {w : World} (h : Rd g a0 len cap w) : g < w.heap.size := h.1
/-- Four numbers in a block of the call's own, read behind a call that turned the reader's place alone. -/
theorem four {w w1 : World} {g : Nat} {x0 x1 x2 x3 n : Int} {t : TypeId} (hg : g < w.heap.size) (k : (w.alloc (.cells #[.int .i64 x0, .int .i64 x1, .int .i64 x2, .int .i64 x3] t)).grownBy w1 (some g)) (h0 : 0 ≤ n) (h1 : n < 4) :
    ∃ z : Int, w1.cell? ⟨w.heap.size, n.toNat, none⟩ = some (.int .i64 z) ∧ (z = x0 ∨ z = x1 ∨ z = x2 ∨ z = x3) := by
  have hb : w1.heap[w.heap.size]? = some (.cells #[.int .i64 x0, .int .i64 x1, .int .i64 x2, .int .i64 x3] t (0, 0)) := by
    rw [k.block w.heap.size (by simp) (by simp; omega)]
    show (w.heap.push _)[w.heap.size]? = _
    simp
  have hn : n = 0 ∨ n = 1 ∨ n = 2 ∨ n = 3 := by omega
  rcases hn with rfl | rfl | rfl | rfl
  · exact ⟨x0, by unfold World.cell?; rw [hb]; rfl, .inl rfl⟩
  · exact ⟨x1, by unfold World.cell?; rw [hb]; rfl, .inr (.inl rfl)⟩
  · exact ⟨x2, by unfold World.cell?; rw [hb]; rfl, .inr (.inr (.inl rfl))⟩
  · exact ⟨x3, by unfold World.cell?; rw [hb]; rfl, .inr (.inr (.inr rfl))⟩

theorem near_eq {lo hi n : Int} (hlo : -1000000 ≤ lo) (hlh : lo ≤ hi) (hhi : hi ≤ 5000000000) : lo ≤ wrap64 (lo + wrap64 (n / 2 % (hi - lo + 1))) ∧ wrap64 (lo + wrap64 (n / 2 % (hi - lo + 1))) ≤ hi := by
  have h0 := Int.emod_nonneg (n / 2) (b := hi - lo + 1) (by omega)
  have h1 := Int.emod_lt_of_pos (n / 2) (b := hi - lo + 1) (by omega)
  generalize n / 2 % (hi - lo + 1) = m at h0 h1
  unfold wrap64; omega

set_option maxHeartbeats 400000 in
theorem near_any (g : Nat) (a0 : Option Addr) (len cap : Nat) (lo hi : Int) (w : World) (h : Rd g a0 len cap w) (hlo : -1000000 ≤ lo) (hlh : lo ≤ hi) (hhi : hi ≤ 5000000000) :
    Calls Tryz.prog 44 #[.pointer (some ⟨g, 0, none⟩), .int .i64 lo, .int .i64 hi] w fun e w' => ∃ n : Int, e = .returned (.int .i64 n) ∧ lo ≤ n ∧ n ≤ hi ∧ Rd g a0 len cap w' ∧ w.grownBy w' (some g) := by
  go_enter Tryz.func44, Tryz.ntmps44
  go_wp2_with (first | (go_at_call 41; refine (below_any g a0 len cap _ _ (by assumption)).mono ?_; rintro e w1 ⟨n1, rfl, hn0, hn1, hr1, hg1⟩) | (go_at_call 78; refine (word_any g a0 len cap _ (by assumption)).mono ?_; rintro e w2 ⟨n2, rfl, hm0, hm1, hr2, hg2⟩))
  · go_ret
    exact ⟨lo, rfl, by omega, by omega, by assumption, by assumption⟩
  · go_ret
    exact ⟨hi, rfl, by omega, by omega, by assumption, by assumption⟩
  · go_ret
    exact ⟨_, rfl, (near_eq hlo hlh hhi).1, (near_eq hlo hlh hhi).2, by assumption, grown_trans (by assumption) (by assumption)⟩

set_option maxHeartbeats 400000 in
theorem width_any (g : Nat) (a0 : Option Addr) (len cap : Nat) (w : World) (h : Rd g a0 len cap w) :
    Calls Tryz.prog 72 #[.pointer (some ⟨g, 0, none⟩)] w fun e w' => ∃ n : Int, e = .returned (.int .i64 n) ∧ (n = 1 ∨ n = 8 ∨ n = 16 ∨ n = 32) ∧ Rd g a0 len cap w' ∧ w.grownBy w' (some g) := by
  have hlt := h.lt
  go_enter Tryz.func72, Tryz.ntmps72
  go_wp2_with (go_at_call 41; refine (below_any g a0 len cap _ _ (h.alloc _)).mono ?_; rintro e w1 ⟨n1, rfl, hn0, hn1, hr1, hg1⟩; have hn2 : n1 < 4 := (by omega); obtain ⟨z, hz, hzc⟩ := four hlt hg1 hn0 hn2)
  go_ret
  exact ⟨z, rfl, by omega, by assumption, grown_trans (World.grownBy_alloc _ _ _) (by assumption)⟩

set_option maxHeartbeats 400000 in
theorem off_any (g : Nat) (a0 : Option Addr) (len cap : Nat) (lo hi : Int) (w : World) (h : Rd g a0 len cap w) (hlo : -1000000 ≤ lo) (hlh : lo ≤ hi) (hhi : hi ≤ 5000000000) :
    Calls Tryz.prog 22 #[.pointer (some ⟨g, 0, none⟩), .int .i64 lo, .int .i64 hi] w fun e w' => ∃ n : Int, e = .returned (.int .i64 n) ∧ -9223372036854775808 ≤ n ∧ n ≤ 9223372036854775807 ∧ Rd g a0 len cap w' ∧ w.grownBy w' (some g) := by
  go_enter Tryz.func22, Tryz.ntmps22
  go_wp2_with (first | (go_at_call 43; refine (once_any g a0 len cap _ _ (by assumption) (by omega)).mono ?_; rintro e w1 ⟨b1, rfl, hr1, hg1⟩; have hlt := hr1.lt) | (go_at_call 44; refine (near_any g a0 len cap _ _ _ (by assumption) (by assumption) (by assumption) (by assumption)).mono ?_; rintro e w2 ⟨n2, rfl, hm0, hm1, hr2, hg2⟩) | (go_at_call 41; refine (below_any g a0 len cap _ _ (Rd.alloc (by assumption) _)).mono ?_; rintro e w2 ⟨n1, rfl, hn0, hn1, hr2, hg2⟩; have hn2 : n1 < 4 := (by omega); obtain ⟨z, hz, hzc⟩ := four hlt hg2 hn0 hn2))
  · go_ret
    exact ⟨_, rfl, by omega, by omega, by assumption, grown_trans (grown_trans hg1 (World.grownBy_alloc _ _ _)) (by assumption)⟩
  · go_ret
    exact ⟨_, rfl, by omega, by omega, by assumption, grown_trans (by assumption) (by assumption)⟩
end Go.Proofs.YtclagbdomfgodaaGreatDoor
