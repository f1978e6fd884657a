import Derived.Test.YtenbodghkpbghaaDoorRows
import Derived.WalkKit
import Derived.WalkSpells
import Derived.Deep.QuietTactic
import Derived.BigQuiet
import Derived.Deep.AppendLies
import Derived.Deep.DeepAppendRoom
import Derived.ArgAppend
import Derived.Deep.RegionHeld2
namespace Go.Proofs.YtenbodghkpbghaaDoor
open Go.RowKit
def Code (a0 : Option Addr) (len g : Nat) (w : World) : Prop :=
 len = 0 ∨ ∃ b off, a0 = some ⟨b, off, none⟩ ∧ b < g ∧ ∀ i, i < len → ∃ n : Int, 0 ≤ n ∧ n ≤ 255 ∧ w.cell? ⟨b, off + i, none⟩ = some (.int .u8 n)
def Rd (g : Nat) (a0 : Option Addr) (len cap : Nat) (w : World) : Prop :=
 g < w.heap.size ∧ len ≤ 1048576 ∧ Code a0 len g w ∧ ∃ p : Nat, p ≤ len ∧ w.heap[g]? = some (.cells #[.slice a0 len cap, .int .i64 p] 81 (0, 0))
theorem grown_trans {a b c : World} {r : Option Nat} (h : a.grownBy b r) (k : b.grownBy c r) : a.grownBy c r :=
 ⟨k.os.trans h.os, k.tape.trans h.tape, k.output.trans h.output, Nat.le_trans h.size k.size, fun i hi hn => (k.block i (Nat.lt_of_lt_of_le hi h.size) hn).trans (h.block i hi hn)⟩
theorem cell_blk {w w' : World} {b o : Nat} (h : w'.heap[b]? = w.heap[b]?) : w'.cell? ⟨b, o, none⟩ = w.cell? ⟨b, o, none⟩ := by
 unfold World.cell?; rw [h]
theorem Code.keep {a0 : Option Addr} {len g : Nat} {w w' : World} (h : Code a0 len g w) (hg : g < w.heap.size) (k : w.grownBy w' (some g)) : Code a0 len g w' := by
 rcases h with h | ⟨b, off, ha, hb, hc⟩
 ·exact .inl h
 ·refine .inr ⟨b, off, ha, hb, fun i hi => ?_⟩
  obtain ⟨n, h0, h1, h2⟩ := hc i hi
  exact ⟨n, h0, h1, by rw [cell_blk (k.block b (by omega) (by simp; omega))]; exact h2⟩
theorem set_block (w : World) (g : Nat) (x y v : Value) (t : TypeId) (h : w.heap[g]? = some (.cells #[x, y] t (0, 0))) : (w.setCell ⟨g, 1, none⟩ v).heap[g]? = some (.cells #[x, v] t (0, 0)) := by
 show (w.heap.modify g _)[g]? = _
 rw [Array.getElem?_modify, if_pos rfl, h]
 rfl
theorem set_grown (w : World) (g o : Nat) (v : Value) : w.grownBy (w.setCell ⟨g, o, none⟩ v) (some g) :=
 ⟨rfl, rfl, rfl, by simp [World.setCell], fun k _ hn => by
  simp only [World.setCell, Array.getElem?_modify]
  rw [if_neg (by intro e; exact hn (by rw [e]))]⟩
theorem rd_step {g : Nat} {a0 : Option Addr} {len cap p : Nat} {w : World} (hg : g < w.heap.size) (hl : len ≤ 1048576) (hc : Code a0 len g w) (hp : p < len)
  (hb : w.heap[g]? = some (.cells #[.slice a0 len cap, .int .i64 p] 81 (0, 0))) :
  Rd g a0 len cap (w.setCell ⟨g, 1, none⟩ (.int .i64 ((p : Int) + 1))) ∧ w.grownBy (w.setCell ⟨g, 1, none⟩ (.int .i64 ((p : Int) + 1))) (some g) := by
 have k := set_grown w g 1 (.int .i64 ((p : Int) + 1))
 have hs : g < (w.setCell ⟨g, 1, none⟩ (.int .i64 ((p : Int) + 1))).heap.size := Nat.lt_of_lt_of_le hg k.size
 exact ⟨⟨hs, hl, hc.keep hg k, p + 1, hp, set_block w g _ _ _ _ hb⟩, k⟩
set_option maxHeartbeats 400000 in
theorem next_any (g : Nat) (a0 : Option Addr) (len cap : Nat) (w : World) (h : Rd g a0 len cap w) :
  Calls Tryd.prog 63 #[.pointer (some ⟨g, 0, none⟩)] w fun e w' => ∃ n : Int, e = .returned (.int .i64 n) ∧ 0 ≤ n ∧ n ≤ 255 ∧ Rd g a0 len cap w' ∧ w.grownBy w' (some g) := by
 obtain ⟨hg, hl, hcode, p, hp, hblk⟩ := h
 have c0 : w.cell? ⟨g, 0, none⟩ = some (.slice a0 len cap) := by unfold World.cell?; rw [hblk]; rfl
 have c1 : w.cell? ⟨g, 1, none⟩ = some (.int .i64 p) := by unfold World.cell?; rw [hblk]; rfl
 have f1 : w.frozen? ⟨g, 1, none⟩ = false := by unfold World.frozen?; rw [hblk]; rfl
 have HB : Hid (w.heap[g]? = some (.cells #[.slice a0 len cap, .int .i64 p] 81 (0, 0))) := hblk
 have HC : Hid (Code a0 len g w) := hcode
 clear hblk
 by_cases hlt : p < len
 ·rcases hcode with hz | ⟨b, off, rfl, hb, hc⟩
  ·omega
  obtain ⟨n, h0, h1, hn⟩ := hc p hlt
  clear hc
  have d1 : decide (len ≤ p) = false := by simpa using hlt
  go_enter Tryd.func63, Tryd.ntmps63
  go_wp2
  go_quiet (fail)
  go_wp2
  go_quiet (fail)
  go_wp2
  go_ret
  have k := rd_step hg hl HC.out hlt HB.out
  exact ⟨n, rfl, h0, h1, k.1, ⟨k.2.os, k.2.tape, k.2.output, k.2.size, k.2.block⟩⟩
 ·clear hcode
  go_enter Tryd.func63, Tryd.ntmps63
  go_wp2
  go_quiet (fail)
  go_wp2
  go_ret
  exact ⟨0, rfl, by omega, by omega, ⟨hg, hl, HC.out, p, hp, HB.out⟩, ⟨rfl, rfl, rfl, Nat.le_refl _, fun _ _ _ => rfl⟩⟩
set_option maxHeartbeats 400000 in
theorem below_any (g : Nat) (a0 : Option Addr) (len cap : Nat) (m : Int) (w : World) (h : Rd g a0 len cap w) :
  Calls Tryd.prog 42 #[.pointer (some ⟨g, 0, none⟩), .int .i64 m] w fun e w' => ∃ n : Int, e = .returned (.int .i64 n) ∧ 0 ≤ n ∧ (n < m ∨ n = 0) ∧ Rd g a0 len cap w' ∧ w.grownBy w' (some g) := by
 by_cases h1 : m ≤ 1
 ·go_enter Tryd.func42, Tryd.ntmps42
  go_wp2_with fail
  go_ret
  exact ⟨0, rfl, by omega, .inr rfl, h, World.grownBy.refl _ _⟩
 ·by_cases h2 : m ≤ 256
  ·go_enter Tryd.func42, Tryd.ntmps42
   go_wp2_with (go_at_call 63; refine (next_any g a0 len cap _ (by assumption)).mono ?_; rintro e w1 ⟨n1, rfl, hn0, hn1, hr1, hg1⟩)
   go_ret
   exact ⟨_, rfl, Int.emod_nonneg _ (by omega), .inl (Int.emod_lt_of_pos _ (by omega)), by assumption, by assumption⟩
  ·go_enter Tryd.func42, Tryd.ntmps42
   go_wp2_with (go_at_call 63; refine (next_any g a0 len cap _ (by assumption)).mono ?_; rintro e w1 ⟨n1, rfl, hn0, hn1, hr1, hg1⟩)
   go_ret
   exact ⟨_, rfl, Int.emod_nonneg _ (by omega), .inl (Int.emod_lt_of_pos _ (by omega)), by assumption, grown_trans (by assumption) (by assumption)⟩
set_option maxHeartbeats 400000 in
theorem once_any (g : Nat) (a0 : Option Addr) (len cap : Nat) (m : Int) (w : World) (h : Rd g a0 len cap w) (hm : 1 ≤ m ∧ m ≤ 1000) :
  Calls Tryd.prog 24 #[.pointer (some ⟨g, 0, none⟩), .int .i64 m] w fun e w' => ∃ b : Bool, e = .returned (.bool b) ∧ Rd g a0 len cap w' ∧ w.grownBy w' (some g) := by
 go_enter Tryd.func24, Tryd.ntmps24
 go_wp2_with (go_at_call 42; refine (below_any g a0 len cap _ _ (by assumption)).mono ?_; rintro e w1 ⟨n1, rfl, hn0, hn1, hr1, hg1⟩)
 go_ret
 exact ⟨_, rfl, by assumption, by assumption⟩
theorem or_u64 (x y : Int) : 0 ≤ bits .or .u64 x y ∧ bits .or .u64 x y < 18446744073709551616 := by
 unfold bits; simp only [IntKind.wrap_u64]; omega
set_option maxHeartbeats 400000 in
theorem word_any (g : Nat) (a0 : Option Addr) (len cap : Nat) (w : World) (h : Rd g a0 len cap w) :
  Calls Tryd.prog 70 #[.pointer (some ⟨g, 0, none⟩)] w fun e w' => ∃ n : Int, e = .returned (.int .u64 n) ∧ 0 ≤ n ∧ n < 18446744073709551616 ∧ Rd g a0 len cap w' ∧ w.grownBy w' (some g) := by
 have HR : Hid (w.grownBy w (some g)) := World.grownBy.refl _ _
 go_enter Tryd.func70, Tryd.ntmps70
 go_wp2_with fail
 go_loopw [3, 4] (fun x i wr => ∃ (k : Nat) (n : Int), k ≤ 8 ∧ i = .int .i64 k ∧ x = .int .u64 n ∧ 0 ≤ n ∧ n < 18446744073709551616 ∧ Rd g a0 len cap wr ∧ w.grownBy wr (some g)) (fun _ i _ => 8 - (intOf i).toNat)
 case atStart => exact ⟨0, 0, by omega, rfl, rfl, by omega, by omega, h, HR.out⟩
 case round =>
  obtain ⟨k, n, hk, rfl, rfl, hn0, hn1, hr, hgr⟩ := hrel
  by_cases hlt : k < 8
  ·have HG : Hid (w.grownBy wr (some g)) := hgr
   clear hgr
   go_wp2_with (go_at_call 63; refine (next_any g a0 len cap _ (by assumption)).mono ?_; rintro e w1 ⟨n1, rfl, hm0, hm1, hr1, hg1⟩)
   go_roundw
   case rel => exact ⟨k + 1, _, by omega, by go_num, rfl, (or_u64 _ _).1, (or_u64 _ _).2, by assumption, grown_trans HG.out (by assumption)⟩
   case measure => simp [intOf]; omega
  ·go_wp2_with fail
   go_ret
   exact ⟨_, rfl, hn0, hn1, hr, hgr⟩
end Go.Proofs.YtenbodghkpbghaaDoor
namespace Go.Proofs.YtenbodghkpbghaaDoor
open Go.RowKit
theorem Code.alloc {a0 : Option Addr} {len g : Nat} {w : World} (h : Code a0 len g w) (hg : g ≤ w.heap.size) (o : Obj) : Code a0 len g (w.alloc o) := by
 rcases h with h | ⟨b, off, ha, hb, hc⟩
 ·exact .inl h
 ·refine .inr ⟨b, off, ha, hb, fun i hi => ?_⟩
  obtain ⟨n, h0, h1, h2⟩ := hc i hi
  exact ⟨n, h0, h1, by rw [cell_blk (Below.heap_alloc w o b (by omega))]; exact h2⟩
theorem Rd.alloc {g : Nat} {a0 : Option Addr} {len cap : Nat} {w : World} (h : Rd g a0 len cap w) (o : Obj) : Rd g a0 len cap (w.alloc o) := by
 obtain ⟨hg, hl, hc, p, hp, hb⟩ := h
 exact ⟨by simp; omega, hl, hc.alloc (by omega) o, p, hp, by rw [Below.heap_alloc w o g hg]; exact hb⟩
theorem Rd.lt {g : Nat} {a0 : Option Addr} {len cap : Nat} {w : World} (h : Rd g a0 len cap w) : g < w.heap.size := h.1
theorem four {w w1 : World} {g : Nat} {x0 x1 x2 x3 n : Int} {t : TypeId} (hg : g < w.heap.size) (k : (w.alloc (.cells #[.int .i64 x0, .int .i64 x1, .int .i64 x2, .int .i64 x3] t)).grownBy w1 (some g)) (h0 : 0 ≤ n) (h1 : n < 4) :
  ∃ z : Int, w1.cell? ⟨w.heap.size, n.toNat, none⟩ = some (.int .i64 z) ∧ (z = x0 ∨ z = x1 ∨ z = x2 ∨ z = x3) := by
 have hb : w1.heap[w.heap.size]? = some (.cells #[.int .i64 x0, .int .i64 x1, .int .i64 x2, .int .i64 x3] t (0, 0)) := by
  rw [k.block w.heap.size (by simp) (by simp; omega)]
  show (w.heap.push _)[w.heap.size]? = _
  simp
 have hn : n = 0 ∨ n = 1 ∨ n = 2 ∨ n = 3 := by omega
 rcases hn with rfl | rfl | rfl | rfl
 ·exact ⟨x0, by unfold World.cell?; rw [hb]; rfl, .inl rfl⟩
 ·exact ⟨x1, by unfold World.cell?; rw [hb]; rfl, .inr (.inl rfl)⟩
 ·exact ⟨x2, by unfold World.cell?; rw [hb]; rfl, .inr (.inr (.inl rfl))⟩
 ·exact ⟨x3, by unfold World.cell?; rw [hb]; rfl, .inr (.inr (.inr rfl))⟩
theorem near_eq {lo hi n : Int} (hlo : -1000000 ≤ lo) (hlh : lo ≤ hi) (hhi : hi ≤ 5000000000) : lo ≤ wrap64 (lo + wrap64 (n / 2 % (hi - lo + 1))) ∧ wrap64 (lo + wrap64 (n / 2 % (hi - lo + 1))) ≤ hi := by
 have h0 := Int.emod_nonneg (n / 2) (b := hi - lo + 1) (by omega)
 have h1 := Int.emod_lt_of_pos (n / 2) (b := hi - lo + 1) (by omega)
 generalize n / 2 % (hi - lo + 1) = m at h0 h1
 unfold wrap64; omega
set_option maxHeartbeats 400000 in
theorem near_any (g : Nat) (a0 : Option Addr) (len cap : Nat) (lo hi : Int) (w : World) (h : Rd g a0 len cap w) (hlo : -1000000 ≤ lo) (hlh : lo ≤ hi) (hhi : hi ≤ 5000000000) :
  Calls Tryd.prog 44 #[.pointer (some ⟨g, 0, none⟩), .int .i64 lo, .int .i64 hi] w fun e w' => ∃ n : Int, e = .returned (.int .i64 n) ∧ lo ≤ n ∧ n ≤ hi ∧ Rd g a0 len cap w' ∧ w.grownBy w' (some g) := by
 go_enter Tryd.func44, Tryd.ntmps44
 go_wp2_with (first | (go_at_call 42; refine (below_any g a0 len cap _ _ (by assumption)).mono ?_; rintro e w1 ⟨n1, rfl, hn0, hn1, hr1, hg1⟩) | (go_at_call 70; refine (word_any g a0 len cap _ (by assumption)).mono ?_; rintro e w2 ⟨n2, rfl, hm0, hm1, hr2, hg2⟩))
 ·go_ret
  exact ⟨lo, rfl, by omega, by omega, by assumption, by assumption⟩
 ·go_ret
  exact ⟨hi, rfl, by omega, by omega, by assumption, by assumption⟩
 ·go_ret
  exact ⟨_, rfl, (near_eq hlo hlh hhi).1, (near_eq hlo hlh hhi).2, by assumption, grown_trans (by assumption) (by assumption)⟩
set_option maxHeartbeats 400000 in
theorem width_any (g : Nat) (a0 : Option Addr) (len cap : Nat) (w : World) (h : Rd g a0 len cap w) :
  Calls Tryd.prog 64 #[.pointer (some ⟨g, 0, none⟩)] w fun e w' => ∃ n : Int, e = .returned (.int .i64 n) ∧ (n = 1 ∨ n = 8 ∨ n = 16 ∨ n = 32) ∧ Rd g a0 len cap w' ∧ w.grownBy w' (some g) := by
 have hlt := h.lt
 go_enter Tryd.func64, Tryd.ntmps64
 go_wp2_with (go_at_call 42; refine (below_any g a0 len cap _ _ (h.alloc _)).mono ?_; rintro e w1 ⟨n1, rfl, hn0, hn1, hr1, hg1⟩; have hn2 : n1 < 4 := (by omega); obtain ⟨z, hz, hzc⟩ := four hlt hg1 hn0 hn2)
 go_ret
 exact ⟨z, rfl, by omega, by assumption, grown_trans (World.grownBy_alloc _ _ _) (by assumption)⟩
set_option maxHeartbeats 400000 in
theorem off_any (g : Nat) (a0 : Option Addr) (len cap : Nat) (lo hi : Int) (w : World) (h : Rd g a0 len cap w) (hlo : -1000000 ≤ lo) (hlh : lo ≤ hi) (hhi : hi ≤ 5000000000) :
  Calls Tryd.prog 25 #[.pointer (some ⟨g, 0, none⟩), .int .i64 lo, .int .i64 hi] w fun e w' => ∃ n : Int, e = .returned (.int .i64 n) ∧ -9223372036854775808 ≤ n ∧ n ≤ 9223372036854775807 ∧ Rd g a0 len cap w' ∧ w.grownBy w' (some g) := by
 go_enter Tryd.func25, Tryd.ntmps25
 go_wp2_with (first | (go_at_call 24; refine (once_any g a0 len cap _ _ (by assumption) (by omega)).mono ?_; rintro e w1 ⟨b1, rfl, hr1, hg1⟩; have hlt := hr1.lt) | (go_at_call 44; refine (near_any g a0 len cap _ _ _ (by assumption) (by assumption) (by assumption) (by assumption)).mono ?_; rintro e w2 ⟨n2, rfl, hm0, hm1, hr2, hg2⟩) | (go_at_call 42; refine (below_any g a0 len cap _ _ (Rd.alloc (by assumption) _)).mono ?_; rintro e w2 ⟨n1, rfl, hn0, hn1, hr2, hg2⟩; have hn2 : n1 < 4 := (by omega); obtain ⟨z, hz, hzc⟩ := four hlt hg2 hn0 hn2))
 ·go_ret
  exact ⟨_, rfl, by omega, by omega, by assumption, grown_trans (grown_trans hg1 (World.grownBy_alloc _ _ _)) (by assumption)⟩
 ·go_ret
  exact ⟨_, rfl, by omega, by omega, by assumption, grown_trans (by assumption) (by assumption)⟩
end Go.Proofs.YtenbodghkpbghaaDoor
namespace Go.Proofs.YtenbodghkpbghaaDoor
open Go.RowKit
theorem open_any (a0 : Option Addr) (len cap : Nat) (w : World) :
  Calls Tryd.prog 21 #[.slice a0 len cap] w fun e w' => e = .returned (.pointer (some ⟨w.heap.size, 0, none⟩)) ∧ w' = w.alloc (.cells #[.slice a0 len cap, .int .i64 0] 81) := by
 go_enter Tryd.func21, Tryd.ntmps21
 go_wp2_with fail
 go_ret
 exact ⟨rfl, rfl⟩
theorem rd_open {a0 : Option Addr} {len cap : Nat} {w : World} (hl : len ≤ 1048576) (hc : Code a0 len w.heap.size w) : Rd w.heap.size a0 len cap (w.alloc (.cells #[.slice a0 len cap, .int .i64 0] 81)) := by
 refine ⟨by simp, hl, hc.alloc (Nat.le_refl _) _, 0, by omega, ?_⟩
 show (w.heap.push _)[w.heap.size]? = _
 simp
set_option maxHeartbeats 800000 in
theorem value_any (g : Nat) (a0 : Option Addr) (len cap : Nat) (x : Int) (w : World) (h : Rd g a0 len cap w) (hx : x = 1 ∨ x = 8 ∨ x = 16 ∨ x = 32) :
  Calls Tryd.prog 91 #[.pointer (some ⟨g, 0, none⟩), .int .i64 x] w fun e w' => ∃ n : Int, e = .returned (.int .i64 n) ∧ 0 ≤ n ∧ n ≤ 4294967295 ∧ Rd g a0 len cap w' ∧ w.grownBy w' (some g) := by
 rcases hx with rfl | rfl | rfl | rfl
 all_goals
  go_enter Tryd.func91, Tryd.ntmps91
  go_wp2_with (first | (go_at_call 42; refine (below_any g a0 len cap _ _ (by assumption)).mono ?_; rintro e w1 ⟨n1, rfl, hn0, hn1, hr1, hg1⟩) | (go_at_call 70; refine (word_any g a0 len cap _ (by assumption)).mono ?_; rintro e w2 ⟨n2, rfl, hm0, hm1, hr2, hg2⟩))
  all_goals go_ret
  all_goals first | exact ⟨_, rfl, by omega, by omega, by assumption, by assumption⟩ | exact ⟨_, rfl, by omega, by omega, by assumption, grown_trans (by assumption) (by assumption)⟩ | trace_state
end Go.Proofs.YtenbodghkpbghaaDoor
namespace Go.Proofs.YtenbodghkpbghaaDoor
open Go.RowKit
theorem cell_lt {w : World} {b o : Nat} {v : Value} (h : w.cell? ⟨b, o, none⟩ = some v) : b < w.heap.size := by
 unfold World.cell? at h
 cases hb : w.heap[b]? with
 | none => simp [hb] at h
 | some x => exact (Array.getElem?_eq_some_iff.1 hb).1
theorem Code.below {a0 : Option Addr} {len : Nat} {w w' : World} (h : Code a0 len w.heap.size w) (k : Below w.heap.size w w') : Code a0 len w'.heap.size w' := by
 rcases h with h | ⟨b, off, ha, hb, hc⟩
 ·exact .inl h
 ·have := k.size
  refine .inr ⟨b, off, ha, by omega, fun i hi => ?_⟩
  obtain ⟨n, h0, h1, h2⟩ := hc i hi
  exact ⟨n, h0, h1, by rw [cell_blk (k.block b hb)]; exact h2⟩
theorem u8_bd {n : Int} (h : (Lit.int .u8 n).wf = true) : 0 ≤ n ∧ n ≤ 255 := by
 have h' : IntKind.u8.min ≤ n ∧ n ≤ IntKind.u8.max := by simpa [Lit.wf] using h
 exact h'
theorem code_of {w : World} {a : Option Addr} {len cap : Nat} {zs : List Int}
  (h : (a = none ∧ len = 0 ∧ cap = 0 ∧ zs = []) ∨ ∃ x, a = some x ∧ len ≤ cap ∧ cap ≤ maxLen ∧ zs.length = cap ∧ (∀ i, i < zs.length → w.cell? (x.add i) = some (.int .u8 (zs.getD i 0))) ∧ ∀ n ∈ zs, (Lit.int .u8 n).wf = true) :
  Code a len w.heap.size w := by
 rcases h with ⟨rfl, rfl, rfl, rfl⟩ | ⟨⟨b, off, spot⟩, rfl, hl, hm, hz, hcell, hwz⟩
 ·exact .inl rfl
 ·by_cases h0 : len = 0
  ·exact .inl h0
  ·have hc0 := hcell 0 (by omega)
   have hs : spot = none := by simpa [Addr.add] using World.cell?_spot hc0
   subst hs
   have hat : ∀ i, (⟨b, off, none⟩ : Addr).add i = ⟨b, off + i, none⟩ := fun i => by unfold Addr.add; split <;> simp_all
   refine .inr ⟨b, off, rfl, ?_, fun i hi => ?_⟩
   ·rw [hat] at hc0; exact cell_lt hc0
   ·have hi2 : i < zs.length := by omega
    have hw := u8_bd (hwz (zs.getD i 0) (by simp [List.getD, hi2]))
    exact ⟨_, hw.1, hw.2, by rw [← hat]; exact hcell i hi2⟩
theorem big_any (a0 : Option Addr) (len cap : Nat) (w : World) : Calls Tryd.prog 5 #[.slice a0 len cap] w fun e w' => e = .returned (.bool (decide (1048576 < len))) ∧ w' = w := by
 go_enter Tryd.func5, Tryd.ntmps5
 go_wp2_with fail
 go_ret
 exact ⟨congrArg (fun b => Ending.returned (.bool b)) (by rw [Bool.eq_iff_iff]; simp; omega), rfl⟩
end Go.Proofs.YtenbodghkpbghaaDoor
namespace Go.Proofs.YtenbodghkpbghaaDoor
open Go.RowKit
set_option linter.unusedVariables false
abbrev Tmap := Nat → Option (TypeId × Nat)
def szT (T : TypeId) : Nat := if T = 2 then 1 else if T = 24 then 1 else if T = 89 then 2 else if T = 44 then 7 else 6
def SlN (M : Tmap) (T : TypeId) (v : Value) (n : Nat) : Prop := ∃ u c, v = .slice u n c ∧ (n = 0 ∨ ∃ g m, u = some ⟨g, 0, none⟩ ∧ M g = some (T, m) ∧ n ≤ m)
def SlV (M : Tmap) (N : Nat) (T : TypeId) (v : Value) : Prop := ∃ n, n ≤ N ∧ SlN M T v n
def SlV1 (M : Tmap) (N : Nat) (T : TypeId) (v : Value) : Prop := ∃ n, 1 ≤ n ∧ n ≤ N ∧ SlN M T v n
theorem SlV1.slv {M : Tmap} {N : Nat} {T : TypeId} {v : Value} (h : SlV1 M N T v) : SlV M N T v := by
 obtain ⟨n, _, h2, h3⟩ := h
 exact ⟨n, h2, h3⟩
def ElOk (M : Tmap) (N : Nat) (T : TypeId) (c : Nat → Option Value) : Prop :=
 (T = 2 → ∃ z : Int, c 0 = some (.int .i64 z)) ∧ (T = 24 → ∃ v, c 0 = some v ∧ SlV M N 2 v) ∧
 (T = 89 → (∃ z : Int, c 0 = some (.int .i64 z)) ∧ ∃ v, c 1 = some v ∧ SlV1 M N 2 v) ∧
 (T = 44 → (∀ j, j < 6 → ∃ z : Int, c j = some (.int .i64 z)) ∧ ∃ v, c 6 = some v ∧ SlV M N 2 v) ∧
 (T = 41 → (∃ v, c 0 = some v ∧ SlV M N 89 v) ∧ (∃ v, c 1 = some v ∧ SlV M N 44 v) ∧ ∀ j, 2 ≤ j → j < 6 → ∃ z : Int, c j = some (.int .i64 z))
def TH (base : Nat) (M : Tmap) (N : Nat) (v : World) : Prop := ∀ b T m, M b = some (T, m) → base ≤ b ∧ ∃ cur, v.heap[b]? = some (.cells cur T (0, 0)) ∧ ∀ i, i < m → ElOk M N T (fun j => cur[i * szT T + j]?)
def Ext (M M' : Tmap) : Prop := ∀ b T m, M b = some (T, m) → ∃ m', m ≤ m' ∧ M' b = some (T, m')
theorem Ext.refl (M : Tmap) : Ext M M := fun _ _ m h => ⟨m, Nat.le_refl _, h⟩
theorem Ext.trans {A B C : Tmap} (h : Ext A B) (k : Ext B C) : Ext A C := fun b T m hb => by
 obtain ⟨m1, h1, h2⟩ := h b T m hb
 obtain ⟨m2, k1, k2⟩ := k b T m1 h2
 exact ⟨m2, Nat.le_trans h1 k1, k2⟩
theorem SlN.ext {M M' : Tmap} {T : TypeId} {v : Value} {n : Nat} (h : SlN M T v n) (k : Ext M M') : SlN M' T v n := by
 obtain ⟨u, c, hv, h⟩ := h
 refine ⟨u, c, hv, ?_⟩
 rcases h with h | ⟨g, m, hu, hg, hm⟩
 ·exact .inl h
 ·obtain ⟨m', h1, h2⟩ := k g T m hg
  exact .inr ⟨g, m', hu, h2, Nat.le_trans hm h1⟩
theorem SlV.ext {M M' : Tmap} {N N' : Nat} {T : TypeId} {v : Value} (h : SlV M N T v) (k : Ext M M') (hn : N ≤ N') : SlV M' N' T v := by
 obtain ⟨n, h1, h2⟩ := h
 exact ⟨n, Nat.le_trans h1 hn, h2.ext k⟩
theorem SlV1.ext {M M' : Tmap} {N N' : Nat} {T : TypeId} {v : Value} (h : SlV1 M N T v) (k : Ext M M') (hn : N ≤ N') : SlV1 M' N' T v := by
 obtain ⟨n, h0, h1, h2⟩ := h
 exact ⟨n, h0, Nat.le_trans h1 hn, h2.ext k⟩
theorem ElOk.ext {M M' : Tmap} {N N' : Nat} {T : TypeId} {c : Nat → Option Value} (h : ElOk M N T c) (k : Ext M M') (hn : N ≤ N') : ElOk M' N' T c := by
 obtain ⟨h1, h2, h3, h4, h5⟩ := h
 refine ⟨h1, fun e => ?_, fun e => ?_, fun e => ?_, fun e => ?_⟩
 ·obtain ⟨v, a, b⟩ := h2 e; exact ⟨v, a, b.ext k hn⟩
 ·obtain ⟨z, v, a, b⟩ := h3 e; exact ⟨z, v, a, b.ext k hn⟩
 ·obtain ⟨z, v, a, b⟩ := h4 e; exact ⟨z, v, a, b.ext k hn⟩
 ·obtain ⟨⟨v, a, b⟩, ⟨v', a', b'⟩, z⟩ := h5 e; exact ⟨⟨v, a, b.ext k hn⟩, ⟨v', a', b'.ext k hn⟩, z⟩
def put (M : Tmap) (g : Nat) (T : TypeId) (m : Nat) : Tmap := fun b => if b = g then some (T, m) else M b
theorem put_ext {M : Tmap} {g : Nat} {T : TypeId} {m : Nat} (h : M g = none ∨ ∃ m0, m0 ≤ m ∧ M g = some (T, m0)) : Ext M (put M g T m) := fun b T' m' hb => by
 unfold put
 by_cases e : b = g
 ·subst e
  rcases h with h | ⟨m0, h1, h2⟩
  ·rw [h] at hb; cases hb
  ·rw [h2] at hb
   cases hb
   exact ⟨m, h1, by rw [if_pos rfl]⟩
 ·exact ⟨m', Nat.le_refl _, by rw [if_neg e]; exact hb⟩
theorem TH.put {base g m N N' : Nat} {M : Tmap} {T : TypeId} {v v' : World} {cur : Array Value} (h : TH base M N v) (hn : N ≤ N') (hg : base ≤ g) (hM : M g = none ∨ ∃ m0, m0 ≤ m ∧ M g = some (T, m0)) (hc : v'.heap[g]? = some (.cells cur T (0, 0)))
  (ho : ∀ b, b ≠ g → (∃ p, M b = some p) → v'.heap[b]? = v.heap[b]?) (he : ∀ i, i < m → ElOk (put M g T m) N' T (fun j => cur[i * szT T + j]?)) : TH base (put M g T m) N' v' := fun b T' m' hb => by
 unfold Proofs.YtenbodghkpbghaaDoor.put at hb
 by_cases e : b = g
 ·subst e
  rw [if_pos rfl] at hb
  cases hb
  exact ⟨hg, cur, hc, he⟩
 ·rw [if_neg e] at hb
  obtain ⟨h1, cur', h2, h3⟩ := h b T' m' hb
  exact ⟨h1, cur', (ho b e ⟨_, hb⟩).trans h2, fun i hi => (h3 i hi).ext (put_ext hM) hn⟩
theorem TH.keep {base N N' : Nat} {M : Tmap} {v v' : World} (h : TH base M N v) (hn : N ≤ N') (ho : ∀ b, (∃ p, M b = some p) → v'.heap[b]? = v.heap[b]?) : TH base M N' v' := fun b T m hb => by
 obtain ⟨h1, cur, h2, h3⟩ := h b T m hb
 exact ⟨h1, cur, (ho b ⟨_, hb⟩).trans h2, fun i hi => (h3 i hi).ext (Ext.refl _) hn⟩
theorem TH.lt {base N b : Nat} {M : Tmap} {v : World} (h : TH base M N v) (hb : ∃ p, M b = some p) : base ≤ b ∧ b < v.heap.size := by
 obtain ⟨⟨T, m⟩, hb⟩ := hb
 obtain ⟨h1, cur, h2, _⟩ := h b T m hb
 exact ⟨h1, (Array.getElem?_eq_some_iff.1 h2).1⟩
theorem TH.none {base N b : Nat} {M : Tmap} {v : World} (h : TH base M N v) (hb : v.heap.size ≤ b) : M b = none := by
 cases e : M b with
 | none => rfl
 | some p => have := (h.lt ⟨p, e⟩).2; omega
theorem TH.alloc {base N : Nat} {M : Tmap} {v : World} (h : TH base M N v) (o : Obj) : TH base M N (v.alloc o) :=
 h.keep (Nat.le_refl _) fun b hb => Below.heap_alloc v o b (h.lt hb).2
def RowT (base : Nat) (M : Tmap) (T : TypeId) (s : Value) (n : Nat) (v : World) : Prop :=
 (s = .slice none 0 0 ∧ n = 0) ∨ ∃ g cap cur, s = .slice (some ⟨g, 0, none⟩) n cap ∧ base ≤ g ∧ M g = some (T, n) ∧ v.heap[g]? = some (.cells cur T (0, 0)) ∧ n ≤ cap ∧ cap ≤ maxLen ∧ cur.size = cap * szT T
theorem RowT.own {base n : Nat} {M : Tmap} {T : TypeId} {s : Value} {v : World} (h : RowT base M T s n v) : ∃ xs, v.ownsRow base T (szT T) s n xs := by
 rcases h with ⟨rfl, rfl⟩ | ⟨g, cap, cur, rfl, hg, _, hc, hn, hm, hs⟩
 ·exact ⟨[], by simp, .inl ⟨rfl, rfl⟩⟩
 ·refine ⟨cur.toList.take (n * szT T), ?_, .inr ⟨g, cap, cur, rfl, hg, hc, hn, hm, hs, rfl⟩⟩
  have h9 := Nat.mul_le_mul_right (szT T) hn
  rw [List.length_take, Array.length_toList, hs]
  exact Nat.min_eq_left h9
theorem RowT.sl {base n : Nat} {M : Tmap} {T : TypeId} {s : Value} {v : World} (h : RowT base M T s n v) : SlN M T s n := by
 rcases h with ⟨rfl, rfl⟩ | ⟨g, cap, cur, rfl, hg, hM, hc, hn, hm, hs⟩
 ·exact ⟨none, 0, rfl, .inl rfl⟩
 ·exact ⟨_, cap, rfl, .inr ⟨g, n, rfl, hM, Nat.le_refl _⟩⟩
theorem RowT.keep {base n : Nat} {M : Tmap} {T : TypeId} {s : Value} {v v' : World} (h : RowT base M T s n v) (ho : ∀ b, (∃ p, M b = some p) → v'.heap[b]? = v.heap[b]?) : RowT base M T s n v' := by
 rcases h with h | ⟨g, cap, cur, hv, hg, hM, hc, hn, hm, hs⟩
 ·exact .inl h
 ·exact .inr ⟨g, cap, cur, hv, hg, hM, (ho g ⟨_, hM⟩).trans hc, hn, hm, hs⟩
theorem ElOk.congr {M : Tmap} {N : Nat} {T : TypeId} {c d : Nat → Option Value} (hT : T = 2 ∨ T = 24 ∨ T = 89 ∨ T = 44 ∨ T = 41) (h : ElOk M N T c) (e : ∀ j, j < szT T → d j = c j) : ElOk M N T d := by
 obtain ⟨h1, h2, h3, h4, h5⟩ := h
 refine ⟨fun q => ?_, fun q => ?_, fun q => ?_, fun q => ?_, fun q => ?_⟩
 ·rw [e 0 (by rw [q]; decide)]; exact h1 q
 ·rw [e 0 (by rw [q]; decide)]; exact h2 q
 ·rw [e 0 (by rw [q]; decide), e 1 (by rw [q]; decide)]; exact h3 q
 ·rw [e 6 (by rw [q]; decide)]
  exact ⟨fun j hj => by rw [e j (by rw [q, show szT 44 = 7 by decide]; omega)]; exact (h4 q).1 j hj, (h4 q).2⟩
 ·rw [e 0 (by rw [q]; decide), e 1 (by rw [q]; decide)]
  exact ⟨(h5 q).1, (h5 q).2.1, fun j h2 hj => by rw [e j (by rw [q, show szT 41 = 6 by decide]; omega)]; exact (h5 q).2.2 j h2 hj⟩
theorem szT_pos (T : TypeId) : 0 < szT T := by unfold szT; split <;> (try split) <;> (try split) <;> (try split) <;> omega
theorem own_low {w : World} {b b' : Nat} {e : TypeId} {s : Nat} {v : Value} {n : Nat} {xs : List Value} (h : w.ownsRow b e s v n xs) (k : b' ≤ b) : w.ownsRow b' e s v n xs := by
 obtain ⟨h1, h2⟩ := h
 refine ⟨h1, ?_⟩
 rcases h2 with h2 | ⟨g, cap, cur, hv, hb, r⟩
 ·exact .inl h2
 ·exact .inr ⟨g, cap, cur, hv, Nat.le_trans k hb, r⟩
theorem RowT.push {base n N N' g' cap' : Nat} {M : Tmap} {T : TypeId} {s : Value} {v w' : World} {xs news : List Value} (h : RowT base M T s n v) (th : TH base M N v) (hN : N ≤ N') (hT : T = 2 ∨ T = 24 ∨ T = 89 ∨ T = 44 ∨ T = 41)
  (hx : v.ownsRow base T (szT T) s n xs) (hb : base ≤ v.heap.size) (ho : w'.ownsRow base T (szT T) (.slice (some ⟨g', 0, none⟩) (n + 1) cap') (n + 1) (xs ++ news)) (hg : (s.ownBlock = some g' ∧ v.grownBy w' (some g')) ∨ (v.heap.size ≤ g' ∧ v.grownBy w' none))
  (hl : news.length = szT T) (he : ElOk (put M g' T (n + 1)) N' T (fun j => news[j]?)) :
  TH base (put M g' T (n + 1)) N' w' ∧ RowT base (put M g' T (n + 1)) T (.slice (some ⟨g', 0, none⟩) (n + 1) cap') (n + 1) w' ∧ Ext M (put M g' T (n + 1)) ∧ (∀ b, b < v.heap.size → M b = none → w'.heap[b]? = v.heap[b]? ∧ put M g' T (n + 1) b = none) ∧ (∀ b, b ≠ g' → (∃ p, M b = some p) → w'.heap[b]? = v.heap[b]?) := by
 obtain ⟨hlen, ho2⟩ := ho
 rcases ho2 with ⟨hbad, _⟩ | ⟨g1, cap1, cur1, hv1, hb1, hc1, hn1, hm1, hs1, ht1⟩
 ·cases hbad
 cases hv1
 have hM : M g' = none ∨ ∃ m0, m0 ≤ n + 1 ∧ M g' = some (T, m0) := by
  rcases hg with ⟨hl, _⟩ | ⟨hl, _⟩
  ·rcases h with ⟨rfl, _⟩ | ⟨g, cap, cur, rfl, hg0, hM, hc, hn0, hm0, hs0⟩
   ·simp [Value.ownBlock] at hl
   ·simp [Value.ownBlock] at hl
    subst hl
    exact .inr ⟨n, by omega, hM⟩
  ·exact .inl (th.none hl)
 have hother : ∀ b, b ≠ g' → b < v.heap.size → w'.heap[b]? = v.heap[b]? := fun b hbg hbl => by
  rcases hg with ⟨_, hg⟩ | ⟨_, hg⟩
  ·exact hg.block b hbl (by simp; omega)
  ·exact hg.block b hbl (by simp)
 have hel : ∀ i, i < n + 1 → ElOk (put M g' T (n + 1)) N' T (fun j => cur1[i * szT T + j]?) := fun i hi => by
  have hrow : ∀ k, k < (n + 1) * szT T → cur1[k]? = (xs ++ news)[k]? := fun k hk => by
   rw [← ht1, List.getElem?_take, if_pos hk]; simp
  have hxl := hx.1
  by_cases e : i = n
  ·subst e
   refine he.congr hT fun j hj => ?_
   rw [hrow _ (by rw [Nat.add_mul]; omega), List.getElem?_append_right (by omega), hxl, Nat.add_sub_cancel_left]
  ·have hin : i < n := by omega
   have hmul := Nat.mul_le_mul_right (szT T) (show i + 1 ≤ n by omega)
   rw [Nat.add_mul] at hmul
   rcases h with ⟨_, h0⟩ | ⟨g, cap, cur, rfl, hg0, hM0, hc, hn0, hm0, hs0⟩
   ·omega
   obtain ⟨_, cur2, hc2, h3⟩ := th g T n hM0
   rw [hc] at hc2
   cases hc2
   refine ((h3 i hin).ext (put_ext hM) hN).congr hT fun j hj => ?_
   have hlt : i * szT T + j < n * szT T := by omega
   rw [hrow _ (by rw [Nat.add_mul]; omega), List.getElem?_append_left (by omega)]
   rcases hx.2 with ⟨hbad, _⟩ | ⟨g3, cap3, cur3, hv3, _, hc3, _, _, _, ht3⟩
   ·cases hbad
   ·cases hv3
    rw [hc] at hc3
    cases hc3
    rw [← ht3, List.getElem?_take, if_pos hlt]
    simp
 refine ⟨th.put hN hb1 hM hc1 (fun b hbg hp => hother b hbg (th.lt hp).2) hel, .inr ⟨g', cap', cur1, rfl, hb1, by simp [put], hc1, hn1, hm1, hs1⟩, put_ext hM, fun b hbl hbn => ?_, fun b hbg hp => hother b hbg (th.lt hp).2⟩
 have hbg : b ≠ g' := fun e => by
  subst e
  rcases hM with hM | ⟨m0, _, hM⟩
  ·rcases hg with ⟨hl, _⟩ | ⟨hl, _⟩
   ·rcases h with ⟨rfl, _⟩ | ⟨g, cap, cur, rfl, hg0, hM0, _⟩
    ·simp [Value.ownBlock] at hl
    ·simp [Value.ownBlock] at hl
     subst hl
     rw [hM0] at hbn; cases hbn
   ·omega
  ·rw [hM] at hbn; cases hbn
 exact ⟨hother b hbg hbl, by simp [put, hbg, hbn]⟩
structure Pushed (base : Nat) (M M' : Tmap) (N' : Nat) (T : TypeId) (n : Nat) (v w' : World) (s' : Value) : Prop where
 th : TH base M' N' w'
 row : RowT base M' T s' (n + 1) w'
 ext : Ext M M'
 out : ∀ b, b < v.heap.size → M b = none → w'.heap[b]? = v.heap[b]? ∧ M' b = none
 other : ∀ b T' m', M b = some (T', m') → T' ≠ T → w'.heap[b]? = v.heap[b]? ∧ M' b = some (T', m')
 os : w'.os = v.os
 tape : w'.tape = v.tape
 output : w'.output = v.output
 size : v.heap.size ≤ w'.heap.size
theorem RowT.pushed {base n N N' g' cap' : Nat} {M : Tmap} {T : TypeId} {s : Value} {v w' : World} {xs news : List Value} (h : RowT base M T s n v) (th : TH base M N v) (hN : N ≤ N') (hT : T = 2 ∨ T = 24 ∨ T = 89 ∨ T = 44 ∨ T = 41)
  (hx : v.ownsRow base T (szT T) s n xs) (hb : base ≤ v.heap.size) (ho : w'.ownsRow base T (szT T) (.slice (some ⟨g', 0, none⟩) (n + 1) cap') (n + 1) (xs ++ news)) (hg : (s.ownBlock = some g' ∧ v.grownBy w' (some g')) ∨ (v.heap.size ≤ g' ∧ v.grownBy w' none))
  (hl : news.length = szT T) (he : ∀ M', Ext M M' → ElOk M' N' T (fun j => news[j]?)) : Pushed base M (put M g' T (n + 1)) N' T n v w' (.slice (some ⟨g', 0, none⟩) (n + 1) cap') := by
 have hM : M g' = none ∨ ∃ m0, m0 ≤ n + 1 ∧ M g' = some (T, m0) := by
  rcases hg with ⟨hl, _⟩ | ⟨hl, _⟩
  ·rcases h with ⟨rfl, _⟩ | ⟨g, cap, cur, rfl, hg0, hM, _⟩
   ·simp [Value.ownBlock] at hl
   ·simp [Value.ownBlock] at hl
    subst hl
    exact .inr ⟨n, by omega, hM⟩
  ·exact .inl (th.none hl)
 obtain ⟨h1, h2, h3, h4, h5⟩ := h.push th hN hT hx hb ho hg hl (he _ (put_ext hM))
 have hne : ∀ b T' m', M b = some (T', m') → T' ≠ T → b ≠ g' := fun b T' m' hb hT e => by
  subst e
  rcases hM with hM | ⟨m0, _, hM⟩
  ·rw [hM] at hb; cases hb
  ·rw [hM] at hb
   cases hb
   exact hT rfl
 refine ⟨h1, h2, h3, h4, fun b T' m' hb hT => ⟨h5 b (hne b T' m' hb hT) ⟨_, hb⟩, by unfold put; rw [if_neg (hne b T' m' hb hT)]; exact hb⟩, ?_, ?_, ?_, ?_⟩
 all_goals rcases hg with ⟨_, hg⟩ | ⟨_, hg⟩
 ·exact hg.os
 ·exact hg.os
 ·exact hg.tape
 ·exact hg.tape
 ·exact hg.output
 ·exact hg.output
 ·exact hg.size
 ·exact hg.size
theorem Pushed.row2 {base N' n n2 : Nat} {M M' : Tmap} {T T2 : TypeId} {v w' : World} {s' s2 : Value} (h : Pushed base M M' N' T n v w' s') (k : RowT base M T2 s2 n2 v) (hT : T2 ≠ T) : RowT base M' T2 s2 n2 w' := by
 rcases k with k | ⟨g, cap, cur, hv, hg, hM, hc, hn, hm, hs⟩
 ·exact .inl k
 ·obtain ⟨e1, e2⟩ := h.other g T2 n2 hM hT
  exact .inr ⟨g, cap, cur, hv, hg, e2, e1.trans hc, hn, hm, hs⟩
theorem run_row {base n N N' : Nat} {M : Tmap} {T t ty : TypeId} {s : Value} {v : World} (i : TypeInfo) (z : Value) (bytes : Nat) (ht : Tryd.prog.underlying t = some (.slice T)) (hi : Tryd.prog.info? T = some i) (hz : i.zero = some z) (hsz : i.size = szT T) (hby : i.bytes = bytes) (hzs : z.cells.size = szT T) (hbm : bytes ≤ 1000)
  (h : RowT base M T s n v) (th : TH base M N v) (hN : N ≤ N') (hT : T = 2 ∨ T = 24 ∨ T = 89 ∨ T = 44 ∨ T = 41) (hb : base ≤ v.heap.size) (hn : n ≤ 100000)
  (ad : Addr) (c : Nat) (news : List Value) (hl : news.length = szT T) (hnews : ∀ j u, news[j]? = some u → v.cell? (ad.add j) = some u) (h1 : ∀ u ∈ news, u.oneCell' = true) (he : ∀ M', Ext M M' → ElOk M' N' T (fun j => news[j]?)) :
  ∃ s' w' M', (Builtin.append_ #[t, t] ty #[s, .slice (some ad) 1 c]).run Tryd.prog v = .ok s' w' ∧ Pushed base M M' N' T n v w' s' := by
 have hmul : (n + 1) * bytes ≤ 140737488355328 := Nat.le_trans (Nat.mul_le_mul (show n + 1 ≤ 100001 by omega) hbm) (by decide)
 obtain ⟨xs, hx⟩ := h.own
 rcases h with ⟨rfl, rfl⟩ | ⟨g, cap, cur, rfl, hg, hM, hc, hnc, hm, hs⟩
 ·have hx0 : xs = [] := by have := hx.1; simpa using this
  subst hx0
  obtain ⟨v', w', hr, h2, h3, _, _⟩ := run_append_own_at (P := Tryd.prog) v v.heap.size t ty T i z (szT T) bytes ht hi hz hsz hby hzs (szT_pos T) (.slice none 0 0) 0 [] ⟨by simp, .inl ⟨rfl, rfl⟩⟩ ad 1 c news (by omega) hnews h1 (by unfold maxLen; omega) (by simpa using hmul) (Nat.le_refl _)
  obtain ⟨g', cap', rfl, hg', _⟩ := h2.form (by omega)
  refine ⟨_, w', _, hr, RowT.pushed (xs := []) (news := news) (.inl ⟨rfl, rfl⟩) th hN hT hx hb ?_ (.inr ⟨hg', h3⟩) hl he⟩
  exact own_low (by simpa using h2) hb
 ·by_cases hroom : n + 1 ≤ cap
  ·obtain ⟨w', hr, h2, h3⟩ := run_append_own_spare (P := Tryd.prog) v base t ty T i (szT T) ht hi hsz g n cap xs hx ad 1 c news (by omega) hnews h1 hroom
   exact ⟨_, w', _, hr, RowT.pushed (.inr ⟨g, cap, cur, rfl, hg, hM, hc, hnc, hm, hs⟩) th hN hT hx hb h2 (.inl ⟨rfl, h3⟩) hl he⟩
  ·have hxl := hx.1
   obtain ⟨v', w', hr, h2, h3⟩ := run_append_arg_grows (P := Tryd.prog) v t ty T i z (szT T) bytes ht hi hz hsz hby hzs (szT_pos T) ⟨g, 0, none⟩ n cap xs hxl (hx.cells rfl) ad 1 c news (by omega) hnews (by omega) (by unfold maxLen; omega) hmul
   obtain ⟨g', cap', rfl, hg', _⟩ := h2.form (by omega)
   exact ⟨_, w', _, hr, RowT.pushed (.inr ⟨g, cap, cur, rfl, hg, hM, hc, hnc, hm, hs⟩) th hN hT hx hb (own_low h2 hb) (.inr ⟨hg', h3⟩) hl he⟩
end Go.Proofs.YtenbodghkpbghaaDoor
namespace Go.Proofs.YtenbodghkpbghaaDoor
open Go.RowKit
structure PhiD where
 w : Int
 ins : List Int
structure InstD where
 op : Int
 w : Int
 a : Int
 b : Int
 c : Int
 imm : Int
 args : List Int
structure TermD where
 kind : Int
 a : Int
 x : Int
 y : Int
structure BlockD where
 phis : List PhiD
 insts : List InstD
 term : TermD
structure FuncD where
 params : List Int
 ret : Int
 blocks : List BlockD
def phi0 : PhiD := ⟨0, []⟩
def inst0 : InstD := ⟨0, 0, 0, 0, 0, 0, []⟩
def term0 : TermD := ⟨0, 0, 0, 0⟩
def block0 : BlockD := ⟨[], [], term0⟩
def func0 : FuncD := ⟨[], 0, []⟩
def Agree (lo : Nat) (w w' : World) : Prop := w.heap.size ≤ w'.heap.size ∧ ∀ b, lo ≤ b → b < w.heap.size → w'.heap[b]? = w.heap[b]?
theorem Agree.refl (lo : Nat) (w : World) : Agree lo w w := ⟨Nat.le_refl _, fun _ _ _ => rfl⟩
theorem Agree.trans {lo : Nat} {a b c : World} (h : Agree lo a b) (k : Agree lo b c) : Agree lo a c :=
 ⟨Nat.le_trans h.1 k.1, fun i hi hl => (k.2 i hi (Nat.lt_of_lt_of_le hl h.1)).trans (h.2 i hi hl)⟩
theorem Agree.mono {lo lo' : Nat} {a b : World} (h : Agree lo a b) (hl : lo ≤ lo') : Agree lo' a b := ⟨h.1, fun i hi hb => h.2 i (Nat.le_trans hl hi) hb⟩
theorem agree_of_below {w w' : World} (h : Below w.heap.size w w') (lo : Nat) : Agree lo w w' := ⟨h.size, fun b _ hb => h.block b hb⟩
theorem agree_alloc (w : World) (o : Obj) (lo : Nat) : Agree lo w (w.alloc o) := ⟨by simp, fun b _ hb => Below.heap_alloc w o b hb⟩
theorem agree_setCell (w : World) (g o lo : Nat) (v : Value) (h : g < lo) : Agree lo w (w.setCell ⟨g, o, none⟩ v) :=
 ⟨by simp [World.setCell], fun b hb _ => Below.heap_setCell _ _ _ _ (by show b ≠ g; omega)⟩
theorem cell_block {w w' : World} {b o : Nat} (h : w'.heap[b]? = w.heap[b]?) : w'.cell? ⟨b, o, none⟩ = w.cell? ⟨b, o, none⟩ := by
 unfold World.cell?; rw [h]
theorem cell_agree {lo : Nat} {w w' : World} (h : Agree lo w w') {b o : Nat} (hl : lo ≤ b) (hb : b < w.heap.size) : w'.cell? ⟨b, o, none⟩ = w.cell? ⟨b, o, none⟩ := by
 unfold World.cell?; rw [h.2 b hl hb]
theorem drop_get {α : Type} (z : α) (l : List α) (k : Nat) (h : k < l.length) : l.drop k = l.getD k z :: l.drop (k + 1) := by
 rw [List.drop_eq_getElem_cons h]; simp [List.getD, h]
theorem getD_mem {α : Type} (z : α) (l : List α) (k : Nat) (h : k < l.length) : l.getD k z ∈ l := by simp [List.getD, h]
def IntsAt (w : World) (lo : Nat) (a : Option Addr) (l : List Int) : Prop :=
 l.length ≤ 9223372036854775807 ∧ (l = [] ∨ ∃ b off, a = some ⟨b, off, none⟩ ∧ lo ≤ b ∧ b < w.heap.size ∧ ∀ i, i < l.length → w.cell? ⟨b, off + i, none⟩ = some (.int .i64 (l.getD i 0)))
def PhisAt (w : World) (lo : Nat) (a : Option Addr) (l : List PhiD) : Prop :=
 l.length ≤ 9223372036854775807 ∧ (l = [] ∨ ∃ b off, a = some ⟨b, off, none⟩ ∧ lo ≤ b ∧ b < w.heap.size ∧ ∀ i, i < l.length →
  w.cell? ⟨b, off + i * 2, none⟩ = some (.int .i64 (l.getD i phi0).w) ∧
  (∃ u c, w.cell? ⟨b, off + i * 2 + 1, none⟩ = some (.slice u (l.getD i phi0).ins.length c) ∧ IntsAt w lo u (l.getD i phi0).ins))
def InstsAt (w : World) (lo : Nat) (a : Option Addr) (l : List InstD) : Prop :=
 l.length ≤ 9223372036854775807 ∧ (l = [] ∨ ∃ b off, a = some ⟨b, off, none⟩ ∧ lo ≤ b ∧ b < w.heap.size ∧ ∀ i, i < l.length →
  w.cell? ⟨b, off + i * 7, none⟩ = some (.int .i64 (l.getD i inst0).op) ∧
  w.cell? ⟨b, off + i * 7 + 1, none⟩ = some (.int .i64 (l.getD i inst0).w) ∧
  w.cell? ⟨b, off + i * 7 + 2, none⟩ = some (.int .i64 (l.getD i inst0).a) ∧
  w.cell? ⟨b, off + i * 7 + 3, none⟩ = some (.int .i64 (l.getD i inst0).b) ∧
  w.cell? ⟨b, off + i * 7 + 4, none⟩ = some (.int .i64 (l.getD i inst0).c) ∧
  w.cell? ⟨b, off + i * 7 + 5, none⟩ = some (.int .i64 (l.getD i inst0).imm) ∧
  (∃ u c, w.cell? ⟨b, off + i * 7 + 6, none⟩ = some (.slice u (l.getD i inst0).args.length c) ∧ IntsAt w lo u (l.getD i inst0).args))
def BlocksAt (w : World) (lo : Nat) (a : Option Addr) (l : List BlockD) : Prop :=
 l.length ≤ 9223372036854775807 ∧ (l = [] ∨ ∃ b off, a = some ⟨b, off, none⟩ ∧ lo ≤ b ∧ b < w.heap.size ∧ ∀ i, i < l.length →
  (∃ u c, w.cell? ⟨b, off + i * 6, none⟩ = some (.slice u (l.getD i block0).phis.length c) ∧ PhisAt w lo u (l.getD i block0).phis) ∧
  (∃ u c, w.cell? ⟨b, off + i * 6 + 1, none⟩ = some (.slice u (l.getD i block0).insts.length c) ∧ InstsAt w lo u (l.getD i block0).insts) ∧
  w.cell? ⟨b, off + i * 6 + 2, none⟩ = some (.int .i64 (l.getD i block0).term.kind) ∧
  w.cell? ⟨b, off + i * 6 + 3, none⟩ = some (.int .i64 (l.getD i block0).term.a) ∧
  w.cell? ⟨b, off + i * 6 + 4, none⟩ = some (.int .i64 (l.getD i block0).term.x) ∧
  w.cell? ⟨b, off + i * 6 + 5, none⟩ = some (.int .i64 (l.getD i block0).term.y))
def FuncsAt (w : World) (lo : Nat) (a : Option Addr) (l : List FuncD) : Prop :=
 l.length ≤ 9223372036854775807 ∧ (l = [] ∨ ∃ b off, a = some ⟨b, off, none⟩ ∧ lo ≤ b ∧ b < w.heap.size ∧ ∀ i, i < l.length →
  (∃ u c, w.cell? ⟨b, off + i * 3, none⟩ = some (.slice u (l.getD i func0).params.length c) ∧ IntsAt w lo u (l.getD i func0).params) ∧
  w.cell? ⟨b, off + i * 3 + 1, none⟩ = some (.int .i64 (l.getD i func0).ret) ∧
  (∃ u c, w.cell? ⟨b, off + i * 3 + 2, none⟩ = some (.slice u (l.getD i func0).blocks.length c) ∧ BlocksAt w lo u (l.getD i func0).blocks))
theorem IntsAt.keep {w w' : World} {lo : Nat} {a : Option Addr} {l : List Int} (h : IntsAt w lo a l) (k : Agree lo w w') : IntsAt w' lo a l := by
 obtain ⟨hm, h⟩ := h
 refine ⟨hm, ?_⟩
 rcases h with h | ⟨b, off, ha, hl, hb, hc⟩
 ·exact .inl h
 ·exact .inr ⟨b, off, ha, hl, Nat.lt_of_lt_of_le hb k.1, fun i hi => (cell_agree k hl hb).trans (hc i hi)⟩
theorem IntsAt.low {w : World} {lo lo' : Nat} {a : Option Addr} {l : List Int} (h : IntsAt w lo a l) (k : lo' ≤ lo) : IntsAt w lo' a l := by
 obtain ⟨hm, h⟩ := h
 refine ⟨hm, ?_⟩
 rcases h with h | ⟨b, off, ha, hl, hb, hc⟩
 ·exact .inl h
 ·exact .inr ⟨b, off, ha, Nat.le_trans k hl, hb, hc⟩
theorem PhisAt.keep {w w' : World} {lo : Nat} {a : Option Addr} {l : List PhiD} (h : PhisAt w lo a l) (k : Agree lo w w') : PhisAt w' lo a l := by
 obtain ⟨hm, h⟩ := h
 refine ⟨hm, ?_⟩
 rcases h with h | ⟨b, off, ha, hl, hb, hc⟩
 ·exact .inl h
 ·refine .inr ⟨b, off, ha, hl, Nat.lt_of_lt_of_le hb k.1, fun i hi => ?_⟩
  obtain ⟨h0, ⟨u1, c1, h1, k1⟩⟩ := hc i hi
  exact ⟨(cell_agree k hl hb).trans h0, ⟨u1, c1, (cell_agree k hl hb).trans h1, k1.keep k⟩⟩
theorem PhisAt.low {w : World} {lo lo' : Nat} {a : Option Addr} {l : List PhiD} (h : PhisAt w lo a l) (k : lo' ≤ lo) : PhisAt w lo' a l := by
 obtain ⟨hm, h⟩ := h
 refine ⟨hm, ?_⟩
 rcases h with h | ⟨b, off, ha, hl, hb, hc⟩
 ·exact .inl h
 ·refine .inr ⟨b, off, ha, Nat.le_trans k hl, hb, fun i hi => ?_⟩
  obtain ⟨h0, ⟨u1, c1, h1, k1⟩⟩ := hc i hi
  exact ⟨h0, ⟨u1, c1, h1, k1.low k⟩⟩
theorem InstsAt.keep {w w' : World} {lo : Nat} {a : Option Addr} {l : List InstD} (h : InstsAt w lo a l) (k : Agree lo w w') : InstsAt w' lo a l := by
 obtain ⟨hm, h⟩ := h
 refine ⟨hm, ?_⟩
 rcases h with h | ⟨b, off, ha, hl, hb, hc⟩
 ·exact .inl h
 ·refine .inr ⟨b, off, ha, hl, Nat.lt_of_lt_of_le hb k.1, fun i hi => ?_⟩
  obtain ⟨h0, h1, h2, h3, h4, h5, ⟨u6, c6, h6, k6⟩⟩ := hc i hi
  exact ⟨(cell_agree k hl hb).trans h0, (cell_agree k hl hb).trans h1, (cell_agree k hl hb).trans h2, (cell_agree k hl hb).trans h3, (cell_agree k hl hb).trans h4, (cell_agree k hl hb).trans h5, ⟨u6, c6, (cell_agree k hl hb).trans h6, k6.keep k⟩⟩
theorem InstsAt.low {w : World} {lo lo' : Nat} {a : Option Addr} {l : List InstD} (h : InstsAt w lo a l) (k : lo' ≤ lo) : InstsAt w lo' a l := by
 obtain ⟨hm, h⟩ := h
 refine ⟨hm, ?_⟩
 rcases h with h | ⟨b, off, ha, hl, hb, hc⟩
 ·exact .inl h
 ·refine .inr ⟨b, off, ha, Nat.le_trans k hl, hb, fun i hi => ?_⟩
  obtain ⟨h0, h1, h2, h3, h4, h5, ⟨u6, c6, h6, k6⟩⟩ := hc i hi
  exact ⟨h0, h1, h2, h3, h4, h5, ⟨u6, c6, h6, k6.low k⟩⟩
theorem BlocksAt.keep {w w' : World} {lo : Nat} {a : Option Addr} {l : List BlockD} (h : BlocksAt w lo a l) (k : Agree lo w w') : BlocksAt w' lo a l := by
 obtain ⟨hm, h⟩ := h
 refine ⟨hm, ?_⟩
 rcases h with h | ⟨b, off, ha, hl, hb, hc⟩
 ·exact .inl h
 ·refine .inr ⟨b, off, ha, hl, Nat.lt_of_lt_of_le hb k.1, fun i hi => ?_⟩
  obtain ⟨⟨u0, c0, h0, k0⟩, ⟨u1, c1, h1, k1⟩, h2, h3, h4, h5⟩ := hc i hi
  exact ⟨⟨u0, c0, (cell_agree k hl hb).trans h0, k0.keep k⟩, ⟨u1, c1, (cell_agree k hl hb).trans h1, k1.keep k⟩, (cell_agree k hl hb).trans h2, (cell_agree k hl hb).trans h3, (cell_agree k hl hb).trans h4, (cell_agree k hl hb).trans h5⟩
theorem BlocksAt.low {w : World} {lo lo' : Nat} {a : Option Addr} {l : List BlockD} (h : BlocksAt w lo a l) (k : lo' ≤ lo) : BlocksAt w lo' a l := by
 obtain ⟨hm, h⟩ := h
 refine ⟨hm, ?_⟩
 rcases h with h | ⟨b, off, ha, hl, hb, hc⟩
 ·exact .inl h
 ·refine .inr ⟨b, off, ha, Nat.le_trans k hl, hb, fun i hi => ?_⟩
  obtain ⟨⟨u0, c0, h0, k0⟩, ⟨u1, c1, h1, k1⟩, h2, h3, h4, h5⟩ := hc i hi
  exact ⟨⟨u0, c0, h0, k0.low k⟩, ⟨u1, c1, h1, k1.low k⟩, h2, h3, h4, h5⟩
theorem FuncsAt.keep {w w' : World} {lo : Nat} {a : Option Addr} {l : List FuncD} (h : FuncsAt w lo a l) (k : Agree lo w w') : FuncsAt w' lo a l := by
 obtain ⟨hm, h⟩ := h
 refine ⟨hm, ?_⟩
 rcases h with h | ⟨b, off, ha, hl, hb, hc⟩
 ·exact .inl h
 ·refine .inr ⟨b, off, ha, hl, Nat.lt_of_lt_of_le hb k.1, fun i hi => ?_⟩
  obtain ⟨⟨u0, c0, h0, k0⟩, h1, ⟨u2, c2, h2, k2⟩⟩ := hc i hi
  exact ⟨⟨u0, c0, (cell_agree k hl hb).trans h0, k0.keep k⟩, (cell_agree k hl hb).trans h1, ⟨u2, c2, (cell_agree k hl hb).trans h2, k2.keep k⟩⟩
theorem FuncsAt.low {w : World} {lo lo' : Nat} {a : Option Addr} {l : List FuncD} (h : FuncsAt w lo a l) (k : lo' ≤ lo) : FuncsAt w lo' a l := by
 obtain ⟨hm, h⟩ := h
 refine ⟨hm, ?_⟩
 rcases h with h | ⟨b, off, ha, hl, hb, hc⟩
 ·exact .inl h
 ·refine .inr ⟨b, off, ha, Nat.le_trans k hl, hb, fun i hi => ?_⟩
  obtain ⟨⟨u0, c0, h0, k0⟩, h1, ⟨u2, c2, h2, k2⟩⟩ := hc i hi
  exact ⟨⟨u0, c0, h0, k0.low k⟩, h1, ⟨u2, c2, h2, k2.low k⟩⟩
end Go.Proofs.YtenbodghkpbghaaDoor
namespace Go.Proofs.YtenbodghkpbghaaDoor
open Go.RowKit
def SmPhi (d : PhiD) : Prop := d.ins.length ≤ 1048576
def SmInst (d : InstD) : Prop := d.args.length ≤ 1048576
def SmBlock (d : BlockD) : Prop := (d.phis.length ≤ 1048576 ∧ ∀ p ∈ d.phis, SmPhi p) ∧ (d.insts.length ≤ 1048576 ∧ ∀ p ∈ d.insts, SmInst p)
def SmFunc (d : FuncD) : Prop := d.params.length ≤ 1048576 ∧ (d.blocks.length ≤ 1048576 ∧ ∀ p ∈ d.blocks, SmBlock p)
theorem ret_i {a b : Int} (h : a = b) : Ending.returned (.int .i64 a) = .returned (.int .i64 b) := by rw [h]
end Go.Proofs.YtenbodghkpbghaaDoor
namespace Go.Proofs.YtenbodghkpbghaaDoor
open Go.RowKit
theorem heap_alloc_last (w : World) (o : Obj) : (w.alloc o).heap[w.heap.size]? = some o := by
 show (w.heap.push o)[w.heap.size]? = _
 simp
theorem cell_of_heap {w : World} {g o : Nat} {cur : Array Value} {t : TypeId} (h : w.heap[g]? = some (.cells cur t (0, 0))) : w.cell? ⟨g, o, none⟩ = cur[o]? := by
 unfold World.cell?; rw [h]; rfl
theorem froz_of_heap {w : World} {g o : Nat} {cur : Array Value} {t : TypeId} (h : w.heap[g]? = some (.cells cur t (0, 0))) : w.frozen? ⟨g, o, none⟩ = false := by
 unfold World.frozen?; rw [h]; rfl
theorem heap_set {w : World} {g o : Nat} {cur : Array Value} {t : TypeId} {v : Value} (h : w.heap[g]? = some (.cells cur t (0, 0))) : (w.setCell ⟨g, o, none⟩ v).heap[g]? = some (.cells (cur.setIfInBounds o v) t (0, 0)) := by
 show (w.heap.modify g _)[g]? = _
 rw [Array.getElem?_modify, if_pos rfl, h]
 rfl
theorem infoI : (Tryd.prog.info? 2).map (fun i => (i.zero, i.size, i.bytes)) = some (some (.int .i64 0), 1, 8) := by kernel_rfl
end Go.Proofs.YtenbodghkpbghaaDoor
namespace Go.Proofs.YtenbodghkpbghaaDoor
open Go.RowKit
set_option linter.unusedVariables false
theorem wp_row {w : World} {o : Oper} {a : Act} {K : Act → World → Prop} {Q : Exit → Act → World → Prop} (s x : Operand) (t : TypeId) (ho : o.op = .call { callee := .builtin .append, args := #[s, x], argTypes := #[t, t] })
  {sv xv : Value} (hs : a.eval s = sv) (hx : a.eval x = xv) {R : World → Value → Tmap → Prop} (hr : ∀ ty, ∃ s' w' M', (Builtin.append_ #[t, t] ty #[sv, xv]).run Tryd.prog w = .ok s' w' ∧ R w' s' M') (h : ∀ s' w' M', R w' s' M' → K (a.put o.dst s') w') : o.wp Tryd.prog a w K Q := by
 obtain ⟨s', w', M', hr, hR⟩ := hr o.type
 unfold Oper.wp execOp
 simp only [ho, resolve, invoke, builtin, Sem.run_bind, Sem.run_pure, Result.andThen_ok, List.map_toArray, List.map_cons, List.map_nil, hs, hx, hr]
 exact h s' w' M' hR
theorem wpList_row {w : World} {ops : Array Oper} {rest : List Oper} {o : Oper} {a : Act} {Q : Exit → Act → World → Prop} (hgd : o.guard = none) (s x : Operand) (t : TypeId) (ho : o.op = .call { callee := .builtin .append, args := #[s, x], argTypes := #[t, t] })
  {sv xv : Value} (hs : a.eval s = sv) (hx : a.eval x = xv) {R : World → Value → Tmap → Prop} (hr : ∀ ty, ∃ s' w' M', (Builtin.append_ #[t, t] ty #[sv, xv]).run Tryd.prog w = .ok s' w' ∧ R w' s' M') (h : ∀ s' w' M', R w' s' M' → wpList Tryd.prog ops Q rest (a.put o.dst s') w') : wpList Tryd.prog ops Q (o :: rest) a w :=
 wpList_plain hgd fun _ hK => wp_row s x t ho hs hx hr fun s' w' M' hR => hK _ _ (h s' w' M' hR)
theorem step_row {w : World} {ops : Array Oper} {o : Oper} {a : Act} {K : Act → World → Prop} {Q : Exit → Act → World → Prop} {E : Prop} (hgd : o.guard = none) (s x : Operand) (t : TypeId) (ho : o.op = .call { callee := .builtin .append, args := #[s, x], argTypes := #[t, t] })
  {sv xv : Value} (hs : a.eval s = sv) (hx : a.eval x = xv) {R : World → Value → Tmap → Prop} (hr : ∀ ty, ∃ s' w' M', (Builtin.append_ #[t, t] ty #[sv, xv]).run Tryd.prog w = .ok s' w' ∧ R w' s' M') (h : ∀ s' w' M', R w' s' M' → K (a.put o.dst s') w') :
  if Region.wanted o (yielded ops a.tmps) = true then Oper.wp Tryd.prog o a w K Q else E := by
 rw [if_pos (by simp [Region.wanted, hgd])]
 exact wp_row s x t ho hs hx hr h
structure GRec where
 pv : Value
 bv : Value
 phv : Value
 iv : Value
 idv : Value
 wsv : Value
 rv : Value
 sv : Value
 np : Nat
 nb : Nat
 nph : Nat
 ni : Nat
 nid : Nat
 nr : Nat
 ret : Int
 kd : Int
 ta : Int
 tx : Int
 ty : Int
 nx : Int
def gcells (g : Nat) (S : GRec) : Array Value := #[.pointer (some ⟨g, 0, none⟩), S.pv, .int .i64 S.ret, S.bv, S.phv, S.iv, .int .i64 S.kd, .int .i64 S.ta, .int .i64 S.tx, .int .i64 S.ty, .int .i64 S.nx, S.idv, S.wsv, S.rv, S.sv]
structure Gok (base g G : Nat) (a0 : Option Addr) (len cap : Nat) (M : Tmap) (N : Nat) (S : GRec) (v : World) : Prop where
 rd : Rd g a0 len cap v
 gb : g < base
 bv : base ≤ v.heap.size
 mG : M G = none
 nG : base ≤ G
 cells : v.heap[G]? = some (.cells (gcells g S) 122 (0, 0))
 th : TH base M N v
 p : RowT base M 2 S.pv S.np v
 b : RowT base M 41 S.bv S.nb v
 ph : RowT base M 89 S.phv S.nph v
 i : RowT base M 44 S.iv S.ni v
 ids : (S.idv = .slice none 0 0 ∧ S.wsv = .slice none 0 0 ∧ S.nid = 0) ∨ (0 < S.nid ∧ SlN M 2 S.idv S.nid ∧ SlN M 2 S.wsv S.nid)
 rets : SlN M 2 S.rv S.nr
 pars : SlN M 24 S.sv S.nr
 bn : S.np ≤ N ∧ S.nb ≤ N ∧ S.nph ≤ N ∧ S.ni ≤ N ∧ S.nid ≤ N ∧ S.nr ≤ 2 ∧ 0 ≤ S.nx ∧ S.nx ≤ N ∧ N ≤ 10000
structure Mov (g G : Nat) (M M' : Tmap) (v v' : World) : Prop where
 ext : Ext M M'
 out : ∀ b, b < v.heap.size → b ≠ g → b ≠ G → M b = none → v'.heap[b]? = v.heap[b]? ∧ M' b = none
 hold : ∀ b T m, M b = some (T, m) → T ≠ 44 → v'.heap[b]? = v.heap[b]? ∧ M' b = some (T, m)
 os : v'.os = v.os
 tape : v'.tape = v.tape
 output : v'.output = v.output
 size : v.heap.size ≤ v'.heap.size
theorem Mov.refl (g G : Nat) (M : Tmap) (v : World) : Mov g G M M v v := ⟨Ext.refl _, fun _ _ _ _ h => ⟨rfl, h⟩, fun _ _ _ h _ => ⟨rfl, h⟩, rfl, rfl, rfl, Nat.le_refl _⟩
theorem Mov.trans {g G : Nat} {A B C : Tmap} {a b c : World} (h : Mov g G A B a b) (k : Mov g G B C b c) : Mov g G A C a c :=
 ⟨h.ext.trans k.ext, fun x hx h1 h2 h3 => by
  obtain ⟨e1, e2⟩ := h.out x hx h1 h2 h3
  obtain ⟨f1, f2⟩ := k.out x (Nat.lt_of_lt_of_le hx h.size) h1 h2 e2
  exact ⟨f1.trans e1, f2⟩, fun x T m hx hT => by
  obtain ⟨e1, e2⟩ := h.hold x T m hx hT
  obtain ⟨f1, f2⟩ := k.hold x T m e2 hT
  exact ⟨f1.trans e1, f2⟩, k.os.trans h.os, k.tape.trans h.tape, k.output.trans h.output, Nat.le_trans h.size k.size⟩
theorem Gok.read {base g G len cap N : Nat} {a0 : Option Addr} {M : Tmap} {S : GRec} {v v' : World} (h : Gok base g G a0 len cap M N S v) (hr : Rd g a0 len cap v') (k : v.grownBy v' (some g)) : Gok base g G a0 len cap M N S v' ∧ Mov g G M M v v' := by
 have hgG : g < G := Nat.lt_of_lt_of_le h.gb h.nG
 have hG := (Array.getElem?_eq_some_iff.1 h.cells).1
 have hk : ∀ b, (∃ p, M b = some p) → v'.heap[b]? = v.heap[b]? := fun b hb => by
  obtain ⟨h1, h2⟩ := h.th.lt hb
  exact k.block b h2 (by have := h.gb; simp; omega)
 refine ⟨⟨hr, h.gb, Nat.le_trans h.bv k.size, h.mG, h.nG, (k.block G hG (by simp; omega)).trans h.cells, h.th.keep (Nat.le_refl _) hk, h.p.keep hk, h.b.keep hk, h.ph.keep hk, h.i.keep hk, h.ids, h.rets, h.pars, h.bn⟩, ⟨Ext.refl _, fun b hb h1 h2 h3 => ⟨k.block b hb (by simp; omega), h3⟩, fun b T m hb hT => ⟨hk b ⟨_, hb⟩, hb⟩, k.os, k.tape, k.output, k.size⟩⟩
theorem rd_keep {g : Nat} {a0 : Option Addr} {len cap : Nat} {w w' : World} (h : Rd g a0 len cap w) (hz : w.heap.size ≤ w'.heap.size) (hk : ∀ b : Nat, b ≤ g → w'.heap[b]? = w.heap[b]?) : Rd g a0 len cap w' := by
 obtain ⟨hg, hl, hc, p, hp, hb⟩ := h
 refine ⟨by omega, hl, ?_, p, hp, by rw [hk g (Nat.le_refl _)]; exact hb⟩
 rcases hc with h | ⟨b, off, ha, hb, hc⟩
 ·exact .inl h
 ·refine .inr ⟨b, off, ha, hb, fun i hi => ?_⟩
  obtain ⟨n, h0, h1, h2⟩ := hc i hi
  exact ⟨n, h0, h1, by rw [cell_blk (hk b (by omega))]; exact h2⟩
theorem Gok.grew {base g G len cap N N' : Nat} {a0 : Option Addr} {M M' : Tmap} {S S' : GRec} {v v' : World} (h : Gok base g G a0 len cap M N S v) (hN : N ≤ N') (hB : ∀ b, b < v.heap.size → b ≠ G → v'.heap[b]? = v.heap[b]?) (hz : v.heap.size ≤ v'.heap.size) (e1 : v'.os = v.os) (e2 : v'.tape = v.tape) (e3 : v'.output = v.output)
  (hM : ∀ b, b < v.heap.size → M' b = M b) (hnew : ∀ b T m, v.heap.size ≤ b → M' b = some (T, m) → T = 2 ∧ ∃ cur, v'.heap[b]? = some (.cells cur 2 (0, 0)) ∧ ∀ i, i < m → ∃ z : Int, cur[i]? = some (.int .i64 z))
  (hG : v'.heap[G]? = some (.cells (gcells g S') 122 (0, 0))) (hs : S'.pv = S.pv ∧ S'.np = S.np ∧ S'.bv = S.bv ∧ S'.nb = S.nb ∧ S'.phv = S.phv ∧ S'.nph = S.nph ∧ S'.iv = S.iv ∧ S'.ni = S.ni ∧ S'.rv = S.rv ∧ S'.nr = S.nr ∧ S'.sv = S.sv)
  (hids : (S'.idv = .slice none 0 0 ∧ S'.wsv = .slice none 0 0 ∧ S'.nid = 0) ∨ (0 < S'.nid ∧ SlN M' 2 S'.idv S'.nid ∧ SlN M' 2 S'.wsv S'.nid)) (hb : S'.nid ≤ N' ∧ 0 ≤ S'.nx ∧ S'.nx ≤ N' ∧ N' ≤ 10000) : Gok base g G a0 len cap M' N' S' v' ∧ Mov g G M M' v v' := by
 have hGl := (Array.getElem?_eq_some_iff.1 h.cells).1
 have hgG : g < G := Nat.lt_of_lt_of_le h.gb h.nG
 have hext : Ext M M' := fun b T m hb => ⟨m, Nat.le_refl _, by rw [hM b (h.th.lt ⟨_, hb⟩).2]; exact hb⟩
 have hne : ∀ b, (∃ p, M b = some p) → b ≠ G := fun b hb e => by
  obtain ⟨p, hb⟩ := hb
  rw [e, h.mG] at hb; cases hb
 have hk : ∀ b, (∃ p, M b = some p) → v'.heap[b]? = v.heap[b]? := fun b hb => hB b (h.th.lt hb).2 (hne b hb)
 have hrow : ∀ {T : TypeId} {s : Value} {n : Nat}, RowT base M T s n v → RowT base M' T s n v' := fun {T s n} k => by
  rcases k with k | ⟨q, c, cur, hv, hq, hq2, hc, hn, hm, hs⟩
  ·exact .inl k
  ·exact .inr ⟨q, c, cur, hv, hq, by rw [hM q (h.th.lt ⟨_, hq2⟩).2]; exact hq2, (hk q ⟨_, hq2⟩).trans hc, hn, hm, hs⟩
 have hth : TH base M' N' v' := fun b T m hb' => by
  by_cases hl : b < v.heap.size
  ·rw [hM b hl] at hb'
   obtain ⟨t1, cur, t2, t3⟩ := h.th b T m hb'
   exact ⟨t1, cur, (hk b ⟨_, hb'⟩).trans t2, fun i hi => (t3 i hi).ext hext hN⟩
  ·obtain ⟨rfl, cur, t2, t3⟩ := hnew b T m (by omega) hb'
   refine ⟨by have := h.bv; omega, cur, t2, fun i hi => ?_⟩
   obtain ⟨z, hz⟩ := t3 i hi
   refine ⟨fun _ => ⟨z, by simpa [szT] using hz⟩, fun q => ?_, fun q => ?_, fun q => ?_, fun q => ?_⟩
   all_goals exact absurd q (by decide)
 obtain ⟨s1, s2, s3, s4, s5, s6, s7, s8, s9, s10, s11⟩ := hs
 have hbn := h.bn
 refine ⟨⟨rd_keep h.rd hz fun b hb => hB b (by have := h.gb; have := h.bv; omega) (by omega), h.gb, Nat.le_trans h.bv hz, by rw [hM G hGl]; exact h.mG, h.nG, hG, hth, by rw [s1, s2]; exact hrow h.p, by rw [s3, s4]; exact hrow h.b, by rw [s5, s6]; exact hrow h.ph, by rw [s7, s8]; exact hrow h.i, hids, by rw [s9, s10]; exact h.rets.ext hext, by rw [s11, s10]; exact h.pars.ext hext, by rw [s2, s4, s6, s8, s10]; omega⟩, ⟨hext, fun b hl h1 h2 h3 => ⟨hB b hl h2, by rw [hM b hl]; exact h3⟩, fun b T m hb hT => ⟨hk b ⟨_, hb⟩, by rw [hM b (h.th.lt ⟨_, hb⟩).2]; exact hb⟩, e1, e2, e3, hz⟩⟩
theorem gcell {g G : Nat} {S : GRec} {v : World} (h : v.heap[G]? = some (.cells (gcells g S) 122 (0, 0))) (j : Nat) : v.cell? ⟨G, j, none⟩ = (gcells g S)[j]? ∧ v.frozen? ⟨G, j, none⟩ = false := ⟨cell_of_heap h, froz_of_heap h⟩
end Go.Proofs.YtenbodghkpbghaaDoor
