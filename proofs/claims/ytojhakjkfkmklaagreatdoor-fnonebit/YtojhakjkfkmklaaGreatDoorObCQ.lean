/- A byte that is turned: the sum, or what stands for it, is another one. -/
import Derived.Test.YtojhakjkfkmklaaGreatDoorObA
import Derived.Test.YtojhakjkfkmklaaGreatDoorRows
import Derived.WalkKit
import Derived.WalkSpells
import Derived.Deep.QuietTactic
import Derived.BigQuiet
import Derived.Deep.AppendLies
import Derived.Deep.DeepAppendRoom
import Derived.ArgAppend
import Derived.Deep.RegionHeld2
namespace Go.Proofs.YtojhakjkfkmklaaGreatDoor
open Go.RowKit
set_option linter.unusedVariables false
def sum4 (c : Nat) : List UInt8 := [UInt8.ofNat ((c : Int) / 16777216 % 256).toNat, UInt8.ofNat ((c : Int) / 65536 % 256).toNat, UInt8.ofNat ((c : Int) / 256 % 256).toNat, UInt8.ofNat ((c : Int) % 256).toNat]
theorem sumT_list (s : ByteArray) : (sumT s).data.toList = sum4 (crcOf s.data.toList) := rfl
theorem u8_inj {a b : Nat} (ha : a < 256) (hb : b < 256) (h : UInt8.ofNat a = UInt8.ofNat b) : a = b := by
  have := congrArg UInt8.toNat h
  simp at this
  omega
theorem sum4_inj {a b : Nat} (ha : a < 4294967296) (hb : b < 4294967296) (h : sum4 a = sum4 b) : a = b := by
  unfold sum4 at h
  simp only [List.cons.injEq, and_true] at h
  obtain ⟨h1, h2, h3, h4⟩ := h
  have e1 := u8_inj (by omega) (by omega) h1
  have e2 := u8_inj (by omega) (by omega) h2
  have e3 := u8_inj (by omega) (by omega) h3
  have e4 := u8_inj (by omega) (by omega) h4
  omega
theorem crc_lt (l : List UInt8) : crcOf l < 4294967296 := xor_lt32 (csum_lt (by omega) l) (by omega)
theorem ext_list (t : ByteArray) (a b : Nat) : (t.extract a b).data.toList = (t.data.toList.drop a).take (b - a) := by
  simp [ByteArray.data_extract, Array.toList_extract, List.extract]
theorem flip_bad {body s t : ByteArray} (hs : s.data.toList = body.data.toList ++ sum4 (crcOf body.data.toList)) {i : Nat} (hi : i < s.data.toList.length) {b : UInt8} (hb : b ≠ s.data.toList[i]'hi) (ht : t.data.toList = s.data.toList.take i ++ b :: s.data.toList.drop (i + 1)) : BadB t := by
  right
  right
  intro h
  have h := congrArg (fun x : ByteArray => x.data.toList) h
  have hsz : t.size = t.data.toList.length := by simp
  rw [sumT_list, ext_list, ext_list, hsz] at h
  generalize t.data.toList = T at *
  generalize s.data.toList = L at *
  generalize body.data.toList = B at *
  have hlT : T.length = L.length := by rw [ht]; simp; omega
  have hlL : L.length = B.length + 4 := by rw [hs]; simp [sum4]
  have hm : T.length - 4 = B.length := by omega
  rw [hm] at h
  simp only [List.drop_zero, Nat.sub_zero] at h
  have hd : (T.drop B.length).take (T.length - B.length) = T.drop B.length := List.take_of_length_le (by simp)
  rw [hd] at h
  by_cases hc : i < B.length
  · have e1 : T = (B.take i ++ b :: B.drop (i + 1)) ++ sum4 (crcOf B) := by
      rw [ht, hs, List.take_append_of_le_length (by omega), List.drop_append_of_le_length (by omega)]
      simp
    have e2 : (B.take i ++ b :: B.drop (i + 1)).length = B.length := by simp; omega
    have e3 : T.take B.length = B.take i ++ b :: B.drop (i + 1) := by rw [e1, List.take_append_of_le_length (by omega), List.take_of_length_le (by omega)]
    have e4 : T.drop B.length = sum4 (crcOf B) := by rw [e1, List.drop_append_of_le_length (by omega), List.drop_of_length_le (by omega)]; simp
    rw [e3, e4] at h
    have e5 := sum4_inj (crc_lt _) (crc_lt _) h
    have e6 : B = B.take i ++ B[i] :: B.drop (i + 1) := by rw [← List.drop_eq_getElem_cons hc, List.take_append_drop]
    have e7 : L[i] = B[i] := by
      have : L[i]? = B[i]? := by rw [hs, List.getElem?_append_left hc]
      simpa [hi, hc] using this
    have e8 := crc_turn (B.take i) (B.drop (i + 1)) (a := b) (b := B[i]) (by rw [← e7]; exact hb)
    rw [← e6] at e8
    exact e8 e5
  · have e1 : T.take B.length = B := by
      rw [ht, List.take_append_of_le_length (by simp; omega), List.take_take, Nat.min_eq_left (by omega), hs, List.take_append_of_le_length (by omega), List.take_of_length_le (by omega)]
    rw [e1] at h
    have e2 : L.drop B.length = sum4 (crcOf B) := by rw [hs, List.drop_append_of_le_length (by omega), List.drop_of_length_le (by omega)]; simp
    rw [← e2] at h
    have e3 := congrArg (fun x : List UInt8 => x[i - B.length]?) h
    simp only [List.getElem?_drop] at e3
    rw [show B.length + (i - B.length) = i by omega] at e3
    have e4 : T[i]? = some b := by
      have h9 : (L.take i).length = i := by simp; omega
      rw [ht, List.getElem?_append_right (by omega), h9, Nat.sub_self]
      rfl
    rw [e4, List.getElem?_eq_getElem hi] at e3
    exact hb (Option.some.inj e3).symm
end Go.Proofs.YtojhakjkfkmklaaGreatDoor
namespace Go.Proofs.YtojhakjkfkmklaaGreatDoor
open Go.RowKit

/-- The bytes that came in: none, or a row of them in a block ahead of block g. -/
def Code (a0 : Option Addr) (len g : Nat) (w : World) : Prop :=
  len = 0 ∨ ∃ b off, a0 = some ⟨b, off, none⟩ ∧ b < g ∧ ∀ i, i < len → ∃ n : Int, 0 ≤ n ∧ n ≤ 255 ∧ w.cell? ⟨b, off + i, none⟩ = some (.int .u8 n)
/-- A reader at block g: the code's slice and its place. -/
def Rd (g : Nat) (a0 : Option Addr) (len cap : Nat) (w : World) : Prop :=
  g < w.heap.size ∧ len ≤ 1048576 ∧ Code a0 len g w ∧ ∃ p : Nat, p ≤ len ∧ w.heap[g]? = some (.cells #[.slice a0 len cap, .int .i64 p] 96 (0, 0))
theorem grown_trans {a b c : World} {r : Option Nat} (h : a.grownBy b r) (k : b.grownBy c r) : a.grownBy c r :=
  ⟨k.os.trans h.os, k.tape.trans h.tape, k.output.trans h.output, Nat.le_trans h.size k.size, fun i hi hn => (k.block i (Nat.lt_of_lt_of_le hi h.size) hn).trans (h.block i hi hn)⟩
theorem cell_blk {w w' : World} {b o : Nat} (h : w'.heap[b]? = w.heap[b]?) : w'.cell? ⟨b, o, none⟩ = w.cell? ⟨b, o, none⟩ := by
  unfold World.cell?; rw [h]
theorem Code.keep {a0 : Option Addr} {len g : Nat} {w w' : World} (h : Code a0 len g w) (hg : g < w.heap.size) (k : w.grownBy w' (some g)) : Code a0 len g w' := by
  rcases h with h | ⟨b, off, ha, hb, hc⟩
  · exact .inl h
  · refine .inr ⟨b, off, ha, hb, fun i hi => ?_⟩
    obtain ⟨n, h0, h1, h2⟩ := hc i hi
    exact ⟨n, h0, h1, by rw [cell_blk (k.block b (by omega) (by simp; omega))]; exact h2⟩
theorem set_block (w : World) (g : Nat) (x y v : Value) (t : TypeId) (h : w.heap[g]? = some (.cells #[x, y] t (0, 0))) : (w.setCell ⟨g, 1, none⟩ v).heap[g]? = some (.cells #[x, v] t (0, 0)) := by
  show (w.heap.modify g _)[g]? = _
  rw [Array.getElem?_modify, if_pos rfl, h]
  rfl
theorem set_grown (w : World) (g o : Nat) (v : Value) : w.grownBy (w.setCell ⟨g, o, none⟩ v) (some g) :=
  ⟨rfl, rfl, rfl, by simp [World.setCell], fun k _ hn => by
    simp only [World.setCell, Array.getElem?_modify]
    rw [if_neg (by intro e; exact hn (by rw [e]))]⟩

theorem rd_step {g : Nat} {a0 : Option Addr} {len cap p : Nat} {w : World} (hg : g < w.heap.size) (hl : len ≤ 1048576) (hc : Code a0 len g w) (hp : p < len)
    (hb : w.heap[g]? = some (.cells #[.slice a0 len cap, .int .i64 p] 96 (0, 0))) :
    Rd g a0 len cap (w.setCell ⟨g, 1, none⟩ (.int .i64 ((p : Int) + 1))) ∧ w.grownBy (w.setCell ⟨g, 1, none⟩ (.int .i64 ((p : Int) + 1))) (some g) := by
  have k := set_grown w g 1 (.int .i64 ((p : Int) + 1))
  have hs : g < (w.setCell ⟨g, 1, none⟩ (.int .i64 ((p : Int) + 1))).heap.size := Nat.lt_of_lt_of_le hg k.size
  exact ⟨⟨hs, hl, hc.keep hg k, p + 1, hp, set_block w g _ _ _ _ hb⟩, k⟩

set_option maxHeartbeats 400000 in
theorem next_any (g : Nat) (a0 : Option Addr) (len cap : Nat) (w : World) (h : Rd g a0 len cap w) :
    Calls Tryz.prog 66 #[.pointer (some ⟨g, 0, none⟩)] w fun e w' => ∃ n : Int, e = .returned (.int .i64 n) ∧ 0 ≤ n ∧ n ≤ 255 ∧ Rd g a0 len cap w' ∧ w.grownBy w' (some g) := by
  obtain ⟨hg, hl, hcode, p, hp, hblk⟩ := h
  have c0 : w.cell? ⟨g, 0, none⟩ = some (.slice a0 len cap) := by unfold World.cell?; rw [hblk]; rfl
  have c1 : w.cell? ⟨g, 1, none⟩ = some (.int .i64 p) := by unfold World.cell?; rw [hblk]; rfl
  have f1 : w.frozen? ⟨g, 1, none⟩ = false := by unfold World.frozen?; rw [hblk]; rfl
  have HB : Hid (w.heap[g]? = some (.cells #[.slice a0 len cap, .int .i64 p] 96 (0, 0))) := hblk
  have HC : Hid (Code a0 len g w) := hcode
  clear hblk
  by_cases hlt : p < len
  · rcases hcode with hz | ⟨b, off, rfl, hb, hc⟩
    · omega
    obtain ⟨n, h0, h1, hn⟩ := hc p hlt
    clear hc
    have d1 : decide (len ≤ p) = false := by simpa using hlt
    go_enter Tryz.func66, Tryz.ntmps66
    go_wp2
    go_quiet (fail)
    go_wp2
    go_quiet (fail)
    go_wp2
    go_ret
    have k := rd_step hg hl HC.out hlt HB.out
    exact ⟨n, rfl, h0, h1, k.1, ⟨k.2.os, k.2.tape, k.2.output, k.2.size, k.2.block⟩⟩
  · clear hcode
    go_enter Tryz.func66, Tryz.ntmps66
    go_wp2
    go_quiet (fail)
    go_wp2
    go_ret
    exact ⟨0, rfl, by omega, by omega, ⟨hg, hl, HC.out, p, hp, HB.out⟩, ⟨rfl, rfl, rfl, Nat.le_refl _, fun _ _ _ => rfl⟩⟩

set_option maxHeartbeats 400000 in
theorem below_any (g : Nat) (a0 : Option Addr) (len cap : Nat) (m : Int) (w : World) (h : Rd g a0 len cap w) :
    Calls Tryz.prog 32 #[.pointer (some ⟨g, 0, none⟩), .int .i64 m] w fun e w' => ∃ n : Int, e = .returned (.int .i64 n) ∧ 0 ≤ n ∧ (n < m ∨ n = 0) ∧ Rd g a0 len cap w' ∧ w.grownBy w' (some g) := by
  by_cases h1 : m ≤ 1
  · go_enter Tryz.func32, Tryz.ntmps32
    go_wp2_with fail
    go_ret
    exact ⟨0, rfl, by omega, .inr rfl, h, World.grownBy.refl _ _⟩
  · by_cases h2 : m ≤ 256
    · go_enter Tryz.func32, Tryz.ntmps32
      go_wp2_with (go_at_call 66; refine (next_any g a0 len cap _ (by assumption)).mono ?_; rintro e w1 ⟨n1, rfl, hn0, hn1, hr1, hg1⟩)
      go_ret
      exact ⟨_, rfl, Int.emod_nonneg _ (by omega), .inl (Int.emod_lt_of_pos _ (by omega)), by assumption, by assumption⟩
    · go_enter Tryz.func32, Tryz.ntmps32
      go_wp2_with (go_at_call 66; refine (next_any g a0 len cap _ (by assumption)).mono ?_; rintro e w1 ⟨n1, rfl, hn0, hn1, hr1, hg1⟩)
      go_ret
      exact ⟨_, rfl, Int.emod_nonneg _ (by omega), .inl (Int.emod_lt_of_pos _ (by omega)), by assumption, grown_trans (by assumption) (by assumption)⟩

set_option maxHeartbeats 400000 in
theorem once_any (g : Nat) (a0 : Option Addr) (len cap : Nat) (m : Int) (w : World) (h : Rd g a0 len cap w) (hm : 1 ≤ m ∧ m ≤ 1000) :
    Calls Tryz.prog 37 #[.pointer (some ⟨g, 0, none⟩), .int .i64 m] w fun e w' => ∃ b : Bool, e = .returned (.bool b) ∧ Rd g a0 len cap w' ∧ w.grownBy w' (some g) := by
  go_enter Tryz.func37, Tryz.ntmps37
  go_wp2_with (go_at_call 32; refine (below_any g a0 len cap _ _ (by assumption)).mono ?_; rintro e w1 ⟨n1, rfl, hn0, hn1, hr1, hg1⟩)
  go_ret
  exact ⟨_, rfl, by assumption, by assumption⟩

theorem or_u64 (x y : Int) : 0 ≤ bits .or .u64 x y ∧ bits .or .u64 x y < 18446744073709551616 := by
  unfold bits; simp only [IntKind.wrap_u64]; omega
set_option maxHeartbeats 400000 in
theorem word_any (g : Nat) (a0 : Option Addr) (len cap : Nat) (w : World) (h : Rd g a0 len cap w) :
    Calls Tryz.prog 133 #[.pointer (some ⟨g, 0, none⟩)] w fun e w' => ∃ n : Int, e = .returned (.int .u64 n) ∧ 0 ≤ n ∧ n < 18446744073709551616 ∧ Rd g a0 len cap w' ∧ w.grownBy w' (some g) := by
  have HR : Hid (w.grownBy w (some g)) := World.grownBy.refl _ _
  go_enter Tryz.func133, Tryz.ntmps133
  go_wp2_with fail
  go_loopw [3, 4] (fun x i wr => ∃ (k : Nat) (n : Int), k ≤ 8 ∧ i = .int .i64 k ∧ x = .int .u64 n ∧ 0 ≤ n ∧ n < 18446744073709551616 ∧ Rd g a0 len cap wr ∧ w.grownBy wr (some g)) (fun _ i _ => 8 - (intOf i).toNat)
  case atStart => exact ⟨0, 0, by omega, rfl, rfl, by omega, by omega, h, HR.out⟩
  case round =>
    obtain ⟨k, n, hk, rfl, rfl, hn0, hn1, hr, hgr⟩ := hrel
    by_cases hlt : k < 8
    · have HG : Hid (w.grownBy wr (some g)) := hgr
      clear hgr
      go_wp2_with (go_at_call 66; refine (next_any g a0 len cap _ (by assumption)).mono ?_; rintro e w1 ⟨n1, rfl, hm0, hm1, hr1, hg1⟩)
      go_roundw
      case rel => exact ⟨k + 1, _, by omega, by go_num, rfl, (or_u64 _ _).1, (or_u64 _ _).2, by assumption, grown_trans HG.out (by assumption)⟩
      case measure => simp [intOf]; omega
    · go_wp2_with fail
      go_ret
      exact ⟨_, rfl, hn0, hn1, hr, hgr⟩
end Go.Proofs.YtojhakjkfkmklaaGreatDoor
namespace Go.Proofs.YtojhakjkfkmklaaGreatDoor
open Go.RowKit

theorem Code.alloc {a0 : Option Addr} {len g : Nat} {w : World} (h : Code a0 len g w) (hg : g ≤ w.heap.size) (o : Obj) : Code a0 len g (w.alloc o) := by
  rcases h with h | ⟨b, off, ha, hb, hc⟩
  · exact .inl h
  · refine .inr ⟨b, off, ha, hb, fun i hi => ?_⟩
    obtain ⟨n, h0, h1, h2⟩ := hc i hi
    exact ⟨n, h0, h1, by rw [cell_blk (Below.heap_alloc w o b (by omega))]; exact h2⟩
theorem Rd.alloc {g : Nat} {a0 : Option Addr} {len cap : Nat} {w : World} (h : Rd g a0 len cap w) (o : Obj) : Rd g a0 len cap (w.alloc o) := by
  obtain ⟨hg, hl, hc, p, hp, hb⟩ := h
  exact ⟨by simp; omega, hl, hc.alloc (by omega) o, p, hp, by rw [Below.heap_alloc w o g hg]; exact hb⟩
theorem Rd.lt {g : Nat} {a0 : Option Addr} {len cap : Nat} {w : World} (h : Rd g a0 len cap w) : g < w.heap.size := h.1
/-- Four numbers in a block of the call's own, read behind a call that turned the reader's place alone. -/
theorem four {w w1 : World} {g : Nat} {x0 x1 x2 x3 n : Int} {t : TypeId} (hg : g < w.heap.size) (k : (w.alloc (.cells #[.int .i64 x0, .int .i64 x1, .int .i64 x2, .int .i64 x3] t)).grownBy w1 (some g)) (h0 : 0 ≤ n) (h1 : n < 4) :
    ∃ z : Int, w1.cell? ⟨w.heap.size, n.toNat, none⟩ = some (.int .i64 z) ∧ (z = x0 ∨ z = x1 ∨ z = x2 ∨ z = x3) := by
  have hb : w1.heap[w.heap.size]? = some (.cells #[.int .i64 x0, .int .i64 x1, .int .i64 x2, .int .i64 x3] t (0, 0)) := by
    rw [k.block w.heap.size (by simp) (by simp; omega)]
    show (w.heap.push _)[w.heap.size]? = _
    simp
  have hn : n = 0 ∨ n = 1 ∨ n = 2 ∨ n = 3 := by omega
  rcases hn with rfl | rfl | rfl | rfl
  · exact ⟨x0, by unfold World.cell?; rw [hb]; rfl, .inl rfl⟩
  · exact ⟨x1, by unfold World.cell?; rw [hb]; rfl, .inr (.inl rfl)⟩
  · exact ⟨x2, by unfold World.cell?; rw [hb]; rfl, .inr (.inr (.inl rfl))⟩
  · exact ⟨x3, by unfold World.cell?; rw [hb]; rfl, .inr (.inr (.inr rfl))⟩

theorem near_eq {lo hi n : Int} (hlo : -1000000 ≤ lo) (hlh : lo ≤ hi) (hhi : hi ≤ 5000000000) : lo ≤ wrap64 (lo + wrap64 (n / 2 % (hi - lo + 1))) ∧ wrap64 (lo + wrap64 (n / 2 % (hi - lo + 1))) ≤ hi := by
  have h0 := Int.emod_nonneg (n / 2) (b := hi - lo + 1) (by omega)
  have h1 := Int.emod_lt_of_pos (n / 2) (b := hi - lo + 1) (by omega)
  generalize n / 2 % (hi - lo + 1) = m at h0 h1
  unfold wrap64; omega

set_option maxHeartbeats 400000 in
theorem near_any (g : Nat) (a0 : Option Addr) (len cap : Nat) (lo hi : Int) (w : World) (h : Rd g a0 len cap w) (hlo : -1000000 ≤ lo) (hlh : lo ≤ hi) (hhi : hi ≤ 5000000000) :
    Calls Tryz.prog 102 #[.pointer (some ⟨g, 0, none⟩), .int .i64 lo, .int .i64 hi] w fun e w' => ∃ n : Int, e = .returned (.int .i64 n) ∧ lo ≤ n ∧ n ≤ hi ∧ Rd g a0 len cap w' ∧ w.grownBy w' (some g) := by
  go_enter Tryz.func102, Tryz.ntmps102
  go_wp2_with (first | (go_at_call 32; refine (below_any g a0 len cap _ _ (by assumption)).mono ?_; rintro e w1 ⟨n1, rfl, hn0, hn1, hr1, hg1⟩) | (go_at_call 133; refine (word_any g a0 len cap _ (by assumption)).mono ?_; rintro e w2 ⟨n2, rfl, hm0, hm1, hr2, hg2⟩))
  · go_ret
    exact ⟨lo, rfl, by omega, by omega, by assumption, by assumption⟩
  · go_ret
    exact ⟨hi, rfl, by omega, by omega, by assumption, by assumption⟩
  · go_ret
    exact ⟨_, rfl, (near_eq hlo hlh hhi).1, (near_eq hlo hlh hhi).2, by assumption, grown_trans (by assumption) (by assumption)⟩

set_option maxHeartbeats 400000 in
theorem width_any (g : Nat) (a0 : Option Addr) (len cap : Nat) (w : World) (h : Rd g a0 len cap w) :
    Calls Tryz.prog 96 #[.pointer (some ⟨g, 0, none⟩)] w fun e w' => ∃ n : Int, e = .returned (.int .i64 n) ∧ (n = 1 ∨ n = 8 ∨ n = 16 ∨ n = 32) ∧ Rd g a0 len cap w' ∧ w.grownBy w' (some g) := by
  have hlt := h.lt
  go_enter Tryz.func96, Tryz.ntmps96
  go_wp2_with (go_at_call 32; refine (below_any g a0 len cap _ _ (h.alloc _)).mono ?_; rintro e w1 ⟨n1, rfl, hn0, hn1, hr1, hg1⟩; have hn2 : n1 < 4 := (by omega); obtain ⟨z, hz, hzc⟩ := four hlt hg1 hn0 hn2)
  go_ret
  exact ⟨z, rfl, by omega, by assumption, grown_trans (World.grownBy_alloc _ _ _) (by assumption)⟩

set_option maxHeartbeats 400000 in
theorem off_any (g : Nat) (a0 : Option Addr) (len cap : Nat) (lo hi : Int) (w : World) (h : Rd g a0 len cap w) (hlo : -1000000 ≤ lo) (hlh : lo ≤ hi) (hhi : hi ≤ 5000000000) :
    Calls Tryz.prog 67 #[.pointer (some ⟨g, 0, none⟩), .int .i64 lo, .int .i64 hi] w fun e w' => ∃ n : Int, e = .returned (.int .i64 n) ∧ -9223372036854775808 ≤ n ∧ n ≤ 9223372036854775807 ∧ Rd g a0 len cap w' ∧ w.grownBy w' (some g) := by
  go_enter Tryz.func67, Tryz.ntmps67
  go_wp2_with (first | (go_at_call 37; refine (once_any g a0 len cap _ _ (by assumption) (by omega)).mono ?_; rintro e w1 ⟨b1, rfl, hr1, hg1⟩; have hlt := hr1.lt) | (go_at_call 102; refine (near_any g a0 len cap _ _ _ (by assumption) (by assumption) (by assumption) (by assumption)).mono ?_; rintro e w2 ⟨n2, rfl, hm0, hm1, hr2, hg2⟩) | (go_at_call 32; refine (below_any g a0 len cap _ _ (Rd.alloc (by assumption) _)).mono ?_; rintro e w2 ⟨n1, rfl, hn0, hn1, hr2, hg2⟩; have hn2 : n1 < 4 := (by omega); obtain ⟨z, hz, hzc⟩ := four hlt hg2 hn0 hn2))
  · go_ret
    exact ⟨_, rfl, by omega, by omega, by assumption, grown_trans (grown_trans hg1 (World.grownBy_alloc _ _ _)) (by assumption)⟩
  · go_ret
    exact ⟨_, rfl, by omega, by omega, by assumption, grown_trans (by assumption) (by assumption)⟩
end Go.Proofs.YtojhakjkfkmklaaGreatDoor
namespace Go.Proofs.YtojhakjkfkmklaaGreatDoor
open Go.RowKit

theorem open_any (a0 : Option Addr) (len cap : Nat) (w : World) :
    Calls Tryz.prog 30 #[.slice a0 len cap] w fun e w' => e = .returned (.pointer (some ⟨w.heap.size, 0, none⟩)) ∧ w' = w.alloc (.cells #[.slice a0 len cap, .int .i64 0] 96) := by
  go_enter Tryz.func30, Tryz.ntmps30
  go_wp2_with fail
  go_ret
  exact ⟨rfl, rfl⟩
theorem rd_open {a0 : Option Addr} {len cap : Nat} {w : World} (hl : len ≤ 1048576) (hc : Code a0 len w.heap.size w) : Rd w.heap.size a0 len cap (w.alloc (.cells #[.slice a0 len cap, .int .i64 0] 96)) := by
  refine ⟨by simp, hl, hc.alloc (Nat.le_refl _) _, 0, by omega, ?_⟩
  show (w.heap.push _)[w.heap.size]? = _
  simp
/-- What was there ahead of the reader is as it was. -/
theorem rd_below {w w' : World} {o : Obj} (k : (w.alloc o).grownBy w' (some w.heap.size)) : Below w.heap.size w w' :=
  ((Below.refl _ _).alloc (Nat.le_refl _) o).grown k (by simp) (by simp)

set_option maxHeartbeats 800000 in
theorem value_any (g : Nat) (a0 : Option Addr) (len cap : Nat) (x : Int) (w : World) (h : Rd g a0 len cap w) (hx : x = 1 ∨ x = 8 ∨ x = 16 ∨ x = 32) :
    Calls Tryz.prog 128 #[.pointer (some ⟨g, 0, none⟩), .int .i64 x] w fun e w' => ∃ n : Int, e = .returned (.int .i64 n) ∧ 0 ≤ n ∧ n ≤ 4294967295 ∧ Rd g a0 len cap w' ∧ w.grownBy w' (some g) := by
  rcases hx with rfl | rfl | rfl | rfl
  all_goals
    go_enter Tryz.func128, Tryz.ntmps128
    go_wp2_with (first | (go_at_call 32; refine (below_any g a0 len cap _ _ (by assumption)).mono ?_; rintro e w1 ⟨n1, rfl, hn0, hn1, hr1, hg1⟩) | (go_at_call 133; refine (word_any g a0 len cap _ (by assumption)).mono ?_; rintro e w2 ⟨n2, rfl, hm0, hm1, hr2, hg2⟩))
    all_goals go_ret
    all_goals first | exact ⟨_, rfl, by omega, by omega, by assumption, by assumption⟩ | exact ⟨_, rfl, by omega, by omega, by assumption, grown_trans (by assumption) (by assumption)⟩ | trace_state

theorem results4 {fn : Func} {p q r s : Tmp} (h : fn.results = #[.tmp p, .tmp q, .tmp r, .tmp s]) (tmps : Array Value) (P : Program) (w : World) :
    (results fn tmps).run P w = .ok (.tuple #[tmps.getD p undef, tmps.getD q undef, tmps.getD r undef, tmps.getD s undef]) w := by
  simp only [results, h]
  simp

end Go.Proofs.YtojhakjkfkmklaaGreatDoor
namespace Go.Proofs.YtojhakjkfkmklaaGreatDoor
open Go.RowKit

theorem cell_lt {w : World} {b o : Nat} {v : Value} (h : w.cell? ⟨b, o, none⟩ = some v) : b < w.heap.size := by
  unfold World.cell? at h
  cases hb : w.heap[b]? with
  | none => simp [hb] at h
  | some x => exact (Array.getElem?_eq_some_iff.1 hb).1
theorem Code.below {a0 : Option Addr} {len : Nat} {w w' : World} (h : Code a0 len w.heap.size w) (k : Below w.heap.size w w') : Code a0 len w'.heap.size w' := by
  rcases h with h | ⟨b, off, ha, hb, hc⟩
  · exact .inl h
  · have := k.size
    refine .inr ⟨b, off, ha, by omega, fun i hi => ?_⟩
    obtain ⟨n, h0, h1, h2⟩ := hc i hi
    exact ⟨n, h0, h1, by rw [cell_blk (k.block b hb)]; exact h2⟩
theorem u8_bd {n : Int} (h : (Lit.int .u8 n).wf = true) : 0 ≤ n ∧ n ≤ 255 := by
  have h' : IntKind.u8.min ≤ n ∧ n ≤ IntKind.u8.max := by simpa [Lit.wf] using h
  exact h'
theorem code_of {w : World} {a : Option Addr} {len cap : Nat} {zs : List Int}
    (h : (a = none ∧ len = 0 ∧ cap = 0 ∧ zs = []) ∨ ∃ x, a = some x ∧ len ≤ cap ∧ cap ≤ maxLen ∧ zs.length = cap ∧ (∀ i, i < zs.length → w.cell? (x.add i) = some (.int .u8 (zs.getD i 0))) ∧ ∀ n ∈ zs, (Lit.int .u8 n).wf = true) :
    Code a len w.heap.size w := by
  rcases h with ⟨rfl, rfl, rfl, rfl⟩ | ⟨⟨b, off, spot⟩, rfl, hl, hm, hz, hcell, hwz⟩
  · exact .inl rfl
  · by_cases h0 : len = 0
    · exact .inl h0
    · have hc0 := hcell 0 (by omega)
      have hs : spot = none := by simpa [Addr.add] using World.cell?_spot hc0
      subst hs
      have hat : ∀ i, (⟨b, off, none⟩ : Addr).add i = ⟨b, off + i, none⟩ := fun i => by unfold Addr.add; split <;> simp_all
      refine .inr ⟨b, off, rfl, ?_, fun i hi => ?_⟩
      · rw [hat] at hc0; exact cell_lt hc0
      · have hi2 : i < zs.length := by omega
        have hw := u8_bd (hwz (zs.getD i 0) (by simp [List.getD, hi2]))
        exact ⟨_, hw.1, hw.2, by rw [← hat]; exact hcell i hi2⟩
theorem big_any (a0 : Option Addr) (len cap : Nat) (w : World) : Calls Tryz.prog 6 #[.slice a0 len cap] w fun e w' => e = .returned (.bool (decide (1048576 < len))) ∧ w' = w := by
  go_enter Tryz.func6, Tryz.ntmps6
  go_wp2_with fail
  go_ret
  exact ⟨congrArg (fun b => Ending.returned (.bool b)) (by rw [Bool.eq_iff_iff]; simp; omega), rfl⟩
end Go.Proofs.YtojhakjkfkmklaaGreatDoor
namespace Go.Proofs.YtojhakjkfkmklaaGreatDoor
open Go.RowKit
set_option linter.unusedVariables false

/-- Which blocks hold elements of which type, and how many of each. -/
abbrev Tmap := Nat → Option (TypeId × Nat)
def szT (T : TypeId) : Nat := if T = 2 then 1 else if T = 46 then 1 else if T = 88 then 2 else if T = 91 then 7 else 6
/-- A slice of n elements of a type that are there. -/
def SlN (M : Tmap) (T : TypeId) (v : Value) (n : Nat) : Prop := ∃ u c, v = .slice u n c ∧ (n = 0 ∨ ∃ g m, u = some ⟨g, 0, none⟩ ∧ M g = some (T, m) ∧ n ≤ m)
def SlV (M : Tmap) (N : Nat) (T : TypeId) (v : Value) : Prop := ∃ n, n ≤ N ∧ SlN M T v n
/-- One that is not empty. -/
def SlV1 (M : Tmap) (N : Nat) (T : TypeId) (v : Value) : Prop := ∃ n, 1 ≤ n ∧ n ≤ N ∧ SlN M T v n
theorem SlV1.slv {M : Tmap} {N : Nat} {T : TypeId} {v : Value} (h : SlV1 M N T v) : SlV M N T v := by
  obtain ⟨n, _, h2, h3⟩ := h
  exact ⟨n, h2, h3⟩
/-- An element of its type. -/
def ElOk (M : Tmap) (N : Nat) (T : TypeId) (c : Nat → Option Value) : Prop :=
  (T = 2 → ∃ z : Int, c 0 = some (.int .i64 z)) ∧ (T = 46 → ∃ v, c 0 = some v ∧ SlV M N 2 v) ∧
  (T = 88 → (∃ z : Int, c 0 = some (.int .i64 z)) ∧ ∃ v, c 1 = some v ∧ SlV1 M N 2 v) ∧
  (T = 91 → (∀ j, j < 6 → ∃ z : Int, c j = some (.int .i64 z)) ∧ ∃ v, c 6 = some v ∧ SlV M N 2 v) ∧
  (T = 86 → (∃ v, c 0 = some v ∧ SlV M N 88 v) ∧ (∃ v, c 1 = some v ∧ SlV M N 91 v) ∧ ∀ j, 2 ≤ j → j < 6 → ∃ z : Int, c j = some (.int .i64 z))
def TH (base : Nat) (M : Tmap) (N : Nat) (v : World) : Prop := ∀ b T m, M b = some (T, m) → base ≤ b ∧ ∃ cur, v.heap[b]? = some (.cells cur T (0, 0)) ∧ ∀ i, i < m → ElOk M N T (fun j => cur[i * szT T + j]?)
/-- More is there than was. -/
def Ext (M M' : Tmap) : Prop := ∀ b T m, M b = some (T, m) → ∃ m', m ≤ m' ∧ M' b = some (T, m')
theorem Ext.refl (M : Tmap) : Ext M M := fun _ _ m h => ⟨m, Nat.le_refl _, h⟩
theorem Ext.trans {A B C : Tmap} (h : Ext A B) (k : Ext B C) : Ext A C := fun b T m hb => by
  obtain ⟨m1, h1, h2⟩ := h b T m hb
  obtain ⟨m2, k1, k2⟩ := k b T m1 h2
  exact ⟨m2, Nat.le_trans h1 k1, k2⟩
theorem SlN.ext {M M' : Tmap} {T : TypeId} {v : Value} {n : Nat} (h : SlN M T v n) (k : Ext M M') : SlN M' T v n := by
  obtain ⟨u, c, hv, h⟩ := h
  refine ⟨u, c, hv, ?_⟩
  rcases h with h | ⟨g, m, hu, hg, hm⟩
  · exact .inl h
  · obtain ⟨m', h1, h2⟩ := k g T m hg
    exact .inr ⟨g, m', hu, h2, Nat.le_trans hm h1⟩
theorem SlV.ext {M M' : Tmap} {N N' : Nat} {T : TypeId} {v : Value} (h : SlV M N T v) (k : Ext M M') (hn : N ≤ N') : SlV M' N' T v := by
  obtain ⟨n, h1, h2⟩ := h
  exact ⟨n, Nat.le_trans h1 hn, h2.ext k⟩
theorem SlV1.ext {M M' : Tmap} {N N' : Nat} {T : TypeId} {v : Value} (h : SlV1 M N T v) (k : Ext M M') (hn : N ≤ N') : SlV1 M' N' T v := by
  obtain ⟨n, h0, h1, h2⟩ := h
  exact ⟨n, h0, Nat.le_trans h1 hn, h2.ext k⟩
theorem ElOk.ext {M M' : Tmap} {N N' : Nat} {T : TypeId} {c : Nat → Option Value} (h : ElOk M N T c) (k : Ext M M') (hn : N ≤ N') : ElOk M' N' T c := by
  obtain ⟨h1, h2, h3, h4, h5⟩ := h
  refine ⟨h1, fun e => ?_, fun e => ?_, fun e => ?_, fun e => ?_⟩
  · obtain ⟨v, a, b⟩ := h2 e; exact ⟨v, a, b.ext k hn⟩
  · obtain ⟨z, v, a, b⟩ := h3 e; exact ⟨z, v, a, b.ext k hn⟩
  · obtain ⟨z, v, a, b⟩ := h4 e; exact ⟨z, v, a, b.ext k hn⟩
  · obtain ⟨⟨v, a, b⟩, ⟨v', a', b'⟩, z⟩ := h5 e; exact ⟨⟨v, a, b.ext k hn⟩, ⟨v', a', b'.ext k hn⟩, z⟩
/-- One block more, or one with more in it. -/
def put (M : Tmap) (g : Nat) (T : TypeId) (m : Nat) : Tmap := fun b => if b = g then some (T, m) else M b
theorem put_ext {M : Tmap} {g : Nat} {T : TypeId} {m : Nat} (h : M g = none ∨ ∃ m0, m0 ≤ m ∧ M g = some (T, m0)) : Ext M (put M g T m) := fun b T' m' hb => by
  unfold put
  by_cases e : b = g
  · subst e
    rcases h with h | ⟨m0, h1, h2⟩
    · rw [h] at hb; cases hb
    · rw [h2] at hb
      cases hb
      exact ⟨m, h1, by rw [if_pos rfl]⟩
  · exact ⟨m', Nat.le_refl _, by rw [if_neg e]; exact hb⟩
theorem TH.put {base g m N N' : Nat} {M : Tmap} {T : TypeId} {v v' : World} {cur : Array Value} (h : TH base M N v) (hn : N ≤ N') (hg : base ≤ g) (hM : M g = none ∨ ∃ m0, m0 ≤ m ∧ M g = some (T, m0)) (hc : v'.heap[g]? = some (.cells cur T (0, 0)))
    (ho : ∀ b, b ≠ g → (∃ p, M b = some p) → v'.heap[b]? = v.heap[b]?) (he : ∀ i, i < m → ElOk (put M g T m) N' T (fun j => cur[i * szT T + j]?)) : TH base (put M g T m) N' v' := fun b T' m' hb => by
  unfold Proofs.YtojhakjkfkmklaaGreatDoor.put at hb
  by_cases e : b = g
  · subst e
    rw [if_pos rfl] at hb
    cases hb
    exact ⟨hg, cur, hc, he⟩
  · rw [if_neg e] at hb
    obtain ⟨h1, cur', h2, h3⟩ := h b T' m' hb
    exact ⟨h1, cur', (ho b e ⟨_, hb⟩).trans h2, fun i hi => (h3 i hi).ext (put_ext hM) hn⟩
theorem TH.keep {base N N' : Nat} {M : Tmap} {v v' : World} (h : TH base M N v) (hn : N ≤ N') (ho : ∀ b, (∃ p, M b = some p) → v'.heap[b]? = v.heap[b]?) : TH base M N' v' := fun b T m hb => by
  obtain ⟨h1, cur, h2, h3⟩ := h b T m hb
  exact ⟨h1, cur, (ho b ⟨_, hb⟩).trans h2, fun i hi => (h3 i hi).ext (Ext.refl _) hn⟩
theorem TH.lt {base N b : Nat} {M : Tmap} {v : World} (h : TH base M N v) (hb : ∃ p, M b = some p) : base ≤ b ∧ b < v.heap.size := by
  obtain ⟨⟨T, m⟩, hb⟩ := hb
  obtain ⟨h1, cur, h2, _⟩ := h b T m hb
  exact ⟨h1, (Array.getElem?_eq_some_iff.1 h2).1⟩
theorem TH.none {base N b : Nat} {M : Tmap} {v : World} (h : TH base M N v) (hb : v.heap.size ≤ b) : M b = none := by
  cases e : M b with
  | none => rfl
  | some p => have := (h.lt ⟨p, e⟩).2; omega
theorem TH.alloc {base N : Nat} {M : Tmap} {v : World} (h : TH base M N v) (o : Obj) : TH base M N (v.alloc o) :=
  h.keep (Nat.le_refl _) fun b hb => Below.heap_alloc v o b (h.lt hb).2
/-- A slice that is appended to: nil, or just all that is there in its block. -/
def RowT (base : Nat) (M : Tmap) (T : TypeId) (s : Value) (n : Nat) (v : World) : Prop :=
  (s = .slice none 0 0 ∧ n = 0) ∨ ∃ g cap cur, s = .slice (some ⟨g, 0, none⟩) n cap ∧ base ≤ g ∧ M g = some (T, n) ∧ v.heap[g]? = some (.cells cur T (0, 0)) ∧ n ≤ cap ∧ cap ≤ maxLen ∧ cur.size = cap * szT T
theorem RowT.own {base n : Nat} {M : Tmap} {T : TypeId} {s : Value} {v : World} (h : RowT base M T s n v) : ∃ xs, v.ownsRow base T (szT T) s n xs := by
  rcases h with ⟨rfl, rfl⟩ | ⟨g, cap, cur, rfl, hg, _, hc, hn, hm, hs⟩
  · exact ⟨[], by simp, .inl ⟨rfl, rfl⟩⟩
  · refine ⟨cur.toList.take (n * szT T), ?_, .inr ⟨g, cap, cur, rfl, hg, hc, hn, hm, hs, rfl⟩⟩
    have h9 := Nat.mul_le_mul_right (szT T) hn
    rw [List.length_take, Array.length_toList, hs]
    exact Nat.min_eq_left h9
theorem RowT.sl {base n : Nat} {M : Tmap} {T : TypeId} {s : Value} {v : World} (h : RowT base M T s n v) : SlN M T s n := by
  rcases h with ⟨rfl, rfl⟩ | ⟨g, cap, cur, rfl, hg, hM, hc, hn, hm, hs⟩
  · exact ⟨none, 0, rfl, .inl rfl⟩
  · exact ⟨_, cap, rfl, .inr ⟨g, n, rfl, hM, Nat.le_refl _⟩⟩
theorem RowT.keep {base n : Nat} {M : Tmap} {T : TypeId} {s : Value} {v v' : World} (h : RowT base M T s n v) (ho : ∀ b, (∃ p, M b = some p) → v'.heap[b]? = v.heap[b]?) : RowT base M T s n v' := by
  rcases h with h | ⟨g, cap, cur, hv, hg, hM, hc, hn, hm, hs⟩
  · exact .inl h
  · exact .inr ⟨g, cap, cur, hv, hg, hM, (ho g ⟨_, hM⟩).trans hc, hn, hm, hs⟩
theorem ElOk.congr {M : Tmap} {N : Nat} {T : TypeId} {c d : Nat → Option Value} (hT : T = 2 ∨ T = 46 ∨ T = 88 ∨ T = 91 ∨ T = 86) (h : ElOk M N T c) (e : ∀ j, j < szT T → d j = c j) : ElOk M N T d := by
  obtain ⟨h1, h2, h3, h4, h5⟩ := h
  refine ⟨fun q => ?_, fun q => ?_, fun q => ?_, fun q => ?_, fun q => ?_⟩
  · rw [e 0 (by rw [q]; decide)]; exact h1 q
  · rw [e 0 (by rw [q]; decide)]; exact h2 q
  · rw [e 0 (by rw [q]; decide), e 1 (by rw [q]; decide)]; exact h3 q
  · rw [e 6 (by rw [q]; decide)]
    exact ⟨fun j hj => by rw [e j (by rw [q, show szT 91 = 7 by decide]; omega)]; exact (h4 q).1 j hj, (h4 q).2⟩
  · rw [e 0 (by rw [q]; decide), e 1 (by rw [q]; decide)]
    exact ⟨(h5 q).1, (h5 q).2.1, fun j h2 hj => by rw [e j (by rw [q, show szT 86 = 6 by decide]; omega)]; exact (h5 q).2.2 j h2 hj⟩
theorem szT_pos (T : TypeId) : 0 < szT T := by unfold szT; split <;> (try split) <;> (try split) <;> (try split) <;> omega
theorem own_low {w : World} {b b' : Nat} {e : TypeId} {s : Nat} {v : Value} {n : Nat} {xs : List Value} (h : w.ownsRow b e s v n xs) (k : b' ≤ b) : w.ownsRow b' e s v n xs := by
  obtain ⟨h1, h2⟩ := h
  refine ⟨h1, ?_⟩
  rcases h2 with h2 | ⟨g, cap, cur, hv, hb, r⟩
  · exact .inl h2
  · exact .inr ⟨g, cap, cur, hv, Nat.le_trans k hb, r⟩
/-- What an append of one element leaves: all as it was, and one element more. -/
theorem RowT.push {base n N N' g' cap' : Nat} {M : Tmap} {T : TypeId} {s : Value} {v w' : World} {xs news : List Value} (h : RowT base M T s n v) (th : TH base M N v) (hN : N ≤ N') (hT : T = 2 ∨ T = 46 ∨ T = 88 ∨ T = 91 ∨ T = 86)
    (hx : v.ownsRow base T (szT T) s n xs) (hb : base ≤ v.heap.size) (ho : w'.ownsRow base T (szT T) (.slice (some ⟨g', 0, none⟩) (n + 1) cap') (n + 1) (xs ++ news)) (hg : (s.ownBlock = some g' ∧ v.grownBy w' (some g')) ∨ (v.heap.size ≤ g' ∧ v.grownBy w' none))
    (hl : news.length = szT T) (he : ElOk (put M g' T (n + 1)) N' T (fun j => news[j]?)) :
    TH base (put M g' T (n + 1)) N' w' ∧ RowT base (put M g' T (n + 1)) T (.slice (some ⟨g', 0, none⟩) (n + 1) cap') (n + 1) w' ∧ Ext M (put M g' T (n + 1)) ∧ (∀ b, b < v.heap.size → M b = none → w'.heap[b]? = v.heap[b]? ∧ put M g' T (n + 1) b = none) ∧ (∀ b, b ≠ g' → (∃ p, M b = some p) → w'.heap[b]? = v.heap[b]?) := by
  obtain ⟨hlen, ho2⟩ := ho
  rcases ho2 with ⟨hbad, _⟩ | ⟨g1, cap1, cur1, hv1, hb1, hc1, hn1, hm1, hs1, ht1⟩
  · cases hbad
  cases hv1
  have hM : M g' = none ∨ ∃ m0, m0 ≤ n + 1 ∧ M g' = some (T, m0) := by
    rcases hg with ⟨hl, _⟩ | ⟨hl, _⟩
    · rcases h with ⟨rfl, _⟩ | ⟨g, cap, cur, rfl, hg0, hM, hc, hn0, hm0, hs0⟩
      · simp [Value.ownBlock] at hl
      · simp [Value.ownBlock] at hl
        subst hl
        exact .inr ⟨n, by omega, hM⟩
    · exact .inl (th.none hl)
  have hother : ∀ b, b ≠ g' → b < v.heap.size → w'.heap[b]? = v.heap[b]? := fun b hbg hbl => by
    rcases hg with ⟨_, hg⟩ | ⟨_, hg⟩
    · exact hg.block b hbl (by simp; omega)
    · exact hg.block b hbl (by simp)
  have hel : ∀ i, i < n + 1 → ElOk (put M g' T (n + 1)) N' T (fun j => cur1[i * szT T + j]?) := fun i hi => by
    have hrow : ∀ k, k < (n + 1) * szT T → cur1[k]? = (xs ++ news)[k]? := fun k hk => by
      rw [← ht1, List.getElem?_take, if_pos hk]; simp
    have hxl := hx.1
    by_cases e : i = n
    · subst e
      refine he.congr hT fun j hj => ?_
      rw [hrow _ (by rw [Nat.add_mul]; omega), List.getElem?_append_right (by omega), hxl, Nat.add_sub_cancel_left]
    · have hin : i < n := by omega
      have hmul := Nat.mul_le_mul_right (szT T) (show i + 1 ≤ n by omega)
      rw [Nat.add_mul] at hmul
      rcases h with ⟨_, h0⟩ | ⟨g, cap, cur, rfl, hg0, hM0, hc, hn0, hm0, hs0⟩
      · omega
      obtain ⟨_, cur2, hc2, h3⟩ := th g T n hM0
      rw [hc] at hc2
      cases hc2
      refine ((h3 i hin).ext (put_ext hM) hN).congr hT fun j hj => ?_
      have hlt : i * szT T + j < n * szT T := by omega
      rw [hrow _ (by rw [Nat.add_mul]; omega), List.getElem?_append_left (by omega)]
      rcases hx.2 with ⟨hbad, _⟩ | ⟨g3, cap3, cur3, hv3, _, hc3, _, _, _, ht3⟩
      · cases hbad
      · cases hv3
        rw [hc] at hc3
        cases hc3
        rw [← ht3, List.getElem?_take, if_pos hlt]
        simp
  refine ⟨th.put hN hb1 hM hc1 (fun b hbg hp => hother b hbg (th.lt hp).2) hel, .inr ⟨g', cap', cur1, rfl, hb1, by simp [put], hc1, hn1, hm1, hs1⟩, put_ext hM, fun b hbl hbn => ?_, fun b hbg hp => hother b hbg (th.lt hp).2⟩
  have hbg : b ≠ g' := fun e => by
    subst e
    rcases hM with hM | ⟨m0, _, hM⟩
    · rcases hg with ⟨hl, _⟩ | ⟨hl, _⟩
      · rcases h with ⟨rfl, _⟩ | ⟨g, cap, cur, rfl, hg0, hM0, _⟩
        · simp [Value.ownBlock] at hl
        · simp [Value.ownBlock] at hl
          subst hl
          rw [hM0] at hbn; cases hbn
      · omega
    · rw [hM] at hbn; cases hbn
  exact ⟨hother b hbg hbl, by simp [put, hbg, hbn]⟩
/-- What an append of one element leaves, whole. -/
structure Pushed (base : Nat) (M M' : Tmap) (N' : Nat) (T : TypeId) (n : Nat) (v w' : World) (s' : Value) : Prop where
  th : TH base M' N' w'
  row : RowT base M' T s' (n + 1) w'
  ext : Ext M M'
  out : ∀ b, b < v.heap.size → M b = none → w'.heap[b]? = v.heap[b]? ∧ M' b = none
  other : ∀ b T' m', M b = some (T', m') → T' ≠ T → w'.heap[b]? = v.heap[b]? ∧ M' b = some (T', m')
  os : w'.os = v.os
  tape : w'.tape = v.tape
  output : w'.output = v.output
  size : v.heap.size ≤ w'.heap.size
theorem RowT.pushed {base n N N' g' cap' : Nat} {M : Tmap} {T : TypeId} {s : Value} {v w' : World} {xs news : List Value} (h : RowT base M T s n v) (th : TH base M N v) (hN : N ≤ N') (hT : T = 2 ∨ T = 46 ∨ T = 88 ∨ T = 91 ∨ T = 86)
    (hx : v.ownsRow base T (szT T) s n xs) (hb : base ≤ v.heap.size) (ho : w'.ownsRow base T (szT T) (.slice (some ⟨g', 0, none⟩) (n + 1) cap') (n + 1) (xs ++ news)) (hg : (s.ownBlock = some g' ∧ v.grownBy w' (some g')) ∨ (v.heap.size ≤ g' ∧ v.grownBy w' none))
    (hl : news.length = szT T) (he : ∀ M', Ext M M' → ElOk M' N' T (fun j => news[j]?)) : Pushed base M (put M g' T (n + 1)) N' T n v w' (.slice (some ⟨g', 0, none⟩) (n + 1) cap') := by
  have hM : M g' = none ∨ ∃ m0, m0 ≤ n + 1 ∧ M g' = some (T, m0) := by
    rcases hg with ⟨hl, _⟩ | ⟨hl, _⟩
    · rcases h with ⟨rfl, _⟩ | ⟨g, cap, cur, rfl, hg0, hM, _⟩
      · simp [Value.ownBlock] at hl
      · simp [Value.ownBlock] at hl
        subst hl
        exact .inr ⟨n, by omega, hM⟩
    · exact .inl (th.none hl)
  obtain ⟨h1, h2, h3, h4, h5⟩ := h.push th hN hT hx hb ho hg hl (he _ (put_ext hM))
  have hne : ∀ b T' m', M b = some (T', m') → T' ≠ T → b ≠ g' := fun b T' m' hb hT e => by
    subst e
    rcases hM with hM | ⟨m0, _, hM⟩
    · rw [hM] at hb; cases hb
    · rw [hM] at hb
      cases hb
      exact hT rfl
  refine ⟨h1, h2, h3, h4, fun b T' m' hb hT => ⟨h5 b (hne b T' m' hb hT) ⟨_, hb⟩, by unfold put; rw [if_neg (hne b T' m' hb hT)]; exact hb⟩, ?_, ?_, ?_, ?_⟩
  all_goals rcases hg with ⟨_, hg⟩ | ⟨_, hg⟩
  · exact hg.os
  · exact hg.os
  · exact hg.tape
  · exact hg.tape
  · exact hg.output
  · exact hg.output
  · exact hg.size
  · exact hg.size
theorem Pushed.row2 {base N' n n2 : Nat} {M M' : Tmap} {T T2 : TypeId} {v w' : World} {s' s2 : Value} (h : Pushed base M M' N' T n v w' s') (k : RowT base M T2 s2 n2 v) (hT : T2 ≠ T) : RowT base M' T2 s2 n2 w' := by
  rcases k with k | ⟨g, cap, cur, hv, hg, hM, hc, hn, hm, hs⟩
  · exact .inl k
  · obtain ⟨e1, e2⟩ := h.other g T2 n2 hM hT
    exact .inr ⟨g, cap, cur, hv, hg, e2, e1.trans hc, hn, hm, hs⟩
/-- The law: one element appended to a row. -/
theorem run_row {base n N N' : Nat} {M : Tmap} {T t ty : TypeId} {s : Value} {v : World} (i : TypeInfo) (z : Value) (bytes : Nat) (ht : Tryz.prog.underlying t = some (.slice T)) (hi : Tryz.prog.info? T = some i) (hz : i.zero = some z) (hsz : i.size = szT T) (hby : i.bytes = bytes) (hzs : z.cells.size = szT T) (hbm : bytes ≤ 1000)
    (h : RowT base M T s n v) (th : TH base M N v) (hN : N ≤ N') (hT : T = 2 ∨ T = 46 ∨ T = 88 ∨ T = 91 ∨ T = 86) (hb : base ≤ v.heap.size) (hn : n ≤ 100000)
    (ad : Addr) (c : Nat) (news : List Value) (hl : news.length = szT T) (hnews : ∀ j u, news[j]? = some u → v.cell? (ad.add j) = some u) (h1 : ∀ u ∈ news, u.oneCell' = true) (he : ∀ M', Ext M M' → ElOk M' N' T (fun j => news[j]?)) :
    ∃ s' w' M', (Builtin.append_ #[t, t] ty #[s, .slice (some ad) 1 c]).run Tryz.prog v = .ok s' w' ∧ Pushed base M M' N' T n v w' s' := by
  have hmul : (n + 1) * bytes ≤ 140737488355328 := Nat.le_trans (Nat.mul_le_mul (show n + 1 ≤ 100001 by omega) hbm) (by decide)
  obtain ⟨xs, hx⟩ := h.own
  rcases h with ⟨rfl, rfl⟩ | ⟨g, cap, cur, rfl, hg, hM, hc, hnc, hm, hs⟩
  · have hx0 : xs = [] := by have := hx.1; simpa using this
    subst hx0
    obtain ⟨v', w', hr, h2, h3, _, _⟩ := run_append_own_at (P := Tryz.prog) v v.heap.size t ty T i z (szT T) bytes ht hi hz hsz hby hzs (szT_pos T) (.slice none 0 0) 0 [] ⟨by simp, .inl ⟨rfl, rfl⟩⟩ ad 1 c news (by omega) hnews h1 (by unfold maxLen; omega) (by simpa using hmul) (Nat.le_refl _)
    obtain ⟨g', cap', rfl, hg', _⟩ := h2.form (by omega)
    refine ⟨_, w', _, hr, RowT.pushed (xs := []) (news := news) (.inl ⟨rfl, rfl⟩) th hN hT hx hb ?_ (.inr ⟨hg', h3⟩) hl he⟩
    exact own_low (by simpa using h2) hb
  · by_cases hroom : n + 1 ≤ cap
    · obtain ⟨w', hr, h2, h3⟩ := run_append_own_spare (P := Tryz.prog) v base t ty T i (szT T) ht hi hsz g n cap xs hx ad 1 c news (by omega) hnews h1 hroom
      exact ⟨_, w', _, hr, RowT.pushed (.inr ⟨g, cap, cur, rfl, hg, hM, hc, hnc, hm, hs⟩) th hN hT hx hb h2 (.inl ⟨rfl, h3⟩) hl he⟩
    · have hxl := hx.1
      obtain ⟨v', w', hr, h2, h3⟩ := run_append_arg_grows (P := Tryz.prog) v t ty T i z (szT T) bytes ht hi hz hsz hby hzs (szT_pos T) ⟨g, 0, none⟩ n cap xs hxl (hx.cells rfl) ad 1 c news (by omega) hnews (by omega) (by unfold maxLen; omega) hmul
      obtain ⟨g', cap', rfl, hg', _⟩ := h2.form (by omega)
      exact ⟨_, w', _, hr, RowT.pushed (.inr ⟨g, cap, cur, rfl, hg, hM, hc, hnc, hm, hs⟩) th hN hT hx hb (own_low h2 hb) (.inr ⟨hg', h3⟩) hl he⟩
end Go.Proofs.YtojhakjkfkmklaaGreatDoor
