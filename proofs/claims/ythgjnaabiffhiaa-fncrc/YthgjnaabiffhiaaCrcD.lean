/- The core of the law FnCrc. -/
import Derived.Test.YthgjnaabiffhiaaDrC
import Derived.Test.YthgjnaabiffhiaaCrc
import Derived.Test.YthgjnaabiffhiaaAbv
import Derived.Deep.RegionWith
import Derived.BigRegion
namespace Go.Proofs.Ythgjnaabiffhiaa
open Go.RowKit

theorem str_split (s : ByteArray) (i : Nat) (b : UInt8) : (s.extract 0 i ++ ⟨#[b]⟩ ++ s.extract (i + 1) s.size).data.toList = s.data.toList.take i ++ b :: s.data.toList.drop (i + 1) := by
  simp [ByteArray.data_append, ByteArray.data_extract, Array.toList_extract, List.extract]
  rw [List.take_of_length_le (by simp)]
theorem str_self {s : ByteArray} {i : Nat} (hi : i < s.size) : s.data.toList = s.data.toList.take i ++ (s[i]'hi) :: s.data.toList.drop (i + 1) := by
  have h : i < s.data.toList.length := by simpa using hi
  rw [show (s[i]'hi) = s.data.toList[i]'h from rfl, ← List.drop_eq_getElem_cons h, List.take_append_drop]
theorem crc_other {s : ByteArray} {i : Nat} (hi : i < s.size) {b : UInt8} (hb : b ≠ s[i]'hi) : crcOf (s.extract 0 i ++ ⟨#[b]⟩ ++ s.extract (i + 1) s.size).data.toList ≠ crcOf s.data.toList := by
  have e := str_self hi
  have h := crc_turn (s.data.toList.take i) (s.data.toList.drop (i + 1)) hb
  rw [str_split]
  rw [← e] at h
  exact h
theorem crcI9 (v : World) : Calls Try.prog 16 #[.string ⟨#[49, 50, 51, 52, 53, 54, 55, 56, 57]⟩] v fun e w' => e = .returned (.int .i64 3421780262) ∧ w' = v := by
  have h := crcI ⟨#[49, 50, 51, 52, 53, 54, 55, 56, 57]⟩ (by decide) v
  rw [show (⟨#[49, 50, 51, 52, 53, 54, 55, 56, 57]⟩ : ByteArray).data.toList = [49, 50, 51, 52, 53, 54, 55, 56, 57] from rfl, crc_known] at h
  exact h
theorem pow_small {k : Nat} (h : k < 8) : 2 ^ k < 256 := by
  have h1 : 2 ^ k ≤ 2 ^ 7 := Nat.pow_le_pow_right (by omega) (by omega)
  omega
theorem xor_bit {x m : Nat} (hm : 0 < m) : x ^^^ m ≠ x := by
  intro h
  have := xor_cancel (a := m) (b := 0) (p := x) (by rw [Nat.xor_comm, h]; simp)
  omega

set_option maxRecDepth 100000 in
set_option maxHeartbeats 4000000 in
theorem fnCrc_core (a0 : Option Addr) (len cap : Nat) (w : World) (hc : Code a0 len w.heap.size w) :
    Calls Try.prog 4 #[.slice a0 len cap] w fun e w' => e = .returned (.bool true) ∧ Below w.heap.size w w' := by
  by_cases hb : 1048576 < len
  · have d : decide (1048576 < len) = true := by simpa using hb
    go_enter Try.func4, Try.ntmps4
    go_wp2_with (go_at_call 8; refine (big_any _ _ _ _).mono ?_; rintro e w' ⟨rfl, rfl⟩)
    go_ret
    exact ⟨rfl, Below.refl _ _⟩
  · have d : decide (1048576 < len) = false := by simpa using hb
    have hl : len ≤ 1048576 := by omega
    go_enter Try.func4, Try.ntmps4
    go_wp2_with (first | (go_at_call 8; refine (big_any _ _ _ _).mono ?_; rintro e w' ⟨rfl, rfl⟩) | (go_at_call 15; refine (drawCrc _ _ _ _ hl hc).mono ?_; rintro e w1 ⟨s, rfl, hs, hb1⟩; have HB1 : Hid _ := hb1; obtain ⟨c0, HC⟩ : ∃ c0 : Int, Hid (((crcOf s.data.toList : Nat) : Int) = c0) := ⟨_, rfl⟩; clear hb1) | (go_at_call 17; refine (crcS s (by omega) _).mono ?_; rw [HC.out]; rintro e w2 ⟨rfl, rfl⟩) | (go_at_call 16; go_at_call_of 16 s; refine (crcI s (by omega) _).mono ?_; rw [HC.out]; rintro e w2 ⟨rfl, rfl⟩) | (go_at_call 16; refine (crcI9 _).mono ?_; rintro e w3 ⟨rfl, rfl⟩))
    go_loopw [5] (fun i wr => ∃ k : Nat, k ≤ s.size ∧ i = .int .i64 k ∧ Hid (Below w'.heap.size w' wr)) (fun i _ => s.size - (numOf i).toNat)
    case atStart => exact ⟨0, by omega, rfl, HB1.out⟩
    case round =>
      obtain ⟨i, hi, rfl, HB⟩ := hrel
      by_cases hlt : i < s.size
      · obtain ⟨x, HX⟩ : ∃ x : Int, Hid ((((s[i]'hlt).toNat : Nat) : Int) = x) := ⟨_, rfl⟩
        go_wp2_with fail
        go_loopw [6] (fun q wq => ∃ k : Nat, k ≤ 8 ∧ q = .int .i64 k ∧ Hid (Below w'.heap.size w' wq)) (fun q _ => 8 - (numOf q).toNat)
        case atStart => exact ⟨0, by omega, rfl, HB.out⟩
        case round =>
          obtain ⟨k, hk, rfl, HQ⟩ := hrel
          by_cases hk8 : k < 8
          · have hx0 : 0 ≤ x := by have := HX.out; omega
            have hx1 : x < 256 := by have := HX.out; have := (s[i]'hlt).toNat_lt; omega
            have hi1 : (i : Int) < (s.size : Int) := by omega
            have e0 : (((s[i]'hlt).toNat : Nat) : Int) = x := HX.out
            have e1 : IntKind.i64.wrap ((i : Int) + 1) = (i : Int) + 1 := by rw [IntKind.wrap_i64]; omega
            obtain ⟨m, HM⟩ : ∃ m : Nat, Hid (m = 2 ^ k ∧ 0 < m ∧ m < 256) := ⟨2 ^ k, rfl, Nat.pos_of_ne_zero (by simp), pow_small hk8⟩
            obtain ⟨z, HZ⟩ : ∃ z : Int, Hid (z = m) := ⟨_, rfl⟩
            have e2 : IntKind.u8.wrap (2 ^ min (IntKind.u64.wrap (k : Int)).toNat 8) = z := by
              rw [HZ.out, IntKind.wrap_u64, IntKind.wrap_u8', show (((k : Nat) : Int) % 18446744073709551616).toNat = k by omega, Nat.min_eq_left (by omega)]
              have h1 := HM.out
              rw [show ((2 : Int) ^ k) = ((2 ^ k : Nat) : Int) by simp, ← h1.1]
              omega
            obtain ⟨y, hy⟩ : ∃ y : Int, bits .xor .u8 x z = y := ⟨_, rfl⟩
            have hcv : ∀ (v : World), (convert 22 9 (.slice (some ⟨v.heap.size, 0, none⟩) 1 1)).run Try.prog (v.alloc (.cells #[.int .u8 y] 5)).drew = .ok (.string ⟨#[UInt8.ofNat y.toNat]⟩) (v.alloc (.cells #[.int .u8 y] 5)).drew := fun v => conv_one v.drew y
            have hs1 : ∀ v : World, (Instr.slice 9 (.string s) none (some (.int .i64 (i : Int))) none).run Try.prog v = .ok (.string (s.extract 0 i)) v := fun v => by
              rw [run_slice_string_to_if (h := Try.underlying9), if_pos (by omega)]; rfl
            have hs2 : ∀ v : World, (Instr.slice 9 (.string s) (some (.int .i64 ((i : Int) + 1))) none none).run Try.prog v = .ok (.string (s.extract (i + 1) s.size)) v := fun v => by
              rw [run_slice_string_from_if (h := Try.underlying9), if_pos (by omega)]; rfl
            have hix : ∀ v : World, (Instr.index 9 (.string s) (.int .i64 (i : Int))).run Try.prog v = .ok (.int .u8 x) v := fun v => by
              rw [run_index_string (h := Try.underlying9), dif_pos (by omega)]; exact congrArg (fun q => Result.ok (Value.int .u8 q) v) e0
            obtain ⟨t1, HT1⟩ : ∃ t1 : ByteArray, Hid (s.extract 0 i ++ ⟨#[UInt8.ofNat y.toNat]⟩ = t1) := ⟨_, rfl⟩
            obtain ⟨t2, HT2⟩ : ∃ t2 : ByteArray, Hid (t1 ++ s.extract (i + 1) s.size = t2) := ⟨_, rfl⟩
            have z1 : t1.size ≤ 15 := by rw [← HT1.out, ByteArray.size_append', show (ByteArray.mk #[UInt8.ofNat y.toNat]).size = 1 from rfl, ByteArray.size_extract]; omega
            have z2 : t2.size ≤ 30 := by rw [← HT2.out, ByteArray.size_append', ByteArray.size_extract]; omega
            have ha1 : ∀ v : World, (Op.stringOp .add (s.extract 0 i) ⟨#[UInt8.ofNat y.toNat]⟩).run Try.prog v = .ok (.string t1) v := fun v => by
              rw [run_string_add_sum v _ _ (by rw [ByteArray.size_extract, show (ByteArray.mk #[UInt8.ofNat y.toNat]).size = 1 from rfl]; omega), HT1.out]
            have ha2 : ∀ v : World, (Op.stringOp .add t1 (s.extract (i + 1) s.size)).run Try.prog v = .ok (.string t2) v := fun v => by
              rw [run_string_add_sum v _ _ (by rw [ByteArray.size_extract]; omega), HT2.out]
            obtain ⟨c1, HC1⟩ : ∃ c1 : Int, Hid (((crcOf t2.data.toList : Nat) : Int) = c1) := ⟨_, rfl⟩
            have hne : (c1 == c0) = false := by
              have h1 := HM.out
              have hxx := HX.out
              have e5 : bits .xor .u8 x z = (((s[i]'hlt).toNat ^^^ m : Nat) : Int) := by rw [HZ.out, ← hxx]; exact u8_xor_nat _ _ (s[i]'hlt).toNat_lt h1.2.2
              have hlt8 : (s[i]'hlt).toNat ^^^ m < 256 := Nat.xor_lt_two_pow (n := 8) (s[i]'hlt).toNat_lt h1.2.2
              have hbne : UInt8.ofNat y.toNat ≠ s[i]'hlt := by
                intro he
                have h6 := congrArg UInt8.toNat he
                rw [← hy, e5, show (((s[i]'hlt).toNat ^^^ m : Nat) : Int).toNat = (s[i]'hlt).toNat ^^^ m from rfl, u8_nat hlt8] at h6
                exact xor_bit h1.2.1 h6
              have h7 := crc_other hlt hbne
              rw [HT1.out, HT2.out] at h7
              rw [← HC1.out, ← HC.out]
              simp only [beq_eq_false_iff_ne, ne_eq]
              omega
            go_wp2_with fail
            go_region_with (go_at_call 16; refine (crcI t2 (by omega) _).mono ?_; rw [HC1.out]; rintro e w5 ⟨rfl, rfl⟩)
            go_wp2_with fail
            exact ⟨⟨k + 1, by omega, rfl, drew_below (HQ.out.alloc HQ.out.size _)⟩, by simp only [numOf]; omega⟩
          · go_wp2_with fail
            exact ⟨⟨i + 1, by omega, rfl, HQ.out⟩, by simp only [numOf]; omega⟩
      · go_wp2_with fail
        go_ret
        exact ⟨rfl, HB.out⟩
end Go.Proofs.Ythgjnaabiffhiaa
