/- A number read out of a text: the program's way. -/
import Derived.Test.YtpmanjkaiknlhaaDoorRvr
namespace Go.Proofs.YtpmanjkaiknlhaaDoor
open Go.RowKit

set_option linter.unusedSimpArgs false in
set_option maxHeartbeats 4000000 in
theorem readI (s : ByteArray) (a : Int) (hs : s.size ≤ 1048576) (w : World) :
    Calls Tryd.prog 48 #[.string s, .int .i64 a] w fun e w' => e = .returned (.tuple #[.int .i64 (rdAt s a).1, .int .i64 (rdAt s a).2]) ∧ w' = w := by
  by_cases hin : 0 ≤ a ∧ a < s.size
  · obtain ⟨p, rfl⟩ : ∃ p : Nat, a = p := ⟨a.toNat, by omega⟩
    have hp : p < s.size := by omega
    have HR : Hid (rdAt s p = rdl 0 0 (s.data.toList.drop p)) := by show _ = _; unfold rdAt; rw [if_pos hin]; rfl
    have hd : decide (0 ≤ (p : Int) ∧ (p : Int) < (s.size : Int)) = true := by simp; omega
    clear hin
    by_cases h5p : (s.size : Int) - (p : Int) < 5
    · go_enter Tryd.func48, Tryd.ntmps48
      go_wp2_with (go_at_call 50; refine (blwI _ _ _).mono ?_; rintro e w1 ⟨rfl, rfl⟩)
      go_loop [6, 19] (fun n i => ∃ k m : Nat, k ≤ 5 ∧ p + k ≤ s.size ∧ m < 128 ^ k ∧ i = .int .i64 k ∧ n = .int .i64 m ∧ Hid (rdAt s p = rdl k m (s.data.toList.drop (p + k)))) (fun _ i => 5 - (numOf i).toNat)
      case atStart => exact ⟨0, 0, by omega, by omega, by omega, rfl, rfl, HR⟩
      case round =>
        obtain ⟨k, m, hk, hpk, hm, rfl, rfl, HK⟩ := hrel
        clear HR
        by_cases h5 : k = 5
        · subst h5
          rw [rdl_five] at HK
          first | omega | (go_wp2_with fail; go_ret2; refine ⟨ret2_eq ?_ ?_, rfl⟩ <;> rw [HK.out] <;> rfl)
        by_cases hsz : p + k < s.size
        · rw [drop_cons hsz, rdl_cons (by omega)] at HK
          obtain ⟨b, hb, hbb⟩ : ∃ b : Nat, b < 256 ∧ (s[p + k]'hsz).toNat = b := ⟨_, (s[p + k]'hsz).toNat_lt, rfl⟩
          rw [hbb] at HK
          obtain ⟨x, HX⟩ : ∃ x : Int, Hid (x = b) := ⟨_, rfl⟩
          have hx0 : 0 ≤ x := by rw [HX.out]; omega
          have hx1 : x < 256 := by rw [HX.out]; omega
          have hc : k = 0 ∨ k = 1 ∨ k = 2 ∨ k = 3 ∨ k = 4 := by omega
          rcases hc with rfl | rfl | rfl | rfl | rfl
          · have e0 : wrap64 (((s[p]'(by omega)).toNat : Nat) : Int) = x := by rw [show (s[p]'(by omega)).toNat = b from hbb, HX.out]; exact byte_wrap hb
            clear hbb hb
            simp only [Nat.reducePow, Nat.one_mul, Nat.reduceAdd, Nat.add_assoc, Nat.add_zero, Nat.zero_add] at HK hm
            go_wp2_with fail
            all_goals have hxx := HX.out
            all_goals try simp only [beq_iff_eq] at *
            all_goals first | (go_ret2; refine ⟨ret2_eq ?_ ?_, rfl⟩ <;> rw [HK.out] <;> (repeat' split) <;> omega) | (have HK2 := HK.out; rw [if_pos (by omega)] at HK2; refine ⟨⟨1, m + b % 128, by omega, by omega, by omega, rfl, ?_, ?_⟩, by decide⟩; (refine congrArg (Value.int .i64) ?_; omega); (first | exact HK2 | simpa using HK2)) | trace_state
          · have e0 : wrap64 (((s[p + 1]'(by omega)).toNat : Nat) : Int) = x := by rw [show (s[p + 1]'(by omega)).toNat = b from hbb, HX.out]; exact byte_wrap hb
            clear hbb hb
            simp only [Nat.reducePow, Nat.one_mul, Nat.reduceAdd, Nat.add_assoc, Nat.add_zero, Nat.zero_add] at HK hm
            go_wp2_with fail
            all_goals have hxx := HX.out
            all_goals try simp only [beq_iff_eq] at *
            all_goals first | (go_ret2; refine ⟨ret2_eq ?_ ?_, rfl⟩ <;> rw [HK.out] <;> (repeat' split) <;> omega) | (have HK2 := HK.out; rw [if_pos (by omega)] at HK2; refine ⟨⟨2, m + 128 * (b % 128), by omega, by omega, by omega, rfl, ?_, ?_⟩, by decide⟩; (refine congrArg (Value.int .i64) ?_; omega); (first | exact HK2 | simpa using HK2)) | trace_state
          · have e0 : wrap64 (((s[p + 2]'(by omega)).toNat : Nat) : Int) = x := by rw [show (s[p + 2]'(by omega)).toNat = b from hbb, HX.out]; exact byte_wrap hb
            clear hbb hb
            simp only [Nat.reducePow, Nat.one_mul, Nat.reduceAdd, Nat.add_assoc, Nat.add_zero, Nat.zero_add] at HK hm
            go_wp2_with fail
            all_goals have hxx := HX.out
            all_goals try simp only [beq_iff_eq] at *
            all_goals first | (go_ret2; refine ⟨ret2_eq ?_ ?_, rfl⟩ <;> rw [HK.out] <;> (repeat' split) <;> omega) | (have HK2 := HK.out; rw [if_pos (by omega)] at HK2; refine ⟨⟨3, m + 16384 * (b % 128), by omega, by omega, by omega, rfl, ?_, ?_⟩, by decide⟩; (refine congrArg (Value.int .i64) ?_; omega); (first | exact HK2 | simpa using HK2)) | trace_state
          · have e0 : wrap64 (((s[p + 3]'(by omega)).toNat : Nat) : Int) = x := by rw [show (s[p + 3]'(by omega)).toNat = b from hbb, HX.out]; exact byte_wrap hb
            clear hbb hb
            simp only [Nat.reducePow, Nat.one_mul, Nat.reduceAdd, Nat.add_assoc, Nat.add_zero, Nat.zero_add] at HK hm
            go_wp2_with fail
            all_goals have hxx := HX.out
            all_goals try simp only [beq_iff_eq] at *
            all_goals first | (go_ret2; refine ⟨ret2_eq ?_ ?_, rfl⟩ <;> rw [HK.out] <;> (repeat' split) <;> omega) | (have HK2 := HK.out; rw [if_pos (by omega)] at HK2; refine ⟨⟨4, m + 2097152 * (b % 128), by omega, by omega, by omega, rfl, ?_, ?_⟩, by decide⟩; (refine congrArg (Value.int .i64) ?_; omega); (first | exact HK2 | simpa using HK2)) | trace_state
          · have e0 : wrap64 (((s[p + 4]'(by omega)).toNat : Nat) : Int) = x := by rw [show (s[p + 4]'(by omega)).toNat = b from hbb, HX.out]; exact byte_wrap hb
            clear hbb hb
            simp only [Nat.reducePow, Nat.one_mul, Nat.reduceAdd, Nat.add_assoc, Nat.add_zero, Nat.zero_add] at HK hm
            go_wp2_with fail
            all_goals have hxx := HX.out
            all_goals try simp only [beq_iff_eq] at *
            all_goals first | (go_ret2; refine ⟨ret2_eq ?_ ?_, rfl⟩ <;> rw [HK.out] <;> (repeat' split) <;> omega) | (have HK2 := HK.out; rw [if_pos (by omega)] at HK2; refine ⟨⟨5, m + 268435456 * (b % 128), by omega, by omega, by omega, rfl, ?_, ?_⟩, by decide⟩; (refine congrArg (Value.int .i64) ?_; omega); (first | exact HK2 | simpa using HK2)) | trace_state
        · rw [drop_nil (by omega)] at HK
          first | omega | (go_wp2_with fail; go_ret2; refine ⟨ret2_eq ?_ ?_, rfl⟩ <;> rw [HK.out] <;> rfl)
    · go_enter Tryd.func48, Tryd.ntmps48
      go_wp2_with (go_at_call 50; refine (blwI _ _ _).mono ?_; rintro e w1 ⟨rfl, rfl⟩)
      go_loop [6, 19] (fun n i => ∃ k m : Nat, k ≤ 5 ∧ p + k ≤ s.size ∧ m < 128 ^ k ∧ i = .int .i64 k ∧ n = .int .i64 m ∧ Hid (rdAt s p = rdl k m (s.data.toList.drop (p + k)))) (fun _ i => 5 - (numOf i).toNat)
      case atStart => exact ⟨0, 0, by omega, by omega, by omega, rfl, rfl, HR⟩
      case round =>
        obtain ⟨k, m, hk, hpk, hm, rfl, rfl, HK⟩ := hrel
        clear HR
        by_cases h5 : k = 5
        · subst h5
          rw [rdl_five] at HK
          first | omega | (go_wp2_with fail; go_ret2; refine ⟨ret2_eq ?_ ?_, rfl⟩ <;> rw [HK.out] <;> rfl)
        by_cases hsz : p + k < s.size
        · rw [drop_cons hsz, rdl_cons (by omega)] at HK
          obtain ⟨b, hb, hbb⟩ : ∃ b : Nat, b < 256 ∧ (s[p + k]'hsz).toNat = b := ⟨_, (s[p + k]'hsz).toNat_lt, rfl⟩
          rw [hbb] at HK
          obtain ⟨x, HX⟩ : ∃ x : Int, Hid (x = b) := ⟨_, rfl⟩
          have hx0 : 0 ≤ x := by rw [HX.out]; omega
          have hx1 : x < 256 := by rw [HX.out]; omega
          have hc : k = 0 ∨ k = 1 ∨ k = 2 ∨ k = 3 ∨ k = 4 := by omega
          rcases hc with rfl | rfl | rfl | rfl | rfl
          · have e0 : wrap64 (((s[p]'(by omega)).toNat : Nat) : Int) = x := by rw [show (s[p]'(by omega)).toNat = b from hbb, HX.out]; exact byte_wrap hb
            clear hbb hb
            simp only [Nat.reducePow, Nat.one_mul, Nat.reduceAdd, Nat.add_assoc, Nat.add_zero, Nat.zero_add] at HK hm
            go_wp2_with fail
            all_goals have hxx := HX.out
            all_goals try simp only [beq_iff_eq] at *
            all_goals first | (go_ret2; refine ⟨ret2_eq ?_ ?_, rfl⟩ <;> rw [HK.out] <;> (repeat' split) <;> omega) | (have HK2 := HK.out; rw [if_pos (by omega)] at HK2; refine ⟨⟨1, m + b % 128, by omega, by omega, by omega, rfl, ?_, ?_⟩, by decide⟩; (refine congrArg (Value.int .i64) ?_; omega); (first | exact HK2 | simpa using HK2)) | trace_state
          · have e0 : wrap64 (((s[p + 1]'(by omega)).toNat : Nat) : Int) = x := by rw [show (s[p + 1]'(by omega)).toNat = b from hbb, HX.out]; exact byte_wrap hb
            clear hbb hb
            simp only [Nat.reducePow, Nat.one_mul, Nat.reduceAdd, Nat.add_assoc, Nat.add_zero, Nat.zero_add] at HK hm
            go_wp2_with fail
            all_goals have hxx := HX.out
            all_goals try simp only [beq_iff_eq] at *
            all_goals first | (go_ret2; refine ⟨ret2_eq ?_ ?_, rfl⟩ <;> rw [HK.out] <;> (repeat' split) <;> omega) | (have HK2 := HK.out; rw [if_pos (by omega)] at HK2; refine ⟨⟨2, m + 128 * (b % 128), by omega, by omega, by omega, rfl, ?_, ?_⟩, by decide⟩; (refine congrArg (Value.int .i64) ?_; omega); (first | exact HK2 | simpa using HK2)) | trace_state
          · have e0 : wrap64 (((s[p + 2]'(by omega)).toNat : Nat) : Int) = x := by rw [show (s[p + 2]'(by omega)).toNat = b from hbb, HX.out]; exact byte_wrap hb
            clear hbb hb
            simp only [Nat.reducePow, Nat.one_mul, Nat.reduceAdd, Nat.add_assoc, Nat.add_zero, Nat.zero_add] at HK hm
            go_wp2_with fail
            all_goals have hxx := HX.out
            all_goals try simp only [beq_iff_eq] at *
            all_goals first | (go_ret2; refine ⟨ret2_eq ?_ ?_, rfl⟩ <;> rw [HK.out] <;> (repeat' split) <;> omega) | (have HK2 := HK.out; rw [if_pos (by omega)] at HK2; refine ⟨⟨3, m + 16384 * (b % 128), by omega, by omega, by omega, rfl, ?_, ?_⟩, by decide⟩; (refine congrArg (Value.int .i64) ?_; omega); (first | exact HK2 | simpa using HK2)) | trace_state
          · have e0 : wrap64 (((s[p + 3]'(by omega)).toNat : Nat) : Int) = x := by rw [show (s[p + 3]'(by omega)).toNat = b from hbb, HX.out]; exact byte_wrap hb
            clear hbb hb
            simp only [Nat.reducePow, Nat.one_mul, Nat.reduceAdd, Nat.add_assoc, Nat.add_zero, Nat.zero_add] at HK hm
            go_wp2_with fail
            all_goals have hxx := HX.out
            all_goals try simp only [beq_iff_eq] at *
            all_goals first | (go_ret2; refine ⟨ret2_eq ?_ ?_, rfl⟩ <;> rw [HK.out] <;> (repeat' split) <;> omega) | (have HK2 := HK.out; rw [if_pos (by omega)] at HK2; refine ⟨⟨4, m + 2097152 * (b % 128), by omega, by omega, by omega, rfl, ?_, ?_⟩, by decide⟩; (refine congrArg (Value.int .i64) ?_; omega); (first | exact HK2 | simpa using HK2)) | trace_state
          · have e0 : wrap64 (((s[p + 4]'(by omega)).toNat : Nat) : Int) = x := by rw [show (s[p + 4]'(by omega)).toNat = b from hbb, HX.out]; exact byte_wrap hb
            clear hbb hb
            simp only [Nat.reducePow, Nat.one_mul, Nat.reduceAdd, Nat.add_assoc, Nat.add_zero, Nat.zero_add] at HK hm
            go_wp2_with fail
            all_goals have hxx := HX.out
            all_goals try simp only [beq_iff_eq] at *
            all_goals first | (go_ret2; refine ⟨ret2_eq ?_ ?_, rfl⟩ <;> rw [HK.out] <;> (repeat' split) <;> omega) | (have HK2 := HK.out; rw [if_pos (by omega)] at HK2; refine ⟨⟨5, m + 268435456 * (b % 128), by omega, by omega, by omega, rfl, ?_, ?_⟩, by decide⟩; (refine congrArg (Value.int .i64) ?_; omega); (first | exact HK2 | simpa using HK2)) | trace_state
        · rw [drop_nil (by omega)] at HK
          first | omega | (go_wp2_with fail; go_ret2; refine ⟨ret2_eq ?_ ?_, rfl⟩ <;> rw [HK.out] <;> rfl)
  · have HR : Hid (rdAt s a = (0, 0)) := by show _ = _; unfold rdAt; rw [if_neg hin]
    have hd : decide (0 ≤ a ∧ a < (s.size : Int)) = false := by simpa using hin
    clear hin
    go_enter Tryd.func48, Tryd.ntmps48
    go_wp2_with (go_at_call 50; refine (blwI _ _ _).mono ?_; rintro e w1 ⟨rfl, rfl⟩)
    all_goals first | (go_ret2; refine ⟨ret2_eq ?_ ?_, rfl⟩ <;> rw [HR.out] <;> rfl) | trace_state
end Go.Proofs.YtpmanjkaiknlhaaDoor
