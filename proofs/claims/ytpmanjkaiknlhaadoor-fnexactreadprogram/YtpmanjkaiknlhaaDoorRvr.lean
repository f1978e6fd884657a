/- A number read out of a text: the program's and the model's. -/
import Derived.Test.YtpmanjkaiknlhaaDoorRows
import Derived.WalkKit
import Derived.WalkSpells
import Derived.WalkLawsBesides
import Derived.Deep.QuietTactic
import Derived.Below
namespace Go.Proofs.YtpmanjkaiknlhaaDoor
open Go.RowKit

def numOf : Value → Int | .int _ q => q | _ => 0
/-- The number at the head of a list of bytes, behind k bytes that told n; and how many bytes it has. -/
def rdl : Nat → Nat → List UInt8 → Nat × Nat
  | _, _, [] => (0, 0)
  | k, n, b :: r => if 5 ≤ k then (0, 0) else if 128 ≤ b.toNat then rdl (k + 1) (n + 128 ^ k * (b.toNat % 128)) r
      else if 4294967295 < n + 128 ^ k * (b.toNat % 128) ∨ (b.toNat = 0 ∧ 0 < k) then (0, 0) else (n + 128 ^ k * (b.toNat % 128), k + 1)
theorem rdl_five (n : Nat) (l : List UInt8) : rdl 5 n l = (0, 0) := by
  cases l <;> simp [rdl]
/-- At a place. -/
def rdAt (s : ByteArray) (a : Int) : Nat × Nat := if 0 ≤ a ∧ a < s.size then rdl 0 0 (s.data.toList.drop a.toNat) else (0, 0)
theorem drop_cons {s : ByteArray} {k : Nat} (hk : k < s.size) : s.data.toList.drop k = (s[k]'hk) :: s.data.toList.drop (k + 1) :=
  List.drop_eq_getElem_cons (by simpa using hk)
theorem drop_nil {s : ByteArray} {k : Nat} (hk : s.size ≤ k) : s.data.toList.drop k = [] := List.drop_eq_nil_of_le (by simpa using hk)

theorem blwI (n m : Int) (w : World) : Calls Tryd.prog 50 #[.int .i64 n, .int .i64 m] w fun e w' => e = .returned (.bool (decide (0 ≤ n ∧ n < m))) ∧ w' = w := by
  go_enter Tryd.func50, Tryd.ntmps50
  go_wp2_with fail
  all_goals go_ret
  all_goals exact ⟨congrArg (fun b => Ending.returned (.bool b)) (by rw [Bool.eq_iff_iff]; simp; omega), rfl⟩

theorem ret2_eq {x y : Int} {q : Nat × Nat} (h1 : x = (q.1 : Int)) (h2 : y = (q.2 : Int)) : Ending.returned (.tuple #[.int .i64 x, .int .i64 y]) = Ending.returned (.tuple #[.int .i64 (q.1 : Int), .int .i64 (q.2 : Int)]) := by rw [h1, h2]
theorem rdl_cons {k n : Nat} (hk : k < 5) (b : UInt8) (r : List UInt8) : rdl k n (b :: r) = if 128 ≤ b.toNat then rdl (k + 1) (n + 128 ^ k * (b.toNat % 128)) r
      else if 4294967295 < n + 128 ^ k * (b.toNat % 128) ∨ (b.toNat = 0 ∧ 0 < k) then (0, 0) else (n + 128 ^ k * (b.toNat % 128), k + 1) := by
  rw [rdl, if_neg (by omega)]
theorem byte_mod (b : Nat) : ((b : Nat) : Int).tmod 128 = ((b % 128 : Nat) : Int) := by
  rw [Int.tmod_eq_emod_of_nonneg (by omega)]; rfl
theorem byte_wrap {b : Nat} (h : b < 256) : wrap64 (b : Int) = b := by unfold wrap64; omega

set_option linter.unusedSimpArgs false in
set_option maxHeartbeats 4000000 in
theorem readS (s : ByteArray) (a : Int) (hs : s.size ≤ 1048576) (w : World) :
    Calls Tryd.prog 22 #[.string s, .int .i64 a] w fun e w' => e = .returned (.tuple #[.int .i64 (rdAt s a).1, .int .i64 (rdAt s a).2]) ∧ w' = w := by
  by_cases hin : 0 ≤ a ∧ a < s.size
  · obtain ⟨p, rfl⟩ : ∃ p : Nat, a = p := ⟨a.toNat, by omega⟩
    have hp : p < s.size := by omega
    have HR : Hid (rdAt s p = rdl 0 0 (s.data.toList.drop p)) := by show _ = _; unfold rdAt; rw [if_pos hin]; rfl
    have h0 : ¬ ((p : Int) < 0) := by omega
    clear hin
    go_enter Tryd.func22, Tryd.ntmps22
    go_wp2_with fail
    go_loop [6, 7, 8] (fun n st i => ∃ k m : Nat, k ≤ 5 ∧ p + k ≤ s.size ∧ m < 128 ^ k ∧ i = .int .i64 k ∧ n = .int .i64 m ∧ st = .int .i64 ((128 ^ k : Nat) : Int) ∧ Hid (rdAt s p = rdl k m (s.data.toList.drop (p + k)))) (fun _ _ i => 5 - (numOf i).toNat)
    case atStart => exact ⟨0, 0, by omega, by omega, by omega, rfl, rfl, rfl, HR⟩
    case round =>
      obtain ⟨k, m, hk, hpk, hm, rfl, rfl, rfl, HK⟩ := hrel
      clear HR
      by_cases h5 : k = 5
      · subst h5
        rw [rdl_five] at HK
        go_wp2_with fail
        go_ret2
        refine ⟨ret2_eq ?_ ?_, rfl⟩ <;> rw [HK.out] <;> rfl
      by_cases hsz : p + k < s.size
      · rw [drop_cons hsz, rdl_cons (by omega)] at HK
        obtain ⟨b, hb, hbb⟩ : ∃ b : Nat, b < 256 ∧ (s[p + k]'hsz).toNat = b := ⟨_, (s[p + k]'hsz).toNat_lt, rfl⟩
        rw [hbb] at HK
        obtain ⟨x, HX⟩ : ∃ x : Int, Hid (x = b) := ⟨_, rfl⟩
        have hx0 : 0 ≤ x := by rw [HX.out]; omega
        have hx1 : x < 256 := by rw [HX.out]; omega
        have hc : k = 0 ∨ k = 1 ∨ k = 2 ∨ k = 3 ∨ k = 4 := by omega
        rcases hc with rfl | rfl | rfl | rfl | rfl
        · have e0 : wrap64 (((s[p]'(by omega)).toNat : Nat) : Int) = x := by rw [show (s[p]'(by omega)).toNat = b from hbb, HX.out]; exact byte_wrap hb
          clear hbb hb
          simp only [Nat.reducePow, Nat.one_mul, Nat.reduceAdd, Nat.add_assoc, Nat.add_zero, Nat.zero_add] at HK hm
          go_wp2_with fail
          all_goals have hxx := HX.out
          all_goals try simp only [beq_iff_eq] at *
          all_goals first | (go_ret2; refine ⟨ret2_eq ?_ ?_, rfl⟩ <;> rw [HK.out] <;> (repeat' split) <;> omega) | (have HK2 := HK.out; rw [if_pos (by omega)] at HK2; refine ⟨⟨1, m + b % 128, by omega, by omega, by omega, rfl, ?_, rfl, ?_⟩, by decide⟩; (refine congrArg (Value.int .i64) ?_; omega); (first | exact HK2 | simpa using HK2)) | trace_state
        · have e0 : wrap64 (((s[p + 1]'(by omega)).toNat : Nat) : Int) = x := by rw [show (s[p + 1]'(by omega)).toNat = b from hbb, HX.out]; exact byte_wrap hb
          clear hbb hb
          simp only [Nat.reducePow, Nat.one_mul, Nat.reduceAdd, Nat.add_assoc, Nat.add_zero, Nat.zero_add] at HK hm
          go_wp2_with fail
          all_goals have hxx := HX.out
          all_goals try simp only [beq_iff_eq] at *
          all_goals first | (go_ret2; refine ⟨ret2_eq ?_ ?_, rfl⟩ <;> rw [HK.out] <;> (repeat' split) <;> omega) | (have HK2 := HK.out; rw [if_pos (by omega)] at HK2; refine ⟨⟨2, m + 128 * (b % 128), by omega, by omega, by omega, rfl, ?_, rfl, ?_⟩, by decide⟩; (refine congrArg (Value.int .i64) ?_; omega); (first | exact HK2 | simpa using HK2)) | trace_state
        · have e0 : wrap64 (((s[p + 2]'(by omega)).toNat : Nat) : Int) = x := by rw [show (s[p + 2]'(by omega)).toNat = b from hbb, HX.out]; exact byte_wrap hb
          clear hbb hb
          simp only [Nat.reducePow, Nat.one_mul, Nat.reduceAdd, Nat.add_assoc, Nat.add_zero, Nat.zero_add] at HK hm
          go_wp2_with fail
          all_goals have hxx := HX.out
          all_goals try simp only [beq_iff_eq] at *
          all_goals first | (go_ret2; refine ⟨ret2_eq ?_ ?_, rfl⟩ <;> rw [HK.out] <;> (repeat' split) <;> omega) | (have HK2 := HK.out; rw [if_pos (by omega)] at HK2; refine ⟨⟨3, m + 16384 * (b % 128), by omega, by omega, by omega, rfl, ?_, rfl, ?_⟩, by decide⟩; (refine congrArg (Value.int .i64) ?_; omega); (first | exact HK2 | simpa using HK2)) | trace_state
        · have e0 : wrap64 (((s[p + 3]'(by omega)).toNat : Nat) : Int) = x := by rw [show (s[p + 3]'(by omega)).toNat = b from hbb, HX.out]; exact byte_wrap hb
          clear hbb hb
          simp only [Nat.reducePow, Nat.one_mul, Nat.reduceAdd, Nat.add_assoc, Nat.add_zero, Nat.zero_add] at HK hm
          go_wp2_with fail
          all_goals have hxx := HX.out
          all_goals try simp only [beq_iff_eq] at *
          all_goals first | (go_ret2; refine ⟨ret2_eq ?_ ?_, rfl⟩ <;> rw [HK.out] <;> (repeat' split) <;> omega) | (have HK2 := HK.out; rw [if_pos (by omega)] at HK2; refine ⟨⟨4, m + 2097152 * (b % 128), by omega, by omega, by omega, rfl, ?_, rfl, ?_⟩, by decide⟩; (refine congrArg (Value.int .i64) ?_; omega); (first | exact HK2 | simpa using HK2)) | trace_state
        · have e0 : wrap64 (((s[p + 4]'(by omega)).toNat : Nat) : Int) = x := by rw [show (s[p + 4]'(by omega)).toNat = b from hbb, HX.out]; exact byte_wrap hb
          clear hbb hb
          simp only [Nat.reducePow, Nat.one_mul, Nat.reduceAdd, Nat.add_assoc, Nat.add_zero, Nat.zero_add] at HK hm
          go_wp2_with fail
          all_goals have hxx := HX.out
          all_goals try simp only [beq_iff_eq] at *
          all_goals first | (go_ret2; refine ⟨ret2_eq ?_ ?_, rfl⟩ <;> rw [HK.out] <;> (repeat' split) <;> omega) | (have HK2 := HK.out; rw [if_pos (by omega)] at HK2; refine ⟨⟨5, m + 268435456 * (b % 128), by omega, by omega, by omega, rfl, ?_, rfl, ?_⟩, by decide⟩; (refine congrArg (Value.int .i64) ?_; omega); (first | exact HK2 | simpa using HK2)) | trace_state
      · rw [drop_nil (by omega)] at HK
        go_wp2_with fail
        go_ret2
        refine ⟨ret2_eq ?_ ?_, rfl⟩ <;> rw [HK.out] <;> rfl
  · have HR : Hid (rdAt s a = (0, 0)) := by show _ = _; unfold rdAt; rw [if_neg hin]
    go_enter Tryd.func22, Tryd.ntmps22
    go_wp2_with fail
    all_goals first | omega | (go_ret2; refine ⟨ret2_eq ?_ ?_, rfl⟩ <;> rw [HR.out] <;> rfl) | trace_state
end Go.Proofs.YtpmanjkaiknlhaaDoor
