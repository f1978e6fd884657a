/- A number's bytes: the model's way. -/
import Derived.Test.YtpmanjkaiknlhaaDoorRvr
import Derived.Laws.IdiomStrings
namespace Go.Proofs.YtpmanjkaiknlhaaDoor
open Go.RowKit

/-- Seven bits a byte, the lowest first. -/
def vl (n : Nat) : List UInt8 := if n < 128 then [UInt8.ofNat n] else UInt8.ofNat (128 + n % 128) :: vl (n / 128)
termination_by n
decreasing_by omega
theorem vl_last {n : Nat} (h : n < 128) : vl n = [UInt8.ofNat n] := by rw [vl, if_pos h]
theorem vl_more {n : Nat} (h : 128 ≤ n) : vl n = UInt8.ofNat (128 + n % 128) :: vl (n / 128) := by rw [vl, if_neg (by omega)]
theorem vl_len {k n : Nat} (h : n < 128 ^ k) (hk : 0 < k) : (vl n).length ≤ k := by
  induction k generalizing n with
  | zero => omega
  | succ k ih =>
    by_cases h1 : n < 128
    · rw [vl_last h1]; simp
    · rw [vl_more (by omega)]
      have hk0 : 0 < k := by
        rcases Nat.eq_zero_or_pos k with rfl | h0
        · simp at h; omega
        · exact h0
      have := ih (n := n / 128) (by rw [Nat.pow_succ] at h; omega) hk0
      simp; omega
theorem vl_five {n : Nat} (h : n ≤ 4294967295) : (vl n).length ≤ 5 := vl_len (by omega) (by omega)
/-- What VarOf gives. -/
def vof (a : Int) : ByteArray := if 0 ≤ a ∧ a ≤ 4294967295 then ⟨(vl a.toNat).toArray⟩ else ⟨#[]⟩
theorem conv_one (v : World) (z : Int) : (convert 61 9 (.slice (some ⟨v.heap.size, 0, none⟩) 1 1)).run Tryd.prog (v.alloc (.cells #[.int .u8 z] 5)) = .ok (.string ⟨#[UInt8.ofNat z.toNat]⟩) (v.alloc (.cells #[.int .u8 z] 5)) := by
  rw [run_convert_bytes_string _ _ _ 5 _ 1 1 Tryd.underlying61 Tryd.underlying5 Tryd.underlying9]
  have hl := run_loadCells_list (P := Tryd.prog) (v.alloc (.cells #[.int .u8 z] 5)) ⟨v.heap.size, 0, none⟩ ([z].map (Value.int .u8)) (fun j x hj => by
    rcases j with _ | j
    · simp at hj; subst hj; simp [Addr.add]
    · simp at hj)
  rw [run_bytesToString _ _ 1 1 [z] hl]
  rfl

theorem inS1 (a b c : Int) (w : World) : Calls Tryd.prog 35 #[.int .i64 a, .int .i64 b, .int .i64 c] w fun e w' => e = .returned (.bool (decide (b ≤ a ∧ a ≤ c))) ∧ w' = w := by
  go_enter Tryd.func35, Tryd.ntmps35
  go_wp2_with fail
  all_goals go_ret
  all_goals exact ⟨congrArg (fun b => Ending.returned (.bool b)) (by rw [Bool.eq_iff_iff]; simp; omega), rfl⟩

theorem inS1b (a b c : Int) (w : World) (v : Bool) (h : Hid (decide (b ≤ a ∧ a ≤ c) = v)) : Calls Tryd.prog 35 #[.int .i64 a, .int .i64 b, .int .i64 c] w fun e w' => e = .returned (.bool v) ∧ w' = w := by
  rw [← h.out]; exact inS1 a b c w

set_option maxHeartbeats 2000000 in
theorem varS (a : Int) (w : World) :
    Calls Tryd.prog 24 #[.int .i64 a] w fun e w' => e = .returned (.string (vof a)) ∧ Below w.heap.size w w' := by
  by_cases hin : 0 ≤ a ∧ a ≤ 4294967295
  · obtain ⟨n, rfl⟩ : ∃ n : Nat, a = n := ⟨a.toNat, by omega⟩
    have hn : n ≤ 4294967295 := by omega
    have HV : Hid (vof n = ⟨(vl n).toArray⟩) := by show _ = _; unfold vof; rw [if_pos hin]; rfl
    have hd : Hid (decide ((0 : Int) ≤ (n : Int) ∧ (n : Int) ≤ 4294967295) = true) := by show _ = _; simp; omega
    have h5 := vl_five hn
    clear hin
    go_enter Tryd.func24, Tryd.ntmps24
    go_wp2_with (go_at_call 35; refine (inS1b _ _ _ _ _ hd).mono ?_; rintro e w1 ⟨rfl, rfl⟩)
    go_loopw [0, 3] (fun i st wr => ∃ (m : Nat) (l : List UInt8), m ≤ 4294967295 ∧ l.length ≤ 5 ∧ i = .int .i64 m ∧ st = .string ⟨l.toArray⟩ ∧ Hid (vl n = l ++ vl m) ∧ Below w1.heap.size w1 wr) (fun i _ _ => (numOf i).toNat)
    case atStart => exact ⟨n, [], hn, by simp, rfl, rfl, rfl, Below.refl _ _⟩
    case round =>
      obtain ⟨m, l, hm, hl, rfl, rfl, HL, hB⟩ := hrel
      have hcv := conv_one wr
      by_cases h1 : m < 128
      · go_wp2_with fail
        go_ret
        refine ⟨?_, hB.alloc hB.size _⟩
        rw [HV.out, HL.out, vl_last h1]
        exact congrArg (fun z => Ending.returned (.string z)) (ByteArray.mk_append_mk _ _)
      · have h2 : 128 ≤ m := by omega
        go_wp2_with fail
        refine ⟨⟨m / 128, l ++ [UInt8.ofNat (128 + m % 128)], by omega, ?_, ?_, ?_, ?_, hB.alloc hB.size _⟩, by simp only [numOf]; omega⟩
        · have h6 := congrArg List.length HL.out
          have h7 : 0 < (vl (m / 128)).length := by rw [vl]; split <;> simp
          rw [vl_more h2] at h6
          simp at h6 ⊢; omega
        · exact congrArg (Value.int .i64) (by omega)
        · refine congrArg Value.string ?_
          rw [show (128 + UInt8.ofNat (m % 128) : UInt8) = UInt8.ofNat (128 + m % 128) by simp]
          exact ByteArray.mk_append_mk _ _
        · show vl n = _
          rw [HL.out, vl_more h2]; simp
  · have HV : Hid (vof a = ⟨#[]⟩) := by show _ = _; unfold vof; rw [if_neg hin]
    have hd : Hid (decide (0 ≤ a ∧ a ≤ 4294967295) = false) := by show _ = _; simpa using hin
    clear hin
    go_enter Tryd.func24, Tryd.ntmps24
    go_wp2_with (go_at_call 35; refine (inS1b _ _ _ _ _ hd).mono ?_; rintro e w1 ⟨rfl, rfl⟩)
    go_ret
    exact ⟨by rw [HV.out]; rfl, Below.refl _ _⟩
end Go.Proofs.YtpmanjkaiknlhaaDoor
