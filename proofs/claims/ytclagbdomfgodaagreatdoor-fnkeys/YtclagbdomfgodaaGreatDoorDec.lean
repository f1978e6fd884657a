/- Numbers in decimal: the model's l1Dec, and a list of numbers with blanks ahead. -/
import Derived.Test.YtclagbdomfgodaaGreatDoorMem
import Derived.Test.YtclagbdomfgodaaGreatDoorTo1
import Derived.Laws.IdiomStrings
import Derived.Lib.ItoaNum
namespace Go.Proofs.YtclagbdomfgodaaGreatDoor
open Go.RowKit
set_option linter.unusedVariables false

def decB (n : Int) : ByteArray := ⟨(Lib.itoa n).toArray⟩
theorem dec_small {u : Nat} (h : u < 10) : Lib.decDigits u = [UInt8.ofNat (48 + u)] := by rw [Lib.decDigits, dif_pos h]
theorem dec_big {u : Nat} (h : ¬ u < 10) : Lib.decDigits u = Lib.decDigits (u / 10) ++ [UInt8.ofNat (48 + u % 10)] := by rw [Lib.decDigits, dif_neg h]
theorem dec_len : ∀ (k u : Nat), u < 10 ^ (k + 1) → (Lib.decDigits u).length ≤ k + 1
  | 0, u, h => by rw [dec_small (by simpa using h)]; simp
  | k + 1, u, h => by
    by_cases h1 : u < 10
    · rw [dec_small h1]; simp
    · rw [dec_big h1]
      have := dec_len k (u / 10) (by rw [Nat.pow_succ] at h; omega)
      simp; omega
theorem dec_pos (u : Nat) : 0 < (Lib.decDigits u).length := by
  rw [Lib.decDigits]; split <;> simp
theorem itoa_nat (n : Nat) : Lib.itoa (n : Int) = Lib.decDigits n := by
  unfold Lib.itoa
  rw [if_neg (by omega), Int.toNat_natCast]
theorem decB_size {n : Nat} (h : n ≤ 4294967295) : (decB (n : Int)).size ≤ 10 := by
  have := dec_len 9 n (by omega)
  unfold decB
  rw [itoa_nat]
  simpa [ByteArray.size] using this
theorem conv_dig (v : World) (z : Int) : (convert 22 9 (.slice (some ⟨v.heap.size, 0, none⟩) 1 1)).run Tryz.prog (v.alloc (.cells #[.int .u8 z] 5)) = .ok (.string ⟨#[UInt8.ofNat z.toNat]⟩) (v.alloc (.cells #[.int .u8 z] 5)) := by
  rw [run_convert_bytes_string _ _ _ 5 _ 1 1 Tryz.underlying22 Tryz.underlying5 Tryz.underlying9]
  have hl := run_loadCells_list (P := Tryz.prog) (v.alloc (.cells #[.int .u8 z] 5)) ⟨v.heap.size, 0, none⟩ ([z].map (Value.int .u8)) (fun j x hj => by
    rcases j with _ | j
    · simp at hj; subst hj; simp [Addr.add]
    · simp at hj)
  rw [run_bytesToString _ _ 1 1 [z] hl]
  rfl
set_option maxHeartbeats 2000000 in
theorem decS (n : Nat) (w : World) (hn : n ≤ 4294967295) :
    Calls Tryz.prog 62 #[.int .i64 (n : Int)] w fun e w' => e = .returned (.string (decB n)) ∧ Below w.heap.size w w' := by
  have HV : Hid (decB n = ⟨(Lib.decDigits n).toArray⟩) := by show _ = _; unfold decB; rw [itoa_nat]
  have h10 := dec_len 9 n (by omega)
  have HW : Hid (True) := trivial
  go_enter Tryz.func62, Tryz.ntmps62
  go_wp2_with fail
  go_loopw [0, 3] (fun i st wr => ∃ (m : Nat) (l : List UInt8), m ≤ 4294967295 ∧ l.length ≤ 10 ∧ i = .int .i64 m ∧ st = .string ⟨l.toArray⟩ ∧ Hid (Lib.decDigits n = Lib.decDigits m ++ l) ∧ Below w.heap.size w wr) (fun i _ _ => (intOf i).toNat)
  case atStart => exact ⟨n, [], hn, by simp, rfl, rfl, by show _ = _; simp, Below.refl _ _⟩
  case round =>
    obtain ⟨m, l, hm, hl, rfl, rfl, HL, hB⟩ := hrel
    have hcv := conv_dig wr
    by_cases h1 : m < 10
    · go_wp2_with fail
      go_ret
      refine ⟨?_, hB.alloc hB.size _⟩
      rw [HV.out, HL.out, dec_small h1]
      refine congrArg (fun z => Ending.returned (.string z)) ?_
      rw [show (48 + UInt8.ofNat m : UInt8) = UInt8.ofNat (48 + m) by simp]
      exact ByteArray.mk_append_mk _ _
    · have h2 : 10 ≤ m := by omega
      have hlen := congrArg List.length HL.out
      have hdp := dec_pos (m / 10)
      rw [dec_big h1] at hlen
      simp at hlen
      go_wp2_with fail
      refine ⟨⟨m / 10, UInt8.ofNat (48 + m % 10) :: l, by omega, by simp; omega, congrArg (Value.int .i64) (by omega), ?_, ?_, hB.alloc hB.size _⟩, by simp [intOf]; omega⟩
      · refine congrArg Value.string ?_
        rw [show (48 + UInt8.ofNat (m % 10) : UInt8) = UInt8.ofNat (48 + m % 10) by simp]
        exact ByteArray.mk_append_mk _ _
      · show _ = _
        rw [HL.out, dec_big h1]; simp
end Go.Proofs.YtclagbdomfgodaaGreatDoor
