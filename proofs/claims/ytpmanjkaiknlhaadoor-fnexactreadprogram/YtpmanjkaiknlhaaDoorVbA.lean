/- Numbers one behind the other as bytes; the model's l6List. -/
import Derived.Test.YtpmanjkaiknlhaaDoorVof
import Derived.Test.YtpmanjkaiknlhaaDoorMem
import Derived.Deep.RegionHeld2
namespace Go.Proofs.YtpmanjkaiknlhaaDoor
open Go.RowKit
set_option linter.unusedVariables false

theorem vof_len (a : Int) : (vof a).size ≤ 5 := by
  unfold vof
  split
  · have h := vl_five (n := a.toNat) (by omega)
    show (vl a.toNat).toArray.size ≤ 5
    simpa using h
  · show (0 : Nat) ≤ 5
    omega
/-- Numbers behind a text. -/
def vb (R : ByteArray) (l : List Int) : ByteArray := l.foldl (fun s n => s ++ vof n) R
theorem vb_nil (R : ByteArray) : vb R [] = R := rfl
theorem vb_one (R : ByteArray) (n : Int) : vb R [n] = R ++ vof n := rfl
theorem vb_cons (R : ByteArray) (n : Int) (l : List Int) : vb R (n :: l) = vb (R ++ vof n) l := rfl
theorem vb_append (R : ByteArray) (a b : List Int) : vb R (a ++ b) = vb (vb R a) b := by unfold vb; rw [List.foldl_append]
theorem vb_join (R : ByteArray) : ∀ (l : List Int) (S : ByteArray), R ++ vb S l = vb (R ++ S) l
  | [], S => rfl
  | n :: l, S => by rw [vb_cons, vb_cons, vb_join R l (S ++ vof n), ByteArray.append_assoc]
theorem vb_join0 (R : ByteArray) (l : List Int) : R ++ vb ⟨#[]⟩ l = vb R l := by
  rw [vb_join]
  congr 1
  exact ByteArray.ext (by simp)
theorem vb_size : ∀ (l : List Int) (R : ByteArray), (vb R l).size ≤ R.size + 5 * l.length
  | [], R => by simp [vb_nil]
  | n :: l, R => by
    have h := vb_size l (R ++ vof n)
    have h5 := vof_len n
    rw [ByteArray.size_append] at h
    rw [vb_cons, List.length_cons]
    omega
def listN (l : List Int) : List Int := (l.length : Int) :: l
theorem take_snoc {l : List Int} {k : Nat} (h : k < l.length) : l.take (k + 1) = l.take k ++ [l.getD k 0] := by
  rw [List.take_succ_eq_append_getElem h]; simp [List.getD, h]
theorem ints_cellP {w : World} {lo : Nat} {a : Option Addr} {l : List Int} (h : IntsAt w lo a l) {k : Nat} (hk : k < l.length) : ∃ b off, a = some ⟨b, off, none⟩ ∧ w.cell? ⟨b, off + k, none⟩ = some (.int .i64 (l.getD k 0)) := by
  rcases h.2 with h | ⟨b, off, ha, _, _, hc⟩
  · rw [h] at hk; simp at hk
  · exact ⟨b, off, ha, hc k hk⟩
set_option maxHeartbeats 1000000 in
theorem l6ListS (lo : Nat) (a : Option Addr) (c : Nat) (l : List Int) (w : World) (hl : l.length ≤ 1048576) (hk : IntsAt w lo a l) :
    Calls Tryd.prog 25 #[.slice a l.length c] w fun e w' => e = .returned (.string (vb ⟨#[]⟩ (listN l))) ∧ Below w.heap.size w w' := by
  have HK : Hid (IntsAt w lo a l) := hk
  have HE : Hid (vb ⟨#[]⟩ (listN l) = vb (vof l.length) (l.take l.length)) := by
    show _ = _
    unfold listN
    rw [vb_cons, List.take_length]
    congr 1
  have h5 := vof_len (l.length : Int)
  clear hk
  go_enter Tryd.func25, Tryd.ntmps25
  go_wp2_with fail
  refine (varS _ _).mono ?_
  rintro e w1 ⟨rfl, b1⟩
  have HB1 : Hid (Below w.heap.size w w1) := b1
  clear b1
  go_wp2_with fail
  go_loopw [3, 4] (fun st i wr => ∃ (k : Nat) (T : ByteArray), k ≤ l.length ∧ i = .int .i64 k ∧ st = .string T ∧ Hid (T = vb (vof l.length) (l.take k)) ∧ Hid (Below w.heap.size w wr)) (fun _ i _ => l.length - (intOf i).toNat)
  case atStart => exact ⟨0, _, by omega, rfl, rfl, rfl, HB1⟩
  case round =>
    obtain ⟨k, T, hk, rfl, rfl, HT, HB⟩ := hrel
    by_cases hlt : k < l.length
    · obtain ⟨bb, off, rfl, e1⟩ := ints_cellP (HK.out.keep (agree_of_below HB.out lo)) hlt
      have hTs : T.size ≤ 5 + 5 * k := by
        rw [HT.out]
        have := vb_size (l.take k) (vof l.length)
        rw [List.length_take, Nat.min_eq_left hk] at this
        omega
      have HN : Hid (vb (vof l.length) (l.take (k + 1)) = T ++ vof (l.getD k 0)) := by
        show _ = _
        rw [take_snoc hlt, vb_append, ← HT.out]; rfl
      have hv := vof_len (l.getD k 0)
      have P := fun w1 => varS (l.getD k 0) w1
      generalize l.getD k 0 = x at e1 HN hv P
      generalize vof x = V at HN hv P
      go_wp2_with fail
      refine (P _).mono ?_
      rintro e w2 ⟨rfl, b2⟩
      have HB2 : Hid (Below w.heap.size w w2) := HB.out.trans (b2.mono HB.out.size)
      clear b2
      go_wp2_with fail
      go_roundw
      case rel => exact ⟨k + 1, _, by omega, by go_num, rfl, HN.out.symm, HB2⟩
      case measure => simp [intOf]; omega
    · have HF : Hid (vb ⟨#[]⟩ (listN l) = T) := by
        have hkl : k = l.length := by omega
        show _ = _
        rw [HE.out, HT.out, hkl]
      go_wp2_with fail
      go_ret
      exact ⟨by rw [HF.out]; rfl, HB.out⟩
end Go.Proofs.YtpmanjkaiknlhaaDoor
