/- Lists of passes: the model's PassText. -/
import Derived.Test.YtjbmlebaaehjjaaDoorPas2
import Derived.Test.YtjbmlebaaehjjaaDoorWid
import Derived.Deep.RegionWith
namespace Go.Proofs.YtjbmlebaaehjjaaDoor
open Go.RowKit
set_option linter.unusedVariables false

set_option maxHeartbeats 1000000 in
theorem okS (lo : Nat) (a : Option Addr) (cap : Nat) (l : List Int) (w : World) (hv : IntsAt w lo a l) :
    Calls Tryd.prog 24 #[.slice a l.length cap] w fun e w' => e = .returned (.bool (okL l)) ∧ w' = w := by
  have hm := hv.1
  go_enter Tryd.func24, Tryd.ntmps24
  go_wp2_with fail
  go_loop [3] (fun i => ∃ k : Nat, k ≤ l.length ∧ i = .int .i64 k ∧ Hid (∀ j, j < k → passB (l.getD j 0) = true)) (fun i => l.length - (intOf i).toNat)
  case atStart => exact ⟨0, by omega, rfl, fun j hj => by omega⟩
  case round =>
    obtain ⟨k, hk, rfl, HD⟩ := hrel
    by_cases hlt : k < l.length
    · rcases hv.2 with rfl | ⟨b, off, rfl, hlo, hb, hcell⟩
      · simp at hlt
      have e0 := hcell k hlt
      cases hx : passB (l.getD k 0) with
      | true =>
        have HX : Hid (passB (l.getD k 0) = true) := hx
        have C := inS (l.getD k 0) 1 9 w
        rw [show (decide (1 ≤ l.getD k 0) && decide (l.getD k 0 ≤ 9)) = true from hx] at C
        generalize l.getD k 0 = x at e0 C
        clear hcell hx
        go_wp2_with (go_at_call 37; refine C.mono ?_; rintro e w8 ⟨rfl, h9⟩; have h8 := h9.symm; clear h9; subst h8)
        go_round
        case rel =>
          refine ⟨k + 1, by omega, by go_num, fun j hj => ?_⟩
          by_cases hjk : j = k
          · subst hjk; exact HX.out
          · exact HD.out j (by omega)
        case measure => simp [intOf]; omega
      | false =>
        have HX : Hid (okL l = false) := by show _ = _; unfold okL; rw [all_fails hlt hx]; simp
        have C := inS (l.getD k 0) 1 9 w
        rw [show (decide (1 ≤ l.getD k 0) && decide (l.getD k 0 ≤ 9)) = false from hx] at C
        generalize l.getD k 0 = x at e0 C
        clear hcell hx
        go_wp2_with (go_at_call 37; refine C.mono ?_; rintro e w8 ⟨rfl, h9⟩; have h8 := h9.symm; clear h9; subst h8)
        go_ret
        exact ⟨by rw [HX.out]; rfl, rfl⟩
    · have hke : k = l.length := by omega
      have HX : Hid (okL l = decide (l.length ≤ 12)) := by show _ = _; unfold okL; rw [all_upto fun j hj => HD.out j (by omega)]; simp
      go_wp2_with fail
      go_ret
      refine ⟨congrArg (fun b => Ending.returned (Value.bool b)) (?_ : decide ((l.length : Int) ≤ 12) = okL l), rfl⟩
      rw [HX.out]
      exact decide_eq_decide.2 (by omega)
theorem wordsS (w : World) : Calls Tryd.prog 25 #[] w fun e w' => e = .returned (.slice (some ⟨w.heap.size, 0, none⟩) 10 10) ∧ (∀ j, j < 10 → w'.cell? ⟨w.heap.size, j, none⟩ = some (.string (wordL.getD j ⟨#[]⟩))) ∧ w'.heap.size = w.heap.size + 1 ∧ Below w.heap.size w w' := by
  go_enter Tryd.func25, Tryd.ntmps25
  go_wp2_with fail
  go_ret
  refine ⟨rfl, fun j hj => ?_, by simp, (Below.refl _ _).alloc (Nat.le_refl _) _⟩
  rw [cell_of_heap (heap_alloc_last _ _)]
  match j, hj with
  | 0, _ => rfl
  | 1, _ => rfl
  | 2, _ => rfl
  | 3, _ => rfl
  | 4, _ => rfl
  | 5, _ => rfl
  | 6, _ => rfl
  | 7, _ => rfl
  | 8, _ => rfl
  | 9, _ => rfl
theorem wordsS_at (w : World) (s : Nat) (hs : w.heap.size = s) : Calls Tryd.prog 25 #[] w fun e w' => e = .returned (.slice (some ⟨s, 0, none⟩) 10 10) ∧ (∀ j, j < 10 → w'.cell? ⟨s, j, none⟩ = some (.string (wordL.getD j ⟨#[]⟩))) ∧ w'.heap.size = s + 1 ∧ Below w.heap.size w w' := by subst hs; exact wordsS w
/-- The text of the first passes. -/
def txtN (l : List Int) : Nat → ByteArray
  | 0 => ⟨#[]⟩
  | k + 1 => (if 0 < k then txtN l k ++ ⟨#[44]⟩ else txtN l k) ++ word (l.getD k 0)
theorem word_size (p : Int) : (word p).size ≤ 6 := by
  have h := word_len p
  rwa [Array.length_toList] at h
theorem wordL_size (n : Nat) : (wordL.getD n ⟨#[]⟩).size ≤ 6 := by
  have h := word_size (n : Int)
  rwa [word, Int.toNat_natCast] at h
theorem txt_size (l : List Int) : ∀ k, (txtN l k).size ≤ 7 * k
  | 0 => Nat.le_refl 0
  | k + 1 => by
    have h := txt_size l k
    have hw := word_size (l.getD k 0)
    have h1 : (⟨#[44]⟩ : ByteArray).size = 1 := rfl
    rw [txtN]
    split
    · rw [ByteArray.size_append, ByteArray.size_append]; omega
    · rw [ByteArray.size_append]; omega
theorem data_add (a b : ByteArray) : (a ++ b).data.toList = a.data.toList ++ b.data.toList := by simp
theorem join_snoc (sep : List UInt8) (x y : List UInt8) (r : List (List UInt8)) : Lib.join (x :: r ++ [y]) sep = Lib.join (x :: r) sep ++ sep ++ y := by
  rw [List.cons_append, Lib.join_cons, Lib.join_cons]
  simp [Lib.joinTail, List.append_assoc]
theorem txt_take (l : List Int) : ∀ k, k ≤ l.length → (txtN l k).data.toList = Lib.join (((l.take k).map word).map (·.data.toList)) [44]
  | 0, _ => rfl
  | 1, h => by
    rw [take_word (by omega)]
    simp [txtN, Lib.join_one]
  | k + 2, h => by
    have ih := txt_take l (k + 1) (by omega)
    rw [take_word (by omega), List.map_append]
    have e : txtN l (k + 2) = txtN l (k + 1) ++ ⟨#[44]⟩ ++ word (l.getD (k + 1) 0) := by rw [txtN, if_pos (by omega)]
    rw [e, data_add, data_add, ih]
    cases hc : ((l.take (k + 1)).map word).map (·.data.toList) with
    | nil =>
      have h9 : (((l.take (k + 1)).map word).map (·.data.toList)).length = 0 := by rw [hc]; rfl
      rw [List.length_map, List.length_map, List.length_take] at h9
      omega
    | cons x r =>
      rw [List.map_singleton, join_snoc]
theorem txt_all {l : List Int} (h : okL l = true) : txtN l l.length = textOf l := by
  unfold textOf
  rw [if_pos h]
  have e := txt_take l l.length (Nat.le_refl _)
  rw [List.take_length] at e
  rw [← e]
theorem txt_one (l : List Int) (k : Nat) (h : ¬ 0 < k) : txtN l (k + 1) = txtN l k ++ word (l.getD k 0) := by rw [txtN, if_neg h]
theorem txt_more (l : List Int) (k : Nat) (h : 0 < k) : txtN l (k + 1) = txtN l k ++ ⟨#[44]⟩ ++ word (l.getD k 0) := by rw [txtN, if_pos h]
set_option maxHeartbeats 4000000 in
theorem passTextS (lo : Nat) (a : Option Addr) (cap : Nat) (l : List Int) (w : World) (hv : IntsAt w lo a l) :
    Calls Tryd.prog 10 #[.slice a l.length cap] w fun e w' => e = .returned (.string (textOf l)) ∧ Below w.heap.size w w' := by
  have hm := hv.1
  have HV : Hid (IntsAt w lo a l) := hv
  clear hv
  cases hok : okL l with
  | false =>
    have E : Hid (textOf l = ⟨#[]⟩) := by show _ = _; simp [textOf, hok]
    by_cases h0 : 0 < l.length
    · have C := okS lo a cap l w HV.out
      rw [hok] at C
      clear hok
      go_enter Tryd.func10, Tryd.ntmps10
      go_wp2_with fail
      go_loop [3, 4] (fun st i => i = .int .i64 0 ∧ st = .string ⟨#[]⟩) (fun _ _ => 0)
      case atStart => exact ⟨rfl, rfl⟩
      case round =>
        obtain ⟨rfl, rfl⟩ := hrel
        go_wp2_with (go_at_call 24; refine C.mono ?_; rintro e w8 ⟨rfl, h9⟩; have h8 := h9.symm; clear h9; subst h8)
        go_ret
        exact ⟨by rw [E.out]; rfl, Below.refl _ _⟩
    · have : l = [] := List.length_eq_zero_iff.1 (by omega)
      rw [this] at hok
      cases hok
  | true =>
    have E : Hid (txtN l l.length = textOf l) := txt_all hok
    have HOK : Hid (okL l = true) := hok
    have h12 : l.length ≤ 12 := by simp [okL] at hok; exact hok.1
    clear hok
    go_enter Tryd.func10, Tryd.ntmps10
    go_wp2_with fail
    go_loopw [3, 4] (fun st i wr => ∃ k : Nat, k ≤ l.length ∧ i = .int .i64 k ∧ st = .string (txtN l k) ∧ Hid (Below w.heap.size w wr)) (fun _ i _ => l.length - (intOf i).toNat)
    case atStart => exact ⟨0, by omega, rfl, rfl, Below.refl _ _⟩
    case round =>
      obtain ⟨k, hk, rfl, rfl, HB⟩ := hrel
      by_cases hlt : k < l.length
      · have C := okS lo a cap l wr (HV.out.keep (agree_of_below HB.out lo))
        rw [HOK.out] at C
        rcases HV.out.2 with rfl | ⟨b, off, rfl, hlo, hb, hcell⟩
        · simp at hlt
        obtain ⟨n, hn, hn1, hn9⟩ := passB_nat (ok_at HOK.out hlt)
        have e0 : wr.cell? ⟨b, off + k, none⟩ = some (.int .i64 (n : Int)) := by rw [(cell_block (HB.out.block b hb)).trans (hcell k hlt), hn]
        have hbl : b < wr.heap.size := Nat.lt_of_lt_of_le hb HB.out.size
        have HW : Hid (word (l.getD k 0) = wordL.getD n ⟨#[]⟩) := by show _ = _; rw [hn]; rfl
        clear hcell hn
        have hn10 : n < 10 := by omega
        have hn10' : (n : Int) < 10 := by omega
        have hts := txt_size l k
        have hws := wordL_size n
        generalize hwn : wordL.getD n ⟨#[]⟩ = W at hws
        have HWN : Hid (wordL.getD n ⟨#[]⟩ = W) := hwn
        clear hwn
        by_cases hk0 : 0 < k
        · have HT : Hid (txtN l (k + 1) = txtN l k ++ ⟨#[44]⟩ ++ W) := by show _ = _; rw [txt_more l k hk0, HW.out, HWN.out]
          generalize txtN l k = T at HT hts ⊢
          go_wp2_with (go_at_call 24; refine C.mono ?_; rintro e w8 ⟨rfl, h9⟩; have h8 := h9.symm; clear h9; subst h8)
          clear C
          have hT2 : (T ++ ⟨#[44]⟩ : ByteArray).size ≤ 100 := by rw [ByteArray.size_append]; have h1 : (⟨#[44]⟩ : ByteArray).size = 1 := rfl; omega
          generalize T ++ ⟨#[44]⟩ = T2 at *
          go_region_with (go_at_call 25; refine (wordsS_at wr.drew wr.heap.size rfl).mono ?_; rintro e w5 ⟨rfl, hc5, hz5, hb5⟩; have f5 := (hc5 n (by omega)).trans (congrArg (fun z => some (Value.string z)) HWN.out); have f6 := (bcell hb5 b (off + k) (by exact hbl)).trans (by exact e0); clear hc5)
          all_goals
            have HB5 : Hid (Below w.heap.size w w5) := (HB.out.drew).trans (hb5.mono HB.out.size)
            clear hb5 f5 f6
            go_wp2_with fail
            go_roundw
            case rel => exact ⟨k + 1, by omega, by go_num, by rw [HT.out], HB5.out⟩
            case measure => simp [intOf]; omega
        · have HT : Hid (txtN l (k + 1) = txtN l k ++ W) := by show _ = _; rw [txt_one l k hk0, HW.out, HWN.out]
          generalize txtN l k = T at HT hts ⊢
          go_wp2_with (go_at_call 24; refine C.mono ?_; rintro e w8 ⟨rfl, h9⟩; have h8 := h9.symm; clear h9; subst h8)
          clear C
          go_region_with (go_at_call 25; refine (wordsS_at wr.drew wr.heap.size rfl).mono ?_; rintro e w5 ⟨rfl, hc5, hz5, hb5⟩; have f5 := (hc5 n (by omega)).trans (congrArg (fun z => some (Value.string z)) HWN.out); have f6 := (bcell hb5 b (off + k) (by exact hbl)).trans (by exact e0); clear hc5)
          all_goals
            have HB5 : Hid (Below w.heap.size w w5) := (HB.out.drew).trans (hb5.mono HB.out.size)
            clear hb5 f5 f6
            go_wp2_with fail
            go_roundw
            case rel => exact ⟨k + 1, by omega, by go_num, by rw [HT.out], HB5.out⟩
            case measure => simp [intOf]; omega
      · have hke : k = l.length := by omega
        subst hke
        go_wp2_with fail
        go_ret
        exact ⟨by rw [← E.out]; rfl, HB.out⟩
end Go.Proofs.YtjbmlebaaehjjaaDoor
