/- Reading: the model's number of a text. -/
import Derived.Test.YtjmoonbpfieifaaGreatDoorRiIQ
namespace Go.Proofs.YtjmoonbpfieifaaGreatDoor
open Go.RowKit
set_option linter.unusedVariables false
set_option linter.unusedSimpArgs false

def valN (l : List UInt8) : Nat := l.foldl (fun a b => 10 * a + (b.toNat - 48)) 0
theorem valN_snoc (l : List UInt8) (b : UInt8) : valN (l ++ [b]) = 10 * valN l + (b.toNat - 48) := by simp [valN, List.foldl_append]
theorem valN_dec (u : Nat) : valN (Lib.decDigits u) = u := by
  induction u using Nat.strongRecOn with
  | ind u ih =>
    by_cases h : u < 10
    · rw [dec_small h]
      show 10 * 0 + ((UInt8.ofNat (48 + u)).toNat - 48) = u
      rw [digit_nat h]; omega
    · rw [dec_big h, valN_snoc, ih (u / 10) (by omega), digit_nat (by omega : u % 10 < 10)]; omega
theorem dec_one_len (u : Nat) : ∀ c, Lib.decDigits u = [c] → u < 10 := by
  intro c e
  apply Decidable.byContradiction
  intro h
  have h1 := congrArg List.length e
  have h2 := dec_pos (u / 10)
  rw [dec_big h] at h1
  simp only [List.length_append, List.length_cons, List.length_nil] at h1
  omega
theorem dec_lead (u : Nat) : ∀ c r, Lib.decDigits u = c :: r → r ≠ [] → ¬ c.toNat = 48 := by
  induction u using Nat.strongRecOn with
  | ind u ih =>
    intro c r e hr
    by_cases h : u < 10
    · rw [dec_small h] at e
      obtain ⟨rfl, rfl⟩ := List.cons.inj e
      exact absurd rfl hr
    · rw [dec_big h] at e
      by_cases h2 : u / 10 < 10
      · rw [dec_small h2] at e
        obtain ⟨rfl, _⟩ := List.cons.inj e
        rw [digit_nat h2]; omega
      · obtain ⟨c', r', e', _, _⟩ := digits_cons (u / 10)
        rw [e'] at e
        obtain ⟨rfl, _⟩ := List.cons.inj e
        refine ih (u / 10) (by omega) _ _ e' ?_
        rintro rfl
        exact h2 (dec_one_len _ _ e')
/-- The number a text is, of those that are small. -/
def NumTold (s : ByteArray) (n : Int) (ok : Bool) : Prop := ∀ k : Nat, k ≤ 4294967295 → s = bs (Lib.decDigits k) → ok = true ∧ n = k
theorem bs_list (l : List UInt8) : (bs l).data.toList = l := by simp [bs]
theorem list_size (s : ByteArray) : s.data.toList.length = s.size := rfl
def NumEnd (s : ByteArray) (e : Ending) : Prop := ∃ (n : Int) (ok : Bool), e = .returned (.tuple #[.int .i64 n, .bool ok]) ∧ NumTold s n ok
theorem told_empty {s : ByteArray} (h : s.size = 0) : NumTold s 0 false := by
  intro k hk e
  have h1 := dec_pos k
  rw [e, bs_size] at h
  omega
theorem told_long {s : ByteArray} (h : 10 < s.size) : NumTold s 0 false := by
  intro k hk e
  have h1 := dec_len 9 k (by omega)
  rw [e, bs_size] at h
  omega
theorem told_lead {s : ByteArray} (h0 : 0 < s.size) (h : (s[0]'h0).toNat = 48) (h1 : 1 < s.size) : NumTold s 0 false := by
  intro k hk e
  obtain ⟨c, r, e2, _, _⟩ := digits_cons k
  have hb := byte_at h0
  have hl : s.data.toList = c :: r := by rw [e, bs_list, e2]
  rw [hl] at hb
  have hc : c = s[0]'h0 := Option.some.inj hb
  have hr : r ≠ [] := by
    rintro rfl
    have := congrArg List.length hl
    rw [list_size] at this
    simp only [List.length_cons, List.length_nil] at this
    omega
  exact absurd (by rw [hc]; exact h) (dec_lead k c r e2 hr)
theorem told_bad {s : ByteArray} {j : Nat} (hj : j < s.size) (h : (s[j]'hj).toNat < 48 ∨ 57 < (s[j]'hj).toNat) : NumTold s 0 false := by
  intro k hk e
  have hb := byte_at hj
  obtain ⟨b, hb0⟩ : ∃ b, s[j]'hj = b := ⟨_, rfl⟩
  rw [hb0] at hb h
  rw [e, bs_list] at hb
  have := digits_all k _ (List.mem_of_getElem? hb)
  omega
theorem told_all {s : ByteArray} {m : Nat} (h : valN (s.data.toList.take s.size) = m) : NumTold s (m : Int) true := by
  intro k hk e
  refine ⟨rfl, ?_⟩
  have hl : s.data.toList.take s.size = Lib.decDigits k := by
    rw [List.take_of_length_le (by rw [list_size]; exact Nat.le_refl _)]
    rw [e, bs_list]
  rw [hl, valN_dec] at h
  rw [h]
theorem valN_next {s : ByteArray} {j : Nat} (hj : j < s.size) : valN (s.data.toList.take (j + 1)) = 10 * valN (s.data.toList.take j) + ((s[j]'hj).toNat - 48) := by
  have hb := byte_at hj
  rw [List.take_add_one, hb]
  exact valN_snoc _ _
set_option maxHeartbeats 4000000 in
theorem numS (s : ByteArray) (w : World) (hs : s.size ≤ 1048576) :
    Calls Tryz.prog 56 #[.string s] w fun e w' => NumEnd s e ∧ Below w.heap.size w w' := by
  go_enter Tryz.func56, Tryz.ntmps56
  by_cases h0 : s.size = 0
  · have HN : Hid (NumTold s 0 false) := told_empty h0
    have q0 : (s.size : Int) < 1 := by omega
    go_wp2_with fail
    exact bodyPost_ret (v := .tuple #[.int .i64 0, .bool false]) (by simp [results, Tryz.results56]) rfl ⟨⟨0, false, rfl, HN.out⟩, Below.refl _ _⟩
  by_cases h10 : 10 < s.size
  · have HN : Hid (NumTold s 0 false) := told_long h10
    have q0 : ¬ (s.size : Int) < 1 := by omega
    have q1 : (10 : Int) < s.size := by omega
    go_wp2_with fail
    exact bodyPost_ret (v := .tuple #[.int .i64 0, .bool false]) (by simp [results, Tryz.results56]) rfl ⟨⟨0, false, rfl, HN.out⟩, Below.refl _ _⟩
  have h1 : 0 < s.size := by omega
  have q0 : ¬ (s.size : Int) < 1 := by omega
  have q10 : ¬ (10 : Int) < s.size := by omega
  by_cases hz : (s[0]'h1).toNat = 48
  · have qz : (((s[0]'h1).toNat : Nat) : Int) = 48 := by omega
    by_cases h2 : 1 < s.size
    · have HN : Hid (NumTold s 0 false) := told_lead h1 hz h2
      have q2 : (1 : Int) < s.size := by omega
      go_wp2_with fail
      exact bodyPost_ret (v := .tuple #[.int .i64 0, .bool false]) (by simp [results, Tryz.results56]) rfl ⟨⟨0, false, rfl, HN.out⟩, Below.refl _ _⟩
    · have q2 : ¬ (1 : Int) < s.size := by omega
      go_wp2_with fail
      go_loopw [4, 5] (fun n i wr => ∃ (j m : Nat), j ≤ s.size ∧ i = .int .i64 j ∧ n = .int .i64 m ∧ m < 10 ^ j ∧ Hid (valN (s.data.toList.take j) = m) ∧ wr = w) (fun _ i _ => s.size - (intOf i).toNat)
      case atStart => exact ⟨0, 0, by omega, rfl, rfl, by simp, by show _ = _; simp [valN], rfl⟩
      case round =>
        obtain ⟨j, m, hj, rfl, rfl, hm, HM, rfl⟩ := hrel
        by_cases hlt : j < s.size
        · have hm9 : m < 10 ^ 9 := Nat.lt_of_lt_of_le hm (Nat.pow_le_pow_right (by omega) (by omega))
          have hb8 : (s[j]'hlt).toNat < 256 := UInt8.toNat_lt _
          by_cases hd : (s[j]'hlt).toNat < 48
          · have HN : Hid (NumTold s 0 false) := told_bad hlt (.inl hd)
            have q1 : (((s[j]'hlt).toNat : Nat) : Int) < 48 := by omega
            go_wp2_with fail
            exact bodyPost_ret (v := .tuple #[.int .i64 0, .bool false]) (by simp [results, Tryz.results56]) rfl ⟨⟨0, false, rfl, HN.out⟩, Below.refl _ _⟩
          by_cases hd2 : 57 < (s[j]'hlt).toNat
          · have HN : Hid (NumTold s 0 false) := told_bad hlt (.inr hd2)
            have q1 : ¬ (((s[j]'hlt).toNat : Nat) : Int) < 48 := by omega
            have q2 : (57 : Int) < (((s[j]'hlt).toNat : Nat) : Int) := by omega
            go_wp2_with fail
            exact bodyPost_ret (v := .tuple #[.int .i64 0, .bool false]) (by simp [results, Tryz.results56]) rfl ⟨⟨0, false, rfl, HN.out⟩, Below.refl _ _⟩
          have q1 : ¬ (((s[j]'hlt).toNat : Nat) : Int) < 48 := by omega
          have q2 : ¬ (57 : Int) < (((s[j]'hlt).toNat : Nat) : Int) := by omega
          have HM2 : Hid (valN (s.data.toList.take (j + 1)) = 10 * m + ((s[j]'hlt).toNat - 48)) := by show _ = _; rw [valN_next hlt, HM.out]
          have hm2 : Hid (10 * m + ((s[j]'hlt).toNat - 48) < 10 ^ (j + 1)) := by show _ < _; rw [Nat.pow_succ]; omega
          go_wp2_with fail
          go_roundw
          case rel => exact ⟨j + 1, 10 * m + ((s[j]'hlt).toNat - 48), by omega, by go_num, by go_num, hm2.out, HM2.out, trivial⟩
          case measure => simp [intOf]; omega
        · have hje : j = s.size := by omega
          subst hje
          have HN : Hid (NumTold s (m : Int) true) := told_all HM.out
          go_wp2_with fail
          exact bodyPost_ret (v := .tuple #[.int .i64 m, .bool true]) (by simp [results, Tryz.results56]) rfl ⟨⟨m, true, rfl, HN.out⟩, Below.refl _ _⟩
  · have qz : ((((s[0]'h1).toNat : Nat) : Int) == 48) = false := by simp; omega
    go_wp2_with fail
    go_loopw [4, 5] (fun n i wr => ∃ (j m : Nat), j ≤ s.size ∧ i = .int .i64 j ∧ n = .int .i64 m ∧ m < 10 ^ j ∧ Hid (valN (s.data.toList.take j) = m) ∧ wr = w) (fun _ i _ => s.size - (intOf i).toNat)
    case atStart => exact ⟨0, 0, by omega, rfl, rfl, by simp, by show _ = _; simp [valN], rfl⟩
    case round =>
      obtain ⟨j, m, hj, rfl, rfl, hm, HM, rfl⟩ := hrel
      by_cases hlt : j < s.size
      · have hm9 : m < 10 ^ 9 := Nat.lt_of_lt_of_le hm (Nat.pow_le_pow_right (by omega) (by omega))
        have hb8 : (s[j]'hlt).toNat < 256 := UInt8.toNat_lt _
        by_cases hd : (s[j]'hlt).toNat < 48
        · have HN : Hid (NumTold s 0 false) := told_bad hlt (.inl hd)
          have q1 : (((s[j]'hlt).toNat : Nat) : Int) < 48 := by omega
          go_wp2_with fail
          exact bodyPost_ret (v := .tuple #[.int .i64 0, .bool false]) (by simp [results, Tryz.results56]) rfl ⟨⟨0, false, rfl, HN.out⟩, Below.refl _ _⟩
        by_cases hd2 : 57 < (s[j]'hlt).toNat
        · have HN : Hid (NumTold s 0 false) := told_bad hlt (.inr hd2)
          have q1 : ¬ (((s[j]'hlt).toNat : Nat) : Int) < 48 := by omega
          have q2 : (57 : Int) < (((s[j]'hlt).toNat : Nat) : Int) := by omega
          go_wp2_with fail
          exact bodyPost_ret (v := .tuple #[.int .i64 0, .bool false]) (by simp [results, Tryz.results56]) rfl ⟨⟨0, false, rfl, HN.out⟩, Below.refl _ _⟩
        have q1 : ¬ (((s[j]'hlt).toNat : Nat) : Int) < 48 := by omega
        have q2 : ¬ (57 : Int) < (((s[j]'hlt).toNat : Nat) : Int) := by omega
        have HM2 : Hid (valN (s.data.toList.take (j + 1)) = 10 * m + ((s[j]'hlt).toNat - 48)) := by show _ = _; rw [valN_next hlt, HM.out]
        have hm2 : Hid (10 * m + ((s[j]'hlt).toNat - 48) < 10 ^ (j + 1)) := by show _ < _; rw [Nat.pow_succ]; omega
        go_wp2_with fail
        go_roundw
        case rel => exact ⟨j + 1, 10 * m + ((s[j]'hlt).toNat - 48), by omega, by go_num, by go_num, hm2.out, HM2.out, trivial⟩
        case measure => simp [intOf]; omega
      · have hje : j = s.size := by omega
        subst hje
        have HN : Hid (NumTold s (m : Int) true) := told_all HM.out
        go_wp2_with fail
        exact bodyPost_ret (v := .tuple #[.int .i64 m, .bool true]) (by simp [results, Tryz.results56]) rfl ⟨⟨m, true, rfl, HN.out⟩, Below.refl _ _⟩
end Go.Proofs.YtjmoonbpfieifaaGreatDoor
namespace Go.Proofs.YtjmoonbpfieifaaGreatDoor
open Go.RowKit
set_option linter.unusedVariables false
set_option linter.unusedSimpArgs false

def lenR : Value → Nat
  | .slice _ n _ => n
  | _ => 0
def SplitTold (s word : ByteArray) (out : List Int) (ok : Bool) : Prop := ∀ j, ReadOk s j → ok = true ∧ word = opW j.op.toNat ∧ out = instN j
def SplitEnd (s : ByteArray) (base : Nat) (w : World) (e : Ending) : Prop := ∃ (word : ByteArray) (out : List Int) (u : Option Addr) (c : Nat) (ok : Bool), e = .returned (.tuple #[.string word, .slice u out.length c, .bool ok]) ∧ Row w base (.slice u out.length c) out ∧ out.length ≤ 20 ∧ (s = ⟨#[]⟩ → out = []) ∧ SplitTold s word out ok
def CutEnd (s one rest : ByteArray) (more : Bool) : Prop := pieces s = one :: (if more = true then pieces rest else []) ∧ rest.size ≤ 1048576 ∧ one.size ≤ 1048576
theorem cutS (s : ByteArray) (w : World) (hs : s.size ≤ 1048576) : ∃ (one rest : ByteArray) (more : Bool), (Calls Tryz.prog 55 #[.string s, .int .u8 32] w fun e w' => e = .returned (.tuple #[.string one, .string rest, .bool more]) ∧ Below w.heap.size w w') ∧ CutEnd s one rest more := by
  rcases Lib.indexB_cases s blank with hi | ⟨i, hi, _⟩
  · exact ⟨s, ⟨#[]⟩, false, cutS_no s w hs hi, pieces_miss hi, by show 0 ≤ _; omega, hs⟩
  · refine ⟨_, _, true, cutS_yes s i w hs hi, pieces_hit hi, ?_, ?_⟩
    · rw [ByteArray.size_extract]; omega
    · rw [ByteArray.size_extract]; omega
theorem cut_empty {s one rest : ByteArray} {more : Bool} (h : CutEnd s one rest more) : s = ⟨#[]⟩ → more = false := by
  rintro rfl
  cases more with
  | false => rfl
  | true =>
    have h1 := congrArg List.length h.1
    rw [if_pos rfl, pieces_len, List.length_cons, pieces_len] at h1
    have h2 := count_size ⟨#[]⟩
    have h3 : (⟨#[]⟩ : ByteArray).size = 0 := rfl
    omega
/-- What is left, of what is read. -/
def Left (s rest : ByteArray) (more : Bool) (out : List Int) : Prop := ∀ j, ReadOk s j → ∃ T : List Int, instN j = out ++ T ∧ (T.map fun n => bs (Lib.itoa n)) = (if more = true then pieces rest else [])
theorem left_start {s word rest : ByteArray} {more : Bool} (h : CutEnd s word rest more) : (∀ j, ReadOk s j → word = opW j.op.toNat) ∧ Left s rest more [] := by
  refine ⟨fun j hj => ?_, fun j hj => ?_⟩
  · exact (read_nums hj h.1).1
  · exact ⟨instN j, rfl, ((read_nums hj h.1).2.map).symm⟩
theorem left_next {s rest one rest2 : ByteArray} {more : Bool} {out : List Int} {n : Int} {ok : Bool} (h : Left s rest true out) (hc : CutEnd rest one rest2 more) (hn : NumTold one n ok) : (∀ j, ReadOk s j → ok = true) ∧ Left s rest2 more (out ++ [n]) := by
  have key : ∀ j, ReadOk s j → ok = true ∧ ∃ T : List Int, instN j = (out ++ [n]) ++ T ∧ (T.map fun n => bs (Lib.itoa n)) = (if more = true then pieces rest2 else []) := by
    intro j hj
    obtain ⟨T, e1, e2⟩ := h j hj
    rw [if_pos rfl, hc.1] at e2
    cases T with
    | nil => cases e2
    | cons t T =>
      rw [List.map_cons] at e2
      obtain ⟨e3, e4⟩ := List.cons.inj e2
      obtain ⟨k, e5, e6⟩ := instN_sm (instB_inF hj.1) t (by rw [e1]; simp)
      rw [e5, itoa_nat] at e3
      obtain ⟨h1, h2⟩ := hn k e6 e3.symm
      refine ⟨h1, T, ?_, e4⟩
      rw [e1, h2, e5]
      simp
  exact ⟨fun j hj => (key j hj).1, fun j hj => (key j hj).2⟩
theorem left_end {s rest : ByteArray} {out : List Int} (h : Left s rest false out) : ∀ j, ReadOk s j → out = instN j := by
  intro j hj
  obtain ⟨T, e1, e2⟩ := h j hj
  rw [if_neg (by simp)] at e2
  rw [List.map_eq_nil_iff.1 e2, List.append_nil] at e1
  exact e1.symm
theorem left_long {s rest : ByteArray} {more : Bool} {out : List Int} (h : Left s rest more out) (hl : 6 < out.length) : ∀ j, ¬ ReadOk s j := by
  intro j hj
  obtain ⟨T, e1, e2⟩ := h j hj
  have h1 := instN_len (instB_inF hj.1)
  rw [e1] at h1
  simp at h1
  omega
set_option maxHeartbeats 4000000 in
set_option maxRecDepth 100000 in
theorem splitS (s : ByteArray) (w : World) (hs : s.size ≤ 1048576) :
    Calls Tryz.prog 29 #[.string s] w fun e w' => SplitEnd s w.heap.size w' e ∧ Below w.heap.size w w' := by
  obtain ⟨word, rest, more, C, hC⟩ := cutS s w hs
  have HW : Hid (∀ j, ReadOk s j → word = opW j.op.toNat) := (left_start hC).1
  have HL : Hid (Left s rest more []) := (left_start hC).2
  have hrs : rest.size ≤ 1048576 := hC.2.1
  have HM : Hid (s = ⟨#[]⟩ → more = false ∧ True) := fun e => ⟨cut_empty hC e, trivial⟩
  clear hC
  go_enter Tryz.func29, Tryz.ntmps29
  go_wp2_with (go_at_call 55; refine C.mono ?_; rintro e w1 ⟨rfl, b1⟩)
  have HB1 : Hid (Below w.heap.size w w1) := b1
  have R1 : Hid (Row (w1.alloc (.cells #[] 2)) w.heap.size (.slice (some ⟨w1.heap.size, 0, none⟩) 0 0) []) := Row.lit w1 _ b1.size
  have B1 : Hid (Below w.heap.size w (w1.alloc (.cells #[] 2))) := b1.alloc b1.size _
  clear b1 C
  generalize (w1.alloc (.cells #[] 2)) = W1 at R1 B1 ⊢
  go_loopw [6, 7, 8] (fun rs mr st wr => ∃ (out : List Int) (rest : ByteArray) (more : Bool), Hid (Row wr w.heap.size st out) ∧ rs = .string rest ∧ mr = .bool more ∧ out.length ≤ 20 ∧ rest.size ≤ 1048576 ∧ Hid (Left s rest more out) ∧ Hid (s = ⟨#[]⟩ → more = false ∧ out = []) ∧ Hid (Below w.heap.size w wr)) (fun _ _ st _ => 21 - lenR st)
  case atStart => exact ⟨[], rest, more, R1.out, rfl, rfl, by simp, hrs, HL.out, fun e => ⟨(HM.out e).1, rfl⟩, B1.out⟩
  case round =>
    clear HL hrs R1 B1 HB1 HM
    obtain ⟨out, rest, more, HO, rfl, rfl, hl, hrs, HL, HM, HB⟩ := hrel
    obtain ⟨ta, tc, rfl⟩ := HO.out.slice
    cases more with
    | false =>
      have HT : Hid (SplitTold s word out true) := fun j hj => ⟨rfl, HW.out j hj, left_end HL.out j hj⟩
      go_wp2_with fail
      exact bodyPost_ret (v := .tuple #[.string word, .slice ta out.length tc, .bool true]) (by simp [results, Tryz.results29]) rfl ⟨⟨word, out, ta, tc, true, rfl, HO.out, hl, fun e => (HM.out e).2, HT.out⟩, HB.out⟩
    | true =>
      by_cases h20 : out.length < 20
      · obtain ⟨one, rest2, more2, C, hC⟩ := cutS rest wr hrs
        have hr2 : rest2.size ≤ 1048576 := hC.2.1
        have ho2 : one.size ≤ 1048576 := hC.2.2
        have HC : Hid (CutEnd rest one rest2 more2) := hC
        clear hC
        have q20 : (out.length : Int) < 20 := by omega
        go_wp2_with (go_at_call 55; refine C.mono ?_; rintro e w2 ⟨rfl, b2⟩; have HB2 : Hid (Below w.heap.size w w2) := HB.out.trans (b2.mono HB.out.size); have HO2 : Hid (Row w2 w.heap.size (.slice ta out.length tc) out) := HO.out.keep b2; clear b2)
        refine (numS one w2 ho2).mono ?_
        rintro e w3 ⟨⟨n, ok, rfl, hn⟩, b3⟩
        have HB3 : Hid (Below w.heap.size w w3) := HB2.out.trans (b3.mono HB2.out.size)
        have HO3 : Hid (Row w3 w.heap.size (.slice ta out.length tc) out) := HO2.out.keep b3
        have HN := left_next HL.out HC.out hn
        clear b3 hn HC HB2 HO2 HL C HB HO
        cases ok with
        | false =>
          have HT : Hid (SplitTold s word [] false) := fun j hj => absurd (HN.1 j hj) (by simp)
          clear HN
          go_wp2_with fail
          exact bodyPost_ret (v := .tuple #[.string word, .slice none 0 0, .bool false]) (by simp [results, Tryz.results29]) rfl ⟨⟨word, [], none, 0, false, rfl, Row.nil _ _, by simp, fun _ => rfl, HT.out⟩, HB3.out⟩
        | true =>
          have HL2 : Hid (Left s rest2 more2 (out ++ [n])) := HN.2
          clear HN
          go_wp2_with (at_builtin; refine push_at rfl _ _ rfl w.heap.size (.slice ta out.length tc) out rfl (HO3.out.alloc _) n _ 1 rfl (by exact one_cell_at (by simp)) (by omega) (by simp; have := HB3.out.size; omega) _ rfl ?_; intro g5 c5 w5 ho5 hg5 hat5 hlt5; have HO5 : Hid _ := ho5; have HB5 : Hid (Below w.heap.size w w5) := (HB3.out.alloc HB3.out.size _).grown hg5 (by simp; have := HB3.out.size; omega) (fun q hq => (HO3.out.ge hq).1); clear ho5 hg5 hat5)
          go_roundw
          case rel => exact ⟨out ++ [n], rest2, more2, HO5.out, rfl, rfl, by simp; omega, hr2, HL2.out, fun e => absurd (HM.out e).1 (by simp), HB5.out⟩
          case measure => simp [lenR]; omega
      · have HT : Hid (SplitTold s word out false) := fun j hj => absurd hj (left_long HL.out (by omega) j)
        have q20 : ¬ (out.length : Int) < 20 := by omega
        go_wp2_with fail
        exact bodyPost_ret (v := .tuple #[.string word, .slice ta out.length tc, .bool false]) (by simp [results, Tryz.results29]) rfl ⟨⟨word, out, ta, tc, false, rfl, HO.out, hl, fun e => (HM.out e).2, HT.out⟩, HB.out⟩
end Go.Proofs.YtjmoonbpfieifaaGreatDoor
namespace Go.Proofs.YtjmoonbpfieifaaGreatDoor
open Go.RowKit
set_option linter.unusedVariables false
set_option linter.unusedSimpArgs false

/-- The last of the first k ops whose word it is. -/
def lastOp (b : ByteArray) : Nat → Int
  | 0 => 0
  | k + 1 => if opW (k + 1) = b then ((k + 1 : Nat) : Int) else lastOp b k
theorem last_word {m : Nat} (h1 : 1 ≤ m) (h2 : m ≤ 27) : lastOp (opW m) 27 = m := by
  have : ∀ k : Fin 28, lastOp (opW k.1) 27 = (k.1 : Int) := by decide
  exact this ⟨m, by omega⟩
theorem last_rng (b : ByteArray) : ∀ k, 0 ≤ lastOp b k ∧ lastOp b k ≤ k
  | 0 => by simp [lastOp]
  | k + 1 => by
    have := last_rng b k
    unfold lastOp
    split <;> omega
/-- What the model makes of an op and numbers. -/
def modelD (op : Int) (n : List Int) : InstD :=
  if op = 26 then ⟨op, n.getD 0 0, 0, 0, 0, n.getD 1 0, n.drop 2⟩ else if op = 21 then ⟨op, n.getD 0 0, 0, 0, 0, n.getD 1 0, []⟩ else ⟨op, n.getD 0 0, n.getD 1 0, n.getD 2 0, n.getD 3 0, 0, []⟩
theorem model_of {op : Int} {n : List Int} {j : InstD} (h : ofNums op n = some j) : modelD op n = j := by
  cases n with
  | nil => cases h
  | cons x r =>
    cases hb : immB op with
    | true =>
      cases r with
      | nil => simp [ofNums, hb] at h
      | cons m r2 =>
        simp only [ofNums, hb, if_true] at h
        obtain ⟨e1, e2⟩ := fin_ops h
        by_cases h26 : op = 26
        · rw [e1]
          simp [modelD, mkD, h26]
        · have h21 : op = 21 := by
            unfold immB at hb
            simpa [h26] using hb
          rw [e1]
          rw [e1] at e2
          subst h21
          have e3 : r2 = [] := by
            rw [← e2]
            simp [opsD, mkD]
            decide
          subst e3
          simp [modelD, mkD]
    | false =>
      simp only [ofNums, hb, Bool.false_eq_true, if_false] at h
      obtain ⟨e1, e2⟩ := fin_ops h
      have h26 : ¬ op = 26 := by rintro rfl; simp [immB] at hb
      have h21 : ¬ op = 21 := by rintro rfl; simp [immB] at hb
      rw [e1]
      simp [modelD, mkD, h26, h21, List.getD]
theorem model_read {s word : ByteArray} {out : List Int} {ok : Bool} (h : SplitTold s word out ok) {j : InstD} (hj : ReadOk s j) : ok = true ∧ lastOp word 27 = j.op ∧ ¬ j.op = 0 ∧ ¬ out = [] ∧ modelD (lastOp word 27) out = j := by
  obtain ⟨h1, h2, h3⟩ := h j hj
  have hF := instB_inF hj.1
  have hp := read_pieces hj
  obtain ⟨_, hn⟩ := read_nums hj hp
  have ho := ((read_iff hp hn j).1 hj).1
  have hop : lastOp word 27 = j.op := by
    have := hF.op1
    have := hF.op27
    rw [h2, last_word (by omega) (by omega)]
    omega
  have hon : opNum (opW j.op.toNat) = j.op := by
    have := hF.op1
    have := hF.op27
    rw [opNum_word (by omega) (by omega)]
    omega
  rw [hon] at ho
  refine ⟨h1, hop, by have := hF.op1; omega, ?_, ?_⟩
  · rw [h3]; unfold instN; simp
  · rw [hop, h3]; exact model_of ho
theorem model_args (op : Int) (n : List Int) (h : n.length ≤ 20) : (modelD op n).args.length ≤ 20 := by
  unfold modelD
  split
  · simp; omega
  · split <;> simp
/-- Numbers in a block between lo and hi. -/
def IntsBt (w : World) (lo hi : Nat) (u : Option Addr) (l : List Int) : Prop := l = [] ∨ ∃ b, u = some ⟨b, 0, none⟩ ∧ lo ≤ b ∧ b < hi ∧ hi ≤ w.heap.size ∧ ∀ i, i < l.length → w.cell? ⟨b, i, none⟩ = some (.int .i64 (l.getD i 0))
theorem IntsBt.keep {w w' : World} {lo hi : Nat} {u : Option Addr} {l : List Int} (h : IntsBt w lo hi u l) (k : Below hi w w') : IntsBt w' lo hi u l := by
  rcases h with h | ⟨b, h1, h2, h3, h4, h5⟩
  · exact .inl h
  · exact .inr ⟨b, h1, h2, h3, Nat.le_trans h4 k.size, fun i hi => (cell_block (k.block b h3)).trans (h5 i hi)⟩
theorem IntsBt.set {w : World} {lo hi B o : Nat} {u : Option Addr} {l : List Int} {v : Value} (h : IntsBt w lo hi u l) (hB : hi ≤ B) : IntsBt (w.setCell ⟨B, o, none⟩ v) lo hi u l := h.keep ((Below.refl _ _).setCell hB _)
theorem IntsBt.of {w : World} {lo : Nat} {u : Option Addr} {n c : Nat} {l : List Int} (h : Row w lo (.slice u n c) l) : IntsBt w lo w.heap.size u l ∧ l.length ≤ c ∧ c ≤ 9223372036854775807 := by
  rcases h.2 with ⟨hv, hn⟩ | ⟨g, cap, cur, hv, hb, hg, hnc, hcm, hcs, htk⟩
  · simp only [Value.slice.injEq] at hv
    obtain ⟨_, _, rfl⟩ := hv
    exact ⟨.inl (List.length_eq_zero_iff.1 hn), by omega, by omega⟩
  · simp only [Value.slice.injEq] at hv
    obtain ⟨rfl, _, rfl⟩ := hv
    refine ⟨.inr ⟨g, rfl, hb, (Array.getElem?_eq_some_iff.1 hg).1, Nat.le_refl _, fun i hi => ?_⟩, hnc, by unfold maxLen at hcm; omega⟩
    rw [cell_of_heap hg]
    have e : (cur.toList.take (l.length * 1))[i]? = (l.map (Value.int .i64))[i]? := by rw [htk]
    rw [List.getElem?_take, if_pos (by omega)] at e
    simp [hi] at e
    simpa [List.getD, hi] using e
theorem IntsBt.ints {w : World} {lo hi : Nat} {u : Option Addr} {l : List Int} (h : IntsBt w lo hi u l) (hl : l.length ≤ 1048576) : IntsAt w lo u l := by
  refine ⟨by omega, ?_⟩
  rcases h with h | ⟨b, h1, h2, h3, h4, h5⟩
  · exact .inl h
  · exact .inr ⟨b, 0, h1, h2, by omega, fun i hi => by rw [Nat.zero_add]; exact h5 i hi⟩
theorem IntsBt.tail {w : World} {lo hi b : Nat} {l : List Int} (h : IntsBt w lo hi (some ⟨b, 0, none⟩) l) (hl : l.length ≤ 1048576) : IntsAt w lo (some ⟨b, 2, none⟩) (l.drop 2) := by
  refine ⟨by simp; omega, ?_⟩
  rcases h with h | ⟨b', h1, h2, h3, h4, h5⟩
  · exact .inl (by rw [h]; rfl)
  · cases h1
    refine .inr ⟨b, 2, rfl, h2, by omega, fun i hi => ?_⟩
    simp only [List.length_drop] at hi
    rw [h5 (2 + i) (by omega)]
    simp [List.getD]
set_option maxHeartbeats 1000000 in
theorem atS (lo hi : Nat) (u : Option Addr) (c : Nat) (l : List Int) (k : Nat) (w : World) (h : IntsBt w lo hi u l) (hl : l.length ≤ 1048576) (hk : k ≤ 3) :
    Calls Tryz.prog 31 #[.slice u l.length c, .int .i64 (k : Int)] w fun e w' => e = .returned (.int .i64 (l.getD k 0)) ∧ w' = w := by
  by_cases hlt : k < l.length
  · have q : (k : Int) < (l.length : Int) := by omega
    have q0 : (0 : Int) ≤ (k : Int) := by omega
    rcases h with h | ⟨b, rfl, h2, h3, h4, h5⟩
    · subst h
      cases hlt
    · have hc := h5 k hlt
      have hz : ((k : Int)).toNat = k := by omega
      clear h5
      generalize l.getD k 0 = z at hc ⊢
      go_enter Tryz.func31, Tryz.ntmps31
      go_wp2_with fail
      go_ret
      exact ⟨rfl, rfl⟩
  · have q : ¬ (k : Int) < (l.length : Int) := by omega
    have e : l.getD k 0 = 0 := by simp [List.getD, List.getElem?_eq_none (Nat.le_of_not_lt hlt)]
    rw [e]
    clear e
    go_enter Tryz.func31, Tryz.ntmps31
    go_wp2_with fail
    go_ret
    exact ⟨rfl, rfl⟩
end Go.Proofs.YtjmoonbpfieifaaGreatDoor
namespace Go.Proofs.YtjmoonbpfieifaaGreatDoor
open Go.RowKit
set_option linter.unusedVariables false
set_option linter.unusedSimpArgs false

def ReadToldS (s : ByteArray) (base : Nat) (w : World) (e : Ending) : Prop :=
  (∃ i u q, ReadOk s i ∧ e = .returned (.tuple #[.agg #[.int .i64 i.op, .int .i64 i.w, .int .i64 i.a, .int .i64 i.b, .int .i64 i.c, .int .i64 i.imm, .slice u i.args.length q], .bool true]) ∧ IntsAt w base u i.args) ∨ ((¬ ∃ i, ReadOk s i) ∧ e = .returned (.tuple #[.agg #[.int .i64 0, .int .i64 0, .int .i64 0, .int .i64 0, .int .i64 0, .int .i64 0, .slice none 0 0], .bool false]))
theorem ints_set {w : World} {lo R o : Nat} {u : Option Addr} {l : List Int} {v : Value} (h : IntsAt w lo u l) (hR : R < lo) : IntsAt (w.setCell ⟨R, o, none⟩ v) lo u l := by
  refine ⟨h.1, ?_⟩
  rcases h.2 with h | ⟨b, off, h1, h2, h3, h4⟩
  · exact .inl h
  · exact .inr ⟨b, off, h1, h2, by simpa using h3, fun i hi => (cell_block (Below.heap_setCell _ _ _ _ (by show b ≠ R; omega))).trans (h4 i hi)⟩
theorem text_ok {s : ByteArray} {d : InstD} (h : instText d = s) (hs : ¬ s = ⟨#[]⟩) : ReadOk s d := by
  unfold instText at h
  split at h
  · rename_i k
    exact ⟨k, h.symm⟩
  · exact absurd h.symm hs
theorem ok_text {s : ByteArray} {d : InstD} (h : ReadOk s d) : instText d = s := by
  unfold instText
  rw [if_pos h.1]
  exact h.2.symm
structure Mst (w wr : World) (G : Nat) (u : Option Addr) (n : List Int) (V : Array Value) : Prop where
  hG : w.heap.size < G
  r : At wr w.heap.size #[.int .i64 0, .int .i64 0, .int .i64 0, .int .i64 0, .int .i64 0, .int .i64 0, .slice none 0 0] 26
  wd : ∀ j, j < 28 → wr.cell? ⟨G, j, none⟩ = some (.string (opW j))
  b : At wr (G + 1) V 26
  row : IntsBt wr (w.heap.size + 1) G u n
  below : Below w.heap.size w wr
  size : G + 2 ≤ wr.heap.size
theorem Mst.keep {w wr w2 : World} {G : Nat} {u : Option Addr} {n : List Int} {V : Array Value} (h : Mst w wr G u n V) (k : Below wr.heap.size wr w2) : Mst w w2 G u n V := by
  have := h.size
  exact ⟨h.hG, h.r.below k, fun j hj => (cell_block (k.block G (by omega))).trans (h.wd j hj), h.b.below k, h.row.keep (k.mono (by omega)), h.below.trans (k.mono h.below.size), Nat.le_trans h.size k.size⟩
theorem Mst.set {w wr : World} {G : Nat} {u : Option Addr} {n : List Int} {V : Array Value} (h : Mst w wr G u n V) (o : Nat) (v : Value) : Mst w (wr.setCell ⟨G + 1, o, none⟩ v) G u n (V.setIfInBounds o v) := by
  have := h.hG
  exact ⟨h.hG, h.r.setOther (by omega), fun j hj => (cell_block (Below.heap_setCell _ _ _ _ (by show G ≠ G + 1; omega))).trans (h.wd j hj), heap_set (o := o) h.b, h.row.set (by omega), h.below.setCell (by show w.heap.size ≤ G + 1; omega) _, by simpa using h.size⟩
set_option maxHeartbeats 8000000 in
set_option maxRecDepth 100000 in
theorem readS (s : ByteArray) (w : World) (hs : s.size ≤ 1048576) :
    Calls Tryz.prog 12 #[.string s] w fun e w' => ReadToldS s w.heap.size w' e ∧ Below w.heap.size w w' := by
  have B1 : Below w.heap.size w (w.alloc (.cells #[.int .i64 0, .int .i64 0, .int .i64 0, .int .i64 0, .int .i64 0, .int .i64 0, .slice none 0 0] 26)) := (Below.refl _ _).alloc (Nat.le_refl _) _
  have HB1 : Hid (Below w.heap.size w _) := B1
  have HA1 : Hid (At _ w.heap.size #[.int .i64 0, .int .i64 0, .int .i64 0, .int .i64 0, .int .i64 0, .int .i64 0, .slice none 0 0] 26) := At.new w #[.int .i64 0, .int .i64 0, .int .i64 0, .int .i64 0, .int .i64 0, .int .i64 0, .slice none 0 0] 26
  have he1 : Hid ((w.alloc (.cells #[.int .i64 0, .int .i64 0, .int .i64 0, .int .i64 0, .int .i64 0, .int .i64 0, .slice none 0 0] 26)).heap.size = w.heap.size + 1) := by show _ = _; simp
  clear B1
  go_enter Tryz.func12, Tryz.ntmps12
  go_wp2_with fail
  generalize (w.alloc (.cells #[.int .i64 0, .int .i64 0, .int .i64 0, .int .i64 0, .int .i64 0, .int .i64 0, .slice none 0 0] 26)) = W1 at HB1 HA1 he1 ⊢
  refine (splitS s W1 hs).mono ?_
  rintro e w1 ⟨⟨word, n, u, c, ok, rfl, hR, hl, hem, hT⟩, b1⟩
  have HT : Hid (SplitTold s word n ok) := hT
  have HE : Hid (s = ⟨#[]⟩ → n = []) := hem
  have HB2 : Hid (Below w.heap.size w w1) := HB1.out.trans (b1.mono HB1.out.size)
  have HA2 : Hid (At w1 w.heap.size #[.int .i64 0, .int .i64 0, .int .i64 0, .int .i64 0, .int .i64 0, .int .i64 0, .slice none 0 0] 26) := HA1.out.below b1
  have hG : w.heap.size < w1.heap.size := by have := b1.size; have := he1.out; omega
  rw [he1.out] at hR
  obtain ⟨hI, hnc, hcm⟩ := IntsBt.of hR
  have HI : Hid (IntsBt w1 (w.heap.size + 1) w1.heap.size u n) := hI
  clear hT hem b1 HB1 HA1 he1 hR hI hs
  go_wp2_with fail
  obtain ⟨G, hGe⟩ : ∃ G, w1.heap.size = G := ⟨_, rfl⟩
  refine (opWordsS w1 G hGe).mono ?_
  rintro e w2 ⟨rfl, hwd, hz2, b2⟩
  rw [hGe] at hG HI
  have HI2 : Hid (IntsBt w2 (w.heap.size + 1) G u n) := HI.out.keep (by rw [← hGe]; exact b2)
  have HB3 : Hid (Below w.heap.size w w2) := HB2.out.trans (b2.mono HB2.out.size)
  have HA3 : Hid (At w2 w.heap.size #[.int .i64 0, .int .i64 0, .int .i64 0, .int .i64 0, .int .i64 0, .int .i64 0, .slice none 0 0] 26) := HA2.out.below b2
  have HWd : Hid (∀ j, j < 28 → w2.cell? ⟨G, j, none⟩ = some (.string (opW j))) := hwd
  have Hz2 : Hid (w2.heap.size = G + 1) := hz2
  clear b2 hwd HB2 HA2 HI hGe hz2
  have P0 := atS (w.heap.size + 1) G u c n 0 w2 HI2.out (by omega) (by omega)
  obtain ⟨x, hx⟩ : ∃ x, n.getD 0 0 = x := ⟨_, rfl⟩
  rw [hx] at P0
  have HX : Hid (n.getD 0 0 = x) := hx
  clear hx
  go_wp2_with fail
  refine P0.mono ?_
  rintro e w3 ⟨rfl, h9⟩
  have h8 := h9.symm
  clear h9
  subst h8
  clear P0
  have HM : Hid (Mst w (w2.alloc (.cells #[.int .i64 (0), .int .i64 x, .int .i64 0, .int .i64 0, .int .i64 0, .int .i64 0, .slice none 0 0] 26)) G u n #[.int .i64 (0), .int .i64 x, .int .i64 0, .int .i64 0, .int .i64 0, .int .i64 0, .slice none 0 0]) := by
    have e := Hz2.out
    have k : Below w2.heap.size w2 (w2.alloc (.cells #[.int .i64 (0), .int .i64 x, .int .i64 0, .int .i64 0, .int .i64 0, .int .i64 0, .slice none 0 0] 26)) := (Below.refl _ _).alloc (Nat.le_refl _) _
    refine ⟨hG, HA3.out.below k, fun j hj => (cell_block (k.block G (by omega))).trans (HWd.out j hj), ?_, HI2.out.keep (k.mono (by omega)), HB3.out.trans (k.mono HB3.out.size), by simp [e]⟩
    rw [← e]
    exact At.new _ _ _
  have hz2 := Hz2.out
  clear HI2 HB3 HA3 HWd Hz2
  go_wp2_with fail
  generalize (w2.alloc (.cells #[.int .i64 (0), .int .i64 x, .int .i64 0, .int .i64 0, .int .i64 0, .int .i64 0, .slice none 0 0] 26)) = W3 at HM ⊢
  clear hz2
  go_loopw [9] (fun i wr => ∃ k : Nat, k ≤ 27 ∧ i = .int .i64 ((k + 1 : Nat) : Int) ∧ Hid (Mst w wr G u n #[.int .i64 (lastOp word k), .int .i64 x, .int .i64 0, .int .i64 0, .int .i64 0, .int .i64 0, .slice none 0 0])) (fun i _ => 28 - (intOf i).toNat)
  case atStart => exact ⟨0, by omega, rfl, HM.out⟩
  case round =>
    clear HM
    obtain ⟨k, hk, rfl, HM⟩ := hrel
    by_cases hk27 : k < 27
    · have hk1 : ((k + 1 : Nat) : Int) < 28 := by omega
      have e1 : wr.cell? ⟨G, k + 1, none⟩ = some (.string (opW (k + 1))) := HM.out.wd (k + 1) (by omega)
      by_cases hx : opW (k + 1) = word
      · have HE1 : Hid (lastOp word (k + 1) = ((k + 1 : Nat) : Int)) := by show _ = _; rw [lastOp, if_pos hx]
        have HM2 : Hid (Mst w (wr.setCell ⟨G + 1, 0, none⟩ (.int .i64 ((k + 1 : Nat) : Int))) G u n #[.int .i64 (((k + 1 : Nat) : Int)), .int .i64 x, .int .i64 0, .int .i64 0, .int .i64 0, .int .i64 0, .slice none 0 0]) := HM.out.set 0 (.int .i64 ((k + 1 : Nat) : Int))
        have b0 : wr.cell? ⟨G + 1, 0, none⟩ = some (.int .i64 (lastOp word k)) := HM.out.b.cell 0
        have bf : ∀ o, wr.frozen? ⟨G + 1, o, none⟩ = false := fun o => froz_of_heap HM.out.b
        go_wp2_with fail
        go_roundw
        case rel => exact ⟨k + 1, by omega, by go_num, by rw [HE1.out]; exact HM2.out⟩
        case measure => simp [intOf]; omega
      · have HE1 : Hid (lastOp word (k + 1) = lastOp word k) := by show _ = _; rw [lastOp, if_neg hx]
        have hx2 := str_ne hx
        go_wp2_with fail
        go_roundw
        case rel => exact ⟨k + 1, by omega, by go_num, by rw [HE1.out]; exact HM.out⟩
        case measure => simp [intOf]; omega
    · have hk10 : k = 27 := by omega
      subst hk10
      have HRd : Hid (∀ j, ReadOk s j → ok = true ∧ lastOp word 27 = j.op ∧ ¬ j.op = 0 ∧ ¬ n = [] ∧ modelD (lastOp word 27) n = j) := fun j hj => model_read HT.out hj
      have hrg := last_rng word 27
      generalize lastOp word 27 = op at HM HRd hrg
      have hGG := HM.out.hG
      have b0 : wr.cell? ⟨G + 1, 0, none⟩ = some (.int .i64 op) := HM.out.b.cell 0
      have b1 : wr.cell? ⟨G + 1, 1, none⟩ = some (.int .i64 x) := HM.out.b.cell 1
      have b2 : wr.cell? ⟨G + 1, 2, none⟩ = some (.int .i64 0) := HM.out.b.cell 2
      have b3 : wr.cell? ⟨G + 1, 3, none⟩ = some (.int .i64 0) := HM.out.b.cell 3
      have b4 : wr.cell? ⟨G + 1, 4, none⟩ = some (.int .i64 0) := HM.out.b.cell 4
      have b5 : wr.cell? ⟨G + 1, 5, none⟩ = some (.int .i64 0) := HM.out.b.cell 5
      have b6 : wr.cell? ⟨G + 1, 6, none⟩ = some (.slice none 0 0) := HM.out.b.cell 6
      have z0 : wr.cell? ⟨w.heap.size, 0, none⟩ = some (.int .i64 0) := HM.out.r.cell 0
      have z1 : wr.cell? ⟨w.heap.size, 1, none⟩ = some (.int .i64 0) := HM.out.r.cell 1
      have z2 : wr.cell? ⟨w.heap.size, 2, none⟩ = some (.int .i64 0) := HM.out.r.cell 2
      have z3 : wr.cell? ⟨w.heap.size, 3, none⟩ = some (.int .i64 0) := HM.out.r.cell 3
      have z4 : wr.cell? ⟨w.heap.size, 4, none⟩ = some (.int .i64 0) := HM.out.r.cell 4
      have z5 : wr.cell? ⟨w.heap.size, 5, none⟩ = some (.int .i64 0) := HM.out.r.cell 5
      have z6 : wr.cell? ⟨w.heap.size, 6, none⟩ = some (.slice none 0 0) := HM.out.r.cell 6
      have bf : ∀ o, wr.frozen? ⟨G + 1, o, none⟩ = false := fun o => froz_of_heap HM.out.b
      have zf : ∀ o, wr.frozen? ⟨w.heap.size, o, none⟩ = false := fun o => froz_of_heap HM.out.r
      cases ok with
      | false =>
        have HNo : Hid (¬ ∃ i, ReadOk s i) := by
          rintro ⟨j, hj⟩
          obtain ⟨k1, k2, k3, k4, k5⟩ := HRd.out j hj
          exact absurd k1 (by simp)
        go_wp2_with fail
        have hrr := (heap_set (o := 6) (v := .slice none 0 0) (heap_set (o := 5) (v := .int .i64 0) (heap_set (o := 4) (v := .int .i64 0) (heap_set (o := 3) (v := .int .i64 0) (heap_set (o := 2) (v := .int .i64 0) (heap_set (o := 1) (v := .int .i64 0) (heap_set (o := 0) (v := .int .i64 0) HM.out.r)))))))
        refine bodyPost_ret (v := .tuple #[.agg #[.int .i64 0, .int .i64 0, .int .i64 0, .int .i64 0, .int .i64 0, .int .i64 0, .slice none 0 0], .bool false]) ((results_row_tmp Tryz.results12 _ _ w.heap.size _ rfl (run_loadVar_row _ _ 26 _ _ (0, 0) _ hrr Tryz.underlying26 rfl (by kernel_rfl))).trans (by rfl)) rfl ⟨.inr ⟨HNo.out, rfl⟩, ?_⟩
        exact (by repeat (first | refine Below.setCell ?_ (by dsimp only; omega) _ | exact HM.out.below))
      | true =>
        by_cases h0 : op = 0
        · have HNo : Hid (¬ ∃ i, ReadOk s i) := by
            rintro ⟨j, hj⟩
            obtain ⟨k1, k2, k3, k4, k5⟩ := HRd.out j hj
            exact k3 (k2.symm.trans h0)
          subst h0
          go_wp2_with fail
          have hrr := (heap_set (o := 6) (v := .slice none 0 0) (heap_set (o := 5) (v := .int .i64 0) (heap_set (o := 4) (v := .int .i64 0) (heap_set (o := 3) (v := .int .i64 0) (heap_set (o := 2) (v := .int .i64 0) (heap_set (o := 1) (v := .int .i64 0) (heap_set (o := 0) (v := .int .i64 0) HM.out.r)))))))
          refine bodyPost_ret (v := .tuple #[.agg #[.int .i64 0, .int .i64 0, .int .i64 0, .int .i64 0, .int .i64 0, .int .i64 0, .slice none 0 0], .bool false]) ((results_row_tmp Tryz.results12 _ _ w.heap.size _ rfl (run_loadVar_row _ _ 26 _ _ (0, 0) _ hrr Tryz.underlying26 rfl (by kernel_rfl))).trans (by rfl)) rfl ⟨.inr ⟨HNo.out, rfl⟩, ?_⟩
          exact (by repeat (first | refine Below.setCell ?_ (by dsimp only; omega) _ | exact HM.out.below))
        by_cases hn : n = []
        · have HNo : Hid (¬ ∃ i, ReadOk s i) := by
            rintro ⟨j, hj⟩
            obtain ⟨k1, k2, k3, k4, k5⟩ := HRd.out j hj
            exact k4 hn
          have hn2 : n.length = 0 := by rw [hn]; rfl
          have q0 : (op == 0) = false := by simpa using h0
          clear hn
          go_wp2_with fail
          have hrr := (heap_set (o := 6) (v := .slice none 0 0) (heap_set (o := 5) (v := .int .i64 0) (heap_set (o := 4) (v := .int .i64 0) (heap_set (o := 3) (v := .int .i64 0) (heap_set (o := 2) (v := .int .i64 0) (heap_set (o := 1) (v := .int .i64 0) (heap_set (o := 0) (v := .int .i64 0) HM.out.r)))))))
          refine bodyPost_ret (v := .tuple #[.agg #[.int .i64 0, .int .i64 0, .int .i64 0, .int .i64 0, .int .i64 0, .int .i64 0, .slice none 0 0], .bool false]) ((results_row_tmp Tryz.results12 _ _ w.heap.size _ rfl (run_loadVar_row _ _ 26 _ _ (0, 0) _ hrr Tryz.underlying26 rfl (by kernel_rfl))).trans (by rfl)) rfl ⟨.inr ⟨HNo.out, rfl⟩, ?_⟩
          exact (by repeat (first | refine Below.setCell ?_ (by dsimp only; omega) _ | exact HM.out.below))
        have q0 : (op == 0) = false := by simpa using h0
        have hnp : 0 < n.length := List.length_pos_iff.2 hn
        have qn : ((n.length : Int) == 0) = false := by simp; omega
        have HH0 : Hid (¬ op = 0) := h0
        clear h0
        by_cases h26 : op = 26
        · subst h26
          have P1 := atS (w.heap.size + 1) G u c n 1 wr HM.out.row (by omega) (by omega)
          obtain ⟨x1, hx1⟩ : ∃ x, n.getD 1 0 = x := ⟨_, rfl⟩
          rw [hx1] at P1
          have HX1 : Hid (n.getD 1 0 = x1) := hx1
          clear hx1
          go_wp2_with fail
          refine P1.mono ?_
          rintro e w5 ⟨rfl, h9⟩
          have h8 := h9.symm
          clear h9
          subst h8
          clear P1
          by_cases h2 : 2 < n.length
          · have q2 : (2 : Int) < (n.length : Int) := by omega
            obtain ⟨b, hu⟩ : ∃ b, u = some ⟨b, 0, none⟩ := by
              rcases HM.out.row with h | ⟨b, h, _⟩
              · exact absurd h hn
              · exact ⟨b, h⟩
            subst hu
            go_wp2_with fail
            have HQ : Hid (Mst w ((wr.setCell ⟨G + 1, 5, none⟩ (.int .i64 x1)).setCell ⟨G + 1, 6, none⟩ (.slice (some ⟨b, 2, none⟩) (n.length - 2) (c - 2))) G (some ⟨b, 0, none⟩) n #[.int .i64 26, .int .i64 x, .int .i64 0, .int .i64 0, .int .i64 0, .int .i64 x1, .slice (some ⟨b, 2, none⟩) (n.length - 2) (c - 2)]) := (HM.out.set 5 (.int .i64 x1)).set 6 (.slice (some ⟨b, 2, none⟩) (n.length - 2) (c - 2))
            have HIn : Hid (IntsAt ((wr.setCell ⟨G + 1, 5, none⟩ (.int .i64 x1)).setCell ⟨G + 1, 6, none⟩ (.slice (some ⟨b, 2, none⟩) (n.length - 2) (c - 2))) (w.heap.size + 1) (some ⟨b, 2, none⟩) (⟨26, x, 0, 0, 0, x1, n.drop 2⟩ : InstD).args) := HQ.out.row.tail (by omega)
            have HMd : Hid (modelD 26 n = (⟨26, x, 0, 0, 0, x1, n.drop 2⟩ : InstD)) := by show _ = _; unfold modelD; rw [if_pos rfl, HX.out, HX1.out]
            have hDl : (⟨26, x, 0, 0, 0, x1, n.drop 2⟩ : InstD).args.length ≤ 1048576 := by rw [← HMd.out]; exact Nat.le_trans (model_args _ _ hl) (by omega)
            have P := instTextS (w.heap.size + 1) (⟨26, x, 0, 0, 0, x1, n.drop 2⟩ : InstD) (some ⟨b, 2, none⟩) (c - 2) ((wr.setCell ⟨G + 1, 5, none⟩ (.int .i64 x1)).setCell ⟨G + 1, 6, none⟩ (.slice (some ⟨b, 2, none⟩) (n.length - 2) (c - 2))) hDl HIn.out
            dsimp only at P
            try rw [List.length_drop] at P
            clear b0 b1 b2 b3 b4 b5 b6 z0 z1 z2 z3 z4 z5 z6 bf zf
            generalize ((wr.setCell ⟨G + 1, 5, none⟩ (.int .i64 x1)).setCell ⟨G + 1, 6, none⟩ (.slice (some ⟨b, 2, none⟩) (n.length - 2) (c - 2))) = W6 at HQ HIn P ⊢
            obtain ⟨X, hX⟩ : ∃ X, instText (⟨26, x, 0, 0, 0, x1, n.drop 2⟩ : InstD) = X := ⟨_, rfl⟩
            rw [hX] at P
            refine P.mono ?_
            rintro e w7 ⟨rfl, b7⟩
            have HQ7 : Hid (Mst w w7 G (some ⟨b, 0, none⟩) n #[.int .i64 26, .int .i64 x, .int .i64 0, .int .i64 0, .int .i64 0, .int .i64 x1, .slice (some ⟨b, 2, none⟩) (n.length - 2) (c - 2)]) := HQ.out.keep b7
            have HIn7 : Hid (IntsAt w7 (w.heap.size + 1) (some ⟨b, 2, none⟩) (⟨26, x, 0, 0, 0, x1, n.drop 2⟩ : InstD).args) := HIn.out.keep (agree_of_below b7 _)
            clear P b7 HQ HIn
            have b0 : w7.cell? ⟨G + 1, 0, none⟩ = some (.int .i64 26) := HQ7.out.b.cell 0
            have b1 : w7.cell? ⟨G + 1, 1, none⟩ = some (.int .i64 x) := HQ7.out.b.cell 1
            have b2 : w7.cell? ⟨G + 1, 2, none⟩ = some (.int .i64 0) := HQ7.out.b.cell 2
            have b3 : w7.cell? ⟨G + 1, 3, none⟩ = some (.int .i64 0) := HQ7.out.b.cell 3
            have b4 : w7.cell? ⟨G + 1, 4, none⟩ = some (.int .i64 0) := HQ7.out.b.cell 4
            have b5 : w7.cell? ⟨G + 1, 5, none⟩ = some (.int .i64 x1) := HQ7.out.b.cell 5
            have b6 : w7.cell? ⟨G + 1, 6, none⟩ = some (.slice (some ⟨b, 2, none⟩) (n.length - 2) (c - 2)) := HQ7.out.b.cell 6
            have z0 : w7.cell? ⟨w.heap.size, 0, none⟩ = some (.int .i64 0) := HQ7.out.r.cell 0
            have z1 : w7.cell? ⟨w.heap.size, 1, none⟩ = some (.int .i64 0) := HQ7.out.r.cell 1
            have z2 : w7.cell? ⟨w.heap.size, 2, none⟩ = some (.int .i64 0) := HQ7.out.r.cell 2
            have z3 : w7.cell? ⟨w.heap.size, 3, none⟩ = some (.int .i64 0) := HQ7.out.r.cell 3
            have z4 : w7.cell? ⟨w.heap.size, 4, none⟩ = some (.int .i64 0) := HQ7.out.r.cell 4
            have z5 : w7.cell? ⟨w.heap.size, 5, none⟩ = some (.int .i64 0) := HQ7.out.r.cell 5
            have z6 : w7.cell? ⟨w.heap.size, 6, none⟩ = some (.slice none 0 0) := HQ7.out.r.cell 6
            have bf : ∀ o, w7.frozen? ⟨G + 1, o, none⟩ = false := fun o => froz_of_heap HQ7.out.b
            have zf : ∀ o, w7.frozen? ⟨w.heap.size, o, none⟩ = false := fun o => froz_of_heap HQ7.out.r
            have hGG := HQ7.out.hG
            by_cases hXs : X = s
            · have HYes : Hid (ReadOk s (⟨26, x, 0, 0, 0, x1, n.drop 2⟩ : InstD)) := text_ok (hX.trans hXs) (fun e => hn (HE.out e))
              subst hXs
              clear hX
              have hDn : (⟨26, x, 0, 0, 0, x1, n.drop 2⟩ : InstD).args.length = _ := rfl
              clear hDn
              go_wp2_with fail
              have hrr := (heap_set (o := 6) (v := .slice (some ⟨b, 2, none⟩) (n.length - 2) (c - 2)) (heap_set (o := 5) (v := .int .i64 x1) (heap_set (o := 4) (v := .int .i64 0) (heap_set (o := 3) (v := .int .i64 0) (heap_set (o := 2) (v := .int .i64 0) (heap_set (o := 1) (v := .int .i64 x) (heap_set (o := 0) (v := .int .i64 26) HQ7.out.r)))))))
              refine bodyPost_ret (v := .tuple #[.agg #[.int .i64 26, .int .i64 x, .int .i64 0, .int .i64 0, .int .i64 0, .int .i64 x1, .slice (some ⟨b, 2, none⟩) (n.length - 2) (c - 2)], .bool true]) ((results_row_tmp Tryz.results12 _ _ w.heap.size _ rfl (run_loadVar_row _ _ 26 _ _ (0, 0) _ hrr Tryz.underlying26 rfl (by kernel_rfl))).trans (by rfl)) rfl ⟨.inl ⟨(⟨26, x, 0, 0, 0, x1, n.drop 2⟩ : InstD), (some ⟨b, 2, none⟩), c - 2, HYes.out, by simp [List.length_drop], (ints_set (ints_set (ints_set (ints_set (ints_set (ints_set (ints_set (HIn7.out) (by omega)) (by omega)) (by omega)) (by omega)) (by omega)) (by omega)) (by omega)).low (by omega)⟩, ?_⟩
              exact (by repeat (first | refine Below.setCell ?_ (by dsimp only; omega) _ | exact HQ7.out.below))
            · have hXn := str_ne hXs
              have HNo : Hid (¬ ∃ i, ReadOk s i) := by
                rintro ⟨j, hj⟩
                obtain ⟨k1, k2, k3, k4, k5⟩ := HRd.out j hj
                rw [HMd.out] at k5
                subst k5
                exact hXs (hX.symm.trans (ok_text hj))
              clear hX hXs
              go_wp2_with fail
              have hrr := (heap_set (o := 6) (v := .slice none 0 0) (heap_set (o := 5) (v := .int .i64 0) (heap_set (o := 4) (v := .int .i64 0) (heap_set (o := 3) (v := .int .i64 0) (heap_set (o := 2) (v := .int .i64 0) (heap_set (o := 1) (v := .int .i64 0) (heap_set (o := 0) (v := .int .i64 0) HQ7.out.r)))))))
              refine bodyPost_ret (v := .tuple #[.agg #[.int .i64 0, .int .i64 0, .int .i64 0, .int .i64 0, .int .i64 0, .int .i64 0, .slice none 0 0], .bool false]) ((results_row_tmp Tryz.results12 _ _ w.heap.size _ rfl (run_loadVar_row _ _ 26 _ _ (0, 0) _ hrr Tryz.underlying26 rfl (by kernel_rfl))).trans (by rfl)) rfl ⟨.inr ⟨HNo.out, rfl⟩, ?_⟩
              exact (by repeat (first | refine Below.setCell ?_ (by dsimp only; omega) _ | exact HQ7.out.below))
          · have q2 : ¬ (2 : Int) < (n.length : Int) := by omega
            go_wp2_with fail
            have HQ : Hid (Mst w (wr.setCell ⟨G + 1, 5, none⟩ (.int .i64 x1)) G u n #[.int .i64 26, .int .i64 x, .int .i64 0, .int .i64 0, .int .i64 0, .int .i64 x1, .slice none 0 0]) := HM.out.set 5 (.int .i64 x1)
            have HIn : Hid (IntsAt (wr.setCell ⟨G + 1, 5, none⟩ (.int .i64 x1)) (w.heap.size + 1) none (⟨26, x, 0, 0, 0, x1, []⟩ : InstD).args) := ⟨by simp, .inl rfl⟩
            have HMd : Hid (modelD 26 n = (⟨26, x, 0, 0, 0, x1, []⟩ : InstD)) := by show _ = _; unfold modelD; rw [if_pos rfl, HX.out, HX1.out, List.drop_eq_nil_of_le (by omega)]
            have hDl : (⟨26, x, 0, 0, 0, x1, []⟩ : InstD).args.length ≤ 1048576 := by rw [← HMd.out]; exact Nat.le_trans (model_args _ _ hl) (by omega)
            have P := instTextS (w.heap.size + 1) (⟨26, x, 0, 0, 0, x1, []⟩ : InstD) none (0) (wr.setCell ⟨G + 1, 5, none⟩ (.int .i64 x1)) hDl HIn.out
            dsimp only at P
            try rw [List.length_drop] at P
            clear b0 b1 b2 b3 b4 b5 b6 z0 z1 z2 z3 z4 z5 z6 bf zf
            generalize (wr.setCell ⟨G + 1, 5, none⟩ (.int .i64 x1)) = W6 at HQ HIn P ⊢
            obtain ⟨X, hX⟩ : ∃ X, instText (⟨26, x, 0, 0, 0, x1, []⟩ : InstD) = X := ⟨_, rfl⟩
            rw [hX] at P
            refine P.mono ?_
            rintro e w7 ⟨rfl, b7⟩
            have HQ7 : Hid (Mst w w7 G u n #[.int .i64 26, .int .i64 x, .int .i64 0, .int .i64 0, .int .i64 0, .int .i64 x1, .slice none 0 0]) := HQ.out.keep b7
            have HIn7 : Hid (IntsAt w7 (w.heap.size + 1) none (⟨26, x, 0, 0, 0, x1, []⟩ : InstD).args) := HIn.out.keep (agree_of_below b7 _)
            clear P b7 HQ HIn
            have b0 : w7.cell? ⟨G + 1, 0, none⟩ = some (.int .i64 26) := HQ7.out.b.cell 0
            have b1 : w7.cell? ⟨G + 1, 1, none⟩ = some (.int .i64 x) := HQ7.out.b.cell 1
            have b2 : w7.cell? ⟨G + 1, 2, none⟩ = some (.int .i64 0) := HQ7.out.b.cell 2
            have b3 : w7.cell? ⟨G + 1, 3, none⟩ = some (.int .i64 0) := HQ7.out.b.cell 3
            have b4 : w7.cell? ⟨G + 1, 4, none⟩ = some (.int .i64 0) := HQ7.out.b.cell 4
            have b5 : w7.cell? ⟨G + 1, 5, none⟩ = some (.int .i64 x1) := HQ7.out.b.cell 5
            have b6 : w7.cell? ⟨G + 1, 6, none⟩ = some (.slice none 0 0) := HQ7.out.b.cell 6
            have z0 : w7.cell? ⟨w.heap.size, 0, none⟩ = some (.int .i64 0) := HQ7.out.r.cell 0
            have z1 : w7.cell? ⟨w.heap.size, 1, none⟩ = some (.int .i64 0) := HQ7.out.r.cell 1
            have z2 : w7.cell? ⟨w.heap.size, 2, none⟩ = some (.int .i64 0) := HQ7.out.r.cell 2
            have z3 : w7.cell? ⟨w.heap.size, 3, none⟩ = some (.int .i64 0) := HQ7.out.r.cell 3
            have z4 : w7.cell? ⟨w.heap.size, 4, none⟩ = some (.int .i64 0) := HQ7.out.r.cell 4
            have z5 : w7.cell? ⟨w.heap.size, 5, none⟩ = some (.int .i64 0) := HQ7.out.r.cell 5
            have z6 : w7.cell? ⟨w.heap.size, 6, none⟩ = some (.slice none 0 0) := HQ7.out.r.cell 6
            have bf : ∀ o, w7.frozen? ⟨G + 1, o, none⟩ = false := fun o => froz_of_heap HQ7.out.b
            have zf : ∀ o, w7.frozen? ⟨w.heap.size, o, none⟩ = false := fun o => froz_of_heap HQ7.out.r
            have hGG := HQ7.out.hG
            by_cases hXs : X = s
            · have HYes : Hid (ReadOk s (⟨26, x, 0, 0, 0, x1, []⟩ : InstD)) := text_ok (hX.trans hXs) (fun e => hn (HE.out e))
              subst hXs
              clear hX
              have hDn : (⟨26, x, 0, 0, 0, x1, []⟩ : InstD).args.length = _ := rfl
              clear hDn
              go_wp2_with fail
              have hrr := (heap_set (o := 6) (v := .slice none 0 0) (heap_set (o := 5) (v := .int .i64 x1) (heap_set (o := 4) (v := .int .i64 0) (heap_set (o := 3) (v := .int .i64 0) (heap_set (o := 2) (v := .int .i64 0) (heap_set (o := 1) (v := .int .i64 x) (heap_set (o := 0) (v := .int .i64 26) HQ7.out.r)))))))
              refine bodyPost_ret (v := .tuple #[.agg #[.int .i64 26, .int .i64 x, .int .i64 0, .int .i64 0, .int .i64 0, .int .i64 x1, .slice none 0 0], .bool true]) ((results_row_tmp Tryz.results12 _ _ w.heap.size _ rfl (run_loadVar_row _ _ 26 _ _ (0, 0) _ hrr Tryz.underlying26 rfl (by kernel_rfl))).trans (by rfl)) rfl ⟨.inl ⟨(⟨26, x, 0, 0, 0, x1, []⟩ : InstD), none, 0, HYes.out, rfl, (ints_set (ints_set (ints_set (ints_set (ints_set (ints_set (ints_set (HIn7.out) (by omega)) (by omega)) (by omega)) (by omega)) (by omega)) (by omega)) (by omega)).low (by omega)⟩, ?_⟩
              exact (by repeat (first | refine Below.setCell ?_ (by dsimp only; omega) _ | exact HQ7.out.below))
            · have hXn := str_ne hXs
              have HNo : Hid (¬ ∃ i, ReadOk s i) := by
                rintro ⟨j, hj⟩
                obtain ⟨k1, k2, k3, k4, k5⟩ := HRd.out j hj
                rw [HMd.out] at k5
                subst k5
                exact hXs (hX.symm.trans (ok_text hj))
              clear hX hXs
              go_wp2_with fail
              have hrr := (heap_set (o := 6) (v := .slice none 0 0) (heap_set (o := 5) (v := .int .i64 0) (heap_set (o := 4) (v := .int .i64 0) (heap_set (o := 3) (v := .int .i64 0) (heap_set (o := 2) (v := .int .i64 0) (heap_set (o := 1) (v := .int .i64 0) (heap_set (o := 0) (v := .int .i64 0) HQ7.out.r)))))))
              refine bodyPost_ret (v := .tuple #[.agg #[.int .i64 0, .int .i64 0, .int .i64 0, .int .i64 0, .int .i64 0, .int .i64 0, .slice none 0 0], .bool false]) ((results_row_tmp Tryz.results12 _ _ w.heap.size _ rfl (run_loadVar_row _ _ 26 _ _ (0, 0) _ hrr Tryz.underlying26 rfl (by kernel_rfl))).trans (by rfl)) rfl ⟨.inr ⟨HNo.out, rfl⟩, ?_⟩
              exact (by repeat (first | refine Below.setCell ?_ (by dsimp only; omega) _ | exact HQ7.out.below))
        have q26 : (op == 26) = false := by simpa using h26
        have HH26 : Hid (¬ op = 26) := h26
        clear h26
        by_cases h21 : op = 21
        · subst h21
          have P1 := atS (w.heap.size + 1) G u c n 1 wr HM.out.row (by omega) (by omega)
          obtain ⟨x1, hx1⟩ : ∃ x, n.getD 1 0 = x := ⟨_, rfl⟩
          rw [hx1] at P1
          have HX1 : Hid (n.getD 1 0 = x1) := hx1
          clear hx1
          go_wp2_with fail
          refine P1.mono ?_
          rintro e w5 ⟨rfl, h9⟩
          have h8 := h9.symm
          clear h9
          subst h8
          clear P1
          go_wp2_with fail
          have HQ : Hid (Mst w (wr.setCell ⟨G + 1, 5, none⟩ (.int .i64 x1)) G u n #[.int .i64 21, .int .i64 x, .int .i64 0, .int .i64 0, .int .i64 0, .int .i64 x1, .slice none 0 0]) := HM.out.set 5 (.int .i64 x1)
          have HIn : Hid (IntsAt (wr.setCell ⟨G + 1, 5, none⟩ (.int .i64 x1)) (w.heap.size + 1) none (⟨21, x, 0, 0, 0, x1, []⟩ : InstD).args) := ⟨by simp, .inl rfl⟩
          have HMd : Hid (modelD 21 n = (⟨21, x, 0, 0, 0, x1, []⟩ : InstD)) := by show _ = _; unfold modelD; rw [if_neg (by decide), if_pos rfl, HX.out, HX1.out]
          have hDl : (⟨21, x, 0, 0, 0, x1, []⟩ : InstD).args.length ≤ 1048576 := by rw [← HMd.out]; exact Nat.le_trans (model_args _ _ hl) (by omega)
          have P := instTextS (w.heap.size + 1) (⟨21, x, 0, 0, 0, x1, []⟩ : InstD) none (0) (wr.setCell ⟨G + 1, 5, none⟩ (.int .i64 x1)) hDl HIn.out
          dsimp only at P
          try rw [List.length_drop] at P
          clear b0 b1 b2 b3 b4 b5 b6 z0 z1 z2 z3 z4 z5 z6 bf zf
          generalize (wr.setCell ⟨G + 1, 5, none⟩ (.int .i64 x1)) = W6 at HQ HIn P ⊢
          obtain ⟨X, hX⟩ : ∃ X, instText (⟨21, x, 0, 0, 0, x1, []⟩ : InstD) = X := ⟨_, rfl⟩
          rw [hX] at P
          refine P.mono ?_
          rintro e w7 ⟨rfl, b7⟩
          have HQ7 : Hid (Mst w w7 G u n #[.int .i64 21, .int .i64 x, .int .i64 0, .int .i64 0, .int .i64 0, .int .i64 x1, .slice none 0 0]) := HQ.out.keep b7
          have HIn7 : Hid (IntsAt w7 (w.heap.size + 1) none (⟨21, x, 0, 0, 0, x1, []⟩ : InstD).args) := HIn.out.keep (agree_of_below b7 _)
          clear P b7 HQ HIn
          have b0 : w7.cell? ⟨G + 1, 0, none⟩ = some (.int .i64 21) := HQ7.out.b.cell 0
          have b1 : w7.cell? ⟨G + 1, 1, none⟩ = some (.int .i64 x) := HQ7.out.b.cell 1
          have b2 : w7.cell? ⟨G + 1, 2, none⟩ = some (.int .i64 0) := HQ7.out.b.cell 2
          have b3 : w7.cell? ⟨G + 1, 3, none⟩ = some (.int .i64 0) := HQ7.out.b.cell 3
          have b4 : w7.cell? ⟨G + 1, 4, none⟩ = some (.int .i64 0) := HQ7.out.b.cell 4
          have b5 : w7.cell? ⟨G + 1, 5, none⟩ = some (.int .i64 x1) := HQ7.out.b.cell 5
          have b6 : w7.cell? ⟨G + 1, 6, none⟩ = some (.slice none 0 0) := HQ7.out.b.cell 6
          have z0 : w7.cell? ⟨w.heap.size, 0, none⟩ = some (.int .i64 0) := HQ7.out.r.cell 0
          have z1 : w7.cell? ⟨w.heap.size, 1, none⟩ = some (.int .i64 0) := HQ7.out.r.cell 1
          have z2 : w7.cell? ⟨w.heap.size, 2, none⟩ = some (.int .i64 0) := HQ7.out.r.cell 2
          have z3 : w7.cell? ⟨w.heap.size, 3, none⟩ = some (.int .i64 0) := HQ7.out.r.cell 3
          have z4 : w7.cell? ⟨w.heap.size, 4, none⟩ = some (.int .i64 0) := HQ7.out.r.cell 4
          have z5 : w7.cell? ⟨w.heap.size, 5, none⟩ = some (.int .i64 0) := HQ7.out.r.cell 5
          have z6 : w7.cell? ⟨w.heap.size, 6, none⟩ = some (.slice none 0 0) := HQ7.out.r.cell 6
          have bf : ∀ o, w7.frozen? ⟨G + 1, o, none⟩ = false := fun o => froz_of_heap HQ7.out.b
          have zf : ∀ o, w7.frozen? ⟨w.heap.size, o, none⟩ = false := fun o => froz_of_heap HQ7.out.r
          have hGG := HQ7.out.hG
          by_cases hXs : X = s
          · have HYes : Hid (ReadOk s (⟨21, x, 0, 0, 0, x1, []⟩ : InstD)) := text_ok (hX.trans hXs) (fun e => hn (HE.out e))
            subst hXs
            clear hX
            have hDn : (⟨21, x, 0, 0, 0, x1, []⟩ : InstD).args.length = _ := rfl
            clear hDn
            go_wp2_with fail
            have hrr := (heap_set (o := 6) (v := .slice none 0 0) (heap_set (o := 5) (v := .int .i64 x1) (heap_set (o := 4) (v := .int .i64 0) (heap_set (o := 3) (v := .int .i64 0) (heap_set (o := 2) (v := .int .i64 0) (heap_set (o := 1) (v := .int .i64 x) (heap_set (o := 0) (v := .int .i64 21) HQ7.out.r)))))))
            refine bodyPost_ret (v := .tuple #[.agg #[.int .i64 21, .int .i64 x, .int .i64 0, .int .i64 0, .int .i64 0, .int .i64 x1, .slice none 0 0], .bool true]) ((results_row_tmp Tryz.results12 _ _ w.heap.size _ rfl (run_loadVar_row _ _ 26 _ _ (0, 0) _ hrr Tryz.underlying26 rfl (by kernel_rfl))).trans (by rfl)) rfl ⟨.inl ⟨(⟨21, x, 0, 0, 0, x1, []⟩ : InstD), none, 0, HYes.out, rfl, (ints_set (ints_set (ints_set (ints_set (ints_set (ints_set (ints_set (HIn7.out) (by omega)) (by omega)) (by omega)) (by omega)) (by omega)) (by omega)) (by omega)).low (by omega)⟩, ?_⟩
            exact (by repeat (first | refine Below.setCell ?_ (by dsimp only; omega) _ | exact HQ7.out.below))
          · have hXn := str_ne hXs
            have HNo : Hid (¬ ∃ i, ReadOk s i) := by
              rintro ⟨j, hj⟩
              obtain ⟨k1, k2, k3, k4, k5⟩ := HRd.out j hj
              rw [HMd.out] at k5
              subst k5
              exact hXs (hX.symm.trans (ok_text hj))
            clear hX hXs
            go_wp2_with fail
            have hrr := (heap_set (o := 6) (v := .slice none 0 0) (heap_set (o := 5) (v := .int .i64 0) (heap_set (o := 4) (v := .int .i64 0) (heap_set (o := 3) (v := .int .i64 0) (heap_set (o := 2) (v := .int .i64 0) (heap_set (o := 1) (v := .int .i64 0) (heap_set (o := 0) (v := .int .i64 0) HQ7.out.r)))))))
            refine bodyPost_ret (v := .tuple #[.agg #[.int .i64 0, .int .i64 0, .int .i64 0, .int .i64 0, .int .i64 0, .int .i64 0, .slice none 0 0], .bool false]) ((results_row_tmp Tryz.results12 _ _ w.heap.size _ rfl (run_loadVar_row _ _ 26 _ _ (0, 0) _ hrr Tryz.underlying26 rfl (by kernel_rfl))).trans (by rfl)) rfl ⟨.inr ⟨HNo.out, rfl⟩, ?_⟩
            exact (by repeat (first | refine Below.setCell ?_ (by dsimp only; omega) _ | exact HQ7.out.below))
        have q21 : (op == 21) = false := by simpa using h21
        have HH21 : Hid (¬ op = 21) := h21
        clear h21
        have P1 := atS (w.heap.size + 1) G u c n 1 wr HM.out.row (by omega) (by omega)
        obtain ⟨x1, hx1⟩ : ∃ x, n.getD 1 0 = x := ⟨_, rfl⟩
        rw [hx1] at P1
        have HX1 : Hid (n.getD 1 0 = x1) := hx1
        clear hx1
        go_wp2_with fail
        refine P1.mono ?_
        rintro e w5 ⟨rfl, h9⟩
        have h8 := h9.symm
        clear h9
        subst h8
        clear P1
        have P2 := atS (w.heap.size + 1) G u c n 2 (wr.setCell ⟨G + 1, 2, none⟩ (.int .i64 x1)) (HM.out.set 2 (.int .i64 x1)).row (by omega) (by omega)
        obtain ⟨x2, hx2⟩ : ∃ x, n.getD 2 0 = x := ⟨_, rfl⟩
        rw [hx2] at P2
        have HX2 : Hid (n.getD 2 0 = x2) := hx2
        clear hx2
        go_wp2_with fail
        refine P2.mono ?_
        rintro e w5 ⟨rfl, h9⟩
        have h8 := h9.symm
        clear h9
        subst h8
        clear P2
        have P3 := atS (w.heap.size + 1) G u c n 3 ((wr.setCell ⟨G + 1, 2, none⟩ (.int .i64 x1)).setCell ⟨G + 1, 3, none⟩ (.int .i64 x2)) ((HM.out.set 2 (.int .i64 x1)).set 3 (.int .i64 x2)).row (by omega) (by omega)
        obtain ⟨x3, hx3⟩ : ∃ x, n.getD 3 0 = x := ⟨_, rfl⟩
        rw [hx3] at P3
        have HX3 : Hid (n.getD 3 0 = x3) := hx3
        clear hx3
        go_wp2_with fail
        refine P3.mono ?_
        rintro e w5 ⟨rfl, h9⟩
        have h8 := h9.symm
        clear h9
        subst h8
        clear P3
        go_wp2_with fail
        have HQ : Hid (Mst w (((wr.setCell ⟨G + 1, 2, none⟩ (.int .i64 x1)).setCell ⟨G + 1, 3, none⟩ (.int .i64 x2)).setCell ⟨G + 1, 4, none⟩ (.int .i64 x3)) G u n #[.int .i64 op, .int .i64 x, .int .i64 x1, .int .i64 x2, .int .i64 x3, .int .i64 0, .slice none 0 0]) := (((HM.out.set 2 (.int .i64 x1)).set 3 (.int .i64 x2)).set 4 (.int .i64 x3))
        have HIn : Hid (IntsAt (((wr.setCell ⟨G + 1, 2, none⟩ (.int .i64 x1)).setCell ⟨G + 1, 3, none⟩ (.int .i64 x2)).setCell ⟨G + 1, 4, none⟩ (.int .i64 x3)) (w.heap.size + 1) none (⟨op, x, x1, x2, x3, 0, []⟩ : InstD).args) := ⟨by simp, .inl rfl⟩
        have HMd : Hid (modelD op n = (⟨op, x, x1, x2, x3, 0, []⟩ : InstD)) := by show _ = _; unfold modelD; rw [if_neg HH26.out, if_neg HH21.out, HX.out, HX1.out, HX2.out, HX3.out]
        have hDl : (⟨op, x, x1, x2, x3, 0, []⟩ : InstD).args.length ≤ 1048576 := by rw [← HMd.out]; exact Nat.le_trans (model_args _ _ hl) (by omega)
        have P := instTextS (w.heap.size + 1) (⟨op, x, x1, x2, x3, 0, []⟩ : InstD) none (0) (((wr.setCell ⟨G + 1, 2, none⟩ (.int .i64 x1)).setCell ⟨G + 1, 3, none⟩ (.int .i64 x2)).setCell ⟨G + 1, 4, none⟩ (.int .i64 x3)) hDl HIn.out
        dsimp only at P
        try rw [List.length_drop] at P
        clear b0 b1 b2 b3 b4 b5 b6 z0 z1 z2 z3 z4 z5 z6 bf zf
        generalize (((wr.setCell ⟨G + 1, 2, none⟩ (.int .i64 x1)).setCell ⟨G + 1, 3, none⟩ (.int .i64 x2)).setCell ⟨G + 1, 4, none⟩ (.int .i64 x3)) = W6 at HQ HIn P ⊢
        obtain ⟨X, hX⟩ : ∃ X, instText (⟨op, x, x1, x2, x3, 0, []⟩ : InstD) = X := ⟨_, rfl⟩
        rw [hX] at P
        refine P.mono ?_
        rintro e w7 ⟨rfl, b7⟩
        have HQ7 : Hid (Mst w w7 G u n #[.int .i64 op, .int .i64 x, .int .i64 x1, .int .i64 x2, .int .i64 x3, .int .i64 0, .slice none 0 0]) := HQ.out.keep b7
        have HIn7 : Hid (IntsAt w7 (w.heap.size + 1) none (⟨op, x, x1, x2, x3, 0, []⟩ : InstD).args) := HIn.out.keep (agree_of_below b7 _)
        clear P b7 HQ HIn
        have b0 : w7.cell? ⟨G + 1, 0, none⟩ = some (.int .i64 op) := HQ7.out.b.cell 0
        have b1 : w7.cell? ⟨G + 1, 1, none⟩ = some (.int .i64 x) := HQ7.out.b.cell 1
        have b2 : w7.cell? ⟨G + 1, 2, none⟩ = some (.int .i64 x1) := HQ7.out.b.cell 2
        have b3 : w7.cell? ⟨G + 1, 3, none⟩ = some (.int .i64 x2) := HQ7.out.b.cell 3
        have b4 : w7.cell? ⟨G + 1, 4, none⟩ = some (.int .i64 x3) := HQ7.out.b.cell 4
        have b5 : w7.cell? ⟨G + 1, 5, none⟩ = some (.int .i64 0) := HQ7.out.b.cell 5
        have b6 : w7.cell? ⟨G + 1, 6, none⟩ = some (.slice none 0 0) := HQ7.out.b.cell 6
        have z0 : w7.cell? ⟨w.heap.size, 0, none⟩ = some (.int .i64 0) := HQ7.out.r.cell 0
        have z1 : w7.cell? ⟨w.heap.size, 1, none⟩ = some (.int .i64 0) := HQ7.out.r.cell 1
        have z2 : w7.cell? ⟨w.heap.size, 2, none⟩ = some (.int .i64 0) := HQ7.out.r.cell 2
        have z3 : w7.cell? ⟨w.heap.size, 3, none⟩ = some (.int .i64 0) := HQ7.out.r.cell 3
        have z4 : w7.cell? ⟨w.heap.size, 4, none⟩ = some (.int .i64 0) := HQ7.out.r.cell 4
        have z5 : w7.cell? ⟨w.heap.size, 5, none⟩ = some (.int .i64 0) := HQ7.out.r.cell 5
        have z6 : w7.cell? ⟨w.heap.size, 6, none⟩ = some (.slice none 0 0) := HQ7.out.r.cell 6
        have bf : ∀ o, w7.frozen? ⟨G + 1, o, none⟩ = false := fun o => froz_of_heap HQ7.out.b
        have zf : ∀ o, w7.frozen? ⟨w.heap.size, o, none⟩ = false := fun o => froz_of_heap HQ7.out.r
        have hGG := HQ7.out.hG
        by_cases hXs : X = s
        · have HYes : Hid (ReadOk s (⟨op, x, x1, x2, x3, 0, []⟩ : InstD)) := text_ok (hX.trans hXs) (fun e => hn (HE.out e))
          subst hXs
          clear hX
          have hDn : (⟨op, x, x1, x2, x3, 0, []⟩ : InstD).args.length = _ := rfl
          clear hDn
          go_wp2_with fail
          have hrr := (heap_set (o := 6) (v := .slice none 0 0) (heap_set (o := 5) (v := .int .i64 0) (heap_set (o := 4) (v := .int .i64 x3) (heap_set (o := 3) (v := .int .i64 x2) (heap_set (o := 2) (v := .int .i64 x1) (heap_set (o := 1) (v := .int .i64 x) (heap_set (o := 0) (v := .int .i64 op) HQ7.out.r)))))))
          refine bodyPost_ret (v := .tuple #[.agg #[.int .i64 op, .int .i64 x, .int .i64 x1, .int .i64 x2, .int .i64 x3, .int .i64 0, .slice none 0 0], .bool true]) ((results_row_tmp Tryz.results12 _ _ w.heap.size _ rfl (run_loadVar_row _ _ 26 _ _ (0, 0) _ hrr Tryz.underlying26 rfl (by kernel_rfl))).trans (by rfl)) rfl ⟨.inl ⟨(⟨op, x, x1, x2, x3, 0, []⟩ : InstD), none, 0, HYes.out, rfl, (ints_set (ints_set (ints_set (ints_set (ints_set (ints_set (ints_set (HIn7.out) (by omega)) (by omega)) (by omega)) (by omega)) (by omega)) (by omega)) (by omega)).low (by omega)⟩, ?_⟩
          exact (by repeat (first | refine Below.setCell ?_ (by dsimp only; omega) _ | exact HQ7.out.below))
        · have hXn := str_ne hXs
          have HNo : Hid (¬ ∃ i, ReadOk s i) := by
            rintro ⟨j, hj⟩
            obtain ⟨k1, k2, k3, k4, k5⟩ := HRd.out j hj
            rw [HMd.out] at k5
            subst k5
            exact hXs (hX.symm.trans (ok_text hj))
          clear hX hXs
          go_wp2_with fail
          have hrr := (heap_set (o := 6) (v := .slice none 0 0) (heap_set (o := 5) (v := .int .i64 0) (heap_set (o := 4) (v := .int .i64 0) (heap_set (o := 3) (v := .int .i64 0) (heap_set (o := 2) (v := .int .i64 0) (heap_set (o := 1) (v := .int .i64 0) (heap_set (o := 0) (v := .int .i64 0) HQ7.out.r)))))))
          refine bodyPost_ret (v := .tuple #[.agg #[.int .i64 0, .int .i64 0, .int .i64 0, .int .i64 0, .int .i64 0, .int .i64 0, .slice none 0 0], .bool false]) ((results_row_tmp Tryz.results12 _ _ w.heap.size _ rfl (run_loadVar_row _ _ 26 _ _ (0, 0) _ hrr Tryz.underlying26 rfl (by kernel_rfl))).trans (by rfl)) rfl ⟨.inr ⟨HNo.out, rfl⟩, ?_⟩
          exact (by repeat (first | refine Below.setCell ?_ (by dsimp only; omega) _ | exact HQ7.out.below))
end Go.Proofs.YtjmoonbpfieifaaGreatDoor
