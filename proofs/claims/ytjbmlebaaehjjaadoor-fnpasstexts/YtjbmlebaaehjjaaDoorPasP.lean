/- Lists of passes: what is joined is cut again, and back. -/
import Derived.Test.YtjbmlebaaehjjaaDoorPas6
import Derived.Lib.Join
namespace Go.Proofs.YtjbmlebaaehjjaaDoor
open Go.RowKit
set_option linter.unusedVariables false

theorem idx_byte (s : ByteArray) : Lib.indexB s comma = Lib.indexByte s.data.toList 44 := Lib.index_one _ 44
theorem join_more (x y : List UInt8) (r : List (List UInt8)) : Lib.join (x :: y :: r) [44] = x ++ 44 :: Lib.join (y :: r) [44] := by
  simp [Lib.join, List.intercalate, List.intersperse]
theorem idx_none : ∀ l : List UInt8, (44 : UInt8) ∉ l → Lib.indexByte l 44 = -1
  | [], _ => rfl
  | b :: l, h => by
    unfold Lib.indexByte
    rw [if_neg (by simp at h ⊢; exact fun e => h.1 e.symm), idx_none l (fun h' => h (by simp [h']))]
    rfl
theorem idx_at : ∀ x r : List UInt8, (44 : UInt8) ∉ x → Lib.indexByte (x ++ 44 :: r) 44 = (x.length : Int)
  | [], r, _ => by unfold Lib.indexByte; simp
  | b :: x, r, h => by
    have e := idx_at x r (fun h' => h (by simp [h']))
    show Lib.indexByte (b :: (x ++ 44 :: r)) 44 = _
    unfold Lib.indexByte
    rw [if_neg (by simp at h ⊢; exact fun e => h.1 e.symm), e, if_neg (by simp <;> omega)]
    simp
theorem ext_data (s : ByteArray) (i j : Nat) : (s.extract i j).data.toList = (s.data.toList.drop i).take (j - i) := by
  simp [ByteArray.data_extract, List.extract_eq_take_drop]
theorem ba_ext {a b : ByteArray} (h : a.data.toList = b.data.toList) : a = b := ByteArray.ext (Array.toList_inj.1 h)
theorem size_data (s : ByteArray) : s.size = s.data.toList.length := rfl
theorem pieces_join : ∀ ws : List ByteArray, ws ≠ [] → (∀ x ∈ ws, (44 : UInt8) ∉ x.data.toList) → ∀ s : ByteArray, s.data.toList = Lib.join (ws.map (·.data.toList)) [44] → pieces s = ws
  | [], h, _, _, _ => absurd rfl h
  | [x], _, hx, s, hs => by
    have e : s = x := ba_ext (by rw [hs]; exact Lib.join_one _ _)
    subst e
    exact pieces_miss (by rw [idx_byte]; exact idx_none _ (hx s (by simp)))
  | x :: y :: r, _, hx, s, hs => by
    have hs2 : s.data.toList = x.data.toList ++ 44 :: Lib.join ((y :: r).map (·.data.toList)) [44] := by rw [hs]; exact join_more _ _ _
    have hi : Lib.indexB s comma = (x.data.toList.length : Int) := by rw [idx_byte, hs2]; exact idx_at _ _ (hx x (by simp))
    rw [pieces_hit hi]
    congr 1
    · exact ba_ext (by rw [ext_data, hs2]; simp)
    · refine pieces_join (y :: r) (by simp) (fun z hz => hx z (by simp at hz ⊢; exact .inr hz)) _ ?_
      rw [ext_data, size_data s, hs2]
      simp
      rw [← List.drop_drop]
      simp
      exact List.take_of_length_le (by omega)
theorem join_pieces : ∀ (n : Nat) (s : ByteArray), s.size ≤ n → Lib.join ((pieces s).map (·.data.toList)) [44] = s.data.toList := by
  intro n
  induction n with
  | zero =>
    intro s hs
    have e : s = ⟨#[]⟩ := ba_ext (by rw [size_data] at hs; exact List.eq_nil_of_length_eq_zero (by omega))
    subst e
    rw [pieces_miss (by decide)]
    exact Lib.join_one _ _
  | succ n ih =>
    intro s hs
    by_cases h : Lib.indexB s comma = -1
    · rw [pieces_miss h]; exact Lib.join_one _ _
    · have hge := Lib.indexByte_ge s.data.toList 44
      rw [← idx_byte] at hge
      obtain ⟨i, hi⟩ : ∃ i : Nat, Lib.indexB s comma = i := ⟨(Lib.indexB s comma).toNat, by omega⟩
      obtain ⟨hat, _⟩ := Lib.indexByte_some ((idx_byte s).symm.trans hi)
      have hil := (List.getElem?_eq_some_iff.1 hat).1
      have hil2 := hil
      rw [← size_data] at hil2
      rw [pieces_hit hi]
      have hr := ih (s.extract (i + 1) s.size) (by rw [ByteArray.size_extract]; omega)
      have hne : pieces (s.extract (i + 1) s.size) ≠ [] := fun e => by
        have := pieces_len (s.extract (i + 1) s.size)
        rw [e] at this; simp at this
      obtain ⟨y, r, hyr⟩ := List.exists_cons_of_ne_nil hne
      rw [hyr] at hr ⊢
      show Lib.join ((s.extract 0 i).data.toList :: y.data.toList :: r.map (·.data.toList)) [44] = _
      rw [join_more]
      have hr2 : Lib.join (y.data.toList :: r.map (·.data.toList)) [44] = s.data.toList.drop (i + 1) := by
        rw [show (y.data.toList :: r.map (·.data.toList)) = (y :: r).map (·.data.toList) from rfl, hr, ext_data, List.take_of_length_le (by rw [List.length_drop, ← size_data]; omega)]
      rw [hr2, ext_data]
      have h44 : s.data.toList[i]'hil = 44 := by
        have := List.getElem?_eq_getElem hil
        rw [hat] at this
        exact (Option.some.inj this).symm
      rw [← h44, List.drop_zero, Nat.sub_zero, ← List.drop_eq_getElem_cons hil, List.take_append_drop]
theorem word_num {b : ByteArray} (h : passB (passNum b) = true) : word (passNum b) = b := by
  by_cases h0 : b = wd 0
  · subst h0; exact absurd h (by decide)
  by_cases h1 : b = wd 1
  · subst h1; decide
  by_cases h2 : b = wd 2
  · subst h2; decide
  by_cases h3 : b = wd 3
  · subst h3; decide
  by_cases h4 : b = wd 4
  · subst h4; decide
  by_cases h5 : b = wd 5
  · subst h5; decide
  by_cases h6 : b = wd 6
  · subst h6; decide
  by_cases h7 : b = wd 7
  · subst h7; decide
  by_cases h8 : b = wd 8
  · subst h8; decide
  by_cases h9 : b = wd 9
  · subst h9; decide
  have e : passNum b = 0 := by
    unfold passNum wordL
    simp only [numL]
    rw [if_neg (fun h => h0 h.symm), if_neg (fun h => h1 h.symm), if_neg (fun h => h2 h.symm), if_neg (fun h => h3 h.symm), if_neg (fun h => h4 h.symm), if_neg (fun h => h5 h.symm), if_neg (fun h => h6 h.symm), if_neg (fun h => h7 h.symm), if_neg (fun h => h8 h.symm), if_neg (fun h => h9 h.symm)]
  rw [e] at h
  exact absurd h (by decide)
theorem num_word {p : Int} (h : passB p = true) : passNum (word p) = p ∧ (44 : UInt8) ∉ (word p).data.toList := by
  simp only [passB, Bool.and_eq_true, decide_eq_true_eq] at h
  obtain ⟨n, rfl⟩ : ∃ n : Nat, p = n := ⟨p.toNat, by omega⟩
  have hn : n < 10 := by omega
  have h1 : 1 ≤ n := by omega
  have : ∀ k : Fin 10, 1 ≤ k.1 → passNum (word (k.1 : Int)) = (k.1 : Int) ∧ (44 : UInt8) ∉ (word (k.1 : Int)).data.toList := by decide
  exact this ⟨n, hn⟩ h1
theorem text_back {l : List Int} (h : textOf l ≠ ⟨#[]⟩) : passesD (textOf l) = some l := by
  unfold textOf at h ⊢
  by_cases hok : okL l = true
  · rw [if_pos hok] at h ⊢
    have hne : l ≠ [] := fun e => by subst e; exact h rfl
    have hp : ∀ p ∈ l, passB p = true := fun p hp => by
      unfold okL at hok
      simp only [Bool.and_eq_true] at hok
      exact List.all_eq_true.1 hok.2 p hp
    have hpc := pieces_join (l.map word) (by simpa using hne) (fun x hx => by
      obtain ⟨p, hpl, rfl⟩ := List.mem_map.1 hx
      exact (num_word (hp p hpl)).2) ⟨(Lib.join ((l.map word).map (·.data.toList)) [44]).toArray⟩ (by simp)
    have hm : (pieces ⟨(Lib.join ((l.map word).map (·.data.toList)) [44]).toArray⟩).map passNum = l := by
      rw [hpc, List.map_map]
      conv => rhs; rw [← List.map_id l]
      exact List.map_congr_left fun p hpl => (num_word (hp p hpl)).1
    unfold passesD
    rw [if_neg h, hm, if_pos hok]
  · rw [if_neg hok] at h; exact absurd rfl h
theorem back_text {s : ByteArray} {l : List Int} (h : passesD s = some l) : textOf l = s := by
  unfold passesD at h
  by_cases h0 : s = ⟨#[]⟩
  · rw [if_pos h0] at h
    obtain rfl := Option.some.inj h
    rw [h0]; rfl
  · rw [if_neg h0] at h
    by_cases hok : okL ((pieces s).map passNum) = true
    · rw [if_pos hok] at h
      obtain rfl := Option.some.inj h
      unfold textOf
      rw [if_pos hok]
      have hp : ∀ b ∈ pieces s, word (passNum b) = b := fun b hb => by
        unfold okL at hok
        simp only [Bool.and_eq_true] at hok
        exact word_num (List.all_eq_true.1 hok.2 _ (List.mem_map_of_mem hb))
      have hm : ((pieces s).map passNum).map word = pieces s := by
        rw [List.map_map]
        conv => rhs; rw [← List.map_id (pieces s)]
        exact List.map_congr_left fun b hb => hp b hb
      rw [hm, join_pieces s.size s (Nat.le_refl _)]
    · rw [if_neg hok] at h; cases h
end Go.Proofs.YtjbmlebaaehjjaaDoor
