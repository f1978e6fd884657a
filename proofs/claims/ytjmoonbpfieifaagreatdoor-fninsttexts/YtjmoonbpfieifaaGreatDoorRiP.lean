/- The text of an instruction, read: without a program. -/
import Derived.Test.YtjmoonbpfieifaaGreatDoorRiA
import Derived.Test.YtjmoonbpfieifaaGreatDoorTxI
import Derived.Test.YtjmoonbpfieifaaGreatDoorDecQ
import Derived.Lib.ParseIntB
namespace Go.Proofs.YtjmoonbpfieifaaGreatDoor
open Go.RowKit
set_option linter.unusedVariables false
set_option linter.unusedSimpArgs false

/-- A text is the number n, as it is written. -/
def DecIs (b : ByteArray) (n : Int) : Prop := ∃ k : Nat, n = k ∧ k ≤ 9223372036854775807 ∧ b = bs (Lib.decDigits k)
theorem digit_nat {u : Nat} (h : u < 10) : (UInt8.ofNat (48 + u)).toNat = 48 + u := by simp [UInt8.toNat_ofNat']; omega
theorem parse_digits : ∀ (u : Nat) (r : List UInt8), u ≤ 9223372036854775807 → Lib.parseUintM 18446744073709551615 0 (Lib.decDigits u ++ r) = Lib.parseUintM 18446744073709551615 u r := by
  intro u
  induction u using Nat.strongRecOn with
  | ind u ih =>
    intro r hu
    rw [Lib.decDigits]
    by_cases h : u < 10
    · rw [dif_pos h]
      show Lib.parseUintM _ 0 (UInt8.ofNat (48 + u) :: r) = _
      rw [Lib.parseUintM, digit_nat h, if_pos (by omega), if_neg (by omega), if_neg (by omega)]
      congr 1
      omega
    · rw [dif_neg h, List.append_assoc, ih (u / 10) (by omega) _ (by omega)]
      have hd : u % 10 < 10 := by omega
      show Lib.parseUintM _ (u / 10) (UInt8.ofNat (48 + u % 10) :: r) = _
      rw [Lib.parseUintM, digit_nat hd, if_pos (by omega), if_neg (by omega), if_neg (by omega)]
      congr 1
      omega
theorem digits_cons (u : Nat) : ∃ c r, Lib.decDigits u = c :: r ∧ 48 ≤ c.toNat ∧ c.toNat ≤ 57 := by
  induction u using Nat.strongRecOn with
  | ind u ih =>
    rw [Lib.decDigits]
    by_cases h : u < 10
    · rw [dif_pos h]
      exact ⟨_, _, rfl, by rw [digit_nat h]; omega, by rw [digit_nat h]; omega⟩
    · rw [dif_neg h]
      obtain ⟨c, r, e, h1, h2⟩ := ih (u / 10) (by omega)
      rw [e]
      exact ⟨c, r ++ _, rfl, h1, h2⟩
theorem digits_all : ∀ (u : Nat), ∀ c ∈ Lib.decDigits u, 48 ≤ c.toNat ∧ c.toNat ≤ 57 := by
  intro u
  induction u using Nat.strongRecOn with
  | ind u ih =>
    rw [Lib.decDigits]
    intro c hc
    by_cases h : u < 10
    · rw [dif_pos h] at hc
      rw [List.mem_singleton.1 hc, digit_nat h]; omega
    · rw [dif_neg h] at hc
      rcases List.mem_append.1 hc with hc | hc
      · exact ih (u / 10) (by omega) c hc
      · rw [List.mem_singleton.1 hc, digit_nat (by omega : u % 10 < 10)]; omega
theorem digits_blank (u : Nat) : (32 : UInt8) ∉ Lib.decDigits u := fun h => by
  have := digits_all u 32 h
  have e : (32 : UInt8).toNat = 32 := rfl
  omega
theorem dec_parse {b : ByteArray} {n : Int} (h : DecIs b n) : Lib.parseIntB 64 b.data.toList = .ok n := by
  obtain ⟨k, rfl, hk, rfl⟩ := h
  show Lib.parseIntB 64 (Lib.decDigits k) = .ok (k : Int)
  have hp := parse_digits k [] hk
  rw [List.append_nil] at hp
  obtain ⟨c, r, e, h1, h2⟩ := digits_cons k
  rw [e] at hp ⊢
  have hm : ¬ (c.toNat = 43 ∨ c.toNat = 45) := by omega
  have hn : ¬ c.toNat = 45 := by omega
  unfold Lib.parseIntB
  simp only [if_neg hm]
  have hu : Lib.parseUintB 64 (c :: r) = .ok k := by
    unfold Lib.parseUintB
    rw [if_neg (by simp)]
    exact hp
  rw [hu]
  simp only [hn, not_false_eq_true, true_and, false_and, if_false]
  rw [if_neg (by omega)]
theorem dec_one {b : ByteArray} {n m : Int} (h : DecIs b n) (k : DecIs b m) : n = m := by
  have h1 := dec_parse h
  rw [dec_parse k] at h1
  cases h1
  rfl
/-- Words are the numbers l. -/
def NumsIs (ws : List ByteArray) (l : List Int) : Prop := ws.length = l.length ∧ ∀ j, j < l.length → DecIs (ws.getD j ⟨#[]⟩) (l.getD j 0)
theorem NumsIs.one {ws : List ByteArray} {l m : List Int} (h : NumsIs ws l) (k : NumsIs ws m) : l = m := by
  have hl : l.length = m.length := h.1.symm.trans k.1
  refine List.ext_getElem hl fun j h1 h2 => ?_
  have := dec_one (h.2 j h1) (k.2 j h2)
  simpa [List.getD, h1, h2] using this
theorem NumsIs.map {ws : List ByteArray} {l : List Int} (h : NumsIs ws l) : ws = l.map fun n => bs (Lib.itoa n) := by
  refine List.ext_getElem (by simpa using h.1) fun j h1 h2 => ?_
  have hj : j < l.length := by simpa using h2
  obtain ⟨k, e1, _, e2⟩ := h.2 j hj
  have e3 : ws.getD j ⟨#[]⟩ = ws[j] := by simp [List.getD, h1]
  have e4 : l.getD j 0 = l[j] := by simp [List.getD, hj]
  rw [e3] at e2
  rw [e4] at e1
  rw [List.getElem_map, e2, e1, itoa_nat]
theorem nums_is {l : List Int} (h : SmN l) : NumsIs (l.map fun n => bs (Lib.itoa n)) l := by
  refine ⟨by simp, fun j hj => ?_⟩
  have e : (l.map fun n => bs (Lib.itoa n)).getD j ⟨#[]⟩ = bs (Lib.itoa (l.getD j 0)) := by simp [List.getD, hj]
  rw [e]
  obtain ⟨k, e1, e2⟩ := h _ (getD_mem 0 l j hj)
  exact ⟨k, e1, by omega, by rw [e1, itoa_nat]⟩
theorem nums_join (w : List UInt8) : ∀ l : List Int, Lib.join (w :: l.map Lib.itoa) [32] = w ++ numsL l
  | [] => by simp [Lib.join, numsL]
  | n :: l => by
    rw [List.map_cons, join_more, nums_join (Lib.itoa n) l]
    simp [numsL]
/-- What is read: an instruction in its form, of which this is the text. -/
def ReadOk (s : ByteArray) (i : InstD) : Prop := instB i 60 3 = true ∧ s = instTx i
theorem tx_data (i : InstD) : (instTx i).data.toList = Lib.join (opWL.getD i.op.toNat [] :: (instN i).map Lib.itoa) [32] := by
  rw [nums_join]
  unfold instTx opW
  rw [bs_append]
  rfl
theorem opWL_blank (k : Nat) : (32 : UInt8) ∉ opWL.getD k [] := by
  rcases Nat.lt_or_ge k 28 with h | h
  · have : ∀ k : Fin 28, (32 : UInt8) ∉ opWL.getD k.1 [] := by decide
    exact this ⟨k, h⟩
  · rw [List.getD, List.getElem?_eq_none (by simpa [opWL] using h)]
    decide
theorem read_pieces {s : ByteArray} {i : InstD} (h : ReadOk s i) : pieces s = opW i.op.toNat :: (instN i).map fun n => bs (Lib.itoa n) := by
  have hF := instB_inF h.1
  refine pieces_join _ (by simp) (fun x hx => ?_) s ?_
  · rcases List.mem_cons.1 hx with rfl | hx
    · exact opWL_blank _
    · obtain ⟨n, hn, rfl⟩ := List.mem_map.1 hx
      obtain ⟨k, e, _⟩ := instN_sm hF n hn
      rw [e, itoa_nat]
      exact digits_blank k
  · rw [h.2, tx_data, List.map_cons, List.map_map]
    rfl
theorem read_nums {s : ByteArray} {i : InstD} {w0 : ByteArray} {ws : List ByteArray} (h : ReadOk s i) (hp : pieces s = w0 :: ws) : w0 = opW i.op.toNat ∧ NumsIs ws (instN i) := by
  have e := read_pieces h
  rw [hp] at e
  obtain ⟨e1, e2⟩ := List.cons.inj e
  exact ⟨e1, by rw [e2]; exact nums_is (instN_sm (instB_inF h.1))⟩
theorem read_back {s : ByteArray} {i : InstD} {w0 : ByteArray} {ws : List ByteArray} (hp : pieces s = w0 :: ws) (h0 : w0 = opW i.op.toNat) (hn : NumsIs ws (instN i)) (hB : instB i 60 3 = true) : ReadOk s i := by
  refine ⟨hB, ba_ext ?_⟩
  rw [tx_data, ← join_pieces s.size s (Nat.le_refl _), hp, h0, hn.map, List.map_cons, List.map_map]
  rfl
/-- The op of a word: 0 of none. -/
def opNumL (b : ByteArray) : List (List UInt8) → Nat → Int
  | [], _ => 0
  | x :: r, k => if bs x = b then (k : Int) else opNumL b r (k + 1)
def opNum (b : ByteArray) : Int := opNumL b opWL 0
theorem opNum_hit {b : ByteArray} {k : Nat} (hk : k < 28) (h : opW k = b) : opNumL b (opWL.drop k) k = k := by
  rw [List.drop_eq_getElem_cons (show k < opWL.length from hk), opNumL, if_pos]
  have : opWL.getD k [] = opWL[k]'(show k < opWL.length from hk) := by rw [List.getD, List.getElem?_eq_getElem (show k < opWL.length from hk)]; rfl
  rw [← this]; exact h
theorem opNum_miss {b : ByteArray} {k : Nat} (hk : k < 28) (h : ¬ opW k = b) : opNumL b (opWL.drop k) k = opNumL b (opWL.drop (k + 1)) (k + 1) := by
  rw [List.drop_eq_getElem_cons (show k < opWL.length from hk), opNumL, if_neg]
  have : opWL.getD k [] = opWL[k]'(show k < opWL.length from hk) := by rw [List.getD, List.getElem?_eq_getElem (show k < opWL.length from hk)]; rfl
  rw [← this]; exact h
theorem opNum_end {b : ByteArray} : opNumL b (opWL.drop 28) 28 = 0 := rfl
theorem opNum_word {k : Nat} (h1 : 1 ≤ k) (h2 : k ≤ 27) : opNum (opW k) = k := by
  have : ∀ k : Fin 28, opNum (opW k.1) = (k.1 : Int) := by decide
  exact this ⟨k, by omega⟩
theorem opNumL_some (b : ByteArray) : ∀ (n k : Nat), k + n = 28 → opNumL b (opWL.drop k) k = 0 ∨ ∃ j : Nat, j < 28 ∧ opNumL b (opWL.drop k) k = j ∧ opW j = b
  | 0, k, h => by
    have : k = 28 := by omega
    subst this
    exact .inl rfl
  | n + 1, k, h => by
    by_cases hw : opW k = b
    · exact .inr ⟨k, by omega, opNum_hit (by omega) hw, hw⟩
    · rw [opNum_miss (by omega) hw]
      exact opNumL_some b n (k + 1) (by omega)
theorem opNum_some (b : ByteArray) : opNum b = 0 ∨ ∃ j : Nat, j < 28 ∧ opNum b = j ∧ opW j = b := opNumL_some b 28 0 rfl
end Go.Proofs.YtjmoonbpfieifaaGreatDoor
