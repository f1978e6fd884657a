/- A text that is cut at its blanks. -/
import Derived.Test.YtclagbdomfgodaaGreatDoorRows
import Derived.Test.YtclagbdomfgodaaGreatDoorMem
import Derived.Test.YtclagbdomfgodaaGreatDoorShelf
import Derived.WalkKit
import Derived.WalkSpells
import Derived.Shelf.Strings.SplitCore
import Derived.Lib.SplitLaws
import Derived.Lib.Join
namespace Go.Proofs.YtclagbdomfgodaaGreatDoor
open Go.RowKit
set_option linter.unusedVariables false

theorem data_add (a b : ByteArray) : (a ++ b).data.toList = a.data.toList ++ b.data.toList := by simp
theorem str_ne {a b : ByteArray} (h : ¬ a = b) : (a.toList == b.toList) = false := by
  rw [ByteArray.toList_eq, ByteArray.toList_eq, beq_eq_false_iff_ne]
  exact fun e => h (ByteArray.ext (Array.toList_inj.1 e))
def blank : ByteArray := ⟨#[32]⟩
theorem blank_size : blank.size = 1 := rfl
/-- The pieces between blanks. -/
def pieces (s : ByteArray) : List ByteArray := Lib.splitB blank 0 (Lib.countB s blank) s
theorem pieces_len (s : ByteArray) : (pieces s).length = Lib.countB s blank + 1 := Lib.splitB_all blank (by decide) 0 _ s rfl
theorem count_size (s : ByteArray) : Lib.countB s blank ≤ s.size := Lib.countB_le blank (by decide) s.size s (Nat.le_refl _)
theorem pieces_miss {s : ByteArray} (h : Lib.indexB s blank = -1) : pieces s = [s] := Lib.splitB_miss blank 0 _ s h
theorem pieces_hit {s : ByteArray} {i : Nat} (h : Lib.indexB s blank = i) : pieces s = s.extract 0 i :: pieces (s.extract (i + 1) s.size) := by
  unfold pieces
  rw [Lib.countB_hit s blank i (by decide) h, Nat.add_comm 1, Lib.splitB_hit blank 0 _ s i h]
  rfl
set_option maxHeartbeats 1000000 in
theorem splitI (s : ByteArray) (w : World) (hs : s.size < 4294967281) :
    Calls Tryz.prog 69 #[.string s, .string blank] w fun e w' => e = .returned (.slice (some ⟨w.heap.size, 0, none⟩) (pieces s).length (pieces s).length) ∧ w' = w.alloc (.cells ((pieces s).map Value.string).toArray 9) := by
  have hle := count_size s
  have hI : ∀ (x : ByteArray) (c : Array Value), x.size ≤ s.size → Calls Tryz.prog 103 #[.string x, .string blank] (w.alloc (.cells c 9)) fun e w' => e = .returned (.int .i64 (Lib.indexB x blank)) ∧ w' = w.alloc (.cells c 9) := fun x c _ => by
    refine (Tryz.strings_Index_one x 32 _).mono fun e w' h => ?_
    rw [← Lib.index_one] at h
    exact h
  have hC : Calls Tryz.prog 102 #[.string s, .string blank] w fun e w' => e = .returned (.int .i64 (Lib.countB s blank)) ∧ w' = w := by
    refine (Tryz.strings_Count_one s 32 w).mono fun e w' h => ?_
    have e2 : Lib.countB s blank = Lib.countByte s.data.toList 32 := Lib.count_one 32 _
    rw [e2]
    exact h
  have G := Any.strings_genSplit_core Tryz.lays221 (by kernel_rfl) s blank 0 (-1) (Lib.countB s blank + 1) w hs (by decide) (by decide) hI hC (by decide) (by decide) (by rw [if_pos (by decide)]; omega)
  rw [Nat.add_sub_cancel] at G
  have e2 : Lib.cellsOf (Lib.splitB blank 0 (Lib.countB s blank) s) (Lib.countB s blank + 1) = ((pieces s).map Value.string).toArray := by rw [← pieces_len s]; exact Lib.cellsOf_full _
  rw [e2, show (Lib.splitB blank 0 (Lib.countB s blank) s) = pieces s from rfl, ← pieces_len s] at G
  have G2 : Calls Tryz.prog 87 #[.string s, .string blank, .int .i64 0, .int .i64 (-1)] w fun e w' => e = .returned (.slice (some ⟨w.heap.size, 0, none⟩) (pieces s).length (pieces s).length) ∧ w' = w.alloc (.cells ((pieces s).map Value.string).toArray 9) := G
  clear G hI hC e2 hle
  generalize pieces s = P at G2 ⊢
  go_enter Tryz.func69, Tryz.ntmps69
  go_wp2_with (go_at_call 87; refine G2.mono ?_; rintro e w8 ⟨rfl, h9⟩; subst h9)
  go_ret
  exact ⟨rfl, rfl⟩
theorem str_some {s : ByteArray} (h : ¬ s = ⟨#[]⟩) : s.toList.isEmpty = false := by
  rw [ByteArray.toList_eq]
  cases e : s.data.toList with
  | nil => exact absurd (ByteArray.ext (Array.toList_inj.1 e)) h
  | cons x r => rfl
theorem idx_byte (s : ByteArray) : Lib.indexB s blank = Lib.indexByte s.data.toList 32 := Lib.index_one _ 32
theorem join_more (x y : List UInt8) (r : List (List UInt8)) : Lib.join (x :: y :: r) [32] = x ++ 32 :: Lib.join (y :: r) [32] := by
  simp [Lib.join, List.intercalate, List.intersperse]
theorem idx_none : ∀ l : List UInt8, (32 : UInt8) ∉ l → Lib.indexByte l 32 = -1
  | [], _ => rfl
  | b :: l, h => by
    unfold Lib.indexByte
    rw [if_neg (by simp at h ⊢; exact fun e => h.1 e.symm), idx_none l (fun h' => h (by simp [h']))]
    rfl
theorem idx_at : ∀ x r : List UInt8, (32 : UInt8) ∉ x → Lib.indexByte (x ++ 32 :: r) 32 = (x.length : Int)
  | [], r, _ => by unfold Lib.indexByte; simp
  | b :: x, r, h => by
    have e := idx_at x r (fun h' => h (by simp [h']))
    show Lib.indexByte (b :: (x ++ 32 :: r)) 32 = _
    unfold Lib.indexByte
    rw [if_neg (by simp at h ⊢; exact fun e => h.1 e.symm), e, if_neg (by simp <;> omega)]
    simp
theorem ext_data (s : ByteArray) (i j : Nat) : (s.extract i j).data.toList = (s.data.toList.drop i).take (j - i) := by
  simp [ByteArray.data_extract, List.extract_eq_take_drop]
theorem ba_ext {a b : ByteArray} (h : a.data.toList = b.data.toList) : a = b := ByteArray.ext (Array.toList_inj.1 h)
theorem size_data (s : ByteArray) : s.size = s.data.toList.length := rfl
theorem pieces_join : ∀ ws : List ByteArray, ws ≠ [] → (∀ x ∈ ws, (32 : UInt8) ∉ x.data.toList) → ∀ s : ByteArray, s.data.toList = Lib.join (ws.map (·.data.toList)) [32] → pieces s = ws
  | [], h, _, _, _ => absurd rfl h
  | [x], _, hx, s, hs => by
    have e : s = x := ba_ext (by rw [hs]; exact Lib.join_one _ _)
    subst e
    exact pieces_miss (by rw [idx_byte]; exact idx_none _ (hx s (by simp)))
  | x :: y :: r, _, hx, s, hs => by
    have hs2 : s.data.toList = x.data.toList ++ 32 :: Lib.join ((y :: r).map (·.data.toList)) [32] := by rw [hs]; exact join_more _ _ _
    have hi : Lib.indexB s blank = (x.data.toList.length : Int) := by rw [idx_byte, hs2]; exact idx_at _ _ (hx x (by simp))
    rw [pieces_hit hi]
    congr 1
    · exact ba_ext (by rw [ext_data, hs2]; simp)
    · refine pieces_join (y :: r) (by simp) (fun z hz => hx z (by simp at hz ⊢; exact .inr hz)) _ ?_
      rw [ext_data, size_data s, hs2]
      simp
      rw [← List.drop_drop]
      simp
      exact List.take_of_length_le (by omega)
theorem join_pieces : ∀ (n : Nat) (s : ByteArray), s.size ≤ n → Lib.join ((pieces s).map (·.data.toList)) [32] = s.data.toList := by
  intro n
  induction n with
  | zero =>
    intro s hs
    have e : s = ⟨#[]⟩ := ba_ext (by rw [size_data] at hs; exact List.eq_nil_of_length_eq_zero (by omega))
    subst e
    rw [pieces_miss (by decide)]
    exact Lib.join_one _ _
  | succ n ih =>
    intro s hs
    by_cases h : Lib.indexB s blank = -1
    · rw [pieces_miss h]; exact Lib.join_one _ _
    · have hge := Lib.indexByte_ge s.data.toList 32
      rw [← idx_byte] at hge
      obtain ⟨i, hi⟩ : ∃ i : Nat, Lib.indexB s blank = i := ⟨(Lib.indexB s blank).toNat, by omega⟩
      obtain ⟨hat, _⟩ := Lib.indexByte_some ((idx_byte s).symm.trans hi)
      have hil := (List.getElem?_eq_some_iff.1 hat).1
      have hil2 := hil
      rw [← size_data] at hil2
      rw [pieces_hit hi]
      have hr := ih (s.extract (i + 1) s.size) (by rw [ByteArray.size_extract]; omega)
      have hne : pieces (s.extract (i + 1) s.size) ≠ [] := fun e => by
        have := pieces_len (s.extract (i + 1) s.size)
        rw [e] at this; simp at this
      obtain ⟨y, r, hyr⟩ := List.exists_cons_of_ne_nil hne
      rw [hyr] at hr ⊢
      show Lib.join ((s.extract 0 i).data.toList :: y.data.toList :: r.map (·.data.toList)) [32] = _
      rw [join_more]
      have hr2 : Lib.join (y.data.toList :: r.map (·.data.toList)) [32] = s.data.toList.drop (i + 1) := by
        rw [show (y.data.toList :: r.map (·.data.toList)) = (y :: r).map (·.data.toList) from rfl, hr, ext_data, List.take_of_length_le (by rw [List.length_drop, ← size_data]; omega)]
      rw [hr2, ext_data]
      have h44 : s.data.toList[i]'hil = 32 := by
        have := List.getElem?_eq_getElem hil
        rw [hat] at this
        exact (Option.some.inj this).symm
      rw [← h44, List.drop_zero, Nat.sub_zero, ← List.drop_eq_getElem_cons hil, List.take_append_drop]
theorem byte_at {s : ByteArray} {k : Nat} (h : k < s.size) : s.data.toList[k]? = some (s[k]'h) := by
  rw [Array.getElem?_toList]
  exact Array.getElem?_eq_getElem h
theorem byte_ne {s : ByteArray} {k : Nat} (h : k < s.size) (hn : s.data.toList[k]? ≠ some 32) : ¬ (((s[k]'h).toNat : Nat) : Int) = 32 := fun e => by
  apply hn
  rw [byte_at h]
  congr 1
  apply UInt8.toNat_inj.1
  have : (s[k]'h).toNat = 32 := by omega
  rw [this]; rfl
theorem byte_eq {s : ByteArray} {k : Nat} (h : k < s.size) (hn : s.data.toList[k]? = some 32) : (((s[k]'h).toNat : Nat) : Int) = 32 := by
  rw [byte_at h] at hn
  rw [Option.some.inj hn]
  rfl
end Go.Proofs.YtclagbdomfgodaaGreatDoor
