/- Lists of passes: a text cut at its commas; the program's PassesOf. -/
import Derived.Test.YtjbmlebaaehjjaaDoorPas4
import Derived.Shelf.Strings.SplitCore
namespace Go.Proofs.YtjbmlebaaehjjaaDoor
open Go.RowKit
set_option linter.unusedVariables false

def comma : ByteArray := ⟨#[44]⟩
theorem comma_size : comma.size = 1 := rfl
/-- The pieces between commas. -/
def pieces (s : ByteArray) : List ByteArray := Lib.splitB comma 0 (Lib.countB s comma) s
theorem pieces_len (s : ByteArray) : (pieces s).length = Lib.countB s comma + 1 := Lib.splitB_all comma (by decide) 0 _ s rfl
theorem count_size (s : ByteArray) : Lib.countB s comma ≤ s.size := Lib.countB_le comma (by decide) s.size s (Nat.le_refl _)
theorem pieces_miss {s : ByteArray} (h : Lib.indexB s comma = -1) : pieces s = [s] := Lib.splitB_miss comma 0 _ s h
theorem pieces_hit {s : ByteArray} {i : Nat} (h : Lib.indexB s comma = i) : pieces s = s.extract 0 i :: pieces (s.extract (i + 1) s.size) := by
  unfold pieces
  rw [Lib.countB_hit s comma i (by decide) h, Nat.add_comm 1, Lib.splitB_hit comma 0 _ s i h]
  rfl
set_option maxHeartbeats 1000000 in
theorem splitI (s : ByteArray) (w : World) (hs : s.size < 4294967281) :
    Calls Tryd.prog 22 #[.string s, .string comma] w fun e w' => e = .returned (.slice (some ⟨w.heap.size, 0, none⟩) (pieces s).length (pieces s).length) ∧ w' = w.alloc (.cells ((pieces s).map Value.string).toArray 9) := by
  have hle := count_size s
  have hI : ∀ (x : ByteArray) (c : Array Value), x.size ≤ s.size → Calls Tryd.prog 45 #[.string x, .string comma] (w.alloc (.cells c 9)) fun e w' => e = .returned (.int .i64 (Lib.indexB x comma)) ∧ w' = w.alloc (.cells c 9) := fun x c _ => by
    refine (Tryd.strings_Index_one x 44 _).mono fun e w' h => ?_
    rw [← Lib.index_one] at h
    exact h
  have hC : Calls Tryd.prog 44 #[.string s, .string comma] w fun e w' => e = .returned (.int .i64 (Lib.countB s comma)) ∧ w' = w := by
    refine (Tryd.strings_Count_one s 44 w).mono fun e w' h => ?_
    have e2 : Lib.countB s comma = Lib.countByte s.data.toList 44 := Lib.count_one 44 _
    rw [e2]
    exact h
  have G := Any.strings_genSplit_core Tryd.lays221 (by kernel_rfl) s comma 0 (-1) (Lib.countB s comma + 1) w hs (by decide) (by decide) hI hC (by decide) (by decide) (by rw [if_pos (by decide)]; omega)
  rw [Nat.add_sub_cancel] at G
  have e2 : Lib.cellsOf (Lib.splitB comma 0 (Lib.countB s comma) s) (Lib.countB s comma + 1) = ((pieces s).map Value.string).toArray := by rw [← pieces_len s]; exact Lib.cellsOf_full _
  rw [e2, show (Lib.splitB comma 0 (Lib.countB s comma) s) = pieces s from rfl, ← pieces_len s] at G
  have G2 : Calls Tryd.prog 36 #[.string s, .string comma, .int .i64 0, .int .i64 (-1)] w fun e w' => e = .returned (.slice (some ⟨w.heap.size, 0, none⟩) (pieces s).length (pieces s).length) ∧ w' = w.alloc (.cells ((pieces s).map Value.string).toArray 9) := G
  clear G hI hC e2 hle
  generalize pieces s = P at G2 ⊢
  go_enter Tryd.func22, Tryd.ntmps22
  go_wp2_with (go_at_call 36; refine G2.mono ?_; rintro e w8 ⟨rfl, h9⟩; subst h9)
  go_ret
  exact ⟨rfl, rfl⟩
theorem str_some {s : ByteArray} (h : ¬ s = ⟨#[]⟩) : s.toList.isEmpty = false := by
  rw [ByteArray.toList_eq]
  cases e : s.data.toList with
  | nil => exact absurd (ByteArray.ext (Array.toList_inj.1 e)) h
  | cons x r => rfl
/-- What PassesOf answers. -/
def passesD (s : ByteArray) : Option (List Int) := if s = ⟨#[]⟩ then some [] else if okL ((pieces s).map passNum) = true then some ((pieces s).map passNum) else none
def PassesTold (w : World) (base : Nat) : Option (List Int) → Ending → Prop
  | none, e => e = .returned (.tuple #[.slice none 0 0, .bool false])
  | some l, e => ∃ v, e = .returned (.tuple #[v, .bool true]) ∧ Row w base v l
set_option maxHeartbeats 2000000 in
theorem passesOfI (s : ByteArray) (w : World) (hs : s.size ≤ 1048576) (hW : WordsAt w) :
    Calls Tryd.prog 9 #[.string s] w fun e w' => PassesTold w' w.heap.size (passesD s) e ∧ Below w.heap.size w w' := by
  by_cases h0 : s = ⟨#[]⟩
  · have E : Hid (passesD s = some []) := by show _ = _; simp [passesD, h0]
    subst h0
    go_enter Tryd.func9, Tryd.ntmps9
    go_wp2_with fail
    go_ret2
    rw [E.out]
    exact ⟨⟨_, rfl, Row.nil _ _⟩, Below.refl _ _⟩
  · have E : Hid (passesD s = if okL ((pieces s).map passNum) = true then some ((pieces s).map passNum) else none) := by show _ = _; simp [passesD, h0]
    have h0' := str_some h0
    have hpl := pieces_len s
    have hcs := count_size s
    have S := splitI s w (by omega)
    have hz : (w.alloc (.cells ((pieces s).map Value.string).toArray 9)).heap.size = w.heap.size + 1 := by simp
    have HC : Hid (∀ k, k < (pieces s).length → (w.alloc (.cells ((pieces s).map Value.string).toArray 9)).cell? ⟨w.heap.size, k, none⟩ = some (.string ((pieces s).getD k ⟨#[]⟩))) := fun k hk => by
      rw [cell_of_heap (heap_alloc_last _ _)]
      simp [List.getD, hk]
    have HB0 : Hid (Below w.heap.size w (w.alloc (.cells ((pieces s).map Value.string).toArray 9))) := (Below.refl _ _).alloc (Nat.le_refl _) _
    have hP : (pieces s).length ≤ 1048577 := by omega
    clear hpl hcs h0
    generalize pieces s = P at *
    generalize hw0 : w.alloc (.cells (P.map Value.string).toArray 9) = w0 at *
    clear hw0
    go_enter Tryd.func9, Tryd.ntmps9
    go_wp2_with (go_at_call 22; refine S.mono ?_; rintro e w8 ⟨rfl, h9⟩; have h8 := h9.symm; clear h9; subst h8)
    clear S
    go_loopw [4, 12] (fun st i wr => ∃ k : Nat, k ≤ P.length ∧ i = .int .i64 k ∧ Hid (Row wr (w.heap.size + 1) st ((P.take k).map passNum)) ∧ Hid (Below (w.heap.size + 1) w0 wr)) (fun _ i _ => P.length - (intOf i).toNat)
    case atStart => exact ⟨0, by omega, rfl, Row.nil _ _, Below.refl _ _⟩
    case round =>
      obtain ⟨k, hk, rfl, HO, HB⟩ := hrel
      obtain ⟨ta, tc, rfl⟩ := HO.out.slice
      have hzr := HB.out.size
      have htl : ((P.take k).map passNum).length ≤ k := by simp; omega
      have HBw : Hid (Below w.heap.size w wr) := HB0.out.trans (HB.out.mono (by omega))
      by_cases hlt : k < P.length
      · have HT : Hid ((P.take (k + 1)).map passNum = (P.take k).map passNum ++ [passNum (P.getD k ⟨#[]⟩)]) := by
          show _ = _
          rw [List.take_succ_eq_append_getElem hlt, List.map_append]
          simp [List.getD, hlt]
        have e0 : wr.cell? ⟨w.heap.size, k, none⟩ = some (.string (P.getD k ⟨#[]⟩)) := (cell_block (HB.out.block _ (by omega))).trans (HC.out k hlt)
        generalize P.getD k ⟨#[]⟩ = t at e0 HT
        have C := passOfI t wr (hW.keep HBw.out)
        generalize passNum t = n at C HT
        generalize (P.take k).map passNum = L at HO HT htl ⊢
        by_cases hlk : L.length ≤ 4194304
        · go_wp2_with (first | (go_at_call 23; refine C.mono ?_; rintro e w8 ⟨rfl, h9⟩; have h8 := h9.symm; clear h9; subst h8) | (at_builtin; refine push_int rfl _ _ rfl (w.heap.size + 1) (.slice ta L.length tc) L rfl (HO.out.alloc _) n _ 1 rfl (by exact one_cell_at (by simp)) hlk (by simp; omega) ?_; intro v5 w5 ho5 hg5; have HO5 : Hid _ := ho5; have HB5 : Hid (Below (w.heap.size + 1) w0 w5) := (HB.out.alloc (by omega) _).grown hg5 (by simp; omega) (fun q hq => (HO.out.ge hq).1); clear ho5 hg5))
          go_roundw
          case rel => exact ⟨k + 1, by omega, by go_num, by rw [HT.out]; exact HO5.out, HB5.out⟩
          case measure => simp [intOf]; omega
        · omega
      · have hke : k = P.length := by omega
        have HO2 : Hid (Row wr (w.heap.size + 1) (.slice ta ((P.take k).map passNum).length tc) (P.map passNum)) := by have h := HO.out; rw [hke, List.take_length] at h ⊢; exact h
        have HLN : Hid (((P.take k).map passNum).length = (P.map passNum).length) := by show _ = _; rw [hke, List.take_length]
        obtain ⟨uu, cc, hvv, hii⟩ := HO2.out.ints (by simp; omega)
        have C := passesI (w.heap.size + 1) uu cc (P.map passNum) wr hii
        cases hok : okL (P.map passNum) with
        | false =>
          rw [hok] at C
          have E2 : Hid (passesD s = none) := by show _ = _; rw [E.out, hok]; rfl
          rw [hvv]
          generalize (P.map passNum).length = N at C
          go_wp2_with (go_at_call 20; refine C.mono ?_; rintro e w8 ⟨rfl, h9⟩; have h8 := h9.symm; clear h9; subst h8)
          go_ret2
          rw [E2.out]
          exact ⟨rfl, HBw.out⟩
        | true =>
          rw [hok] at C
          have E2 : Hid (passesD s = some (P.map passNum)) := by show _ = _; rw [E.out, hok]; rfl
          have HO3 : Hid (Row wr w.heap.size (.slice uu (P.map passNum).length cc) (P.map passNum)) := by rw [← hvv]; exact HO2.out.low (by omega)
          rw [hvv]
          generalize (P.map passNum).length = N at C HO3
          go_wp2_with (go_at_call 20; refine C.mono ?_; rintro e w8 ⟨rfl, h9⟩; have h8 := h9.symm; clear h9; subst h8)
          go_ret2
          rw [E2.out]
          exact ⟨⟨_, rfl, HO3.out⟩, HBw.out⟩
end Go.Proofs.YtjbmlebaaehjjaaDoor
