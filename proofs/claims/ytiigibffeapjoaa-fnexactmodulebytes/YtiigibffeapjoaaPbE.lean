/- A builder: WriteString, and what else stays. -/
import Derived.Test.YtiigibffeapjoaaVbA
import Derived.Test.YtiigibffeapjoaaTo1
import Derived.Lib.Builder
import Derived.Shelf.Strings.Builder1
namespace Go.Proofs.Ytiigibffeapjoaa
open Go.RowKit
set_option linter.unusedVariables false

/-- A builder at block b; p: its own address, or nothing yet; v: its buffer. -/
structure Bld (w : World) (B b : Nat) (p v : Value) (bs : List Value) : Prop where
  ge : B ≤ b
  block : w.heap[b]? = some (.cells #[p, v] 72 (0, 0))
  row : w.ownsRow B 5 1 v bs.length bs
  ne : v.ownBlock ≠ some b
theorem Bld.lt {w : World} {B b : Nat} {p v : Value} {bs : List Value} (h : Bld w B b p v bs) : b < w.heap.size := by
  rcases Nat.lt_or_ge b w.heap.size with h' | h'
  · exact h'
  · have := h.block; rw [Array.getElem?_eq_none h'] at this; cases this
theorem infoBld : (Try.prog.info? 72).map (fun i => i.size) = some 2 := by kernel_rfl
set_option maxRecDepth 100000 in
theorem checkUsed (w : World) (b : Nat) (h0 : w.cell? ⟨b, 0, none⟩ = some (.pointer (some ⟨b, 0, none⟩))) :
    Calls Try.prog 50 #[.pointer (some ⟨b, 0, none⟩)] w fun e w' => e = .returned (.tuple #[]) ∧ w' = w := by
  obtain ⟨j, hj, _⟩ := Option.map_eq_some_iff.1 infoBld
  go_enter Try.func50, Try.ntmps50
  go_wp2_with fail
  rw [Lib.run_neq_ptr_same w _ Try.underlying70 hj]
  go_wp2_with fail
  go_end0
  exact ⟨rfl, rfl⟩
set_option maxRecDepth 100000 in
theorem checkFresh (w : World) (b : Nat) (h0 : w.cell? ⟨b, 0, none⟩ = some (.pointer none)) (hsh : w.shape? b = some (72, 2)) (hfz : w.frozen? ⟨b, 0, none⟩ = false) :
    Calls Try.prog 50 #[.pointer (some ⟨b, 0, none⟩)] w fun e w' => e = .returned (.tuple #[]) ∧ w' = w.setCell ⟨b, 0, none⟩ (.pointer (some ⟨b, 0, none⟩)) := by
  obtain ⟨j, hj, hjs⟩ := Option.map_eq_some_iff.1 infoBld
  go_enter Try.func50, Try.ntmps50
  go_wp2_with fail
  rw [Lib.run_to_unsafe w ⟨b, 0, none⟩ Try.underlying70 Try.underlying113 hj (by rw [hjs]; decide) hsh (Nat.zero_lt_succ 1)]
  simp only [Result.andThen]
  rw [Oper.upon_value]
  go_wp2_with fail
  rw [run_callFunc_extern Try.func64 (by kernel_rfl) (by kernel_rfl) (by kernel_rfl) (e := Extern.AbiNoEscape.same) (by kernel_rfl)]
  rw [Lib.run_noEscape]
  simp only [Result.andThen]
  rw [Oper.upon_value]
  go_wp2_with fail
  rw [Lib.run_from_unsafe w ⟨b, 0, none⟩ Try.underlying113 Try.underlying70 hj hsh (by kernel_rfl)]
  simp only [Result.andThen]
  rw [Oper.upon_value]
  go_wp2_with fail
  go_end0
  exact ⟨rfl, rfl⟩
theorem infoU8 : (Try.prog.info? 5).map (fun i => (i.zero, i.size, i.bytes)) = some (some (.int .u8 0), 1, 1) := by kernel_rfl
set_option maxHeartbeats 2000000 in
theorem writeI (w : World) (B b : Nat) (v : Value) (bs : List Value) (s : ByteArray) (h : Bld w B b (.pointer (some ⟨b, 0, none⟩)) v bs) (hlen : bs.length + s.size ≤ 140737488355328) (hBw : B ≤ w.heap.size) :
    Calls Try.prog 29 #[.pointer (some ⟨b, 0, none⟩), .string s] w fun e w' => e = .returned (.tuple #[.int .i64 s.size, .nilIface]) ∧ ∃ v' w1, Bld w' B b (.pointer (some ⟨b, 0, none⟩)) v' (bs ++ Lib.strCells s) ∧ w.grownBy w1 v.ownBlock ∧ w' = w1.setCell ⟨b, 1, none⟩ v' := by
  obtain ⟨i0, hi, hz0, hz1, hz2⟩ := info_parts infoU8
  have hlt := h.lt
  obtain ⟨hB, hbk, hown, hne⟩ := h
  have c0 : w.cell? ⟨b, 0, none⟩ = some (.pointer (some ⟨b, 0, none⟩)) := (cell_of_heap hbk).trans rfl
  have c1 : w.cell? ⟨b, 1, none⟩ = some v := (cell_of_heap hbk).trans rfl
  have CU := checkUsed w b c0
  go_enter Try.func29, Try.ntmps29
  go_wp2_with (first | (go_at_call 50; refine CU.mono ?_; rintro e w8 ⟨rfl, h9⟩; have h8 := h9.symm; clear h9; subst h8) | (at_builtin; refine Lib.wpList_append_own_string _ rfl _ _ 68 9 rfl B 5 i0 Try.underlying68 Try.underlying9 hi hz0 hz1 hz2 _ _ _ rfl hown s rfl ?c3 ?c4 ?c5 ?_))
  case c3 => unfold maxLen; omega
  case c4 => omega
  case c5 => omega
  intro v' w2 hown' hgrow _
  have hb2 : w2.heap[b]? = some (.cells #[.pointer (some ⟨b, 0, none⟩), v] 72 (0, 0)) := by
    rw [hgrow.block b hlt (fun e => hne e.symm)]
    exact hbk
  have d0 : w2.cell? ⟨b, 0, none⟩ = some (.pointer (some ⟨b, 0, none⟩)) := (cell_of_heap hb2).trans rfl
  have d1 : w2.cell? ⟨b, 1, none⟩ = some v := (cell_of_heap hb2).trans rfl
  have f1 : w2.frozen? ⟨b, 1, none⟩ = false := froz_of_heap hb2
  obtain ⟨ao, n', cap, rfl⟩ : ∃ ao n' cap, v' = .slice ao n' cap := by
    rcases hown'.2 with ⟨hv, _⟩ | ⟨g, cap, cur, hv, _⟩
    · exact ⟨_, _, _, hv⟩
    · exact ⟨_, _, _, hv⟩
  go_wp2_with fail
  go_ret2
  have hown2 : w2.ownsRow B 5 1 (.slice ao n' cap) (bs ++ Lib.strCells s).length (bs ++ Lib.strCells s) := by simpa [Lib.strCells_length] using hown'
  have hne2 := Lib.ownBlock_ne hown2 hb2 (by decide)
  refine ⟨rfl, _, w2, ⟨hB, heap_set (o := 1) hb2, ?_, hne2⟩, hgrow, rfl⟩
  exact hown2.kept (row := some b) ⟨rfl, rfl, rfl, by simp [World.setCell], fun k _ hk => Below.heap_setCell _ _ _ _ (fun e => hk (by simp [e]))⟩ (Or.inr hne2)
set_option maxHeartbeats 2000000 in
theorem writeF (w : World) (B b : Nat) (s : ByteArray) (h : Bld w B b (.pointer none) (.slice none 0 0) []) (hlen : s.size ≤ 140737488355328) (hBw : B ≤ w.heap.size) :
    Calls Try.prog 29 #[.pointer (some ⟨b, 0, none⟩), .string s] w fun e w' => e = .returned (.tuple #[.int .i64 s.size, .nilIface]) ∧ ∃ v', Bld w' B b (.pointer (some ⟨b, 0, none⟩)) v' (Lib.strCells s) ∧ Below B w w' := by
  obtain ⟨i0, hi, hz0, hz1, hz2⟩ := info_parts infoU8
  have hlt := h.lt
  obtain ⟨hB, hbk, hown, hne⟩ := h
  have c0 : w.cell? ⟨b, 0, none⟩ = some (.pointer none) := (cell_of_heap hbk).trans rfl
  have hbs : (w.setCell ⟨b, 0, none⟩ (.pointer (some ⟨b, 0, none⟩))).heap[b]? = some (.cells #[.pointer (some ⟨b, 0, none⟩), .slice none 0 0] 72 (0, 0)) := heap_set (o := 0) hbk
  have CU := checkFresh w b c0 (by simp [World.shape?, hbk]) (froz_of_heap hbk)
  have hB1 : Below B w (w.setCell ⟨b, 0, none⟩ (.pointer (some ⟨b, 0, none⟩))) := (Below.refl _ _).setCell (p := ⟨b, 0, none⟩) hB _
  generalize w.setCell ⟨b, 0, none⟩ (.pointer (some ⟨b, 0, none⟩)) = W at hbs CU hB1
  have hlt1 : b < W.heap.size := Nat.lt_of_lt_of_le hlt hB1.size
  have hown1 : W.ownsRow B 5 1 (.slice none 0 0) 0 [] := World.ownsRow_nil _ _ _ _
  have c1 : W.cell? ⟨b, 1, none⟩ = some (.slice none 0 0) := (cell_of_heap hbs).trans rfl
  have hz := hB1.size
  clear c0 hbk hown hlt
  go_enter Try.func29, Try.ntmps29
  go_wp2_with (first | (go_at_call 50; refine CU.mono ?_; rintro e w8 ⟨rfl, h9⟩; have h8 := h9.symm; clear h9; subst h8) | (at_builtin; refine Lib.wpList_append_own_string _ rfl _ _ 68 9 rfl B 5 i0 Try.underlying68 Try.underlying9 hi hz0 hz1 hz2 _ _ _ rfl hown1 s rfl ?c3 ?c4 ?c5 ?_))
  case c3 => unfold maxLen; omega
  case c4 => omega
  case c5 => omega
  intro v' w2 hown' hgrow _
  have hb2 : w2.heap[b]? = some (.cells #[.pointer (some ⟨b, 0, none⟩), .slice none 0 0] 72 (0, 0)) := by
    rw [hgrow.block b hlt1 (fun e => hne e.symm)]
    exact hbs
  have d0 : w2.cell? ⟨b, 0, none⟩ = some (.pointer (some ⟨b, 0, none⟩)) := (cell_of_heap hb2).trans rfl
  have d1 : w2.cell? ⟨b, 1, none⟩ = some (.slice none 0 0) := (cell_of_heap hb2).trans rfl
  have f1 : w2.frozen? ⟨b, 1, none⟩ = false := froz_of_heap hb2
  obtain ⟨ao, n', cap, rfl⟩ : ∃ ao n' cap, v' = .slice ao n' cap := by
    rcases hown'.2 with ⟨hv, _⟩ | ⟨g, cap, cur, hv, _⟩
    · exact ⟨_, _, _, hv⟩
    · exact ⟨_, _, _, hv⟩
  go_wp2_with fail
  go_ret2
  have hown2 : w2.ownsRow B 5 1 (.slice ao n' cap) (Lib.strCells s).length (Lib.strCells s) := by simpa [Lib.strCells_length] using hown'
  have hne2 := Lib.ownBlock_ne hown2 hb2 (by decide)
  refine ⟨rfl, _, ⟨hB, heap_set (o := 1) hb2, ?_, hne2⟩, ?_⟩
  · exact hown2.kept (row := some b) ⟨rfl, rfl, rfl, by simp [World.setCell], fun k _ hk => Below.heap_setCell _ _ _ _ (fun e => hk (by simp [e]))⟩ (Or.inr hne2)
  · exact (hB1.grown hgrow (by omega) (fun k hk => by cases hk)).setCell (p := ⟨b, 1, none⟩) hB _
end Go.Proofs.Ytiigibffeapjoaa
