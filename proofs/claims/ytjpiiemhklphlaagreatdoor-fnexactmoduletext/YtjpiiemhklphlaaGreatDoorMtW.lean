/- A builder that stands below what it is filled with: WriteString, String. -/
import Derived.Test.YtjpiiemhklphlaaGreatDoorTo1
import Derived.Test.YtjpiiemhklphlaaGreatDoorRow
import Derived.Lib.Builder
import Derived.Shelf.Strings.Builder1
namespace Go.Proofs.YtjpiiemhklphlaaGreatDoor
open Go.RowKit Go.Shelf
attribute [local go_sem] Oper.semAt_some
set_option linter.unusedVariables false

/-- All blocks below B but b stay. -/
structure BxB (b B : Nat) (w w' : World) : Prop where
  os : w'.os = w.os
  tape : w'.tape = w.tape
  output : w'.output = w.output
  size : w.heap.size ≤ w'.heap.size
  block : ∀ i, i < B → i ≠ b → w'.heap[i]? = w.heap[i]?
theorem BxB.refl (b B : Nat) (w : World) : BxB b B w w := ⟨rfl, rfl, rfl, Nat.le_refl _, fun _ _ _ => rfl⟩
theorem BxB.trans {b B : Nat} {x y z : World} (h : BxB b B x y) (k : BxB b B y z) : BxB b B x z := ⟨k.os.trans h.os, k.tape.trans h.tape, k.output.trans h.output, Nat.le_trans h.size k.size, fun i hi hn => (k.block i hi hn).trans (h.block i hi hn)⟩
theorem BxB.set {b B : Nat} {w w' : World} (h : BxB b B w w') (o : Nat) (v : Value) : BxB b B w (w'.setCell ⟨b, o, none⟩ v) :=
  h.trans ⟨rfl, rfl, rfl, by simp [World.setCell], fun i _ hn => Below.heap_setCell _ _ _ _ hn⟩
theorem BxB.grown {b B : Nat} {w w' w2 : World} {row : Option Nat} (h : BxB b B w w') (hg : w'.grownBy w2 row) (hB : B ≤ w.heap.size) (hr : ∀ k, row = some k → B ≤ k) : BxB b B w w2 :=
  h.trans ⟨hg.os, hg.tape, hg.output, hg.size, fun i hi _ => hg.block i (by have := h.size; omega) (fun e => by have := hr i e.symm; omega)⟩
theorem BxB.below {b B : Nat} {w w' w2 : World} (h : BxB b B w w') (k : Below w'.heap.size w' w2) (hB : B ≤ w'.heap.size) : BxB b B w w2 :=
  h.trans ⟨k.os, k.tape, k.output, k.size, fun i hi _ => k.block i (by omega)⟩
/-- A builder at block b; p: its own address, or nothing yet; v: its buffer, from B on. -/
structure Bl2 (w : World) (B b : Nat) (p v : Value) (bs : List Value) : Prop where
  block : w.heap[b]? = some (.cells #[p, v] 39 (0, 0))
  row : w.ownsRow B 5 1 v bs.length bs
  ne : v.ownBlock ≠ some b
theorem Bl2.lt {w : World} {B b : Nat} {p v : Value} {bs : List Value} (h : Bl2 w B b p v bs) : b < w.heap.size := by
  rcases Nat.lt_or_ge b w.heap.size with h' | h'
  · exact h'
  · have := h.block; rw [Array.getElem?_eq_none h'] at this; cases this
theorem Bl2.keep {w w' : World} {B b : Nat} {p v : Value} {bs : List Value} (h : Bl2 w B b p v bs) (k : Below w.heap.size w w') : Bl2 w' B b p v bs :=
  ⟨(k.block b h.lt).trans h.block, h.row.kept (row := none) ⟨k.os, k.tape, k.output, k.size, fun i hi _ => k.block i hi⟩ (by cases e : v.ownBlock <;> simp), h.ne⟩
theorem infoBld : (Tryz.prog.info? 39).map (fun i => i.size) = some 2 := by kernel_rfl
set_option maxRecDepth 100000 in
theorem checkUsed (w : World) (b : Nat) (h0 : w.cell? ⟨b, 0, none⟩ = some (.pointer (some ⟨b, 0, none⟩))) :
    Calls Tryz.prog 30 #[.pointer (some ⟨b, 0, none⟩)] w fun e w' => e = .returned (.tuple #[]) ∧ w' = w := by
  obtain ⟨j, hj, _⟩ := Option.map_eq_some_iff.1 infoBld
  go_enter Tryz.func30, Tryz.ntmps30
  go_wp2_with fail
  rw [Lib.run_neq_ptr_same w _ Tryz.underlying36 hj]
  go_wp2_with fail
  go_end0
  exact ⟨rfl, rfl⟩
set_option maxRecDepth 100000 in
theorem checkFresh (w : World) (b : Nat) (h0 : w.cell? ⟨b, 0, none⟩ = some (.pointer none)) (hsh : w.shape? b = some (39, 2)) (hfz : w.frozen? ⟨b, 0, none⟩ = false) :
    Calls Tryz.prog 30 #[.pointer (some ⟨b, 0, none⟩)] w fun e w' => e = .returned (.tuple #[]) ∧ w' = w.setCell ⟨b, 0, none⟩ (.pointer (some ⟨b, 0, none⟩)) := by
  obtain ⟨j, hj, hjs⟩ := Option.map_eq_some_iff.1 infoBld
  go_enter Tryz.func30, Tryz.ntmps30
  go_wp2_with fail
  rw [Lib.run_to_unsafe w ⟨b, 0, none⟩ Tryz.underlying36 Tryz.underlying98 hj (by rw [hjs]; decide) hsh (Nat.zero_lt_succ 1)]
  simp only [Result.andThen]
  rw [Oper.upon_value]
  go_wp2_with fail
  rw [run_callFunc_extern Tryz.func49 (by kernel_rfl) (by kernel_rfl) (by kernel_rfl) (e := Extern.AbiNoEscape.same) (by kernel_rfl)]
  rw [Lib.run_noEscape]
  simp only [Result.andThen]
  rw [Oper.upon_value]
  go_wp2_with fail
  rw [Lib.run_from_unsafe w ⟨b, 0, none⟩ Tryz.underlying98 Tryz.underlying36 hj hsh (by kernel_rfl)]
  simp only [Result.andThen]
  rw [Oper.upon_value]
  go_wp2_with fail
  go_end0
  exact ⟨rfl, rfl⟩
theorem infoU8 : (Tryz.prog.info? 5).map (fun i => (i.zero, i.size, i.bytes)) = some (some (.int .u8 0), 1, 1) := by kernel_rfl
set_option maxHeartbeats 2000000 in
theorem writeU (w : World) (B b : Nat) (v : Value) (bs : List Value) (s : ByteArray) (h : Bl2 w B b (.pointer (some ⟨b, 0, none⟩)) v bs) (hlen : bs.length + s.size ≤ 140737488355328) (hBw : B ≤ w.heap.size) :
    Calls Tryz.prog 15 #[.pointer (some ⟨b, 0, none⟩), .string s] w fun e w' => e = .returned (.tuple #[.int .i64 s.size, .nilIface]) ∧ ∃ v' w1, Bl2 w' B b (.pointer (some ⟨b, 0, none⟩)) v' (bs ++ Lib.strCells s) ∧ w.grownBy w1 v.ownBlock ∧ w' = w1.setCell ⟨b, 1, none⟩ v' := by
  obtain ⟨i0, hi, hz0, hz1, hz2⟩ := info_parts infoU8
  have hlt := h.lt
  obtain ⟨hbk, hown, hne⟩ := h
  have c0 : w.cell? ⟨b, 0, none⟩ = some (.pointer (some ⟨b, 0, none⟩)) := (cell_of_heap hbk).trans rfl
  have c1 : w.cell? ⟨b, 1, none⟩ = some v := (cell_of_heap hbk).trans rfl
  have CU := checkUsed w b c0
  go_enter Tryz.func15, Tryz.ntmps15
  go_wp2_with (first | (go_at_call 30; refine CU.mono ?_; rintro e w8 ⟨rfl, h9⟩; have h8 := h9.symm; clear h9; subst h8) | (at_builtin; refine Lib.wpList_append_own_string _ rfl _ _ 37 9 rfl B 5 i0 Tryz.underlying37 Tryz.underlying9 hi hz0 hz1 hz2 _ _ _ rfl hown s rfl ?c3 ?c4 ?c5 ?_))
  case c3 => unfold maxLen; omega
  case c4 => omega
  case c5 => omega
  intro v' w2 hown' hgrow _
  have hb2 : w2.heap[b]? = some (.cells #[.pointer (some ⟨b, 0, none⟩), v] 39 (0, 0)) := by
    rw [hgrow.block b hlt (fun e => hne e.symm)]
    exact hbk
  have d0 : w2.cell? ⟨b, 0, none⟩ = some (.pointer (some ⟨b, 0, none⟩)) := (cell_of_heap hb2).trans rfl
  have d1 : w2.cell? ⟨b, 1, none⟩ = some v := (cell_of_heap hb2).trans rfl
  have f1 : w2.frozen? ⟨b, 1, none⟩ = false := froz_of_heap hb2
  obtain ⟨ao, n', cap, rfl⟩ : ∃ ao n' cap, v' = .slice ao n' cap := by
    rcases hown'.2 with ⟨hv, _⟩ | ⟨g, cap, cur, hv, _⟩
    · exact ⟨_, _, _, hv⟩
    · exact ⟨_, _, _, hv⟩
  go_wp2_with fail
  go_ret2
  have hown2 : w2.ownsRow B 5 1 (.slice ao n' cap) (bs ++ Lib.strCells s).length (bs ++ Lib.strCells s) := by simpa [Lib.strCells_length] using hown'
  have hne2 := Lib.ownBlock_ne hown2 hb2 (by decide)
  refine ⟨rfl, _, w2, ⟨heap_set (o := 1) hb2, ?_, hne2⟩, hgrow, rfl⟩
  exact hown2.kept (row := some b) ⟨rfl, rfl, rfl, by simp [World.setCell], fun k _ hk => Below.heap_setCell _ _ _ _ (fun e => hk (by simp [e]))⟩ (Or.inr hne2)
set_option maxHeartbeats 2000000 in
theorem writeN (w : World) (B b : Nat) (s : ByteArray) (h : Bl2 w B b (.pointer none) (.slice none 0 0) []) (hlen : s.size ≤ 140737488355328) (hBw : B ≤ w.heap.size) :
    Calls Tryz.prog 15 #[.pointer (some ⟨b, 0, none⟩), .string s] w fun e w' => e = .returned (.tuple #[.int .i64 s.size, .nilIface]) ∧ ∃ v', Bl2 w' B b (.pointer (some ⟨b, 0, none⟩)) v' (Lib.strCells s) ∧ BxB b B w w' := by
  obtain ⟨i0, hi, hz0, hz1, hz2⟩ := info_parts infoU8
  have hlt := h.lt
  obtain ⟨hbk, hown, hne⟩ := h
  have c0 : w.cell? ⟨b, 0, none⟩ = some (.pointer none) := (cell_of_heap hbk).trans rfl
  have hbs : (w.setCell ⟨b, 0, none⟩ (.pointer (some ⟨b, 0, none⟩))).heap[b]? = some (.cells #[.pointer (some ⟨b, 0, none⟩), .slice none 0 0] 39 (0, 0)) := heap_set (o := 0) hbk
  have CU := checkFresh w b c0 (by simp [World.shape?, hbk]) (froz_of_heap hbk)
  have hB1 : BxB b B w (w.setCell ⟨b, 0, none⟩ (.pointer (some ⟨b, 0, none⟩))) := (BxB.refl _ _ _).set _ _
  generalize w.setCell ⟨b, 0, none⟩ (.pointer (some ⟨b, 0, none⟩)) = W at hbs CU hB1
  have hlt1 : b < W.heap.size := Nat.lt_of_lt_of_le hlt hB1.size
  have hown1 : W.ownsRow B 5 1 (.slice none 0 0) 0 [] := World.ownsRow_nil _ _ _ _
  have c1 : W.cell? ⟨b, 1, none⟩ = some (.slice none 0 0) := (cell_of_heap hbs).trans rfl
  have hz := hB1.size
  clear c0 hbk hown hlt
  go_enter Tryz.func15, Tryz.ntmps15
  go_wp2_with (first | (go_at_call 30; refine CU.mono ?_; rintro e w8 ⟨rfl, h9⟩; have h8 := h9.symm; clear h9; subst h8) | (at_builtin; refine Lib.wpList_append_own_string _ rfl _ _ 37 9 rfl B 5 i0 Tryz.underlying37 Tryz.underlying9 hi hz0 hz1 hz2 _ _ _ rfl hown1 s rfl ?c3 ?c4 ?c5 ?_))
  case c3 => unfold maxLen; omega
  case c4 => omega
  case c5 => omega
  intro v' w2 hown' hgrow _
  have hb2 : w2.heap[b]? = some (.cells #[.pointer (some ⟨b, 0, none⟩), .slice none 0 0] 39 (0, 0)) := by
    rw [hgrow.block b hlt1 (fun e => hne e.symm)]
    exact hbs
  have d0 : w2.cell? ⟨b, 0, none⟩ = some (.pointer (some ⟨b, 0, none⟩)) := (cell_of_heap hb2).trans rfl
  have d1 : w2.cell? ⟨b, 1, none⟩ = some (.slice none 0 0) := (cell_of_heap hb2).trans rfl
  have f1 : w2.frozen? ⟨b, 1, none⟩ = false := froz_of_heap hb2
  obtain ⟨ao, n', cap, rfl⟩ : ∃ ao n' cap, v' = .slice ao n' cap := by
    rcases hown'.2 with ⟨hv, _⟩ | ⟨g, cap, cur, hv, _⟩
    · exact ⟨_, _, _, hv⟩
    · exact ⟨_, _, _, hv⟩
  go_wp2_with fail
  go_ret2
  have hown2 : w2.ownsRow B 5 1 (.slice ao n' cap) (Lib.strCells s).length (Lib.strCells s) := by simpa [Lib.strCells_length] using hown'
  have hne2 := Lib.ownBlock_ne hown2 hb2 (by decide)
  refine ⟨rfl, _, ⟨heap_set (o := 1) hb2, ?_, hne2⟩, ?_⟩
  · exact hown2.kept (row := some b) ⟨rfl, rfl, rfl, by simp [World.setCell], fun k _ hk => Below.heap_setCell _ _ _ _ (fun e => hk (by simp [e]))⟩ (Or.inr hne2)
  · exact (hB1.grown hgrow hBw (fun k hk => by cases hk)).set _ _
theorem frz_other (w : World) (g n i : Nat) (h : i ≠ g) : (w.freeze ⟨g, 0, none⟩ n).heap[i]? = w.heap[i]? := by
  unfold World.freeze
  split
  · rfl
  · show (w.heap.modify g _)[i]? = _
    rw [Array.getElem?_modify, if_neg (fun e => h e.symm)]
set_option maxHeartbeats 1000000 in
set_option maxRecDepth 100000 in
theorem stringU (w : World) (B b : Nat) (p v : Value) (l : List UInt8) (h : Bl2 w B b p v (Lib.byteCells l)) (h0 : l ≠ []) :
    Calls Tryz.prog 17 #[.pointer (some ⟨b, 0, none⟩)] w fun e w' => e = .returned (.string ⟨l.toArray⟩) ∧ ∃ g, v.ownBlock = some g ∧ w' = w.drew.freeze ⟨g, 0, none⟩ l.length := by
  obtain ⟨hbk, hown, hne⟩ := h
  have hl0 : l.length ≠ 0 := by simpa using h0
  rw [Lib.byteCells_length] at hown
  obtain ⟨g, cap, cur, rfl, hbg, hg, hnc, hcm, hcs, htake⟩ : ∃ g cap cur, v = .slice (some ⟨g, 0, none⟩) l.length cap ∧ B ≤ g ∧ w.heap[g]? = some (.cells cur 5 (0, 0)) ∧ l.length ≤ cap ∧ cap ≤ maxLen ∧ cur.size = cap * 1 ∧ cur.toList.take (l.length * 1) = Lib.byteCells l := by
    rcases hown.2 with ⟨_, hz⟩ | ⟨g, cap, cur, hv, r⟩
    · exact absurd hz hl0
    · exact ⟨g, cap, cur, hv, r⟩
  have c1 : w.drew.cell? ⟨b, 1, none⟩ = some (.slice (some ⟨g, 0, none⟩) l.length cap) := by
    have : w.drew.heap[b]? = some (.cells #[p, .slice (some ⟨g, 0, none⟩) l.length cap] 39 (0, 0)) := hbk
    rw [cell_of_heap this]; rfl
  have hSD : (Builtin.unsafeSliceData_ #[37] 78 #[.slice (some ⟨g, 0, none⟩) l.length cap]).run Tryz.prog w.drew = .ok (.pointer (some ⟨g, 0, none⟩)) w.drew :=
    Lib.run_unsafeSliceData_row _ _ _ _ _ _ (by omega)
  have hUS : (Builtin.unsafeString_ #[78, 3] 9 #[.pointer (some ⟨g, 0, none⟩), .int .i64 l.length]).run Tryz.prog w.drew = .ok (.string ⟨l.toArray⟩) (w.drew.freeze ⟨g, 0, none⟩ l.length) := by
    refine Lib.run_unsafeString_row w.drew 78 3 9 5 Tryz.underlying78 (by kernel_rfl) g cur.size (by have hg' : w.drew.heap[g]? = some (.cells cur 5 (0, 0)) := hg; simp [World.shape?, hg']) l h0 (by omega) (by unfold maxLen at hcm; omega) ?_
    intro j x hx
    have := hown.cells (g := g) rfl j (.int .u8 x.toNat) (by simp [Lib.byteCells, hx])
    exact this
  clear hown hbk htake hcs
  go_enter Tryz.func17, Tryz.ntmps17
  go_wp2_with fail
  go_region
  all_goals (go_wp2_with fail; go_ret; exact ⟨rfl, g, rfl, rfl⟩)
/-- Written once more or for the first time. -/
def BlA (w : World) (B b : Nat) (l : List Value) : Prop := (∃ v, Bl2 w B b (.pointer (some ⟨b, 0, none⟩)) v l) ∨ (l = [] ∧ Bl2 w B b (.pointer none) (.slice none 0 0) [])
theorem BlA.keep {w w' : World} {B b : Nat} {l : List Value} (h : BlA w B b l) (k : Below w.heap.size w w') : BlA w' B b l := by
  rcases h with ⟨v, h⟩ | ⟨e, h⟩
  · exact .inl ⟨v, h.keep k⟩
  · exact .inr ⟨e, h.keep k⟩
theorem BlA.lt {w : World} {B b : Nat} {l : List Value} (h : BlA w B b l) : b < w.heap.size := by
  rcases h with ⟨v, h⟩ | ⟨e, h⟩
  · exact h.lt
  · exact h.lt
theorem writeA (w : World) (B b : Nat) (l : List Value) (s : ByteArray) (h : BlA w B b l) (hlen : l.length + s.size ≤ 140737488355328) (hBw : B ≤ w.heap.size) :
    Calls Tryz.prog 15 #[.pointer (some ⟨b, 0, none⟩), .string s] w fun e w' => e = .returned (.tuple #[.int .i64 s.size, .nilIface]) ∧ (∃ v, Bl2 w' B b (.pointer (some ⟨b, 0, none⟩)) v (l ++ Lib.strCells s)) ∧ BxB b B w w' := by
  rcases h with ⟨v, h⟩ | ⟨rfl, h⟩
  · refine (writeU w B b v l s h hlen hBw).mono ?_
    rintro e w' ⟨he, v', w1, hb, hg, rfl⟩
    exact ⟨he, ⟨v', hb⟩, ((BxB.refl b B w).grown hg hBw (fun k hk => (h.row.lt k hk).1)).set _ _⟩
  · refine (writeN w B b s h (by simpa using hlen) hBw).mono ?_
    rintro e w' ⟨he, v', hb, hx⟩
    exact ⟨he, ⟨v', by simpa using hb⟩, hx⟩
end Go.Proofs.YtjpiiemhklphlaaGreatDoor
