/- Reading: what is wanted; a row of numbers that are taken. -/
import Derived.Test.YtclagbdomfgodaaGreatDoorRow
import Derived.Test.YtclagbdomfgodaaGreatDoorAtt
import Derived.Test.YtclagbdomfgodaaGreatDoorCntW
import Derived.Laws.CopyOwn
namespace Go.Proofs.YtclagbdomfgodaaGreatDoor
open Go.RowKit
set_option linter.unusedVariables false

structure Gv (w : World) (g : Nat) (v : Value) : Prop where
  cell : w.cell? ⟨g, 0, none⟩ = some v
  lt : g < w.heap.size
theorem Gv.keep {w w' : World} {g : Nat} {v : Value} (h : Gv w g v) (k : Below w.heap.size w w') : Gv w' g v := ⟨(cell_block (k.block g h.lt)).trans h.cell, Nat.lt_of_lt_of_le h.lt k.size⟩
def errV (a : Addr) : Value := .iface 187 (.pointer (some a))
/-- It gives up. -/
def Gone (a : Addr) (e : Ending) : Prop := e = .panicked [{ v := errV a, recovered := false }]
theorem wantY (w : World) : Calls Tryz.prog 40 #[.bool true] w fun e w' => e = .returned (.tuple #[]) ∧ w' = w := by
  go_enter Tryz.func40, Tryz.ntmps40
  go_wp2_with fail
  exact bodyPost_end (results_none Tryz.results40 _ _ _) rfl ⟨rfl, rfl⟩
theorem wantN (a : Addr) (w : World) (hv : Gv w 1 (errV a)) : Calls Tryz.prog 40 #[.bool false] w fun e w' => e = .panicked [{ v := errV a, recovered := false }] ∧ w' = w := by
  have c := hv.cell
  unfold errV at c ⊢
  go_enter Tryz.func40, Tryz.ntmps40
  go_wp2_with fail
  exact ⟨rfl, rfl, rfl⟩
theorem map_cell {l : List Int} {j : Nat} {u : Value} (h : (l.map (Value.int .i64))[j]? = some u) : j < l.length ∧ u = .int .i64 (l.getD j 0) := by
  have hj : j < l.length := by have := (List.getElem?_eq_some_iff.1 h).1; simpa using this
  refine ⟨hj, ?_⟩
  simp [hj] at h
  rw [← h]; simp [List.getD, hj]
set_option maxHeartbeats 1000000 in
set_option maxRecDepth 100000 in
theorem cloneI (lo : Nat) (a : Option Addr) (cap : Nat) (l : List Int) (w : World) (hl : l.length ≤ 1048576) (hv : IntsAt w lo a l) :
    Calls Tryz.prog 100 #[.slice a l.length cap] w fun e w' => ∃ v, e = .returned v ∧ Row w' w.heap.size v l ∧ Below w.heap.size w w' := by
  obtain ⟨i0, hi, hz0, hz1, hz2⟩ := info_parts infoI
  rcases a with _ | ad
  · have hnil : l = [] := by
      rcases hv.2 with h | ⟨b, off, h, _⟩
      · exact h
      · simp at h
    subst hnil
    have hq := fun (v : World) => Lib.run_eql_slice_nil v 24 2 none 0 cap 0 0 Tryz.underlying24
    go_enter Tryz.func100, Tryz.ntmps100
    go_wp2_with fail
    go_ret
    exact ⟨_, rfl, Row.nil _ _, Below.refl _ _⟩
  · have hcell : ∀ j u, (l.map (Value.int .i64))[j]? = some u → (w.alloc (.cells #[] 2)).cell? (ad.add j) = some u := by
      intro j u hj
      rcases hv.2 with h | ⟨b, off, h, _, hb, hc⟩
      · simp [h] at hj
      · simp at h
        subst h
        obtain ⟨hjl, rfl⟩ := map_cell hj
        rw [Addr.add_lit, cell_block (Below.heap_alloc w _ b hb), hc j hjl]
    have hq := fun (v : World) => Lib.run_eql_slice_nil v 24 2 (some ad) l.length cap 0 0 Tryz.underlying24
    go_enter Tryz.func100, Tryz.ntmps100
    go_wp2_with (at_builtin; refine wpList_append_own _ rfl _ _ 24 rfl w.heap.size 2 i0 (.int .i64 0) 1 8 Tryz.underlying24 hi hz0 hz1 hz2 rfl (by decide) _ 0 [] rfl (World.ownsRow_lit w #[] 0 (Nat.le_refl _) (by decide) (by simp)) ad l.length cap (l.map (Value.int .i64)) rfl (by simp) hcell (by simp [Value.oneCell']) (by unfold maxLen; omega) (by omega) (by simp) ?_; intro v' w1 hown hgrow hnn)
    simp only [Nat.zero_add, List.nil_append] at hown
    go_ret
    exact ⟨_, rfl, hown, ((Below.refl _ _).alloc (Nat.le_refl _) _).grown hgrow (by simp) (fun k hk => by have hk' : some w.heap.size = some k := hk; simp at hk'; omega)⟩
/-- All blocks but one stay. -/
structure OnlyR (R : Nat) (w w' : World) : Prop where
  os : w'.os = w.os
  tape : w'.tape = w.tape
  output : w'.output = w.output
  size : w.heap.size ≤ w'.heap.size
  block : ∀ i, i < w.heap.size → i ≠ R → w'.heap[i]? = w.heap[i]?
theorem OnlyR.refl (R : Nat) (w : World) : OnlyR R w w := ⟨rfl, rfl, rfl, Nat.le_refl _, fun _ _ _ => rfl⟩
theorem OnlyR.trans {R : Nat} {x y z : World} (h : OnlyR R x y) (k : OnlyR R y z) : OnlyR R x z := ⟨k.os.trans h.os, k.tape.trans h.tape, k.output.trans h.output, Nat.le_trans h.size k.size, fun i hi hn => (k.block i (Nat.lt_of_lt_of_le hi h.size) hn).trans (h.block i hi hn)⟩
theorem OnlyR.below {R : Nat} {w w' : World} (k : Below w.heap.size w w') : OnlyR R w w' := ⟨k.os, k.tape, k.output, k.size, fun i hi _ => k.block i hi⟩
theorem OnlyR.set {R : Nat} {w w' : World} (h : OnlyR R w w') (o : Nat) (v : Value) : OnlyR R w (w'.setCell ⟨R, o, none⟩ v) :=
  h.trans ⟨rfl, rfl, rfl, by simp [World.setCell], fun i _ hn => Below.heap_setCell _ _ _ _ hn⟩
theorem OnlyR.down {R n : Nat} {w w' : World} (h : OnlyR R w w') (hn : n ≤ R) (hz : n ≤ w.heap.size) : Below n w w' := ⟨h.os, h.tape, h.output, h.size, fun i hi => h.block i (by omega) (by omega)⟩
/-- A row of which numbers are taken. -/
def RwAt (w : World) (R : Nat) (l : List Int) : Prop :=
  (l = [] ∧ At w R #[.slice none 0 0] 104) ∨ ∃ b off c, At w R #[.slice (some ⟨b, off, none⟩) l.length c] 104 ∧ l.length ≤ c ∧ c ≤ 9223372036854775807 ∧ b ≠ R ∧ b < w.heap.size ∧ ∀ i, i < l.length → w.cell? ⟨b, off + i, none⟩ = some (.int .i64 (l.getD i 0))
theorem RwAt.lt {w : World} {R : Nat} {l : List Int} (h : RwAt w R l) : R < w.heap.size := by
  rcases h with ⟨_, h⟩ | ⟨b, off, c, h, _⟩
  · exact h.lt
  · exact h.lt
theorem RwAt.keep {w w' : World} {R : Nat} {l : List Int} (h : RwAt w R l) (k : Below w.heap.size w w') : RwAt w' R l := by
  rcases h with ⟨e, h⟩ | ⟨b, off, c, h, h1, h2, h3, h4, h5⟩
  · exact .inl ⟨e, h.below k⟩
  · exact .inr ⟨b, off, c, h.below k, h1, h2, h3, Nat.lt_of_lt_of_le h4 k.size, fun i hi => (cell_block (k.block b h4)).trans (h5 i hi)⟩
set_option maxHeartbeats 2000000 in
theorem someN (a : Addr) (R : Nat) (k : Int) (l : List Int) (w : World) (h : RwAt w R l) (hk : (l.length : Int) < k) (hv : Gv w 1 (errV a)) :
    Calls Tryz.prog 85 #[.pointer (some ⟨R, 0, none⟩), .int .i64 k] w fun e w' => e = .panicked [{ v := errV a, recovered := false }] ∧ w' = w := by
  have W := wantN a w hv
  have hn : ¬ k ≤ (l.length : Int) := by omega
  rcases h with ⟨rfl, h⟩ | ⟨b, off, c, h, h1, h2, h3, h4, h5⟩
  · have c0 : w.cell? ⟨R, 0, none⟩ = some (.slice none 0 0) := h.cell 0
    have hn0 : ¬ k ≤ 0 := by simpa using hn
    go_enter Tryz.func85, Tryz.ntmps85
    go_wp2_with fail
    refine W.mono ?_
    rintro e w1 ⟨rfl, h9⟩
    have h8 := h9.symm
    clear h9
    subst h8
    go_wp2_with fail
    exact ⟨rfl, rfl, rfl⟩
  · have c0 : w.cell? ⟨R, 0, none⟩ = some (.slice (some ⟨b, off, none⟩) l.length c) := h.cell 0
    clear h5
    go_enter Tryz.func85, Tryz.ntmps85
    go_wp2_with fail
    refine W.mono ?_
    rintro e w1 ⟨rfl, h9⟩
    have h8 := h9.symm
    clear h9
    subst h8
    go_wp2_with fail
    exact ⟨rfl, rfl, rfl⟩
theorem row_set {w : World} {R base : Nat} {v x : Value} {l : List Int} (h : Row w base v l) (hR : R < base) : Row (w.setCell ⟨R, 0, none⟩ x) base v l :=
  World.ownsRow.kept h (row := some R) ⟨rfl, rfl, rfl, by simp [World.setCell], fun k _ hk => Below.heap_setCell _ _ _ _ (fun e => hk (by simp [e]))⟩ (by
    cases e : v.ownBlock with
    | none => exact .inl rfl
    | some g => exact .inr (fun e2 => by have := (World.ownsRow.lt h g e).1; cases e2; omega))
theorem At.set0 {w : World} {R : Nat} {x : Value} {T : TypeId} (h : At w R #[x] T) (y : Value) : At (w.setCell ⟨R, 0, none⟩ y) R #[y] T := heap_set (o := 0) h
set_option maxHeartbeats 4000000 in
theorem someY (R k : Nat) (l : List Int) (w : World) (h : RwAt w R l) (hk : k ≤ l.length) (hl : l.length ≤ 1048576) :
    Calls Tryz.prog 85 #[.pointer (some ⟨R, 0, none⟩), .int .i64 (k : Int)] w fun e w' => ∃ v, e = .returned v ∧ Row w' w.heap.size v (l.take k) ∧ RwAt w' R (l.drop k) ∧ OnlyR R w w' := by
  have W := wantY w
  have hlt := h.lt
  rcases h with ⟨rfl, h⟩ | ⟨b, off, c, h, h1, h2, h3, h4, h5⟩
  · have hk0 : k = 0 := by simpa using hk
    subst hk0
    have c0 : w.cell? ⟨R, 0, none⟩ = some (.slice none 0 0) := h.cell 0
    have C := cloneI 0 none 0 [] w (by simp) ⟨by simp, .inl rfl⟩
    have HA : Hid (At w R #[.slice none 0 0] 104) := h
    clear h
    go_enter Tryz.func85, Tryz.ntmps85
    go_wp2_with fail
    refine W.mono ?_
    rintro e w1 ⟨rfl, h9⟩
    have h8 := h9.symm
    clear h9
    subst h8
    go_wp2_with fail
    refine C.mono ?_
    rintro e w2 ⟨v, rfl, hr, b2⟩
    have hA2 := HA.out.below b2
    have d0 : w2.cell? ⟨R, 0, none⟩ = some (.slice none 0 0) := hA2.cell 0
    have f0 : w2.frozen? ⟨R, 0, none⟩ = false := froz_of_heap hA2
    have HR : Hid (Row w2 w.heap.size v []) := hr
    clear hr
    obtain ⟨a, c, rfl⟩ := HR.out.slice
    go_wp2_with fail
    go_ret
    exact ⟨_, rfl, row_set HR.out hlt, .inl ⟨rfl, At.set0 hA2 _⟩, (OnlyR.below b2).set _ _⟩
  · have c0 : w.cell? ⟨R, 0, none⟩ = some (.slice (some ⟨b, off, none⟩) l.length c) := h.cell 0
    have hlk : (l.take k).length = k := by rw [List.length_take]; omega
    have C := cloneI 0 (some ⟨b, off, none⟩) c (l.take k) w (by omega) ⟨by omega, .inr ⟨b, off, rfl, Nat.zero_le _, h4, fun i hi => by rw [hlk] at hi; rw [h5 i (by omega)]; simp [List.getD, hi]⟩⟩
    rw [hlk] at C
    have HT : Hid ((l.take k).length = k) := hlk
    have HA : Hid (At w R #[.slice (some ⟨b, off, none⟩) l.length c] 104) := h
    have H5 : Hid (∀ i, i < l.length → w.cell? ⟨b, off + i, none⟩ = some (.int .i64 (l.getD i 0))) := h5
    have q1 : (k : Int) ≤ (l.length : Int) := by omega
    have q2 : (k : Int) ≤ (c : Int) := by omega
    have q3 : (l.length : Int) ≤ (c : Int) := by omega
    have HL : Hid (l.length ≤ c) := h1
    have hdl : Hid ((l.drop k).length = l.length - k) := by show _ = _; simp
    generalize hnl : l.length = n at *
    have HN : Hid (l.length = n) := hnl
    clear h hlk h5 hnl
    go_enter Tryz.func85, Tryz.ntmps85
    go_wp2_with fail
    refine W.mono ?_
    rintro e w1 ⟨rfl, h9⟩
    have h8 := h9.symm
    clear h9
    subst h8
    go_wp2_with fail
    refine C.mono ?_
    rintro e w2 ⟨v, rfl, hr, b2⟩
    have hA2 := HA.out.below b2
    have d0 : w2.cell? ⟨R, 0, none⟩ = some (.slice (some ⟨b, off, none⟩) n c) := hA2.cell 0
    have f0 : w2.frozen? ⟨R, 0, none⟩ = false := froz_of_heap hA2
    have HR : Hid (Row w2 w.heap.size v (l.take k)) := hr
    clear hr
    obtain ⟨a, c', rfl⟩ := HR.out.slice
    have HB2 : Hid (Below w.heap.size w w2) := b2
    clear b2
    go_wp2_with fail
    · have hz : n - k = 0 := by have := HL.out; omega
      go_ret
      refine ⟨_, by rw [← HN.out]; simp, row_set HR.out hlt, .inr ⟨b, off, 0, ?_, ?_, by omega, h3, ?_, fun i hi => ?_⟩, (OnlyR.below HB2.out).set _ _⟩
      · rw [hdl.out]; exact At.set0 hA2 _
      · rw [hdl.out]; omega
      · have := HB2.out.size; simp [World.setCell]; omega
      · rw [hdl.out] at hi; omega
    · go_ret
      refine ⟨_, by rw [← HN.out]; simp, row_set HR.out hlt, .inr ⟨b, off + k, c - k, ?_, ?_, by omega, h3, ?_, fun i hi => ?_⟩, (OnlyR.below HB2.out).set _ _⟩
      · rw [hdl.out]; exact At.set0 hA2 _
      · rw [hdl.out]; have := HL.out; omega
      · have := HB2.out.size; simp [World.setCell]; omega
      · rw [hdl.out] at hi
        have e : (l.drop k).getD i 0 = l.getD (k + i) 0 := by simp [List.getD]
        rw [e, Nat.add_assoc]
        refine (cell_block (Below.heap_setCell _ _ _ _ (by show b ≠ R; exact h3))).trans ((cell_block (HB2.out.block b h4)).trans (H5.out (k + i) ?_))
        omega
theorem nextN (a : Addr) (R : Nat) (w : World) (h : RwAt w R []) (hv : Gv w 1 (errV a)) :
    Calls Tryz.prog 65 #[.pointer (some ⟨R, 0, none⟩)] w fun e w' => e = .panicked [{ v := errV a, recovered := false }] ∧ w' = w := by
  have W := someN a R 1 [] w h (by decide) hv
  go_enter Tryz.func65, Tryz.ntmps65
  go_wp2_with fail
  refine W.mono ?_
  rintro e w1 ⟨rfl, h9⟩
  have h8 := h9.symm
  clear h9
  subst h8
  go_wp2_with fail
  exact ⟨rfl, rfl, rfl⟩
theorem nextY (R : Nat) (x : Int) (l : List Int) (w : World) (h : RwAt w R (x :: l)) (hl : l.length < 1048576) :
    Calls Tryz.prog 65 #[.pointer (some ⟨R, 0, none⟩)] w fun e w' => e = .returned (.int .i64 x) ∧ RwAt w' R l ∧ OnlyR R w w' := by
  have W := someY R 1 (x :: l) w h (by simp) (by simp; omega)
  have e1 : (x :: l).take 1 = [x] := rfl
  have e2 : (x :: l).drop 1 = l := rfl
  rw [e1, e2] at W
  clear e1 e2
  go_enter Tryz.func65, Tryz.ntmps65
  go_wp2_with fail
  refine W.mono ?_
  rintro e w1 ⟨v, rfl, hr, hw, ho⟩
  obtain ⟨u, c, rfl, hi⟩ := Row.ints (by simp) hr
  rcases hi.2 with h0 | ⟨b, off, rfl, _, _, hc⟩
  · cases h0
  · have c0 : w1.cell? ⟨b, off, none⟩ = some (.int .i64 x) := by simpa using hc 0 (by simp)
    clear hc hi hr
    go_wp2_with fail
    go_ret
    exact ⟨rfl, hw, ho⟩
theorem restI (R : Nat) (l : List Int) (w : World) (h : RwAt w R l) (hl : l.length ≤ 1048576) :
    Calls Tryz.prog 68 #[.pointer (some ⟨R, 0, none⟩)] w fun e w' => ∃ v, e = .returned v ∧ Row w' w.heap.size v l ∧ OnlyR R w w' := by
  have W := someY R l.length l w h (Nat.le_refl _) hl
  rw [List.take_length, List.drop_length] at W
  obtain ⟨u, c, c0⟩ : ∃ u c, w.cell? ⟨R, 0, none⟩ = some (.slice u l.length c) := by
    rcases h with ⟨rfl, h⟩ | ⟨b, off, c, h, _⟩
    · exact ⟨none, 0, h.cell 0⟩
    · exact ⟨_, _, h.cell 0⟩
  go_enter Tryz.func68, Tryz.ntmps68
  go_wp2_with fail
  refine W.mono ?_
  rintro e w1 ⟨v, rfl, hr, _, ho⟩
  go_wp2_with fail
  go_ret
  exact ⟨_, rfl, hr, ho⟩
end Go.Proofs.YtclagbdomfgodaaGreatDoor
