import Derived.Test.YtojhakjkfkmklaaGreatDoorCntWV
import Derived.Test.YtojhakjkfkmklaaGreatDoorRbEV
import Derived.BigRegion
namespace Go.Proofs.YtojhakjkfkmklaaGreatDoor
open Go.RowKit
set_option linter.unusedVariables false
def RwIn (B : Nat) (w : World) (R : Nat) (l : List Int) : Prop :=
 (l = [] ∧ At w R #[.slice none 0 0] 121) ∨ ∃ b off c, At w R #[.slice (some ⟨b, off, none⟩) l.length c] 121 ∧ l.length ≤ c ∧ c ≤ 9223372036854775807 ∧ b ≠ R ∧ (b < B ∧ B ≤ w.heap.size) ∧ ∀ i, i < l.length → w.cell? ⟨b, off + i, none⟩ = some (.int .i64 (l.getD i 0))
theorem RwIn.lt {w : World} {B R : Nat} {l : List Int} (h : RwIn B w R l) : R < w.heap.size := by
 rcases h with ⟨_, h⟩ | ⟨b, off, c, h, _⟩
 ·exact h.lt
 ·exact h.lt
theorem RwIn.keep {w w' : World} {B R : Nat} {l : List Int} (h : RwIn B w R l) (k : Below w.heap.size w w') : RwIn B w' R l := by
 rcases h with ⟨e, h⟩ | ⟨b, off, c, h, h1, h2, h3, h4, h5⟩
 ·exact .inl ⟨e, h.below k⟩
 ·exact .inr ⟨b, off, c, h.below k, h1, h2, h3, ⟨h4.1, Nat.le_trans h4.2 k.size⟩, fun i hi => (cell_block (k.block b (Nat.lt_of_lt_of_le h4.1 h4.2))).trans (h5 i hi)⟩
set_option maxHeartbeats 2000000 in
theorem someN2 (a : Addr) (B R : Nat) (k : Int) (l : List Int) (w : World) (h : RwIn B w R l) (hk : (l.length : Int) < k) (hv : Gv w 0 (errV a)) :
  Calls Tryz.prog 88 #[.pointer (some ⟨R, 0, none⟩), .int .i64 k] w fun e w' => e = .panicked [{ v := errV a, recovered := false }] ∧ w' = w := by
 have W := wantN a w hv
 have hn : ¬ k ≤ (l.length : Int) := by omega
 rcases h with ⟨rfl, h⟩ | ⟨b, off, c, h, h1, h2, h3, h4, h5⟩
 ·have c0 : w.cell? ⟨R, 0, none⟩ = some (.slice none 0 0) := h.cell 0
  have hn0 : ¬ k ≤ 0 := by simpa using hn
  go_enter Tryz.func88, Tryz.ntmps88
  go_wp2_with fail
  refine W.mono ?_
  rintro e w1 ⟨rfl, h9⟩
  have h8 := h9.symm
  clear h9
  subst h8
  go_wp2_with fail
  exact ⟨rfl, rfl, rfl⟩
 ·have c0 : w.cell? ⟨R, 0, none⟩ = some (.slice (some ⟨b, off, none⟩) l.length c) := h.cell 0
  clear h5
  go_enter Tryz.func88, Tryz.ntmps88
  go_wp2_with fail
  refine W.mono ?_
  rintro e w1 ⟨rfl, h9⟩
  have h8 := h9.symm
  clear h9
  subst h8
  go_wp2_with fail
  exact ⟨rfl, rfl, rfl⟩
set_option maxHeartbeats 4000000 in
theorem someY2 (B R k : Nat) (l : List Int) (w : World) (h : RwIn B w R l) (hk : k ≤ l.length) (hl : l.length ≤ 1048576) :
  Calls Tryz.prog 88 #[.pointer (some ⟨R, 0, none⟩), .int .i64 (k : Int)] w fun e w' => ∃ v, e = .returned v ∧ Row w' w.heap.size v (l.take k) ∧ RwIn B w' R (l.drop k) ∧ OnlyR R w w' := by
 have W := wantY w
 have hlt := h.lt
 rcases h with ⟨rfl, h⟩ | ⟨b, off, c, h, h1, h2, h3, h4, h5⟩
 ·have hk0 : k = 0 := by simpa using hk
  subst hk0
  have c0 : w.cell? ⟨R, 0, none⟩ = some (.slice none 0 0) := h.cell 0
  have C := cloneI 0 none 0 [] w (by simp) ⟨by simp, .inl rfl⟩
  have HA : Hid (At w R #[.slice none 0 0] 121) := h
  clear h
  go_enter Tryz.func88, Tryz.ntmps88
  go_wp2_with fail
  refine W.mono ?_
  rintro e w1 ⟨rfl, h9⟩
  have h8 := h9.symm
  clear h9
  subst h8
  go_wp2_with fail
  refine C.mono ?_
  rintro e w2 ⟨v, rfl, hr, b2⟩
  have hA2 := HA.out.below b2
  have d0 : w2.cell? ⟨R, 0, none⟩ = some (.slice none 0 0) := hA2.cell 0
  have f0 : w2.frozen? ⟨R, 0, none⟩ = false := froz_of_heap hA2
  have HR : Hid (Row w2 w.heap.size v []) := hr
  clear hr
  obtain ⟨a, c, rfl⟩ := HR.out.slice
  go_wp2_with fail
  go_ret
  exact ⟨_, rfl, row_set HR.out hlt, .inl ⟨rfl, At.set0 hA2 _⟩, (OnlyR.below b2).set _ _⟩
 ·have c0 : w.cell? ⟨R, 0, none⟩ = some (.slice (some ⟨b, off, none⟩) l.length c) := h.cell 0
  have hlk : (l.take k).length = k := by rw [List.length_take]; omega
  have C := cloneI 0 (some ⟨b, off, none⟩) c (l.take k) w (by omega) ⟨by omega, .inr ⟨b, off, rfl, Nat.zero_le _, Nat.lt_of_lt_of_le h4.1 h4.2, fun i hi => by rw [hlk] at hi; rw [h5 i (by omega)]; simp [List.getD, hi]⟩⟩
  rw [hlk] at C
  have HT : Hid ((l.take k).length = k) := hlk
  have HA : Hid (At w R #[.slice (some ⟨b, off, none⟩) l.length c] 121) := h
  have H5 : Hid (∀ i, i < l.length → w.cell? ⟨b, off + i, none⟩ = some (.int .i64 (l.getD i 0))) := h5
  have q1 : (k : Int) ≤ (l.length : Int) := by omega
  have q2 : (k : Int) ≤ (c : Int) := by omega
  have q3 : (l.length : Int) ≤ (c : Int) := by omega
  have HL : Hid (l.length ≤ c) := h1
  have hdl : Hid ((l.drop k).length = l.length - k) := by show _ = _; simp
  generalize hnl : l.length = n at *
  have HN : Hid (l.length = n) := hnl
  clear h hlk h5 hnl
  go_enter Tryz.func88, Tryz.ntmps88
  go_wp2_with fail
  refine W.mono ?_
  rintro e w1 ⟨rfl, h9⟩
  have h8 := h9.symm
  clear h9
  subst h8
  go_wp2_with fail
  refine C.mono ?_
  rintro e w2 ⟨v, rfl, hr, b2⟩
  have hA2 := HA.out.below b2
  have d0 : w2.cell? ⟨R, 0, none⟩ = some (.slice (some ⟨b, off, none⟩) n c) := hA2.cell 0
  have f0 : w2.frozen? ⟨R, 0, none⟩ = false := froz_of_heap hA2
  have HR : Hid (Row w2 w.heap.size v (l.take k)) := hr
  clear hr
  obtain ⟨a, c', rfl⟩ := HR.out.slice
  have HB2 : Hid (Below w.heap.size w w2) := b2
  clear b2
  go_wp2_with fail
  ·have hz : n - k = 0 := by have := HL.out; omega
   go_ret
   refine ⟨_, by rw [← HN.out]; simp, row_set HR.out hlt, .inr ⟨b, off, 0, ?_, ?_, by omega, h3, ?_, fun i hi => ?_⟩, (OnlyR.below HB2.out).set _ _⟩
   ·rw [hdl.out]; exact At.set0 hA2 _
   ·rw [hdl.out]; omega
   ·refine ⟨h4.1, ?_⟩; have := HB2.out.size; have := h4.2; simp [World.setCell]; omega
   ·rw [hdl.out] at hi; omega
  ·go_ret
   refine ⟨_, by rw [← HN.out]; simp, row_set HR.out hlt, .inr ⟨b, off + k, c - k, ?_, ?_, by omega, h3, ?_, fun i hi => ?_⟩, (OnlyR.below HB2.out).set _ _⟩
   ·rw [hdl.out]; exact At.set0 hA2 _
   ·rw [hdl.out]; have := HL.out; omega
   ·refine ⟨h4.1, ?_⟩; have := HB2.out.size; have := h4.2; simp [World.setCell]; omega
   ·rw [hdl.out] at hi
    have e : (l.drop k).getD i 0 = l.getD (k + i) 0 := by simp [List.getD]
    rw [e, Nat.add_assoc]
    refine (cell_block (Below.heap_setCell _ _ _ _ (by show b ≠ R; exact h3))).trans ((cell_block (HB2.out.block b (Nat.lt_of_lt_of_le h4.1 h4.2))).trans (H5.out (k + i) ?_))
    omega
theorem nextN2 (a : Addr) (B R : Nat) (w : World) (h : RwIn B w R []) (hv : Gv w 0 (errV a)) :
  Calls Tryz.prog 52 #[.pointer (some ⟨R, 0, none⟩)] w fun e w' => e = .panicked [{ v := errV a, recovered := false }] ∧ w' = w := by
 have W := someN2 a B R 1 [] w h (by decide) hv
 go_enter Tryz.func52, Tryz.ntmps52
 go_wp2_with fail
 refine W.mono ?_
 rintro e w1 ⟨rfl, h9⟩
 have h8 := h9.symm
 clear h9
 subst h8
 go_wp2_with fail
 exact ⟨rfl, rfl, rfl⟩
theorem nextY2 (B R : Nat) (x : Int) (l : List Int) (w : World) (h : RwIn B w R (x :: l)) (hl : l.length < 1048576) :
  Calls Tryz.prog 52 #[.pointer (some ⟨R, 0, none⟩)] w fun e w' => e = .returned (.int .i64 x) ∧ RwIn B w' R l ∧ OnlyR R w w' := by
 have W := someY2 B R 1 (x :: l) w h (by simp) (by simp; omega)
 have e1 : (x :: l).take 1 = [x] := rfl
 have e2 : (x :: l).drop 1 = l := rfl
 rw [e1, e2] at W
 clear e1 e2
 go_enter Tryz.func52, Tryz.ntmps52
 go_wp2_with fail
 refine W.mono ?_
 rintro e w1 ⟨v, rfl, hr, hw, ho⟩
 obtain ⟨u, c, rfl, hi⟩ := Row.ints (by simp) hr
 rcases hi.2 with h0 | ⟨b, off, rfl, _, _, hc⟩
 ·cases h0
 ·have c0 : w1.cell? ⟨b, off, none⟩ = some (.int .i64 x) := by simpa using hc 0 (by simp)
  clear hc hi hr
  go_wp2_with fail
  go_ret
  exact ⟨rfl, hw, ho⟩
theorem RwAt.in_ {w : World} {R : Nat} {l : List Int} (h : RwAt w R l) : RwIn w.heap.size w R l := by
 rcases h with h | ⟨b, off, c, h, h1, h2, h3, h4, h5⟩
 ·exact .inl h
 ·exact .inr ⟨b, off, c, h, h1, h2, h3, ⟨h4, Nat.le_refl _⟩, h5⟩
theorem RwIn.set {B R g o : Nat} {w : World} {l : List Int} {v : Value} (h : RwIn B w R l) (hg : B ≤ g) (hR : R ≠ g) : RwIn B (w.setCell ⟨g, o, none⟩ v) R l := by
 rcases h with ⟨e, h⟩ | ⟨b, off, c, h, h1, h2, h3, h4, h5⟩
 ·exact .inl ⟨e, h.setOther hR⟩
 ·exact .inr ⟨b, off, c, h.setOther hR, h1, h2, h3, ⟨h4.1, by simp only [World.size_setCell]; exact h4.2⟩, fun i hi => (cell_block (Below.heap_setCell _ _ _ _ (by show b ≠ g; have := h4.1; omega))).trans (h5 i hi)⟩
theorem RwIn.drew {B R : Nat} {w : World} {l : List Int} (h : RwIn B w R l) : RwIn B w.drew R l := h
theorem OnlyR.drew {R : Nat} {w w' : World} (h : OnlyR R w w') : OnlyR R w w'.drew := ⟨h.os, h.tape, h.output, h.size, h.block⟩
theorem OnlyR.fresh {R g o : Nat} {w w' : World} {v : Value} (h : OnlyR R w w') (hg : w.heap.size ≤ g) : OnlyR R w (w'.setCell ⟨g, o, none⟩ v) :=
 ⟨h.os, h.tape, h.output, by simp only [World.size_setCell]; exact h.size, fun i hi hn => (Below.heap_setCell _ _ _ _ (by show i ≠ g; omega)).trans (h.block i hi hn)⟩
end Go.Proofs.YtojhakjkfkmklaaGreatDoor
namespace Go.Proofs.YtojhakjkfkmklaaGreatDoor
open Go.RowKit
set_option linter.unusedVariables false
set_option linter.unusedSimpArgs false
theorem Gv.only {R : Nat} {w w' : World} {g : Nat} {v : Value} (h : Gv w g v) (k : OnlyR R w w') (hn : g ≠ R) : Gv w' g v := ⟨(cell_block (k.block g h.lt hn)).trans h.cell, Nat.lt_of_lt_of_le h.lt k.size⟩
set_option maxHeartbeats 1000000 in
theorem listY (B R : Nat) (k : Int) (r : List Int) (w : World) (h : RwIn B w R (k :: r)) (h0 : 0 ≤ k) (hk : k ≤ r.length) (hl : r.length < 1048576) :
  Calls Tryz.prog 89 #[.pointer (some ⟨R, 0, none⟩)] w fun e w' => ∃ v, e = .returned v ∧ Row w' w.heap.size v (r.take k.toNat) ∧ RwIn B w' R (r.drop k.toNat) ∧ OnlyR R w w' := by
 have N := nextY2 B R k r w h hl
 obtain ⟨m, rfl⟩ := Int.eq_ofNat_of_zero_le h0
 have hm : m ≤ r.length := by omega
 clear h h0 hk
 go_enter Tryz.func89, Tryz.ntmps89
 go_wp2_with fail
 refine N.mono ?_
 rintro e w1 ⟨rfl, hr1, k1⟩
 have M := someY2 B R m r w1 hr1 hm (by omega)
 have K1 : Hid (OnlyR R w w1) := k1
 clear N hr1 k1
 go_wp2_with fail
 refine M.mono ?_
 rintro e w2 ⟨v, rfl, hv, hr2, k2⟩
 have KV : Hid (Row w2 w1.heap.size v (r.take m)) := hv
 have KR : Hid (RwIn B w2 R (r.drop m)) := hr2
 have K2 : Hid (OnlyR R w1 w2) := k2
 clear hv hr2 k2 M
 go_wp2_with fail
 go_ret
 exact ⟨v, rfl, KV.out.low K1.out.size, KR.out, K1.out.trans K2.out⟩
set_option maxHeartbeats 1000000 in
theorem listN0 (a : Addr) (B R : Nat) (w : World) (h : RwIn B w R []) (hv : Gv w 0 (errV a)) :
  Calls Tryz.prog 89 #[.pointer (some ⟨R, 0, none⟩)] w fun e w' => e = .panicked [{ v := errV a, recovered := false }] ∧ OnlyR R w w' := by
 have N := nextN2 a B R w h hv
 clear h hv
 go_enter Tryz.func89, Tryz.ntmps89
 go_wp2_with fail
 refine N.mono ?_
 rintro e w1 ⟨rfl, h9⟩
 have h8 := h9.symm
 clear h9
 subst h8
 go_wp2_with fail
 exact ⟨rfl, rfl, OnlyR.refl _ _⟩
set_option maxHeartbeats 1000000 in
theorem listN1 (a : Addr) (B R : Nat) (k : Int) (r : List Int) (w : World) (h : RwIn B w R (k :: r)) (hk : (r.length : Int) < k) (hl : r.length < 1048576) (hv : Gv w 0 (errV a)) (hR : 0 ≠ R) :
  Calls Tryz.prog 89 #[.pointer (some ⟨R, 0, none⟩)] w fun e w' => e = .panicked [{ v := errV a, recovered := false }] ∧ OnlyR R w w' := by
 have N := nextY2 B R k r w h hl
 have HV : Hid (Gv w 0 (errV a)) := hv
 clear h hv
 go_enter Tryz.func89, Tryz.ntmps89
 go_wp2_with fail
 refine N.mono ?_
 rintro e w1 ⟨rfl, hr1, k1⟩
 have M := someN2 a B R k r w1 hr1 hk (HV.out.only k1 hR)
 have K1 : Hid (OnlyR R w w1) := k1
 clear N hr1 k1
 go_wp2_with fail
 refine M.mono ?_
 rintro e w2 ⟨rfl, h9⟩
 have h8 := h9.symm
 clear h9
 subst h8
 go_wp2_with fail
 exact ⟨rfl, rfl, K1.out⟩
theorem endY (B R : Nat) (w : World) (h : RwIn B w R []) :
  Calls Tryz.prog 54 #[.pointer (some ⟨R, 0, none⟩)] w fun e w' => e = .returned (.tuple #[]) ∧ w' = w := by
 have W := wantY w
 rcases h with ⟨_, h⟩ | ⟨b, off, c, h, h1, h2, h3, h4, h5⟩
 ·have c0 : w.cell? ⟨R, 0, none⟩ = some (.slice none 0 0) := h.cell 0
  go_enter Tryz.func54, Tryz.ntmps54
  go_wp2_with fail
  refine W.mono ?_
  rintro e w1 ⟨rfl, h9⟩
  have h8 := h9.symm
  clear h9
  subst h8
  go_wp2_with fail
  exact bodyPost_end (results_none Tryz.results54 _ _ _) rfl ⟨rfl, rfl⟩
 ·have c0 : w.cell? ⟨R, 0, none⟩ = some (.slice (some ⟨b, off, none⟩) 0 c) := h.cell 0
  clear h5
  go_enter Tryz.func54, Tryz.ntmps54
  go_wp2_with fail
  refine W.mono ?_
  rintro e w1 ⟨rfl, h9⟩
  have h8 := h9.symm
  clear h9
  subst h8
  go_wp2_with fail
  exact bodyPost_end (results_none Tryz.results54 _ _ _) rfl ⟨rfl, rfl⟩
theorem endN (a : Addr) (B R : Nat) (l : List Int) (w : World) (h : RwIn B w R l) (hl : l ≠ []) (hv : Gv w 0 (errV a)) :
  Calls Tryz.prog 54 #[.pointer (some ⟨R, 0, none⟩)] w fun e w' => e = .panicked [{ v := errV a, recovered := false }] ∧ w' = w := by
 have W := wantN a w hv
 rcases h with ⟨e, _⟩ | ⟨b, off, c, h, h1, h2, h3, h4, h5⟩
 ·exact absurd e hl
 ·have c0 : w.cell? ⟨R, 0, none⟩ = some (.slice (some ⟨b, off, none⟩) l.length c) := h.cell 0
  have hne : ((l.length : Int) == 0) = false := by
   simp
   exact hl
  clear h5 h
  go_enter Tryz.func54, Tryz.ntmps54
  go_wp2_with fail
  refine W.mono ?_
  rintro e w1 ⟨rfl, h9⟩
  have h8 := h9.symm
  clear h9
  subst h8
  go_wp2_with fail
  exact ⟨rfl, rfl, rfl⟩
end Go.Proofs.YtojhakjkfkmklaaGreatDoor
