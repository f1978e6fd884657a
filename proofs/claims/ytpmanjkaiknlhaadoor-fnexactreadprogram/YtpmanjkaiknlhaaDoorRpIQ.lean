/- A row of numbers that are taken, below a bound. -/
import Derived.Test.YtpmanjkaiknlhaaDoorRiB
import Derived.Test.YtpmanjkaiknlhaaDoorRpE
import Derived.BigRegion
import Derived.Deep.AppendLies
namespace Go.Proofs.YtpmanjkaiknlhaaDoor
open Go.RowKit
set_option linter.unusedVariables false

/-- A row of which numbers are taken. -/
def RwIn (B : Nat) (w : World) (R : Nat) (l : List Int) : Prop :=
  (l = [] ∧ At w R #[.slice none 0 0] 67) ∨ ∃ b off c, At w R #[.slice (some ⟨b, off, none⟩) l.length c] 67 ∧ l.length ≤ c ∧ c ≤ 9223372036854775807 ∧ b ≠ R ∧ (b < B ∧ B ≤ w.heap.size) ∧ ∀ i, i < l.length → w.cell? ⟨b, off + i, none⟩ = some (.int .i64 (l.getD i 0))
theorem RwIn.lt {w : World} {B R : Nat} {l : List Int} (h : RwIn B w R l) : R < w.heap.size := by
  rcases h with ⟨_, h⟩ | ⟨b, off, c, h, _⟩
  · exact h.lt
  · exact h.lt
theorem RwIn.keep {w w' : World} {B R : Nat} {l : List Int} (h : RwIn B w R l) (k : Below w.heap.size w w') : RwIn B w' R l := by
  rcases h with ⟨e, h⟩ | ⟨b, off, c, h, h1, h2, h3, h4, h5⟩
  · exact .inl ⟨e, h.below k⟩
  · exact .inr ⟨b, off, c, h.below k, h1, h2, h3, ⟨h4.1, Nat.le_trans h4.2 k.size⟩, fun i hi => (cell_block (k.block b (Nat.lt_of_lt_of_le h4.1 h4.2))).trans (h5 i hi)⟩
set_option maxHeartbeats 2000000 in
theorem someN2 (a : Addr) (B R : Nat) (k : Int) (l : List Int) (w : World) (h : RwIn B w R l) (hk : (l.length : Int) < k) (hv : Gv w 0 (errV a)) :
    Calls Tryd.prog 40 #[.pointer (some ⟨R, 0, none⟩), .int .i64 k] w fun e w' => e = .panicked [{ v := errV a, recovered := false }] ∧ w' = w := by
  have W := wantN a w hv
  have hn : ¬ k ≤ (l.length : Int) := by omega
  rcases h with ⟨rfl, h⟩ | ⟨b, off, c, h, h1, h2, h3, h4, h5⟩
  · have c0 : w.cell? ⟨R, 0, none⟩ = some (.slice none 0 0) := h.cell 0
    have hn0 : ¬ k ≤ 0 := by simpa using hn
    go_enter Tryd.func40, Tryd.ntmps40
    go_wp2_with fail
    refine W.mono ?_
    rintro e w1 ⟨rfl, h9⟩
    have h8 := h9.symm
    clear h9
    subst h8
    go_wp2_with fail
    exact ⟨rfl, rfl, rfl⟩
  · have c0 : w.cell? ⟨R, 0, none⟩ = some (.slice (some ⟨b, off, none⟩) l.length c) := h.cell 0
    clear h5
    go_enter Tryd.func40, Tryd.ntmps40
    go_wp2_with fail
    refine W.mono ?_
    rintro e w1 ⟨rfl, h9⟩
    have h8 := h9.symm
    clear h9
    subst h8
    go_wp2_with fail
    exact ⟨rfl, rfl, rfl⟩
set_option maxHeartbeats 4000000 in
theorem someY2 (B R k : Nat) (l : List Int) (w : World) (h : RwIn B w R l) (hk : k ≤ l.length) (hl : l.length ≤ 1048576) :
    Calls Tryd.prog 40 #[.pointer (some ⟨R, 0, none⟩), .int .i64 (k : Int)] w fun e w' => ∃ v, e = .returned v ∧ Row w' w.heap.size v (l.take k) ∧ RwIn B w' R (l.drop k) ∧ OnlyR R w w' := by
  have W := wantY w
  have hlt := h.lt
  rcases h with ⟨rfl, h⟩ | ⟨b, off, c, h, h1, h2, h3, h4, h5⟩
  · have hk0 : k = 0 := by simpa using hk
    subst hk0
    have c0 : w.cell? ⟨R, 0, none⟩ = some (.slice none 0 0) := h.cell 0
    have C := cloneI 0 none 0 [] w (by simp) ⟨by simp, .inl rfl⟩
    have HA : Hid (At w R #[.slice none 0 0] 67) := h
    clear h
    go_enter Tryd.func40, Tryd.ntmps40
    go_wp2_with fail
    refine W.mono ?_
    rintro e w1 ⟨rfl, h9⟩
    have h8 := h9.symm
    clear h9
    subst h8
    go_wp2_with fail
    refine C.mono ?_
    rintro e w2 ⟨v, rfl, hr, b2⟩
    have hA2 := HA.out.below b2
    have d0 : w2.cell? ⟨R, 0, none⟩ = some (.slice none 0 0) := hA2.cell 0
    have f0 : w2.frozen? ⟨R, 0, none⟩ = false := froz_of_heap hA2
    have HR : Hid (Row w2 w.heap.size v []) := hr
    clear hr
    obtain ⟨a, c, rfl⟩ := HR.out.slice
    go_wp2_with fail
    go_ret
    exact ⟨_, rfl, row_set HR.out hlt, .inl ⟨rfl, At.set0 hA2 _⟩, (OnlyR.below b2).set _ _⟩
  · have c0 : w.cell? ⟨R, 0, none⟩ = some (.slice (some ⟨b, off, none⟩) l.length c) := h.cell 0
    have hlk : (l.take k).length = k := by rw [List.length_take]; omega
    have C := cloneI 0 (some ⟨b, off, none⟩) c (l.take k) w (by omega) ⟨by omega, .inr ⟨b, off, rfl, Nat.zero_le _, Nat.lt_of_lt_of_le h4.1 h4.2, fun i hi => by rw [hlk] at hi; rw [h5 i (by omega)]; simp [List.getD, hi]⟩⟩
    rw [hlk] at C
    have HT : Hid ((l.take k).length = k) := hlk
    have HA : Hid (At w R #[.slice (some ⟨b, off, none⟩) l.length c] 67) := h
    have H5 : Hid (∀ i, i < l.length → w.cell? ⟨b, off + i, none⟩ = some (.int .i64 (l.getD i 0))) := h5
    have q1 : (k : Int) ≤ (l.length : Int) := by omega
    have q2 : (k : Int) ≤ (c : Int) := by omega
    have q3 : (l.length : Int) ≤ (c : Int) := by omega
    have HL : Hid (l.length ≤ c) := h1
    have hdl : Hid ((l.drop k).length = l.length - k) := by show _ = _; simp
    generalize hnl : l.length = n at *
    have HN : Hid (l.length = n) := hnl
    clear h hlk h5 hnl
    go_enter Tryd.func40, Tryd.ntmps40
    go_wp2_with fail
    refine W.mono ?_
    rintro e w1 ⟨rfl, h9⟩
    have h8 := h9.symm
    clear h9
    subst h8
    go_wp2_with fail
    refine C.mono ?_
    rintro e w2 ⟨v, rfl, hr, b2⟩
    have hA2 := HA.out.below b2
    have d0 : w2.cell? ⟨R, 0, none⟩ = some (.slice (some ⟨b, off, none⟩) n c) := hA2.cell 0
    have f0 : w2.frozen? ⟨R, 0, none⟩ = false := froz_of_heap hA2
    have HR : Hid (Row w2 w.heap.size v (l.take k)) := hr
    clear hr
    obtain ⟨a, c', rfl⟩ := HR.out.slice
    have HB2 : Hid (Below w.heap.size w w2) := b2
    clear b2
    go_wp2_with fail
    · have hz : n - k = 0 := by have := HL.out; omega
      go_ret
      refine ⟨_, by rw [← HN.out]; simp, row_set HR.out hlt, .inr ⟨b, off, 0, ?_, ?_, by omega, h3, ?_, fun i hi => ?_⟩, (OnlyR.below HB2.out).set _ _⟩
      · rw [hdl.out]; exact At.set0 hA2 _
      · rw [hdl.out]; omega
      · refine ⟨h4.1, ?_⟩; have := HB2.out.size; have := h4.2; simp [World.setCell]; omega
      · rw [hdl.out] at hi; omega
    · go_ret
      refine ⟨_, by rw [← HN.out]; simp, row_set HR.out hlt, .inr ⟨b, off + k, c - k, ?_, ?_, by omega, h3, ?_, fun i hi => ?_⟩, (OnlyR.below HB2.out).set _ _⟩
      · rw [hdl.out]; exact At.set0 hA2 _
      · rw [hdl.out]; have := HL.out; omega
      · refine ⟨h4.1, ?_⟩; have := HB2.out.size; have := h4.2; simp [World.setCell]; omega
      · rw [hdl.out] at hi
        have e : (l.drop k).getD i 0 = l.getD (k + i) 0 := by simp [List.getD]
        rw [e, Nat.add_assoc]
        refine (cell_block (Below.heap_setCell _ _ _ _ (by show b ≠ R; exact h3))).trans ((cell_block (HB2.out.block b (Nat.lt_of_lt_of_le h4.1 h4.2))).trans (H5.out (k + i) ?_))
        omega
theorem nextN2 (a : Addr) (B R : Nat) (w : World) (h : RwIn B w R []) (hv : Gv w 0 (errV a)) :
    Calls Tryd.prog 29 #[.pointer (some ⟨R, 0, none⟩)] w fun e w' => e = .panicked [{ v := errV a, recovered := false }] ∧ w' = w := by
  have W := someN2 a B R 1 [] w h (by decide) hv
  go_enter Tryd.func29, Tryd.ntmps29
  go_wp2_with fail
  refine W.mono ?_
  rintro e w1 ⟨rfl, h9⟩
  have h8 := h9.symm
  clear h9
  subst h8
  go_wp2_with fail
  exact ⟨rfl, rfl, rfl⟩
theorem nextY2 (B R : Nat) (x : Int) (l : List Int) (w : World) (h : RwIn B w R (x :: l)) (hl : l.length < 1048576) :
    Calls Tryd.prog 29 #[.pointer (some ⟨R, 0, none⟩)] w fun e w' => e = .returned (.int .i64 x) ∧ RwIn B w' R l ∧ OnlyR R w w' := by
  have W := someY2 B R 1 (x :: l) w h (by simp) (by simp; omega)
  have e1 : (x :: l).take 1 = [x] := rfl
  have e2 : (x :: l).drop 1 = l := rfl
  rw [e1, e2] at W
  clear e1 e2
  go_enter Tryd.func29, Tryd.ntmps29
  go_wp2_with fail
  refine W.mono ?_
  rintro e w1 ⟨v, rfl, hr, hw, ho⟩
  obtain ⟨u, c, rfl, hi⟩ := Row.ints (by simp) hr
  rcases hi.2 with h0 | ⟨b, off, rfl, _, _, hc⟩
  · cases h0
  · have c0 : w1.cell? ⟨b, off, none⟩ = some (.int .i64 x) := by simpa using hc 0 (by simp)
    clear hc hi hr
    go_wp2_with fail
    go_ret
    exact ⟨rfl, hw, ho⟩
theorem RwAt.in_ {w : World} {R : Nat} {l : List Int} (h : RwAt w R l) : RwIn w.heap.size w R l := by
  rcases h with h | ⟨b, off, c, h, h1, h2, h3, h4, h5⟩
  · exact .inl h
  · exact .inr ⟨b, off, c, h, h1, h2, h3, ⟨h4, Nat.le_refl _⟩, h5⟩
theorem RwIn.set {B R g o : Nat} {w : World} {l : List Int} {v : Value} (h : RwIn B w R l) (hg : B ≤ g) (hR : R ≠ g) : RwIn B (w.setCell ⟨g, o, none⟩ v) R l := by
  rcases h with ⟨e, h⟩ | ⟨b, off, c, h, h1, h2, h3, h4, h5⟩
  · exact .inl ⟨e, h.setOther hR⟩
  · exact .inr ⟨b, off, c, h.setOther hR, h1, h2, h3, ⟨h4.1, by simp only [World.size_setCell]; exact h4.2⟩, fun i hi => (cell_block (Below.heap_setCell _ _ _ _ (by show b ≠ g; have := h4.1; omega))).trans (h5 i hi)⟩
theorem RwIn.drew {B R : Nat} {w : World} {l : List Int} (h : RwIn B w R l) : RwIn B w.drew R l := h
theorem OnlyR.drew {R : Nat} {w w' : World} (h : OnlyR R w w') : OnlyR R w w'.drew := ⟨h.os, h.tape, h.output, h.size, h.block⟩
theorem OnlyR.fresh {R g o : Nat} {w w' : World} {v : Value} (h : OnlyR R w w') (hg : w.heap.size ≤ g) : OnlyR R w (w'.setCell ⟨g, o, none⟩ v) :=
  ⟨h.os, h.tape, h.output, by simp only [World.size_setCell]; exact h.size, fun i hi hn => (Below.heap_setCell _ _ _ _ (by show i ≠ g; omega)).trans (h.block i hi hn)⟩
end Go.Proofs.YtpmanjkaiknlhaaDoor
namespace Go.Proofs.YtpmanjkaiknlhaaDoor
open Go.RowKit
set_option linter.unusedVariables false
set_option linter.unusedSimpArgs false

theorem Gv.only {R : Nat} {w w' : World} {g : Nat} {v : Value} (h : Gv w g v) (k : OnlyR R w w') (hn : g ≠ R) : Gv w' g v := ⟨(cell_block (k.block g h.lt hn)).trans h.cell, Nat.lt_of_lt_of_le h.lt k.size⟩
set_option maxHeartbeats 1000000 in
theorem listY (B R : Nat) (k : Int) (r : List Int) (w : World) (h : RwIn B w R (k :: r)) (h0 : 0 ≤ k) (hk : k ≤ r.length) (hl : r.length < 1048576) :
    Calls Tryd.prog 30 #[.pointer (some ⟨R, 0, none⟩)] w fun e w' => ∃ v, e = .returned v ∧ Row w' w.heap.size v (r.take k.toNat) ∧ RwIn B w' R (r.drop k.toNat) ∧ OnlyR R w w' := by
  have N := nextY2 B R k r w h hl
  obtain ⟨m, rfl⟩ := Int.eq_ofNat_of_zero_le h0
  have hm : m ≤ r.length := by omega
  clear h h0 hk
  go_enter Tryd.func30, Tryd.ntmps30
  go_wp2_with fail
  refine N.mono ?_
  rintro e w1 ⟨rfl, hr1, k1⟩
  have M := someY2 B R m r w1 hr1 hm (by omega)
  have K1 : Hid (OnlyR R w w1) := k1
  clear N hr1 k1
  go_wp2_with fail
  refine M.mono ?_
  rintro e w2 ⟨v, rfl, hv, hr2, k2⟩
  have KV : Hid (Row w2 w1.heap.size v (r.take m)) := hv
  have KR : Hid (RwIn B w2 R (r.drop m)) := hr2
  have K2 : Hid (OnlyR R w1 w2) := k2
  clear hv hr2 k2 M
  go_wp2_with fail
  go_ret
  exact ⟨v, rfl, KV.out.low K1.out.size, KR.out, K1.out.trans K2.out⟩
set_option maxHeartbeats 1000000 in
theorem listN0 (a : Addr) (B R : Nat) (w : World) (h : RwIn B w R []) (hv : Gv w 0 (errV a)) :
    Calls Tryd.prog 30 #[.pointer (some ⟨R, 0, none⟩)] w fun e w' => e = .panicked [{ v := errV a, recovered := false }] ∧ OnlyR R w w' := by
  have N := nextN2 a B R w h hv
  clear h hv
  go_enter Tryd.func30, Tryd.ntmps30
  go_wp2_with fail
  refine N.mono ?_
  rintro e w1 ⟨rfl, h9⟩
  have h8 := h9.symm
  clear h9
  subst h8
  go_wp2_with fail
  exact ⟨rfl, rfl, OnlyR.refl _ _⟩
set_option maxHeartbeats 1000000 in
theorem listN1 (a : Addr) (B R : Nat) (k : Int) (r : List Int) (w : World) (h : RwIn B w R (k :: r)) (hk : (r.length : Int) < k) (hl : r.length < 1048576) (hv : Gv w 0 (errV a)) (hR : 0 ≠ R) :
    Calls Tryd.prog 30 #[.pointer (some ⟨R, 0, none⟩)] w fun e w' => e = .panicked [{ v := errV a, recovered := false }] ∧ OnlyR R w w' := by
  have N := nextY2 B R k r w h hl
  have HV : Hid (Gv w 0 (errV a)) := hv
  clear h hv
  go_enter Tryd.func30, Tryd.ntmps30
  go_wp2_with fail
  refine N.mono ?_
  rintro e w1 ⟨rfl, hr1, k1⟩
  have M := someN2 a B R k r w1 hr1 hk (HV.out.only k1 hR)
  have K1 : Hid (OnlyR R w w1) := k1
  clear N hr1 k1
  go_wp2_with fail
  refine M.mono ?_
  rintro e w2 ⟨rfl, h9⟩
  have h8 := h9.symm
  clear h9
  subst h8
  go_wp2_with fail
  exact ⟨rfl, rfl, K1.out⟩
theorem endY (B R : Nat) (w : World) (h : RwIn B w R []) :
    Calls Tryd.prog 32 #[.pointer (some ⟨R, 0, none⟩)] w fun e w' => e = .returned (.tuple #[]) ∧ w' = w := by
  have W := wantY w
  rcases h with ⟨_, h⟩ | ⟨b, off, c, h, h1, h2, h3, h4, h5⟩
  · have c0 : w.cell? ⟨R, 0, none⟩ = some (.slice none 0 0) := h.cell 0
    go_enter Tryd.func32, Tryd.ntmps32
    go_wp2_with fail
    refine W.mono ?_
    rintro e w1 ⟨rfl, h9⟩
    have h8 := h9.symm
    clear h9
    subst h8
    go_wp2_with fail
    exact bodyPost_end (results_none Tryd.results32 _ _ _) rfl ⟨rfl, rfl⟩
  · have c0 : w.cell? ⟨R, 0, none⟩ = some (.slice (some ⟨b, off, none⟩) 0 c) := h.cell 0
    clear h5
    go_enter Tryd.func32, Tryd.ntmps32
    go_wp2_with fail
    refine W.mono ?_
    rintro e w1 ⟨rfl, h9⟩
    have h8 := h9.symm
    clear h9
    subst h8
    go_wp2_with fail
    exact bodyPost_end (results_none Tryd.results32 _ _ _) rfl ⟨rfl, rfl⟩
theorem endN (a : Addr) (B R : Nat) (l : List Int) (w : World) (h : RwIn B w R l) (hl : l ≠ []) (hv : Gv w 0 (errV a)) :
    Calls Tryd.prog 32 #[.pointer (some ⟨R, 0, none⟩)] w fun e w' => e = .panicked [{ v := errV a, recovered := false }] ∧ w' = w := by
  have W := wantN a w hv
  rcases h with ⟨e, _⟩ | ⟨b, off, c, h, h1, h2, h3, h4, h5⟩
  · exact absurd e hl
  · have c0 : w.cell? ⟨R, 0, none⟩ = some (.slice (some ⟨b, off, none⟩) l.length c) := h.cell 0
    have hne : ((l.length : Int) == 0) = false := by
      simp
      exact hl
    clear h5 h
    go_enter Tryd.func32, Tryd.ntmps32
    go_wp2_with fail
    refine W.mono ?_
    rintro e w1 ⟨rfl, h9⟩
    have h8 := h9.symm
    clear h9
    subst h8
    go_wp2_with fail
    exact ⟨rfl, rfl, rfl⟩
end Go.Proofs.YtpmanjkaiknlhaaDoor
namespace Go.Proofs.YtpmanjkaiknlhaaDoor
open Go.RowKit
set_option linter.unusedVariables false
set_option linter.unusedSimpArgs false

def minD : List Int → MInsD
  | a :: b :: c :: d :: e :: f :: g :: _ => ⟨a, b, c, d, e, f, g⟩
  | _ => mins0
def minA (x : MInsD) : Array Value := #[.int .i64 x.op, .int .i64 x.w, .int .i64 x.d, .int .i64 x.a, .int .i64 x.b, .int .i64 x.c, .int .i64 x.imm]
set_option maxHeartbeats 2000000 in
set_option maxRecDepth 100000 in
theorem takeY (B R : Nat) (x : MInsD) (r : List Int) (w : World) (h : RwIn B w R (minN x ++ r)) (hl : r.length < 1000000) (hBw : B ≤ w.heap.size) :
    Calls Tryd.prog 31 #[.pointer (some ⟨R, 0, none⟩)] w fun e w' => e = .returned (.agg #[.int .i64 x.op, .int .i64 x.w, .int .i64 x.d, .int .i64 x.a, .int .i64 x.b, .int .i64 x.c, .int .i64 x.imm]) ∧ RwIn B w' R r ∧ OnlyR R w w' := by
  have hR := h.lt
  have hRn : R ≠ w.heap.size := by omega
  have B1 : Below w.heap.size w (w.alloc (.cells #[.int .i64 0, .int .i64 0, .int .i64 0, .int .i64 0, .int .i64 0, .int .i64 0, .int .i64 0] 38)) := (Below.refl _ _).alloc (Nat.le_refl _) _
  have A1 := At.new w #[.int .i64 0, .int .i64 0, .int .i64 0, .int .i64 0, .int .i64 0, .int .i64 0, .int .i64 0] 38
  have M := someY2 B R 7 (minN x ++ r) _ (h.keep B1) (by simp [minN]) (by simp [minN]; omega)
  have e1 : (minN x ++ r).take 7 = minN x := by simp [minN]
  have e2 : (minN x ++ r).drop 7 = r := by simp [minN]
  rw [e1, e2] at M
  have HB1 : Hid (Below w.heap.size w _) := B1
  have HA1 : Hid (At _ w.heap.size #[.int .i64 0, .int .i64 0, .int .i64 0, .int .i64 0, .int .i64 0, .int .i64 0, .int .i64 0] 38) := A1
  clear B1 A1 h e1 e2
  go_enter Tryd.func31, Tryd.ntmps31
  go_wp2_with fail
  refine M.mono ?_
  rintro e w1 ⟨v, rfl, hv, hr1, k1⟩
  have HA2 : Hid (At w1 w.heap.size #[.int .i64 0, .int .i64 0, .int .i64 0, .int .i64 0, .int .i64 0, .int .i64 0, .int .i64 0] 38) := (k1.block w.heap.size HA1.out.lt (by omega)).trans HA1.out
  have HK : Hid (OnlyR R w w1) := (OnlyR.below HB1.out).trans k1
  have HRw : Hid (RwIn B w1 R r) := hr1
  obtain ⟨u, c, hvs, hi⟩ := hv.ints (by simp [minN])
  rcases hi.2 with h0 | ⟨b, off, hu, hb0, hb1, hc⟩
  · simp [minN] at h0
  subst hu
  have hlen : (minN x).length = 7 := rfl
  rw [hlen] at hvs hc
  subst hvs
  have y0 : w1.drew.cell? ⟨b, off, none⟩ = some (.int .i64 x.op) := hc 0 (by omega)
  have y1 : w1.drew.cell? ⟨b, off + 1, none⟩ = some (.int .i64 x.w) := hc 1 (by omega)
  have y2 : w1.drew.cell? ⟨b, off + 2, none⟩ = some (.int .i64 x.d) := hc 2 (by omega)
  have y3 : w1.drew.cell? ⟨b, off + 3, none⟩ = some (.int .i64 x.a) := hc 3 (by omega)
  have y4 : w1.drew.cell? ⟨b, off + 4, none⟩ = some (.int .i64 x.b) := hc 4 (by omega)
  have y5 : w1.drew.cell? ⟨b, off + 5, none⟩ = some (.int .i64 x.c) := hc 5 (by omega)
  have y6 : w1.drew.cell? ⟨b, off + 6, none⟩ = some (.int .i64 x.imm) := hc 6 (by omega)
  have z0 : w1.drew.cell? ⟨w.heap.size, 0, none⟩ = some (.int .i64 0) := HA2.out.cell 0
  have z1 : w1.drew.cell? ⟨w.heap.size, 1, none⟩ = some (.int .i64 0) := HA2.out.cell 1
  have z2 : w1.drew.cell? ⟨w.heap.size, 2, none⟩ = some (.int .i64 0) := HA2.out.cell 2
  have z3 : w1.drew.cell? ⟨w.heap.size, 3, none⟩ = some (.int .i64 0) := HA2.out.cell 3
  have z4 : w1.drew.cell? ⟨w.heap.size, 4, none⟩ = some (.int .i64 0) := HA2.out.cell 4
  have z5 : w1.drew.cell? ⟨w.heap.size, 5, none⟩ = some (.int .i64 0) := HA2.out.cell 5
  have z6 : w1.drew.cell? ⟨w.heap.size, 6, none⟩ = some (.int .i64 0) := HA2.out.cell 6
  have zf : ∀ o, w1.drew.frozen? ⟨w.heap.size, o, none⟩ = false := fun o => froz_of_heap HA2.out
  have q0 : w1.cell? ⟨w.heap.size, 0, none⟩ = some (.int .i64 0) := HA2.out.cell 0
  have q1 : w1.cell? ⟨w.heap.size, 1, none⟩ = some (.int .i64 0) := HA2.out.cell 1
  have q2 : w1.cell? ⟨w.heap.size, 2, none⟩ = some (.int .i64 0) := HA2.out.cell 2
  have q3 : w1.cell? ⟨w.heap.size, 3, none⟩ = some (.int .i64 0) := HA2.out.cell 3
  have q4 : w1.cell? ⟨w.heap.size, 4, none⟩ = some (.int .i64 0) := HA2.out.cell 4
  have q5 : w1.cell? ⟨w.heap.size, 5, none⟩ = some (.int .i64 0) := HA2.out.cell 5
  have q6 : w1.cell? ⟨w.heap.size, 6, none⟩ = some (.int .i64 0) := HA2.out.cell 6
  have qf : ∀ o, w1.frozen? ⟨w.heap.size, o, none⟩ = false := fun o => froz_of_heap HA2.out
  clear M hr1 k1 hv hi hc
  go_wp2_with fail
  go_region
  go_wp2_with fail
  have r0 := RwIn.set (g := w.heap.size) (o := 0) (v := .int .i64 x.op) HRw.out hBw hRn
  have o0 := OnlyR.fresh (g := w.heap.size) (o := 0) (v := .int .i64 x.op) HK.out (Nat.le_refl _)
  have s0 := heap_set (o := 0) (v := .int .i64 x.op) HA2.out
  have r1 := RwIn.set (g := w.heap.size) (o := 1) (v := .int .i64 x.w) r0 hBw hRn
  have o1 := OnlyR.fresh (g := w.heap.size) (o := 1) (v := .int .i64 x.w) o0 (Nat.le_refl _)
  have s1 := heap_set (o := 1) (v := .int .i64 x.w) s0
  have r2 := RwIn.set (g := w.heap.size) (o := 2) (v := .int .i64 x.d) r1 hBw hRn
  have o2 := OnlyR.fresh (g := w.heap.size) (o := 2) (v := .int .i64 x.d) o1 (Nat.le_refl _)
  have s2 := heap_set (o := 2) (v := .int .i64 x.d) s1
  have r3 := RwIn.set (g := w.heap.size) (o := 3) (v := .int .i64 x.a) r2 hBw hRn
  have o3 := OnlyR.fresh (g := w.heap.size) (o := 3) (v := .int .i64 x.a) o2 (Nat.le_refl _)
  have s3 := heap_set (o := 3) (v := .int .i64 x.a) s2
  have r4 := RwIn.set (g := w.heap.size) (o := 4) (v := .int .i64 x.b) r3 hBw hRn
  have o4 := OnlyR.fresh (g := w.heap.size) (o := 4) (v := .int .i64 x.b) o3 (Nat.le_refl _)
  have s4 := heap_set (o := 4) (v := .int .i64 x.b) s3
  have r5 := RwIn.set (g := w.heap.size) (o := 5) (v := .int .i64 x.c) r4 hBw hRn
  have o5 := OnlyR.fresh (g := w.heap.size) (o := 5) (v := .int .i64 x.c) o4 (Nat.le_refl _)
  have s5 := heap_set (o := 5) (v := .int .i64 x.c) s4
  have r6 := RwIn.set (g := w.heap.size) (o := 6) (v := .int .i64 x.imm) r5 hBw hRn
  have o6 := OnlyR.fresh (g := w.heap.size) (o := 6) (v := .int .i64 x.imm) o5 (Nat.le_refl _)
  have s6 := heap_set (o := 6) (v := .int .i64 x.imm) s5
  have s9 : At (((((((w1.setCell ⟨w.heap.size, 0, none⟩ (.int .i64 x.op)).setCell ⟨w.heap.size, 1, none⟩ (.int .i64 x.w)).setCell ⟨w.heap.size, 2, none⟩ (.int .i64 x.d)).setCell ⟨w.heap.size, 3, none⟩ (.int .i64 x.a)).setCell ⟨w.heap.size, 4, none⟩ (.int .i64 x.b)).setCell ⟨w.heap.size, 5, none⟩ (.int .i64 x.c)).setCell ⟨w.heap.size, 6, none⟩ (.int .i64 x.imm)) w.heap.size #[.int .i64 x.op, .int .i64 x.w, .int .i64 x.d, .int .i64 x.a, .int .i64 x.b, .int .i64 x.c, .int .i64 x.imm] 38 := s6
  generalize (((((((w1.setCell ⟨w.heap.size, 0, none⟩ (.int .i64 x.op)).setCell ⟨w.heap.size, 1, none⟩ (.int .i64 x.w)).setCell ⟨w.heap.size, 2, none⟩ (.int .i64 x.d)).setCell ⟨w.heap.size, 3, none⟩ (.int .i64 x.a)).setCell ⟨w.heap.size, 4, none⟩ (.int .i64 x.b)).setCell ⟨w.heap.size, 5, none⟩ (.int .i64 x.c)).setCell ⟨w.heap.size, 6, none⟩ (.int .i64 x.imm)) = W9 at r6 o6 s9 ⊢
  have s10 : At W9.drew w.heap.size #[.int .i64 x.op, .int .i64 x.w, .int .i64 x.d, .int .i64 x.a, .int .i64 x.b, .int .i64 x.c, .int .i64 x.imm] 38 := s9
  exact bodyPost_ret (v := .agg #[.int .i64 x.op, .int .i64 x.w, .int .i64 x.d, .int .i64 x.a, .int .i64 x.b, .int .i64 x.c, .int .i64 x.imm]) ((results_cell_row Tryd.results31 _ _ w.heap.size 38 _ (0, 0) _ rfl s10 Tryd.underlying38 rfl (by kernel_rfl)).trans (by rfl)) rfl ⟨rfl, RwIn.drew r6, OnlyR.drew o6⟩
theorem takeN (a : Addr) (B R : Nat) (l : List Int) (w : World) (h : RwIn B w R l) (hl : l.length < 7) (hv : Gv w 0 (errV a)) :
    Calls Tryd.prog 31 #[.pointer (some ⟨R, 0, none⟩)] w fun e w' => e = .panicked [{ v := errV a, recovered := false }] ∧ OnlyR R w w' := by
  have B1 : Below w.heap.size w (w.alloc (.cells #[.int .i64 0, .int .i64 0, .int .i64 0, .int .i64 0, .int .i64 0, .int .i64 0, .int .i64 0] 38)) := (Below.refl _ _).alloc (Nat.le_refl _) _
  have M := someN2 a B R 7 l _ (h.keep B1) (by omega) (hv.keep B1)
  have HB : Hid (OnlyR R w _) := OnlyR.below B1
  clear B1 h hv
  go_enter Tryd.func31, Tryd.ntmps31
  go_wp2_with fail
  refine M.mono ?_
  rintro e w1 ⟨rfl, h9⟩
  rw [← h9] at HB
  clear h9
  go_wp2_with fail
  exact ⟨rfl, rfl, HB.out⟩
def minV (x : MInsD) : List Value := [.int .i64 x.op, .int .i64 x.w, .int .i64 x.d, .int .i64 x.a, .int .i64 x.b, .int .i64 x.c, .int .i64 x.imm]
/-- A row of instructions that is owned. -/
def RowMs (w : World) (base : Nat) (v : Value) (l : List MInsD) : Prop := w.ownsRow base 38 7 v l.length (l.flatMap minV)
theorem RowMs.block {w w' : World} {base : Nat} {v : Value} {l : List MInsD} (h : RowMs w base v l) (k : ∀ g, v.ownBlock = some g → g < w.heap.size → w'.heap[g]? = w.heap[g]?) : RowMs w' base v l := by
  refine ⟨h.1, ?_⟩
  rcases h.2 with h2 | ⟨g, cap, cur, hv, hb, hg, r⟩
  · exact .inl h2
  · exact .inr ⟨g, cap, cur, hv, hb, (k g (by rw [hv]; rfl) (Array.getElem?_eq_some_iff.1 hg).1).trans hg, r⟩
theorem RowMs.keep {w w' : World} {base : Nat} {v : Value} {l : List MInsD} (h : RowMs w base v l) (k : Below w.heap.size w w') : RowMs w' base v l := h.block fun g _ hg => k.block g hg
theorem RowMs.ge {w : World} {base : Nat} {v : Value} {l : List MInsD} (h : RowMs w base v l) {g : Nat} (hv : v.ownBlock = some g) : base ≤ g ∧ ∃ cur, w.heap[g]? = some (.cells cur 38 (0, 0)) := by
  rcases h.2 with ⟨e, _⟩ | ⟨g', cap, cur, e, hb, hg, _⟩
  · rw [e] at hv; cases hv
  · rw [e] at hv; cases hv; exact ⟨hb, cur, hg⟩
theorem RowMs.low {w : World} {lo lo' : Nat} {v : Value} {l : List MInsD} (h : RowMs w lo v l) (k : lo' ≤ lo) : RowMs w lo' v l := by
  refine ⟨h.1, ?_⟩
  rcases h.2 with h2 | ⟨g, cap, cur, hv, hb, r⟩
  · exact .inl h2
  · exact .inr ⟨g, cap, cur, hv, Nat.le_trans k hb, r⟩
theorem flat7 : ∀ (l : List MInsD) (i j : Nat), i < l.length → j < 7 → (l.flatMap minV)[i * 7 + j]? = (minV (l.getD i mins0))[j]?
  | [], i, j, h, _ => by simp at h
  | x :: l, 0, j, _, hj => by
    rw [List.flatMap_cons, List.getElem?_append_left (by simp [minV]; omega)]
    simp
  | x :: l, i + 1, j, h, hj => by
    have ih := flat7 l i j (by simpa using h) hj
    rw [List.flatMap_cons, List.getElem?_append_right (by simp [minV]; omega)]
    have e : (i + 1) * 7 + j - (minV x).length = i * 7 + j := by simp [minV]; omega
    rw [e, ih]
    simp
theorem RowMs.mins {w : World} {base : Nat} {v : Value} {l : List MInsD} (hm : l.length ≤ 1048576) (h : RowMs w base v l) : ∃ u c, v = .slice u l.length c ∧ MinsAt w base u l := by
  rcases h.2 with ⟨hv, hn⟩ | ⟨g, cap, cur, hv, hb, hg, hnc, _, hcs, htk⟩
  · exact ⟨none, 0, by rw [hv, hn], by omega, .inl (List.length_eq_zero_iff.1 hn)⟩
  · refine ⟨_, cap, hv, by omega, .inr ⟨g, 0, rfl, hb, (Array.getElem?_eq_some_iff.1 hg).1, fun i hi => ?_⟩⟩
    have key : ∀ j, j < 7 → w.cell? ⟨g, 0 + i * 7 + j, none⟩ = (minV (l.getD i mins0))[j]? := by
      intro j hj
      rw [Nat.zero_add, cell_of_heap hg, ← flat7 l i j hi hj, ← htk, List.getElem?_take, if_pos (by omega)]
      simp
    exact ⟨key 0 (by omega), key 1 (by omega), key 2 (by omega), key 3 (by omega), key 4 (by omega), key 5 (by omega), key 6 (by omega)⟩
end Go.Proofs.YtpmanjkaiknlhaaDoor
namespace Go.Proofs.YtpmanjkaiknlhaaDoor
open Go.RowKit
set_option linter.unusedVariables false
set_option linter.unusedSimpArgs false

theorem Row.typ {w : World} {base : Nat} {v : Value} {l : List Int} (h : Row w base v l) {g : Nat} (hv : v.ownBlock = some g) : ∃ cur, w.heap[g]? = some (.cells cur 2 (0, 0)) := by
  rcases h.2 with ⟨e, _⟩ | ⟨g', cap, cur, e, hb, hg, _⟩
  · rw [e] at hv; cases hv
  · rw [e] at hv; cases hv; exact ⟨cur, hg⟩
theorem At.ne {w : World} {a b : Nat} {cs cs' : Array Value} {T T' : TypeId} (h : At w a cs T) (k : w.heap[b]? = some (.cells cs' T' (0, 0))) (hT : T ≠ T') : b ≠ a := fun e => by
  rw [e, show w.heap[a]? = _ from h] at k
  cases k
  exact hT rfl
theorem Row.only {R : Nat} {w w' : World} {base : Nat} {v : Value} {l : List Int} (h : Row w base v l) (k : OnlyR R w w') {cs : Array Value} {T : TypeId} (hR : At w R cs T) (hT : T ≠ 2) : Row w' base v l :=
  h.block fun g hg hlt => k.block g hlt (by obtain ⟨cur, hc⟩ := h.typ hg; exact hR.ne hc hT)
theorem Row.setT {w : World} {base Bp o : Nat} {v x : Value} {l : List Int} (h : Row w base v l) {cs : Array Value} {T : TypeId} (hB : At w Bp cs T) (hT : T ≠ 2) : Row (w.setCell ⟨Bp, o, none⟩ x) base v l :=
  h.block fun g hg _ => Below.heap_setCell _ _ _ _ (by obtain ⟨cur, hc⟩ := h.typ hg; exact hB.ne hc hT)
theorem RowMs.only {R : Nat} {w w' : World} {base : Nat} {v : Value} {l : List MInsD} (h : RowMs w base v l) (k : OnlyR R w w') {cs : Array Value} {T : TypeId} (hR : At w R cs T) (hT : T ≠ 38) : RowMs w' base v l :=
  h.block fun g hg hlt => k.block g hlt (by obtain ⟨_, cur, hc⟩ := h.ge hg; exact hR.ne hc hT)
theorem RowMs.setT {w : World} {base Bp o : Nat} {v x : Value} {l : List MInsD} (h : RowMs w base v l) {cs : Array Value} {T : TypeId} (hB : At w Bp cs T) (hT : T ≠ 38) : RowMs (w.setCell ⟨Bp, o, none⟩ x) base v l :=
  h.block fun g hg _ => Below.heap_setCell _ _ _ _ (by obtain ⟨_, cur, hc⟩ := h.ge hg; exact hB.ne hc hT)
theorem RwIn.at_ {B R : Nat} {w : World} {l : List Int} (h : RwIn B w R l) : ∃ v, At w R #[v] 67 := by
  rcases h with ⟨_, h⟩ | ⟨b, off, c, h, _⟩
  · exact ⟨_, h⟩
  · exact ⟨_, h⟩
/-- A program while it is read. -/
structure PBox (w wr : World) (R Bp B : Nat) (cs : Array Value) (L : List Int) : Prop where
  box : At wr Bp cs 25
  res : At wr w.heap.size #[.int .i64 0, .slice none 0 0, .slice none 0 0, .slice none 0 0] 25
  rw_ : RwIn B wr R L
  below : Below w.heap.size w wr
  lt : w.heap.size < Bp
  ltR : w.heap.size < R
  neR : R ≠ Bp
  leB : B ≤ Bp
  geB : w.heap.size ≤ B
theorem PBox.size {w wr : World} {R Bp B : Nat} {cs : Array Value} {L : List Int} (h : PBox w wr R Bp B cs L) : B ≤ wr.heap.size := Nat.le_trans h.leB (Nat.le_of_lt h.box.lt)
theorem PBox.only {w wr w2 : World} {R Bp B : Nat} {cs : Array Value} {L L2 : List Int} (h : PBox w wr R Bp B cs L) (k : OnlyR R wr w2) (h2 : RwIn B w2 R L2) : PBox w w2 R Bp B cs L2 :=
  ⟨(k.block Bp h.box.lt (Ne.symm h.neR)).trans h.box, (k.block _ h.res.lt (by have := h.ltR; omega)).trans h.res, h2, h.below.trans (k.down (Nat.le_of_lt h.ltR) h.below.size), h.lt, h.ltR, h.neR, h.leB, h.geB⟩
theorem PBox.set {w wr : World} {R Bp B : Nat} {cs : Array Value} {L : List Int} (h : PBox w wr R Bp B cs L) (o : Nat) (v : Value) : PBox w (wr.setCell ⟨Bp, o, none⟩ v) R Bp B (cs.setIfInBounds o v) L :=
  ⟨heap_set h.box, h.res.setOther (by have := h.lt; omega), h.rw_.set h.leB h.neR, h.below.setCell (by have := h.lt; dsimp only; omega) _, h.lt, h.ltR, h.neR, h.leB, h.geB⟩
theorem PBox.keep {w wr w2 : World} {R Bp B : Nat} {cs : Array Value} {L : List Int} (h : PBox w wr R Bp B cs L) (k : Below wr.heap.size wr w2) : PBox w w2 R Bp B cs L :=
  ⟨h.box.below k, h.res.below k, h.rw_.keep k, h.below.trans (k.mono h.below.size), h.lt, h.ltR, h.neR, h.leB, h.geB⟩
theorem PBox.grown {w wr w2 : World} {R Bp B : Nat} {cs : Array Value} {L : List Int} {v : Value} {C : List MInsD} (h : PBox w wr R Bp B cs L) (hv : RowMs wr B v C) (k : wr.grownBy w2 v.ownBlock) : PBox w w2 R Bp B cs L := by
  have key : ∀ b cs T, At wr b cs T → T ≠ 38 → w2.heap[b]? = wr.heap[b]? := fun b cs T hb hT => k.block b hb.lt (fun e => by
    obtain ⟨_, cur, hc⟩ := hv.ge e.symm
    exact hb.ne hc hT rfl)
  have low : ∀ b, b < B → w2.heap[b]? = wr.heap[b]? := fun b hb => k.block b (by have := h.size; omega) (fun e => by
    have := (hv.ge e.symm).1
    omega)
  refine ⟨(key _ _ _ h.box (by decide)).trans h.box, (key _ _ _ h.res (by decide)).trans h.res, ?_, ⟨k.os.trans h.below.os, k.tape.trans h.below.tape, k.output.trans h.below.output, Nat.le_trans h.below.size k.size, fun b hb => ?_⟩, h.lt, h.ltR, h.neR, h.leB, h.geB⟩
  · rcases h.rw_ with ⟨e, h1⟩ | ⟨b, off, c, h0, h1, h2, h3, h4, h5⟩
    · exact .inl ⟨e, (key _ _ _ h1 (by decide)).trans h1⟩
    · exact .inr ⟨b, off, c, (key _ _ _ h0 (by decide)).trans h0, h1, h2, h3, ⟨h4.1, Nat.le_trans h4.2 k.size⟩, fun i hi => (cell_block (low b h4.1)).trans (h5 i hi)⟩
  · exact (low b (by have := h.geB; omega)).trans (h.below.block b hb)
end Go.Proofs.YtpmanjkaiknlhaaDoor
namespace Go.Proofs.YtpmanjkaiknlhaaDoor
open Go.RowKit
set_option linter.unusedVariables false
set_option linter.unusedSimpArgs false

structure PSt (w wr : World) (R Bp B : Nat) (x : Int) (v1 v2 v3 : Value) (ps ws : List Int) (C : List MInsD) (L : List Int) : Prop where
  b : PBox w wr R Bp B #[.int .i64 x, v1, v2, v3] L
  r1 : Row wr B v1 ps
  r2 : Row wr B v2 ws
  r3 : RowMs wr B v3 C
  ap : ∀ g, v1.ownBlock = some g → v2.ownBlock = some g → False
theorem PSt.only {w wr w2 : World} {R Bp B : Nat} {x : Int} {v1 v2 v3 : Value} {ps ws : List Int} {C : List MInsD} {L L2 : List Int} (h : PSt w wr R Bp B x v1 v2 v3 ps ws C L) (k : OnlyR R wr w2) (h2 : RwIn B w2 R L2) : PSt w w2 R Bp B x v1 v2 v3 ps ws C L2 := by
  obtain ⟨v, hR⟩ := h.b.rw_.at_
  exact ⟨h.b.only k h2, h.r1.only k hR (by decide), h.r2.only k hR (by decide), h.r3.only k hR (by decide), h.ap⟩
theorem PSt.keep {w wr w2 : World} {R Bp B : Nat} {x : Int} {v1 v2 v3 : Value} {ps ws : List Int} {C : List MInsD} {L : List Int} (h : PSt w wr R Bp B x v1 v2 v3 ps ws C L) (k : Below wr.heap.size wr w2) : PSt w w2 R Bp B x v1 v2 v3 ps ws C L :=
  ⟨h.b.keep k, h.r1.keep k, h.r2.keep k, h.r3.keep k, h.ap⟩
theorem PSt.put0 {w wr : World} {R Bp B : Nat} {x : Int} {v1 v2 v3 : Value} {ps ws : List Int} {C : List MInsD} {L : List Int} (h : PSt w wr R Bp B x v1 v2 v3 ps ws C L) (y : Int) : PSt w (wr.setCell ⟨Bp, 0, none⟩ (.int .i64 y)) R Bp B y v1 v2 v3 ps ws C L :=
  ⟨h.b.set 0 _, h.r1.setT h.b.box (by decide), h.r2.setT h.b.box (by decide), h.r3.setT h.b.box (by decide), h.ap⟩
theorem PSt.put1 {w wr : World} {R Bp B : Nat} {x : Int} {v1 v3 : Value} {ps ps1 : List Int} {C : List MInsD} {L : List Int} (h : PSt w wr R Bp B x v1 (.slice none 0 0) v3 ps1 [] C L) {v : Value} (hv : Row wr B v ps) : PSt w (wr.setCell ⟨Bp, 1, none⟩ v) R Bp B x v (.slice none 0 0) v3 ps [] C L :=
  ⟨h.b.set 1 _, hv.setT h.b.box (by decide), h.r2.setT h.b.box (by decide), h.r3.setT h.b.box (by decide), fun g _ e => by cases e⟩
theorem PSt.put2 {w wr : World} {R Bp B : Nat} {x : Int} {v1 v2 v3 : Value} {ps ws ws1 : List Int} {C : List MInsD} {L : List Int} (h : PSt w wr R Bp B x v1 v2 v3 ps ws1 C L) {v : Value} (hv : Row wr B v ws) (ha : ∀ g, v1.ownBlock = some g → v.ownBlock = some g → False) : PSt w (wr.setCell ⟨Bp, 2, none⟩ v) R Bp B x v1 v v3 ps ws C L :=
  ⟨h.b.set 2 _, h.r1.setT h.b.box (by decide), hv.setT h.b.box (by decide), h.r3.setT h.b.box (by decide), ha⟩
theorem PSt.put3 {w wr w2 : World} {R Bp B : Nat} {x : Int} {v1 v2 v3 v : Value} {ps ws : List Int} {C D : List MInsD} {L : List Int} (h : PSt w wr R Bp B x v1 v2 v3 ps ws C L) (k : wr.grownBy w2 v3.ownBlock) (hv : RowMs w2 B v D) : PSt w (w2.setCell ⟨Bp, 3, none⟩ v) R Bp B x v1 v2 v ps ws D L := by
  have g := h.b.grown h.r3 k
  have key : ∀ u l, Row wr B u l → Row w2 B u l := fun u l hr => hr.block fun b hb hlt => k.block b hlt (fun e => by
    obtain ⟨cur, hc⟩ := hr.typ hb
    obtain ⟨_, cur2, hc2⟩ := h.r3.ge e.symm
    rw [hc] at hc2
    cases hc2)
  exact ⟨g.set 3 _, (key _ _ h.r1).setT g.box (by decide), (key _ _ h.r2).setT g.box (by decide), hv.setT g.box (by decide), h.ap⟩
structure ProgOwn (w : World) (base : Nat) (p : ProgD) (u1 : Option Addr) (c1 : Nat) (u2 : Option Addr) (c2 : Nat) (u3 : Option Addr) (c3 : Nat) : Prop where
  r1 : Row w base (.slice u1 p.params.length c1) p.params
  r2 : Row w base (.slice u2 p.widths.length c2) p.widths
  r3 : RowMs w base (.slice u3 p.code.length c3) p.code
  ap : ∀ g, (Value.slice u1 p.params.length c1).ownBlock = some g → (Value.slice u2 p.widths.length c2).ownBlock = some g → False
def progV (p : ProgD) (u1 : Option Addr) (c1 : Nat) (u2 : Option Addr) (c2 : Nat) (u3 : Option Addr) (c3 : Nat) : Array Value := #[.int .i64 p.regs, .slice u1 p.params.length c1, .slice u2 p.widths.length c2, .slice u3 p.code.length c3]
def ProgTold (s : ByteArray) (a : Addr) (base : Nat) (w : World) (e : Ending) : Prop :=
  (∃ p u1 c1 u2 c2 u3 c3, OkP s p ∧ e = .returned (.agg #[.int .i64 p.regs, .slice u1 p.params.length c1, .slice u2 p.widths.length c2, .slice u3 p.code.length c3]) ∧ ProgOwn w base p u1 c1 u2 c2 u3 c3) ∨ ((¬ ∃ p, OkP s p) ∧ e = .panicked [{ v := errV a, recovered := false }])
/-- What is left of numbers where no program's numbers begin so. -/
theorem no_head {L : List Int} (h : L = []) : ¬ ∃ p, progB p = true ∧ L = progN p := by
  rintro ⟨p, _, e⟩
  rw [h, progN_eq] at e
  cases e
theorem no_list1 {x : Int} {L1 : List Int} (h : L1 = [] ∨ ∃ k r, L1 = k :: r ∧ (r.length : Int) < k) : ¬ ∃ p, progB p = true ∧ x :: L1 = progN p := by
  rintro ⟨p, _, e⟩
  rw [progN_eq] at e
  simp only [List.cons.injEq] at e
  obtain ⟨_, e⟩ := e
  rcases h with h | ⟨k, r, h, hk⟩
  · rw [h] at e; cases e
  · rw [h, listN, List.cons_append] at e
    simp only [List.cons.injEq] at e
    have := congrArg List.length e.2
    rw [List.length_append] at this
    omega
theorem no_list2 {x : Int} {ps L2 : List Int} (h : L2 = [] ∨ ∃ k r, L2 = k :: r ∧ (r.length : Int) < k) : ¬ ∃ p, progB p = true ∧ x :: (listN ps ++ L2) = progN p := by
  rintro ⟨p, _, e⟩
  rw [progN_eq] at e
  simp only [List.cons.injEq] at e
  obtain ⟨h1, e⟩ := listN_inj e.2
  rcases h with h | ⟨k, r, h, hk⟩
  · rw [h] at e; cases e
  · rw [h, listN, List.cons_append] at e
    simp only [List.cons.injEq] at e
    have := congrArg List.length e.2
    rw [List.length_append] at this
    omega
theorem no_count {x : Int} {ps ws : List Int} : ¬ ∃ p, progB p = true ∧ x :: (listN ps ++ (listN ws ++ [])) = progN p := by
  rintro ⟨p, _, e⟩
  rw [progN_eq] at e
  simp only [List.cons.injEq] at e
  obtain ⟨h1, e⟩ := listN_inj e.2
  obtain ⟨h2, e⟩ := listN_inj e
  cases e
theorem left_iff {x n : Int} {ps ws L : List Int} {C : List MInsD} {p : ProgD} (h : x :: (listN ps ++ (listN ws ++ (n :: (C.flatMap minN ++ L)))) = progN p) : x = p.regs ∧ ps = p.params ∧ ws = p.widths ∧ n = p.code.length ∧ C.flatMap minN ++ L = p.code.flatMap minN ∧ 7 * C.length + L.length = 7 * p.code.length := by
  rw [progN_eq] at h
  simp only [List.cons.injEq] at h
  obtain ⟨h0, h⟩ := h
  obtain ⟨h1, h⟩ := listN_inj h
  obtain ⟨h2, h⟩ := listN_inj h
  simp only [List.cons.injEq] at h
  refine ⟨h0, h1, h2, h.1, h.2, ?_⟩
  have := congrArg List.length h.2
  rw [List.length_append, flat_len, flat_len] at this
  exact this
theorem no_code {x n : Int} {ps ws L : List Int} {C : List MInsD} (h : (C.length : Int) < n) (hl : L.length < 7) : ¬ ∃ p, progB p = true ∧ x :: (listN ps ++ (listN ws ++ (n :: (C.flatMap minN ++ L)))) = progN p := by
  rintro ⟨p, _, e⟩
  obtain ⟨_, _, _, h1, _, h2⟩ := left_iff e
  omega
theorem no_end {x n : Int} {ps ws L : List Int} {C : List MInsD} (h : (C.length : Int) = n) (hl : L ≠ []) : ¬ ∃ p, progB p = true ∧ x :: (listN ps ++ (listN ws ++ (n :: (C.flatMap minN ++ L)))) = progN p := by
  rintro ⟨p, _, e⟩
  obtain ⟨_, _, _, h1, _, h2⟩ := left_iff e
  exact hl (List.length_eq_zero_iff.1 (by omega))
theorem minN_of {L : List Int} (h : 7 ≤ L.length) : ∃ y r, L = minN y ++ r := by
  match L, h with
  | a :: b :: c :: d :: e :: f :: g :: r, _ => exact ⟨⟨a, b, c, d, e, f, g⟩, r, rfl⟩
end Go.Proofs.YtpmanjkaiknlhaaDoor
