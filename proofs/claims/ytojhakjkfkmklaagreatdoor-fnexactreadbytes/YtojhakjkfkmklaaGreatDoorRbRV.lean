import Derived.Test.YtojhakjkfkmklaaGreatDoorRbQV
namespace Go.Proofs.YtojhakjkfkmklaaGreatDoor
open Go.RowKit
set_option linter.unusedVariables false
set_option linter.unusedSimpArgs false
def TermIs (s : ByteArray) (k : Nat) (bad : Bool) (d : TermD) (k' : Nat) (bad' : Bool) : Prop := k' ≤ s.size ∧ ∀ x L, PlainT x → On s k bad (termM x ++ L) → d = x ∧ On s k' bad' L
def TermToldS (s : ByteArray) (k : Nat) (bad : Bool) (G : Nat) (w : World) (e : Ending) (w' : World) : Prop :=
 ∃ (d : TermD) (k' : Nat) (bad' : Bool), e = .returned (.agg #[.int .i64 d.kind, .int .i64 d.a, .int .i64 d.x, .int .i64 d.y]) ∧ TermIs s k bad d k' bad' ∧ RdM w' G s k' bad' ∧ OnlyR G w w'
theorem term_is0 {s : ByteArray} {k k1 : Nat} {bad b1 : Bool} {q : Int} (h1 : NumIs s k bad q k1 b1) (n1 : q ≠ 1) (n2 : q ≠ 2) (n3 : q ≠ 3) : TermIs s k bad ⟨q, 0, 0, 0⟩ k1 b1 := by
 refine ⟨h1.2.2.1, fun x L hp ho => ?_⟩
 unfold termM at ho
 obtain ⟨e, o1⟩ := h1.2.2.2 _ _ ho
 subst e
 unfold termNs at o1
 rw [if_neg n1, if_neg n2, if_neg n3] at o1
 obtain ⟨p1, p2, p3⟩ := hp.2.2 n1 n2 n3
 obtain ⟨xk, xa, xx, xy⟩ := x
 simp only at p1 p2 p3
 subst p1 p2 p3
 exact ⟨rfl, o1⟩
theorem term_is1 {s : ByteArray} {k k1 k2 : Nat} {bad b1 b2 : Bool} {a : Int} (h1 : NumIs s k bad 1 k1 b1) (h2 : NumIs s k1 b1 a k2 b2) : TermIs s k bad ⟨1, a, 0, 0⟩ k2 b2 := by
 refine ⟨h2.2.2.1, fun x L hp ho => ?_⟩
 unfold termM at ho
 obtain ⟨e, o1⟩ := h1.2.2.2 _ _ ho
 unfold termNs at o1
 rw [if_pos e.symm] at o1
 obtain ⟨e2, o2⟩ := h2.2.2.2 _ _ o1
 obtain ⟨p1, p2⟩ := hp.1 e.symm
 obtain ⟨xk, xa, xx, xy⟩ := x
 simp only at p1 p2 e e2
 subst p1 p2 e2 e
 exact ⟨rfl, o2⟩
theorem term_is2 {s : ByteArray} {k k1 k2 : Nat} {bad b1 b2 : Bool} {a : Int} (h1 : NumIs s k bad 2 k1 b1) (h2 : NumIs s k1 b1 a k2 b2) : TermIs s k bad ⟨2, 0, a, 0⟩ k2 b2 := by
 refine ⟨h2.2.2.1, fun x L hp ho => ?_⟩
 unfold termM at ho
 obtain ⟨e, o1⟩ := h1.2.2.2 _ _ ho
 unfold termNs at o1
 rw [if_neg (by rw [← e]; decide), if_pos e.symm] at o1
 obtain ⟨e2, o2⟩ := h2.2.2.2 _ _ o1
 obtain ⟨p1, p2⟩ := hp.2.1 e.symm
 obtain ⟨xk, xa, xx, xy⟩ := x
 simp only at p1 p2 e e2
 subst p1 p2 e2 e
 exact ⟨rfl, o2⟩
theorem term_is3 {s : ByteArray} {k k1 k2 k3 k4 : Nat} {bad b1 b2 b3 b4 : Bool} {a x y : Int} (h1 : NumIs s k bad 3 k1 b1) (h2 : NumIs s k1 b1 a k2 b2) (h3 : NumIs s k2 b2 x k3 b3) (h4 : NumIs s k3 b3 y k4 b4) : TermIs s k bad ⟨3, a, x, y⟩ k4 b4 := by
 refine ⟨h4.2.2.1, fun t L hp ho => ?_⟩
 unfold termM at ho
 obtain ⟨e, o1⟩ := h1.2.2.2 _ _ ho
 unfold termNs at o1
 rw [if_neg (by rw [← e]; decide), if_neg (by rw [← e]; decide), if_pos e.symm] at o1
 obtain ⟨e2, o2⟩ := h2.2.2.2 _ _ o1
 obtain ⟨e3, o3⟩ := h3.2.2.2 _ _ o2
 obtain ⟨e4, o4⟩ := h4.2.2.2 _ _ o3
 obtain ⟨xk, xa, xx, xy⟩ := t
 simp only at e e2 e3 e4
 subst e2 e3 e4 e
 exact ⟨rfl, o4⟩
set_option maxHeartbeats 4000000 in
set_option maxRecDepth 100000 in
theorem termS6 (G : Nat) (s : ByteArray) (k : Nat) (bad : Bool) (w : World) (h : RdM w G s k bad) (hs : s.size ≤ 20000) (hk : k ≤ s.size) :
  Calls Tryz.prog 71 #[.pointer (some ⟨G, 0, none⟩)] w fun e w' => TermToldS s k bad G w e w' := by
 have B0 : Below w.heap.size w (w.alloc (.cells #[.int .i64 0, .int .i64 0, .int .i64 0, .int .i64 0] 84)) := (Below.refl _ _).alloc (Nat.le_refl _) _
 have HA0 : Hid (At (w.alloc (.cells #[.int .i64 0, .int .i64 0, .int .i64 0, .int .i64 0] 84)) w.heap.size #[.int .i64 0, .int .i64 0, .int .i64 0, .int .i64 0] 84) := At.new _ _ _
 have HO0 : Hid (OnlyR G w (w.alloc (.cells #[.int .i64 0, .int .i64 0, .int .i64 0, .int .i64 0] 84))) := OnlyR.below B0
 have hG : G < w.heap.size := At.lt h
 have N1 := numS G s k bad (w.alloc (.cells #[.int .i64 0, .int .i64 0, .int .i64 0, .int .i64 0] 84)) (At.below h B0) hs hk
 clear h B0
 go_enter Tryz.func71, Tryz.ntmps71
 go_wp2_with fail
 refine N1.mono ?_
 rintro e w1 ⟨q, k1, b1, rfl, hx1, hr1, ko1⟩
 have HX1 : Hid (NumIs s k bad q k1 b1) := hx1
 have HA1 : Hid (At w1 w.heap.size #[.int .i64 0, .int .i64 0, .int .i64 0, .int .i64 0] 84) := (ko1.block _ HA0.out.lt (by omega)).trans HA0.out
 have HO1 : Hid (OnlyR G w w1) := HO0.out.trans ko1
 have HR1 : Hid (RdM w1 G s k1 b1) := hr1
 have hk1 := hx1.2.2.1
 have hz1 : w.heap.size < w1.heap.size := HA1.out.lt
 clear N1 hx1 hr1 ko1 HA0 HO0
 by_cases n1 : q = 1
 ·subst n1
  have B3 : Below w1.heap.size w1 (w1.alloc (.cells #[.int .i64 1, .int .i64 0, .int .i64 0, .int .i64 0] 84)) := (Below.refl _ _).alloc (Nat.le_refl _) _
  have HIa : Hid (At (w1.alloc (.cells #[.int .i64 1, .int .i64 0, .int .i64 0, .int .i64 0] 84)) w1.heap.size #[.int .i64 1, .int .i64 0, .int .i64 0, .int .i64 0] 84) := At.new _ _ _
  have HAa : Hid (At (w1.alloc (.cells #[.int .i64 1, .int .i64 0, .int .i64 0, .int .i64 0] 84)) w.heap.size #[.int .i64 0, .int .i64 0, .int .i64 0, .int .i64 0] 84) := HA1.out.below B3
  have HOa : Hid (OnlyR G w (w1.alloc (.cells #[.int .i64 1, .int .i64 0, .int .i64 0, .int .i64 0] 84))) := HO1.out.trans (OnlyR.below B3)
  have HRa : Hid (RdM (w1.alloc (.cells #[.int .i64 1, .int .i64 0, .int .i64 0, .int .i64 0] 84)) G s k1 b1) := At.below HR1.out B3
  clear B3 HA1 HO1 HR1
  have Nb := numS G s k1 b1 (w1.alloc (.cells #[.int .i64 1, .int .i64 0, .int .i64 0, .int .i64 0] 84)) HRa.out hs hk1
  go_wp2_with fail
  refine Nb.mono ?_
  rintro e w2 ⟨z2, k2, b2, rfl, hx2, hr2, ko2⟩
  have HX2 : Hid (NumIs s k1 b1 z2 k2 b2) := hx2
  have hk2 := hx2.2.2.1
  have HIb : Hid (At w2 w1.heap.size #[.int .i64 1, .int .i64 0, .int .i64 0, .int .i64 0] 84) := (ko2.block _ HIa.out.lt (by omega)).trans HIa.out
  have HAb : Hid (At w2 w.heap.size #[.int .i64 0, .int .i64 0, .int .i64 0, .int .i64 0] 84) := (ko2.block _ HAa.out.lt (by omega)).trans HAa.out
  have HOb : Hid (OnlyR G w w2) := HOa.out.trans ko2
  have HRb : Hid (RdM w2 G s k2 b2) := hr2
  clear Nb hx2 hr2 ko2 HIa HAa HOa HRa
  have ne1 : w.heap.size ≠ w1.heap.size := by omega
  have ne2 : w1.heap.size ≠ w.heap.size := by omega
  have i0 : w2.cell? ⟨w1.heap.size, 0, none⟩ = some (.int .i64 1) := HIb.out.cell 0
  have r0 : w2.cell? ⟨w.heap.size, 0, none⟩ = some (.int .i64 0) := HAb.out.cell 0
  have i1 : w2.cell? ⟨w1.heap.size, 1, none⟩ = some (.int .i64 0) := HIb.out.cell 1
  have r1 : w2.cell? ⟨w.heap.size, 1, none⟩ = some (.int .i64 0) := HAb.out.cell 1
  have i2 : w2.cell? ⟨w1.heap.size, 2, none⟩ = some (.int .i64 0) := HIb.out.cell 2
  have r2 : w2.cell? ⟨w.heap.size, 2, none⟩ = some (.int .i64 0) := HAb.out.cell 2
  have i3 : w2.cell? ⟨w1.heap.size, 3, none⟩ = some (.int .i64 0) := HIb.out.cell 3
  have r3 : w2.cell? ⟨w.heap.size, 3, none⟩ = some (.int .i64 0) := HAb.out.cell 3
  have fi : ∀ o, w2.frozen? ⟨w1.heap.size, o, none⟩ = false := fun o => froz_of_heap HIb.out
  have fr : ∀ o, w2.frozen? ⟨w.heap.size, o, none⟩ = false := fun o => froz_of_heap HAb.out
  go_wp2_with fail
  have hr : At (((((w2.setCell ⟨w1.heap.size, 1, none⟩ (.int .i64 z2)).setCell ⟨w.heap.size, 0, none⟩ (.int .i64 1)).setCell ⟨w.heap.size, 1, none⟩ (.int .i64 z2)).setCell ⟨w.heap.size, 2, none⟩ (.int .i64 0)).setCell ⟨w.heap.size, 3, none⟩ (.int .i64 0)) w.heap.size #[.int .i64 1, .int .i64 z2, .int .i64 0, .int .i64 0] 84 := (heap_set (o := 3) (v := (.int .i64 0)) (heap_set (o := 2) (v := (.int .i64 0)) (heap_set (o := 1) (v := (.int .i64 z2)) (heap_set (o := 0) (v := (.int .i64 1)) (At.setOther (gi := w1.heap.size) (o := 1) (v := (.int .i64 z2)) HAb.out ne1)))))
  have hRd : At (((((w2.setCell ⟨w1.heap.size, 1, none⟩ (.int .i64 z2)).setCell ⟨w.heap.size, 0, none⟩ (.int .i64 1)).setCell ⟨w.heap.size, 1, none⟩ (.int .i64 z2)).setCell ⟨w.heap.size, 2, none⟩ (.int .i64 0)).setCell ⟨w.heap.size, 3, none⟩ (.int .i64 0)) G #[.string s, .int .i64 (k2 : Int), .bool b2] 55 := (At.setOther (gi := w.heap.size) (o := 3) (v := (.int .i64 0)) (At.setOther (gi := w.heap.size) (o := 2) (v := (.int .i64 0)) (At.setOther (gi := w.heap.size) (o := 1) (v := (.int .i64 z2)) (At.setOther (gi := w.heap.size) (o := 0) (v := (.int .i64 1)) (At.setOther (gi := w1.heap.size) (o := 1) (v := (.int .i64 z2)) HRb.out (by omega)) (by omega)) (by omega)) (by omega)) (by omega))
  have hOn : OnlyR G w (((((w2.setCell ⟨w1.heap.size, 1, none⟩ (.int .i64 z2)).setCell ⟨w.heap.size, 0, none⟩ (.int .i64 1)).setCell ⟨w.heap.size, 1, none⟩ (.int .i64 z2)).setCell ⟨w.heap.size, 2, none⟩ (.int .i64 0)).setCell ⟨w.heap.size, 3, none⟩ (.int .i64 0)) := (OnlyR.fresh (g := w.heap.size) (o := 3) (v := (.int .i64 0)) (OnlyR.fresh (g := w.heap.size) (o := 2) (v := (.int .i64 0)) (OnlyR.fresh (g := w.heap.size) (o := 1) (v := (.int .i64 z2)) (OnlyR.fresh (g := w.heap.size) (o := 0) (v := (.int .i64 1)) (OnlyR.fresh (g := w1.heap.size) (o := 1) (v := (.int .i64 z2)) HOb.out (by omega)) (by omega)) (by omega)) (by omega)) (by omega))
  exact bodyPost_ret (v := .agg #[.int .i64 1, .int .i64 z2, .int .i64 0, .int .i64 0]) ((results_cell_row Tryz.results71 _ _ w.heap.size 84 _ (0, 0) _ rfl hr Tryz.underlying84 rfl (by kernel_rfl)).trans (by rfl)) rfl ⟨⟨1, z2, 0, 0⟩, k2, b2, rfl, term_is1 HX1.out HX2.out, hRd, hOn⟩
 by_cases n2 : q = 2
 ·subst n2
  clear n1
  have B3 : Below w1.heap.size w1 (w1.alloc (.cells #[.int .i64 2, .int .i64 0, .int .i64 0, .int .i64 0] 84)) := (Below.refl _ _).alloc (Nat.le_refl _) _
  have HIa : Hid (At (w1.alloc (.cells #[.int .i64 2, .int .i64 0, .int .i64 0, .int .i64 0] 84)) w1.heap.size #[.int .i64 2, .int .i64 0, .int .i64 0, .int .i64 0] 84) := At.new _ _ _
  have HAa : Hid (At (w1.alloc (.cells #[.int .i64 2, .int .i64 0, .int .i64 0, .int .i64 0] 84)) w.heap.size #[.int .i64 0, .int .i64 0, .int .i64 0, .int .i64 0] 84) := HA1.out.below B3
  have HOa : Hid (OnlyR G w (w1.alloc (.cells #[.int .i64 2, .int .i64 0, .int .i64 0, .int .i64 0] 84))) := HO1.out.trans (OnlyR.below B3)
  have HRa : Hid (RdM (w1.alloc (.cells #[.int .i64 2, .int .i64 0, .int .i64 0, .int .i64 0] 84)) G s k1 b1) := At.below HR1.out B3
  clear B3 HA1 HO1 HR1
  have Nb := numS G s k1 b1 (w1.alloc (.cells #[.int .i64 2, .int .i64 0, .int .i64 0, .int .i64 0] 84)) HRa.out hs hk1
  go_wp2_with fail
  refine Nb.mono ?_
  rintro e w2 ⟨z2, k2, b2, rfl, hx2, hr2, ko2⟩
  have HX2 : Hid (NumIs s k1 b1 z2 k2 b2) := hx2
  have hk2 := hx2.2.2.1
  have HIb : Hid (At w2 w1.heap.size #[.int .i64 2, .int .i64 0, .int .i64 0, .int .i64 0] 84) := (ko2.block _ HIa.out.lt (by omega)).trans HIa.out
  have HAb : Hid (At w2 w.heap.size #[.int .i64 0, .int .i64 0, .int .i64 0, .int .i64 0] 84) := (ko2.block _ HAa.out.lt (by omega)).trans HAa.out
  have HOb : Hid (OnlyR G w w2) := HOa.out.trans ko2
  have HRb : Hid (RdM w2 G s k2 b2) := hr2
  clear Nb hx2 hr2 ko2 HIa HAa HOa HRa
  have ne1 : w.heap.size ≠ w1.heap.size := by omega
  have ne2 : w1.heap.size ≠ w.heap.size := by omega
  have i0 : w2.cell? ⟨w1.heap.size, 0, none⟩ = some (.int .i64 2) := HIb.out.cell 0
  have r0 : w2.cell? ⟨w.heap.size, 0, none⟩ = some (.int .i64 0) := HAb.out.cell 0
  have i1 : w2.cell? ⟨w1.heap.size, 1, none⟩ = some (.int .i64 0) := HIb.out.cell 1
  have r1 : w2.cell? ⟨w.heap.size, 1, none⟩ = some (.int .i64 0) := HAb.out.cell 1
  have i2 : w2.cell? ⟨w1.heap.size, 2, none⟩ = some (.int .i64 0) := HIb.out.cell 2
  have r2 : w2.cell? ⟨w.heap.size, 2, none⟩ = some (.int .i64 0) := HAb.out.cell 2
  have i3 : w2.cell? ⟨w1.heap.size, 3, none⟩ = some (.int .i64 0) := HIb.out.cell 3
  have r3 : w2.cell? ⟨w.heap.size, 3, none⟩ = some (.int .i64 0) := HAb.out.cell 3
  have fi : ∀ o, w2.frozen? ⟨w1.heap.size, o, none⟩ = false := fun o => froz_of_heap HIb.out
  have fr : ∀ o, w2.frozen? ⟨w.heap.size, o, none⟩ = false := fun o => froz_of_heap HAb.out
  go_wp2_with fail
  have hr : At (((((w2.setCell ⟨w1.heap.size, 2, none⟩ (.int .i64 z2)).setCell ⟨w.heap.size, 0, none⟩ (.int .i64 2)).setCell ⟨w.heap.size, 1, none⟩ (.int .i64 0)).setCell ⟨w.heap.size, 2, none⟩ (.int .i64 z2)).setCell ⟨w.heap.size, 3, none⟩ (.int .i64 0)) w.heap.size #[.int .i64 2, .int .i64 0, .int .i64 z2, .int .i64 0] 84 := (heap_set (o := 3) (v := (.int .i64 0)) (heap_set (o := 2) (v := (.int .i64 z2)) (heap_set (o := 1) (v := (.int .i64 0)) (heap_set (o := 0) (v := (.int .i64 2)) (At.setOther (gi := w1.heap.size) (o := 2) (v := (.int .i64 z2)) HAb.out ne1)))))
  have hRd : At (((((w2.setCell ⟨w1.heap.size, 2, none⟩ (.int .i64 z2)).setCell ⟨w.heap.size, 0, none⟩ (.int .i64 2)).setCell ⟨w.heap.size, 1, none⟩ (.int .i64 0)).setCell ⟨w.heap.size, 2, none⟩ (.int .i64 z2)).setCell ⟨w.heap.size, 3, none⟩ (.int .i64 0)) G #[.string s, .int .i64 (k2 : Int), .bool b2] 55 := (At.setOther (gi := w.heap.size) (o := 3) (v := (.int .i64 0)) (At.setOther (gi := w.heap.size) (o := 2) (v := (.int .i64 z2)) (At.setOther (gi := w.heap.size) (o := 1) (v := (.int .i64 0)) (At.setOther (gi := w.heap.size) (o := 0) (v := (.int .i64 2)) (At.setOther (gi := w1.heap.size) (o := 2) (v := (.int .i64 z2)) HRb.out (by omega)) (by omega)) (by omega)) (by omega)) (by omega))
  have hOn : OnlyR G w (((((w2.setCell ⟨w1.heap.size, 2, none⟩ (.int .i64 z2)).setCell ⟨w.heap.size, 0, none⟩ (.int .i64 2)).setCell ⟨w.heap.size, 1, none⟩ (.int .i64 0)).setCell ⟨w.heap.size, 2, none⟩ (.int .i64 z2)).setCell ⟨w.heap.size, 3, none⟩ (.int .i64 0)) := (OnlyR.fresh (g := w.heap.size) (o := 3) (v := (.int .i64 0)) (OnlyR.fresh (g := w.heap.size) (o := 2) (v := (.int .i64 z2)) (OnlyR.fresh (g := w.heap.size) (o := 1) (v := (.int .i64 0)) (OnlyR.fresh (g := w.heap.size) (o := 0) (v := (.int .i64 2)) (OnlyR.fresh (g := w1.heap.size) (o := 2) (v := (.int .i64 z2)) HOb.out (by omega)) (by omega)) (by omega)) (by omega)) (by omega))
  exact bodyPost_ret (v := .agg #[.int .i64 2, .int .i64 0, .int .i64 z2, .int .i64 0]) ((results_cell_row Tryz.results71 _ _ w.heap.size 84 _ (0, 0) _ rfl hr Tryz.underlying84 rfl (by kernel_rfl)).trans (by rfl)) rfl ⟨⟨2, 0, z2, 0⟩, k2, b2, rfl, term_is2 HX1.out HX2.out, hRd, hOn⟩
 by_cases n3 : q = 3
 ·subst n3
  clear n1 n2
  have B3 : Below w1.heap.size w1 (w1.alloc (.cells #[.int .i64 3, .int .i64 0, .int .i64 0, .int .i64 0] 84)) := (Below.refl _ _).alloc (Nat.le_refl _) _
  have HIa : Hid (At (w1.alloc (.cells #[.int .i64 3, .int .i64 0, .int .i64 0, .int .i64 0] 84)) w1.heap.size #[.int .i64 3, .int .i64 0, .int .i64 0, .int .i64 0] 84) := At.new _ _ _
  have HAa : Hid (At (w1.alloc (.cells #[.int .i64 3, .int .i64 0, .int .i64 0, .int .i64 0] 84)) w.heap.size #[.int .i64 0, .int .i64 0, .int .i64 0, .int .i64 0] 84) := HA1.out.below B3
  have HOa : Hid (OnlyR G w (w1.alloc (.cells #[.int .i64 3, .int .i64 0, .int .i64 0, .int .i64 0] 84))) := HO1.out.trans (OnlyR.below B3)
  have HRa : Hid (RdM (w1.alloc (.cells #[.int .i64 3, .int .i64 0, .int .i64 0, .int .i64 0] 84)) G s k1 b1) := At.below HR1.out B3
  clear B3 HA1 HO1 HR1
  have Nb := numS G s k1 b1 (w1.alloc (.cells #[.int .i64 3, .int .i64 0, .int .i64 0, .int .i64 0] 84)) HRa.out hs hk1
  go_wp2_with fail
  refine Nb.mono ?_
  rintro e w2 ⟨z2, k2, b2, rfl, hx2, hr2, ko2⟩
  have HX2 : Hid (NumIs s k1 b1 z2 k2 b2) := hx2
  have hk2 := hx2.2.2.1
  have HIb : Hid (At w2 w1.heap.size #[.int .i64 3, .int .i64 0, .int .i64 0, .int .i64 0] 84) := (ko2.block _ HIa.out.lt (by omega)).trans HIa.out
  have HAb : Hid (At w2 w.heap.size #[.int .i64 0, .int .i64 0, .int .i64 0, .int .i64 0] 84) := (ko2.block _ HAa.out.lt (by omega)).trans HAa.out
  have HOb : Hid (OnlyR G w w2) := HOa.out.trans ko2
  have HRb : Hid (RdM w2 G s k2 b2) := hr2
  clear Nb hx2 hr2 ko2 HIa HAa HOa HRa
  have fo : w2.frozen? ⟨w1.heap.size, 1, none⟩ = false := froz_of_heap HIb.out
  have go : w2.cell? ⟨w1.heap.size, 1, none⟩ = some (.int .i64 0) := HIb.out.cell 1
  have HIbx : Hid (At (w2.setCell ⟨w1.heap.size, 1, none⟩ (.int .i64 z2)) w1.heap.size #[.int .i64 3, .int .i64 z2, .int .i64 0, .int .i64 0] 84) := heap_set (o := 1) (v := .int .i64 z2) HIb.out
  have HAbx : Hid (At (w2.setCell ⟨w1.heap.size, 1, none⟩ (.int .i64 z2)) w.heap.size #[.int .i64 0, .int .i64 0, .int .i64 0, .int .i64 0] 84) := At.setOther HAb.out (by omega)
  have HObx : Hid (OnlyR G w (w2.setCell ⟨w1.heap.size, 1, none⟩ (.int .i64 z2))) := HOb.out.fresh (by omega)
  have HRbx : Hid (RdM (w2.setCell ⟨w1.heap.size, 1, none⟩ (.int .i64 z2)) G s k2 b2) := At.setOther HRb.out (by omega)
  clear HIb HAb HOb HRb
  go_wp2_with fail
  generalize (w2.setCell ⟨w1.heap.size, 1, none⟩ (.int .i64 z2)) = v2 at *
  clear fo go
  have Nc := numS G s k2 b2 v2 HRbx.out hs hk2
  refine Nc.mono ?_
  rintro e w3 ⟨z3, k3, b3, rfl, hx3, hr3, ko3⟩
  have HX3 : Hid (NumIs s k2 b2 z3 k3 b3) := hx3
  have hk3 := hx3.2.2.1
  have HIc : Hid (At w3 w1.heap.size #[.int .i64 3, .int .i64 z2, .int .i64 0, .int .i64 0] 84) := (ko3.block _ HIbx.out.lt (by omega)).trans HIbx.out
  have HAc : Hid (At w3 w.heap.size #[.int .i64 0, .int .i64 0, .int .i64 0, .int .i64 0] 84) := (ko3.block _ HAbx.out.lt (by omega)).trans HAbx.out
  have HOc : Hid (OnlyR G w w3) := HObx.out.trans ko3
  have HRc : Hid (RdM w3 G s k3 b3) := hr3
  clear Nc hx3 hr3 ko3 HIbx HAbx HObx HRbx
  have fo : w3.frozen? ⟨w1.heap.size, 2, none⟩ = false := froz_of_heap HIc.out
  have go : w3.cell? ⟨w1.heap.size, 2, none⟩ = some (.int .i64 0) := HIc.out.cell 2
  have HIcx : Hid (At (w3.setCell ⟨w1.heap.size, 2, none⟩ (.int .i64 z3)) w1.heap.size #[.int .i64 3, .int .i64 z2, .int .i64 z3, .int .i64 0] 84) := heap_set (o := 2) (v := .int .i64 z3) HIc.out
  have HAcx : Hid (At (w3.setCell ⟨w1.heap.size, 2, none⟩ (.int .i64 z3)) w.heap.size #[.int .i64 0, .int .i64 0, .int .i64 0, .int .i64 0] 84) := At.setOther HAc.out (by omega)
  have HOcx : Hid (OnlyR G w (w3.setCell ⟨w1.heap.size, 2, none⟩ (.int .i64 z3))) := HOc.out.fresh (by omega)
  have HRcx : Hid (RdM (w3.setCell ⟨w1.heap.size, 2, none⟩ (.int .i64 z3)) G s k3 b3) := At.setOther HRc.out (by omega)
  clear HIc HAc HOc HRc
  go_wp2_with fail
  generalize (w3.setCell ⟨w1.heap.size, 2, none⟩ (.int .i64 z3)) = v3 at *
  clear fo go
  have Nd := numS G s k3 b3 v3 HRcx.out hs hk3
  refine Nd.mono ?_
  rintro e w4 ⟨z4, k4, b4, rfl, hx4, hr4, ko4⟩
  have HX4 : Hid (NumIs s k3 b3 z4 k4 b4) := hx4
  have hk4 := hx4.2.2.1
  have HId : Hid (At w4 w1.heap.size #[.int .i64 3, .int .i64 z2, .int .i64 z3, .int .i64 0] 84) := (ko4.block _ HIcx.out.lt (by omega)).trans HIcx.out
  have HAd : Hid (At w4 w.heap.size #[.int .i64 0, .int .i64 0, .int .i64 0, .int .i64 0] 84) := (ko4.block _ HAcx.out.lt (by omega)).trans HAcx.out
  have HOd : Hid (OnlyR G w w4) := HOcx.out.trans ko4
  have HRd : Hid (RdM w4 G s k4 b4) := hr4
  clear Nd hx4 hr4 ko4 HIcx HAcx HOcx HRcx
  have ne1 : w.heap.size ≠ w1.heap.size := by omega
  have ne2 : w1.heap.size ≠ w.heap.size := by omega
  have i0 : w4.cell? ⟨w1.heap.size, 0, none⟩ = some (.int .i64 3) := HId.out.cell 0
  have r0 : w4.cell? ⟨w.heap.size, 0, none⟩ = some (.int .i64 0) := HAd.out.cell 0
  have i1 : w4.cell? ⟨w1.heap.size, 1, none⟩ = some (.int .i64 z2) := HId.out.cell 1
  have r1 : w4.cell? ⟨w.heap.size, 1, none⟩ = some (.int .i64 0) := HAd.out.cell 1
  have i2 : w4.cell? ⟨w1.heap.size, 2, none⟩ = some (.int .i64 z3) := HId.out.cell 2
  have r2 : w4.cell? ⟨w.heap.size, 2, none⟩ = some (.int .i64 0) := HAd.out.cell 2
  have i3 : w4.cell? ⟨w1.heap.size, 3, none⟩ = some (.int .i64 0) := HId.out.cell 3
  have r3 : w4.cell? ⟨w.heap.size, 3, none⟩ = some (.int .i64 0) := HAd.out.cell 3
  have fi : ∀ o, w4.frozen? ⟨w1.heap.size, o, none⟩ = false := fun o => froz_of_heap HId.out
  have fr : ∀ o, w4.frozen? ⟨w.heap.size, o, none⟩ = false := fun o => froz_of_heap HAd.out
  go_wp2_with fail
  have hr : At (((((w4.setCell ⟨w1.heap.size, 3, none⟩ (.int .i64 z4)).setCell ⟨w.heap.size, 0, none⟩ (.int .i64 3)).setCell ⟨w.heap.size, 1, none⟩ (.int .i64 z2)).setCell ⟨w.heap.size, 2, none⟩ (.int .i64 z3)).setCell ⟨w.heap.size, 3, none⟩ (.int .i64 z4)) w.heap.size #[.int .i64 3, .int .i64 z2, .int .i64 z3, .int .i64 z4] 84 := (heap_set (o := 3) (v := (.int .i64 z4)) (heap_set (o := 2) (v := (.int .i64 z3)) (heap_set (o := 1) (v := (.int .i64 z2)) (heap_set (o := 0) (v := (.int .i64 3)) (At.setOther (gi := w1.heap.size) (o := 3) (v := (.int .i64 z4)) HAd.out ne1)))))
  have hRd : At (((((w4.setCell ⟨w1.heap.size, 3, none⟩ (.int .i64 z4)).setCell ⟨w.heap.size, 0, none⟩ (.int .i64 3)).setCell ⟨w.heap.size, 1, none⟩ (.int .i64 z2)).setCell ⟨w.heap.size, 2, none⟩ (.int .i64 z3)).setCell ⟨w.heap.size, 3, none⟩ (.int .i64 z4)) G #[.string s, .int .i64 (k4 : Int), .bool b4] 55 := (At.setOther (gi := w.heap.size) (o := 3) (v := (.int .i64 z4)) (At.setOther (gi := w.heap.size) (o := 2) (v := (.int .i64 z3)) (At.setOther (gi := w.heap.size) (o := 1) (v := (.int .i64 z2)) (At.setOther (gi := w.heap.size) (o := 0) (v := (.int .i64 3)) (At.setOther (gi := w1.heap.size) (o := 3) (v := (.int .i64 z4)) HRd.out (by omega)) (by omega)) (by omega)) (by omega)) (by omega))
  have hOn : OnlyR G w (((((w4.setCell ⟨w1.heap.size, 3, none⟩ (.int .i64 z4)).setCell ⟨w.heap.size, 0, none⟩ (.int .i64 3)).setCell ⟨w.heap.size, 1, none⟩ (.int .i64 z2)).setCell ⟨w.heap.size, 2, none⟩ (.int .i64 z3)).setCell ⟨w.heap.size, 3, none⟩ (.int .i64 z4)) := (OnlyR.fresh (g := w.heap.size) (o := 3) (v := (.int .i64 z4)) (OnlyR.fresh (g := w.heap.size) (o := 2) (v := (.int .i64 z3)) (OnlyR.fresh (g := w.heap.size) (o := 1) (v := (.int .i64 z2)) (OnlyR.fresh (g := w.heap.size) (o := 0) (v := (.int .i64 3)) (OnlyR.fresh (g := w1.heap.size) (o := 3) (v := (.int .i64 z4)) HOd.out (by omega)) (by omega)) (by omega)) (by omega)) (by omega))
  exact bodyPost_ret (v := .agg #[.int .i64 3, .int .i64 z2, .int .i64 z3, .int .i64 z4]) ((results_cell_row Tryz.results71 _ _ w.heap.size 84 _ (0, 0) _ rfl hr Tryz.underlying84 rfl (by kernel_rfl)).trans (by rfl)) rfl ⟨⟨3, z2, z3, z4⟩, k4, b4, rfl, term_is3 HX1.out HX2.out HX3.out HX4.out, hRd, hOn⟩
 ·have q1 : (q == 1) = false := by simpa using n1
  have q2 : (q == 2) = false := by simpa using n2
  have q3 : (q == 3) = false := by simpa using n3
  have r0 : w1.cell? ⟨w.heap.size, 0, none⟩ = some (.int .i64 0) := HA1.out.cell 0
  have r1 : w1.cell? ⟨w.heap.size, 1, none⟩ = some (.int .i64 0) := HA1.out.cell 1
  have r2 : w1.cell? ⟨w.heap.size, 2, none⟩ = some (.int .i64 0) := HA1.out.cell 2
  have r3 : w1.cell? ⟨w.heap.size, 3, none⟩ = some (.int .i64 0) := HA1.out.cell 3
  have fr : ∀ o, w1.frozen? ⟨w.heap.size, o, none⟩ = false := fun o => froz_of_heap HA1.out
  have ne1 : w.heap.size ≠ w1.heap.size := by omega
  have ne2 : w1.heap.size ≠ w.heap.size := by omega
  go_wp2_with fail
  have B9 : Below ((((w1.setCell ⟨w.heap.size, 0, none⟩ (.int .i64 q)).setCell ⟨w.heap.size, 1, none⟩ (.int .i64 0)).setCell ⟨w.heap.size, 2, none⟩ (.int .i64 0)).setCell ⟨w.heap.size, 3, none⟩ (.int .i64 0)).heap.size ((((w1.setCell ⟨w.heap.size, 0, none⟩ (.int .i64 q)).setCell ⟨w.heap.size, 1, none⟩ (.int .i64 0)).setCell ⟨w.heap.size, 2, none⟩ (.int .i64 0)).setCell ⟨w.heap.size, 3, none⟩ (.int .i64 0)) (((((w1.setCell ⟨w.heap.size, 0, none⟩ (.int .i64 q)).setCell ⟨w.heap.size, 1, none⟩ (.int .i64 0)).setCell ⟨w.heap.size, 2, none⟩ (.int .i64 0)).setCell ⟨w.heap.size, 3, none⟩ (.int .i64 0)).alloc (.cells #[.int .i64 q, .int .i64 0, .int .i64 0, .int .i64 0] 84)) := (Below.refl _ _).alloc (Nat.le_refl _) _
  have hr0 : At ((((w1.setCell ⟨w.heap.size, 0, none⟩ (.int .i64 q)).setCell ⟨w.heap.size, 1, none⟩ (.int .i64 0)).setCell ⟨w.heap.size, 2, none⟩ (.int .i64 0)).setCell ⟨w.heap.size, 3, none⟩ (.int .i64 0)) w.heap.size #[.int .i64 q, .int .i64 0, .int .i64 0, .int .i64 0] 84 := (heap_set (o := 3) (v := (.int .i64 0)) (heap_set (o := 2) (v := (.int .i64 0)) (heap_set (o := 1) (v := (.int .i64 0)) (heap_set (o := 0) (v := (.int .i64 q)) HA1.out))))
  have hR0 : At ((((w1.setCell ⟨w.heap.size, 0, none⟩ (.int .i64 q)).setCell ⟨w.heap.size, 1, none⟩ (.int .i64 0)).setCell ⟨w.heap.size, 2, none⟩ (.int .i64 0)).setCell ⟨w.heap.size, 3, none⟩ (.int .i64 0)) G #[.string s, .int .i64 (k1 : Int), .bool b1] 55 := (At.setOther (gi := w.heap.size) (o := 3) (v := (.int .i64 0)) (At.setOther (gi := w.heap.size) (o := 2) (v := (.int .i64 0)) (At.setOther (gi := w.heap.size) (o := 1) (v := (.int .i64 0)) (At.setOther (gi := w.heap.size) (o := 0) (v := (.int .i64 q)) HR1.out (by omega)) (by omega)) (by omega)) (by omega))
  have hO0 : OnlyR G w ((((w1.setCell ⟨w.heap.size, 0, none⟩ (.int .i64 q)).setCell ⟨w.heap.size, 1, none⟩ (.int .i64 0)).setCell ⟨w.heap.size, 2, none⟩ (.int .i64 0)).setCell ⟨w.heap.size, 3, none⟩ (.int .i64 0)) := (OnlyR.fresh (g := w.heap.size) (o := 3) (v := (.int .i64 0)) (OnlyR.fresh (g := w.heap.size) (o := 2) (v := (.int .i64 0)) (OnlyR.fresh (g := w.heap.size) (o := 1) (v := (.int .i64 0)) (OnlyR.fresh (g := w.heap.size) (o := 0) (v := (.int .i64 q)) HO1.out (by omega)) (by omega)) (by omega)) (by omega))
  have hr := hr0.below B9
  have hRd := hR0.below B9
  have hOn := hO0.trans (OnlyR.below B9)
  exact bodyPost_ret (v := .agg #[.int .i64 q, .int .i64 0, .int .i64 0, .int .i64 0]) ((results_cell_row Tryz.results71 _ _ w.heap.size 84 _ (0, 0) _ rfl hr Tryz.underlying84 rfl (by kernel_rfl)).trans (by rfl)) rfl ⟨⟨q, 0, 0, 0⟩, k1, b1, rfl, term_is0 HX1.out n1 n2 n3, hRd, hOn⟩
end Go.Proofs.YtojhakjkfkmklaaGreatDoor
