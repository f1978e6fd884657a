import Derived.Test.YtojhakjkfkmklaaGreatDoorRpMV
import Derived.Test.YtojhakjkfkmklaaGreatDoorRbIV
namespace Go.Proofs.YtojhakjkfkmklaaGreatDoor
open Go.RowKit
set_option linter.unusedVariables false
set_option linter.unusedSimpArgs false
def InstIs (s : ByteArray) (k : Nat) (bad : Bool) (d : InstD) (k' : Nat) (bad' : Bool) : Prop := k' ≤ s.size ∧ ∀ x L, Plain x → (opsD x).length ≤ 4 → On s k bad (instM x ++ L) → d = x ∧ On s k' bad' L
def InstToldS (s : ByteArray) (k : Nat) (bad : Bool) (G : Nat) (w : World) (e : Ending) (w' : World) : Prop :=
 ∃ (d : InstD) (k' : Nat) (bad' : Bool), InstTook w d e w' ∧ InstIs s k bad d k' bad' ∧ RdM w' G s k' bad' ∧ OnlyR G w w'
set_option maxHeartbeats 1000000 in
theorem atO (lo hi : Nat) (u : Option Addr) (c : Nat) (l : List Int) (k : Nat) (w : World) (h : OwnI w lo hi u l) (hk : k ≤ 3) :
  Calls Tryz.prog 104 #[.slice u l.length c, .int .i64 (k : Int)] w fun e w' => e = .returned (.int .i64 (l.getD k 0)) ∧ w' = w := by
 have hl := h.1
 by_cases hlt : k < l.length
 ·have q : (k : Int) < (l.length : Int) := by omega
  have q0 : (0 : Int) ≤ (k : Int) := by omega
  rcases h.2 with h | ⟨b, cur, rfl, h2, h3, h4, h5⟩
  ·subst h
   cases hlt
  ·have hc : w.cell? ⟨b, k, none⟩ = some (.int .i64 (l.getD k 0)) := by rw [cell_of_heap h4]; exact h5 k hlt
   have hz : ((k : Int)).toNat = k := by omega
   clear h5
   generalize l.getD k 0 = z at hc ⊢
   go_enter Tryz.func104, Tryz.ntmps104
   go_wp2_with fail
   go_ret
   exact ⟨rfl, rfl⟩
 ·have q : ¬ (k : Int) < (l.length : Int) := by omega
  have e : l.getD k 0 = 0 := by simp [List.getD, List.getElem?_eq_none (Nat.le_of_not_lt hlt)]
  rw [e]
  clear e
  go_enter Tryz.func104, Tryz.ntmps104
  go_wp2_with fail
  go_ret
  exact ⟨rfl, rfl⟩
theorem inst_is {s : ByteArray} {k k1 k2 k3 k4 : Nat} {bad b1 b2 b3 b4 : Bool} {op wi im : Int} {l : List Int} (h1 : NumIs s k bad op k1 b1) (h2 : NumIs s k1 b1 wi k2 b2)
  (h3 : (immM op = true ∧ NumIs s k2 b2 im k3 b3) ∨ (immM op = false ∧ im = 0 ∧ k3 = k2 ∧ b3 = b2))
  (h4 : ∀ l' L, On s k3 b3 (listN l' ++ L) → (l'.length : Int) ≤ 4 → l = l' ∧ On s k4 b4 L) (hk : k4 ≤ s.size) : InstIs s k bad (mkD op wi im l) k4 b4 := by
 refine ⟨hk, fun x L hp hl ho => ?_⟩
 obtain ⟨p1, p2⟩ := hp
 unfold instM at ho
 rw [List.append_assoc, List.append_assoc] at ho
 obtain ⟨rfl, o1⟩ := h1.2.2.2 _ _ ho
 obtain ⟨rfl, o2⟩ := h2.2.2.2 _ _ o1
 rcases h3 with ⟨hi, h3⟩ | ⟨hi, rfl, rfl, rfl⟩
 ·rw [if_pos hi] at o2
  obtain ⟨rfl, o3⟩ := h3.2.2.2 _ _ o2
  obtain ⟨rfl, o4⟩ := h4 _ _ o3 (by omega)
  exact ⟨p1.symm, o4⟩
 ·rw [if_neg (by rw [hi]; decide)] at o2
  obtain ⟨rfl, o4⟩ := h4 _ _ o2 (by omega)
  rw [p2 hi] at p1
  exact ⟨p1.symm, o4⟩
set_option maxHeartbeats 4000000 in
set_option maxRecDepth 100000 in
theorem instS6 (G : Nat) (s : ByteArray) (k : Nat) (bad : Bool) (w : World) (h : RdM w G s k bad) (hs : s.size ≤ 20000) (hk : k ≤ s.size) :
  Calls Tryz.prog 70 #[.pointer (some ⟨G, 0, none⟩)] w fun e w' => InstToldS s k bad G w e w' := by
 have B0 : Below w.heap.size w (w.alloc (.cells #[.int .i64 0, .int .i64 0, .int .i64 0, .int .i64 0, .int .i64 0, .int .i64 0, .slice none 0 0] 91)) := (Below.refl _ _).alloc (Nat.le_refl _) _
 have HA0 : Hid (At (w.alloc (.cells #[.int .i64 0, .int .i64 0, .int .i64 0, .int .i64 0, .int .i64 0, .int .i64 0, .slice none 0 0] 91)) w.heap.size #[.int .i64 0, .int .i64 0, .int .i64 0, .int .i64 0, .int .i64 0, .int .i64 0, .slice none 0 0] 91) := At.new _ _ _
 have HO0 : Hid (OnlyR G w (w.alloc (.cells #[.int .i64 0, .int .i64 0, .int .i64 0, .int .i64 0, .int .i64 0, .int .i64 0, .slice none 0 0] 91))) := OnlyR.below B0
 have hG : G < w.heap.size := At.lt h
 have N1 := numS G s k bad (w.alloc (.cells #[.int .i64 0, .int .i64 0, .int .i64 0, .int .i64 0, .int .i64 0, .int .i64 0, .slice none 0 0] 91)) (At.below h B0) hs hk
 clear h B0
 go_enter Tryz.func70, Tryz.ntmps70
 go_wp2_with fail
 refine N1.mono ?_
 rintro e w1 ⟨op, k1, b1, rfl, hx1, hr1, ko1⟩
 have HX1 : Hid (NumIs s k bad op k1 b1) := hx1
 have HA1 : Hid (At w1 w.heap.size #[.int .i64 0, .int .i64 0, .int .i64 0, .int .i64 0, .int .i64 0, .int .i64 0, .slice none 0 0] 91) := (ko1.block _ HA0.out.lt (by omega)).trans HA0.out
 have HO1 : Hid (OnlyR G w w1) := HO0.out.trans ko1
 have hk1 := hx1.2.2.1
 have N2 := numS G s k1 b1 w1 hr1 hs hk1
 clear N1 hx1 hr1 ko1 HA0 HO0
 go_wp2_with fail
 refine N2.mono ?_
 rintro e w2 ⟨wi, k2, b2, rfl, hx2, hr2, ko2⟩
 have HX2 : Hid (NumIs s k1 b1 wi k2 b2) := hx2
 have HA2 : Hid (At w2 w.heap.size #[.int .i64 0, .int .i64 0, .int .i64 0, .int .i64 0, .int .i64 0, .int .i64 0, .slice none 0 0] 91) := (ko2.block _ HA1.out.lt (by omega)).trans HA1.out
 have HO2 : Hid (OnlyR G w w2) := HO1.out.trans ko2
 have hk2 := hx2.2.2.1
 have hz2 : w.heap.size < w2.heap.size := HA2.out.lt
 have B3 : Below w2.heap.size w2 (w2.alloc (.cells #[.int .i64 op, .int .i64 wi, .int .i64 0, .int .i64 0, .int .i64 0, .int .i64 0, .slice none 0 0] 91)) := (Below.refl _ _).alloc (Nat.le_refl _) _
 have HI3 : Hid (At (w2.alloc (.cells #[.int .i64 op, .int .i64 wi, .int .i64 0, .int .i64 0, .int .i64 0, .int .i64 0, .slice none 0 0] 91)) w2.heap.size #[.int .i64 op, .int .i64 wi, .int .i64 0, .int .i64 0, .int .i64 0, .int .i64 0, .slice none 0 0] 91) := At.new _ _ _
 have HA3 : Hid (At (w2.alloc (.cells #[.int .i64 op, .int .i64 wi, .int .i64 0, .int .i64 0, .int .i64 0, .int .i64 0, .slice none 0 0] 91)) w.heap.size #[.int .i64 0, .int .i64 0, .int .i64 0, .int .i64 0, .int .i64 0, .int .i64 0, .slice none 0 0] 91) := HA2.out.below B3
 have HO3 : Hid (OnlyR G w (w2.alloc (.cells #[.int .i64 op, .int .i64 wi, .int .i64 0, .int .i64 0, .int .i64 0, .int .i64 0, .slice none 0 0] 91))) := HO2.out.trans (OnlyR.below B3)
 have HR3 : Hid (RdM (w2.alloc (.cells #[.int .i64 op, .int .i64 wi, .int .i64 0, .int .i64 0, .int .i64 0, .int .i64 0, .slice none 0 0] 91)) G s k2 b2) := At.below hr2 B3
 clear N2 hx2 hr2 ko2 HA1 HO1 B3 HA2 HO2
 have hI : w.heap.size < w2.heap.size := hz2
 by_cases h26 : op = 26
 ·subst h26
  have him : immM 26 = true := rfl
  have N3 := numS G s k2 b2 (w2.alloc (.cells #[.int .i64 26, .int .i64 wi, .int .i64 0, .int .i64 0, .int .i64 0, .int .i64 0, .slice none 0 0] 91)) HR3.out hs hk2
  go_wp2_with fail
  refine N3.mono ?_
  rintro e w4 ⟨im, k3, b3, rfl, hx3, hr3, ko3⟩
  have HX3 : Hid (NumIs s k2 b2 im k3 b3) := hx3
  have hk3 := hx3.2.2.1
  have HI4 : Hid (At w4 w2.heap.size #[.int .i64 26, .int .i64 wi, .int .i64 0, .int .i64 0, .int .i64 0, .int .i64 0, .slice none 0 0] 91) := (ko3.block _ HI3.out.lt (by omega)).trans HI3.out
  have HA4 : Hid (At w4 w.heap.size #[.int .i64 0, .int .i64 0, .int .i64 0, .int .i64 0, .int .i64 0, .int .i64 0, .slice none 0 0] 91) := (ko3.block _ HA3.out.lt (by omega)).trans HA3.out
  have HO4 : Hid (OnlyR G w w4) := HO3.out.trans ko3
  have HI5 : Hid (At (w4.setCell ⟨w2.heap.size, 5, none⟩ (.int .i64 im)) w2.heap.size #[.int .i64 26, .int .i64 wi, .int .i64 0, .int .i64 0, .int .i64 0, .int .i64 im, .slice none 0 0] 91) := heap_set (o := 5) (v := .int .i64 im) HI4.out
  have HA5 : Hid (At (w4.setCell ⟨w2.heap.size, 5, none⟩ (.int .i64 im)) w.heap.size #[.int .i64 0, .int .i64 0, .int .i64 0, .int .i64 0, .int .i64 0, .int .i64 0, .slice none 0 0] 91) := At.setOther HA4.out (by omega)
  have HO5 : Hid (OnlyR G w (w4.setCell ⟨w2.heap.size, 5, none⟩ (.int .i64 im))) := HO4.out.fresh (by omega)
  have HR5 : Hid (RdM (w4.setCell ⟨w2.heap.size, 5, none⟩ (.int .i64 im)) G s k3 b3) := At.setOther hr3 (by omega)
  have hz5 : w2.heap.size + 1 ≤ (w4.setCell ⟨w2.heap.size, 5, none⟩ (.int .i64 im)).heap.size := HI5.out.lt
  have f5 : w4.frozen? ⟨w2.heap.size, 5, none⟩ = false := froz_of_heap HI4.out
  have g5 : w4.cell? ⟨w2.heap.size, 5, none⟩ = some (.int .i64 0) := HI4.out.cell 5
  have L1 := listS 4 G s k3 b3 (w4.setCell ⟨w2.heap.size, 5, none⟩ (.int .i64 im)) HR5.out hs hk3 (by omega)
  clear N3 hx3 hr3 ko3 HI4 HA4 HO4 HI3 HA3 HO3 HR3
  go_wp2_with fail
  generalize (w4.setCell ⟨w2.heap.size, 5, none⟩ (.int .i64 im)) = w5 at *
  refine L1.mono ?_
  rintro e w6 ⟨v, l, k4, b4, rfl, hrow, hlen, hk4, hon, hr6, ko6⟩
  obtain ⟨u, c, rfl⟩ := hrow.slice
  have HU6 : Hid (OwnI w6 (w.heap.size + 1) w6.heap.size u l) := (OwnI.row (by omega) hrow).wide (by omega) (Nat.le_refl _)
  have HI6 : Hid (At w6 w2.heap.size #[.int .i64 26, .int .i64 wi, .int .i64 0, .int .i64 0, .int .i64 0, .int .i64 im, .slice none 0 0] 91) := (ko6.block _ HI5.out.lt (by omega)).trans HI5.out
  have HA6 : Hid (At w6 w.heap.size #[.int .i64 0, .int .i64 0, .int .i64 0, .int .i64 0, .int .i64 0, .int .i64 0, .slice none 0 0] 91) := (ko6.block _ HA5.out.lt (by omega)).trans HA5.out
  have HO6 : Hid (OnlyR G w w6) := HO5.out.trans ko6
  have HR6 : Hid (RdM w6 G s k4 b4) := hr6
  have HS : Hid (InstIs s k bad (mkD 26 wi im l) k4 b4) := inst_is HX1.out HX2.out (.inl ⟨him, HX3.out⟩) hon hk4
  clear L1 hrow hon hr6 ko6 HI5 HA5 HO5 HX1 HX2 HX3 HR5 f5 g5
  have ne1 : w.heap.size ≠ w2.heap.size := by omega
  have ne2 : w2.heap.size ≠ w.heap.size := by omega
  have hd : mkD 26 wi im l = ⟨26, wi, 0, 0, 0, im, l⟩ := if_pos rfl
  clear him
  have i0 : w6.cell? ⟨w2.heap.size, 0, none⟩ = some (.int .i64 26) := HI6.out.cell 0
  have r0 : w6.cell? ⟨w.heap.size, 0, none⟩ = some (.int .i64 0) := HA6.out.cell 0
  have i1 : w6.cell? ⟨w2.heap.size, 1, none⟩ = some (.int .i64 wi) := HI6.out.cell 1
  have r1 : w6.cell? ⟨w.heap.size, 1, none⟩ = some (.int .i64 0) := HA6.out.cell 1
  have i2 : w6.cell? ⟨w2.heap.size, 2, none⟩ = some (.int .i64 0) := HI6.out.cell 2
  have r2 : w6.cell? ⟨w.heap.size, 2, none⟩ = some (.int .i64 0) := HA6.out.cell 2
  have i3 : w6.cell? ⟨w2.heap.size, 3, none⟩ = some (.int .i64 0) := HI6.out.cell 3
  have r3 : w6.cell? ⟨w.heap.size, 3, none⟩ = some (.int .i64 0) := HA6.out.cell 3
  have i4 : w6.cell? ⟨w2.heap.size, 4, none⟩ = some (.int .i64 0) := HI6.out.cell 4
  have r4 : w6.cell? ⟨w.heap.size, 4, none⟩ = some (.int .i64 0) := HA6.out.cell 4
  have i5 : w6.cell? ⟨w2.heap.size, 5, none⟩ = some (.int .i64 im) := HI6.out.cell 5
  have r5 : w6.cell? ⟨w.heap.size, 5, none⟩ = some (.int .i64 0) := HA6.out.cell 5
  have i6 : w6.cell? ⟨w2.heap.size, 6, none⟩ = some (.slice none 0 0) := HI6.out.cell 6
  have r6 : w6.cell? ⟨w.heap.size, 6, none⟩ = some (.slice none 0 0) := HA6.out.cell 6
  have fi : ∀ o, w6.frozen? ⟨w2.heap.size, o, none⟩ = false := fun o => froz_of_heap HI6.out
  have fr : ∀ o, w6.frozen? ⟨w.heap.size, o, none⟩ = false := fun o => froz_of_heap HA6.out
  go_wp2_with fail
  have hr : At ((((((((w6.setCell ⟨w2.heap.size, 6, none⟩ (.slice u l.length c)).setCell ⟨w.heap.size, 0, none⟩ (.int .i64 26)).setCell ⟨w.heap.size, 1, none⟩ (.int .i64 wi)).setCell ⟨w.heap.size, 2, none⟩ (.int .i64 0)).setCell ⟨w.heap.size, 3, none⟩ (.int .i64 0)).setCell ⟨w.heap.size, 4, none⟩ (.int .i64 0)).setCell ⟨w.heap.size, 5, none⟩ (.int .i64 im)).setCell ⟨w.heap.size, 6, none⟩ (.slice u l.length c)) w.heap.size #[.int .i64 26, .int .i64 wi, .int .i64 0, .int .i64 0, .int .i64 0, .int .i64 im, .slice u l.length c] 91 := (heap_set (o := 6) (v := (.slice u l.length c)) (heap_set (o := 5) (v := (.int .i64 im)) (heap_set (o := 4) (v := (.int .i64 0)) (heap_set (o := 3) (v := (.int .i64 0)) (heap_set (o := 2) (v := (.int .i64 0)) (heap_set (o := 1) (v := (.int .i64 wi)) (heap_set (o := 0) (v := (.int .i64 26)) (At.setOther (gi := w2.heap.size) (o := 6) (v := (.slice u l.length c)) HA6.out ne1))))))))
  have hRd : At ((((((((w6.setCell ⟨w2.heap.size, 6, none⟩ (.slice u l.length c)).setCell ⟨w.heap.size, 0, none⟩ (.int .i64 26)).setCell ⟨w.heap.size, 1, none⟩ (.int .i64 wi)).setCell ⟨w.heap.size, 2, none⟩ (.int .i64 0)).setCell ⟨w.heap.size, 3, none⟩ (.int .i64 0)).setCell ⟨w.heap.size, 4, none⟩ (.int .i64 0)).setCell ⟨w.heap.size, 5, none⟩ (.int .i64 im)).setCell ⟨w.heap.size, 6, none⟩ (.slice u l.length c)) G #[.string s, .int .i64 (k4 : Int), .bool b4] 55 := (At.setOther (gi := w.heap.size) (o := 6) (v := (.slice u l.length c)) (At.setOther (gi := w.heap.size) (o := 5) (v := (.int .i64 im)) (At.setOther (gi := w.heap.size) (o := 4) (v := (.int .i64 0)) (At.setOther (gi := w.heap.size) (o := 3) (v := (.int .i64 0)) (At.setOther (gi := w.heap.size) (o := 2) (v := (.int .i64 0)) (At.setOther (gi := w.heap.size) (o := 1) (v := (.int .i64 wi)) (At.setOther (gi := w.heap.size) (o := 0) (v := (.int .i64 26)) (At.setOther (gi := w2.heap.size) (o := 6) (v := (.slice u l.length c)) HR6.out (by omega)) (by omega)) (by omega)) (by omega)) (by omega)) (by omega)) (by omega)) (by omega))
  have hOn : OnlyR G w ((((((((w6.setCell ⟨w2.heap.size, 6, none⟩ (.slice u l.length c)).setCell ⟨w.heap.size, 0, none⟩ (.int .i64 26)).setCell ⟨w.heap.size, 1, none⟩ (.int .i64 wi)).setCell ⟨w.heap.size, 2, none⟩ (.int .i64 0)).setCell ⟨w.heap.size, 3, none⟩ (.int .i64 0)).setCell ⟨w.heap.size, 4, none⟩ (.int .i64 0)).setCell ⟨w.heap.size, 5, none⟩ (.int .i64 im)).setCell ⟨w.heap.size, 6, none⟩ (.slice u l.length c)) := (OnlyR.fresh (g := w.heap.size) (o := 6) (v := (.slice u l.length c)) (OnlyR.fresh (g := w.heap.size) (o := 5) (v := (.int .i64 im)) (OnlyR.fresh (g := w.heap.size) (o := 4) (v := (.int .i64 0)) (OnlyR.fresh (g := w.heap.size) (o := 3) (v := (.int .i64 0)) (OnlyR.fresh (g := w.heap.size) (o := 2) (v := (.int .i64 0)) (OnlyR.fresh (g := w.heap.size) (o := 1) (v := (.int .i64 wi)) (OnlyR.fresh (g := w.heap.size) (o := 0) (v := (.int .i64 26)) (OnlyR.fresh (g := w2.heap.size) (o := 6) (v := (.slice u l.length c)) HO6.out (by omega)) (by omega)) (by omega)) (by omega)) (by omega)) (by omega)) (by omega)) (by omega))
  have OWN : OwnI ((((((((w6.setCell ⟨w2.heap.size, 6, none⟩ (.slice u l.length c)).setCell ⟨w.heap.size, 0, none⟩ (.int .i64 26)).setCell ⟨w.heap.size, 1, none⟩ (.int .i64 wi)).setCell ⟨w.heap.size, 2, none⟩ (.int .i64 0)).setCell ⟨w.heap.size, 3, none⟩ (.int .i64 0)).setCell ⟨w.heap.size, 4, none⟩ (.int .i64 0)).setCell ⟨w.heap.size, 5, none⟩ (.int .i64 im)).setCell ⟨w.heap.size, 6, none⟩ (.slice u l.length c)) w.heap.size ((((((((w6.setCell ⟨w2.heap.size, 6, none⟩ (.slice u l.length c)).setCell ⟨w.heap.size, 0, none⟩ (.int .i64 26)).setCell ⟨w.heap.size, 1, none⟩ (.int .i64 wi)).setCell ⟨w.heap.size, 2, none⟩ (.int .i64 0)).setCell ⟨w.heap.size, 3, none⟩ (.int .i64 0)).setCell ⟨w.heap.size, 4, none⟩ (.int .i64 0)).setCell ⟨w.heap.size, 5, none⟩ (.int .i64 im)).setCell ⟨w.heap.size, 6, none⟩ (.slice u l.length c)).heap.size u l := (OwnI.still (OwnI.still (OwnI.still (OwnI.still (OwnI.still (OwnI.still (OwnI.still (OwnI.still HU6.out (Still.set (k := 1) HI6.out (by decide)) (by decide)) (Still.set (k := 1) (At.setOther (gi := w2.heap.size) (o := 6) (v := (.slice u l.length c)) HA6.out ne1) (by decide)) (by decide)) (Still.set (k := 1) (heap_set (o := 0) (v := (.int .i64 26)) (At.setOther (gi := w2.heap.size) (o := 6) (v := (.slice u l.length c)) HA6.out ne1)) (by decide)) (by decide)) (Still.set (k := 1) (heap_set (o := 1) (v := (.int .i64 wi)) (heap_set (o := 0) (v := (.int .i64 26)) (At.setOther (gi := w2.heap.size) (o := 6) (v := (.slice u l.length c)) HA6.out ne1))) (by decide)) (by decide)) (Still.set (k := 1) (heap_set (o := 2) (v := (.int .i64 0)) (heap_set (o := 1) (v := (.int .i64 wi)) (heap_set (o := 0) (v := (.int .i64 26)) (At.setOther (gi := w2.heap.size) (o := 6) (v := (.slice u l.length c)) HA6.out ne1)))) (by decide)) (by decide)) (Still.set (k := 1) (heap_set (o := 3) (v := (.int .i64 0)) (heap_set (o := 2) (v := (.int .i64 0)) (heap_set (o := 1) (v := (.int .i64 wi)) (heap_set (o := 0) (v := (.int .i64 26)) (At.setOther (gi := w2.heap.size) (o := 6) (v := (.slice u l.length c)) HA6.out ne1))))) (by decide)) (by decide)) (Still.set (k := 1) (heap_set (o := 4) (v := (.int .i64 0)) (heap_set (o := 3) (v := (.int .i64 0)) (heap_set (o := 2) (v := (.int .i64 0)) (heap_set (o := 1) (v := (.int .i64 wi)) (heap_set (o := 0) (v := (.int .i64 26)) (At.setOther (gi := w2.heap.size) (o := 6) (v := (.slice u l.length c)) HA6.out ne1)))))) (by decide)) (by decide)) (Still.set (k := 1) (heap_set (o := 5) (v := (.int .i64 im)) (heap_set (o := 4) (v := (.int .i64 0)) (heap_set (o := 3) (v := (.int .i64 0)) (heap_set (o := 2) (v := (.int .i64 0)) (heap_set (o := 1) (v := (.int .i64 wi)) (heap_set (o := 0) (v := (.int .i64 26)) (At.setOther (gi := w2.heap.size) (o := 6) (v := (.slice u l.length c)) HA6.out ne1))))))) (by decide)) (by decide)).wide (by omega) (by simp only [World.size_setCell]; exact Nat.le_refl _)
  have hS := HS.out
  rw [hd] at hS
  exact bodyPost_ret (v := .agg #[.int .i64 26, .int .i64 wi, .int .i64 0, .int .i64 0, .int .i64 0, .int .i64 im, .slice u l.length c]) ((results_cell_row Tryz.results70 _ _ w.heap.size 91 _ (0, 0) _ rfl hr Tryz.underlying91 rfl (by kernel_rfl)).trans (by rfl)) rfl ⟨⟨26, wi, 0, 0, 0, im, l⟩, k4, b4, ⟨u, c, rfl, OWN⟩, hS, hRd, hOn⟩
 ·by_cases h21 : op = 21
  ·subst h21
   have him : immM 21 = true := rfl
   have N3 := numS G s k2 b2 (w2.alloc (.cells #[.int .i64 21, .int .i64 wi, .int .i64 0, .int .i64 0, .int .i64 0, .int .i64 0, .slice none 0 0] 91)) HR3.out hs hk2
   go_wp2_with fail
   refine N3.mono ?_
   rintro e w4 ⟨im, k3, b3, rfl, hx3, hr3, ko3⟩
   have HX3 : Hid (NumIs s k2 b2 im k3 b3) := hx3
   have hk3 := hx3.2.2.1
   have HI4 : Hid (At w4 w2.heap.size #[.int .i64 21, .int .i64 wi, .int .i64 0, .int .i64 0, .int .i64 0, .int .i64 0, .slice none 0 0] 91) := (ko3.block _ HI3.out.lt (by omega)).trans HI3.out
   have HA4 : Hid (At w4 w.heap.size #[.int .i64 0, .int .i64 0, .int .i64 0, .int .i64 0, .int .i64 0, .int .i64 0, .slice none 0 0] 91) := (ko3.block _ HA3.out.lt (by omega)).trans HA3.out
   have HO4 : Hid (OnlyR G w w4) := HO3.out.trans ko3
   have HI5 : Hid (At (w4.setCell ⟨w2.heap.size, 5, none⟩ (.int .i64 im)) w2.heap.size #[.int .i64 21, .int .i64 wi, .int .i64 0, .int .i64 0, .int .i64 0, .int .i64 im, .slice none 0 0] 91) := heap_set (o := 5) (v := .int .i64 im) HI4.out
   have HA5 : Hid (At (w4.setCell ⟨w2.heap.size, 5, none⟩ (.int .i64 im)) w.heap.size #[.int .i64 0, .int .i64 0, .int .i64 0, .int .i64 0, .int .i64 0, .int .i64 0, .slice none 0 0] 91) := At.setOther HA4.out (by omega)
   have HO5 : Hid (OnlyR G w (w4.setCell ⟨w2.heap.size, 5, none⟩ (.int .i64 im))) := HO4.out.fresh (by omega)
   have HR5 : Hid (RdM (w4.setCell ⟨w2.heap.size, 5, none⟩ (.int .i64 im)) G s k3 b3) := At.setOther hr3 (by omega)
   have hz5 : w2.heap.size + 1 ≤ (w4.setCell ⟨w2.heap.size, 5, none⟩ (.int .i64 im)).heap.size := HI5.out.lt
   have f5 : w4.frozen? ⟨w2.heap.size, 5, none⟩ = false := froz_of_heap HI4.out
   have g5 : w4.cell? ⟨w2.heap.size, 5, none⟩ = some (.int .i64 0) := HI4.out.cell 5
   have L1 := listS 4 G s k3 b3 (w4.setCell ⟨w2.heap.size, 5, none⟩ (.int .i64 im)) HR5.out hs hk3 (by omega)
   clear N3 hx3 hr3 ko3 HI4 HA4 HO4 HI3 HA3 HO3 HR3
   go_wp2_with fail
   generalize (w4.setCell ⟨w2.heap.size, 5, none⟩ (.int .i64 im)) = w5 at *
   refine L1.mono ?_
   rintro e w6 ⟨v, l, k4, b4, rfl, hrow, hlen, hk4, hon, hr6, ko6⟩
   obtain ⟨u, c, rfl⟩ := hrow.slice
   have HU6 : Hid (OwnI w6 (w.heap.size + 1) w6.heap.size u l) := (OwnI.row (by omega) hrow).wide (by omega) (Nat.le_refl _)
   have HI6 : Hid (At w6 w2.heap.size #[.int .i64 21, .int .i64 wi, .int .i64 0, .int .i64 0, .int .i64 0, .int .i64 im, .slice none 0 0] 91) := (ko6.block _ HI5.out.lt (by omega)).trans HI5.out
   have HA6 : Hid (At w6 w.heap.size #[.int .i64 0, .int .i64 0, .int .i64 0, .int .i64 0, .int .i64 0, .int .i64 0, .slice none 0 0] 91) := (ko6.block _ HA5.out.lt (by omega)).trans HA5.out
   have HO6 : Hid (OnlyR G w w6) := HO5.out.trans ko6
   have HR6 : Hid (RdM w6 G s k4 b4) := hr6
   have HS : Hid (InstIs s k bad (mkD 21 wi im l) k4 b4) := inst_is HX1.out HX2.out (.inl ⟨him, HX3.out⟩) hon hk4
   clear L1 hrow hon hr6 ko6 HI5 HA5 HO5 HX1 HX2 HX3 HR5 f5 g5
   have ne1 : w.heap.size ≠ w2.heap.size := by omega
   have ne2 : w2.heap.size ≠ w.heap.size := by omega
   obtain ⟨x0, hx0⟩ : ∃ x, l.getD 0 0 = x := ⟨_, rfl⟩
   obtain ⟨x1, hx1⟩ : ∃ x, l.getD 1 0 = x := ⟨_, rfl⟩
   obtain ⟨x2, hx2⟩ : ∃ x, l.getD 2 0 = x := ⟨_, rfl⟩
   have hd : mkD 21 wi im l = ⟨21, wi, x0, x1, x2, im, []⟩ := by unfold mkD; rw [if_neg (by omega), hx0, hx1, hx2]
   have P0 := atO _ _ u c l 0 w6 HU6.out (by omega)
   rw [hx0] at P0
   have i0 : w6.cell? ⟨w2.heap.size, 0, none⟩ = some (.int .i64 21) := HI6.out.cell 0
   clear him
   go_wp2_with fail
   clear i0
   refine P0.mono ?_
   rintro e w9 ⟨rfl, h9⟩
   have h8 := h9.symm
   clear h9
   subst h8
   clear P0 hx0
   have f6 : w6.frozen? ⟨w2.heap.size, 2, none⟩ = false := froz_of_heap HI6.out
   have g6 : w6.cell? ⟨w2.heap.size, 2, none⟩ = some (.int .i64 0) := HI6.out.cell 2
   have HU7 : Hid (OwnI (w6.setCell ⟨w2.heap.size, 2, none⟩ (.int .i64 x0)) (w.heap.size + 1) w6.heap.size u l) := OwnI.still HU6.out (Still.set (k := 1) HI6.out (by decide)) (by decide)
   have HI7 : Hid (At (w6.setCell ⟨w2.heap.size, 2, none⟩ (.int .i64 x0)) w2.heap.size #[.int .i64 21, .int .i64 wi, .int .i64 x0, .int .i64 0, .int .i64 0, .int .i64 im, .slice none 0 0] 91) := heap_set (o := 2) (v := .int .i64 x0) HI6.out
   have HA7 : Hid (At (w6.setCell ⟨w2.heap.size, 2, none⟩ (.int .i64 x0)) w.heap.size #[.int .i64 0, .int .i64 0, .int .i64 0, .int .i64 0, .int .i64 0, .int .i64 0, .slice none 0 0] 91) := At.setOther HA6.out ne1
   have HO7 : Hid (OnlyR G w (w6.setCell ⟨w2.heap.size, 2, none⟩ (.int .i64 x0))) := HO6.out.fresh (by omega)
   have HR7 : Hid (RdM (w6.setCell ⟨w2.heap.size, 2, none⟩ (.int .i64 x0)) G s k4 b4) := At.setOther HR6.out (by omega)
   clear HU6 HI6 HA6 HO6 HR6
   go_wp2_with fail
   generalize (w6.setCell ⟨w2.heap.size, 2, none⟩ (.int .i64 x0)) = w7 at *
   clear f6 g6
   have P1 := atO _ _ u c l 1 w7 HU7.out (by omega)
   rw [hx1] at P1
   refine P1.mono ?_
   rintro e w9 ⟨rfl, h9⟩
   have h8 := h9.symm
   clear h9
   subst h8
   clear P1 hx1
   have f7 : w7.frozen? ⟨w2.heap.size, 3, none⟩ = false := froz_of_heap HI7.out
   have g7 : w7.cell? ⟨w2.heap.size, 3, none⟩ = some (.int .i64 0) := HI7.out.cell 3
   have HU8 : Hid (OwnI (w7.setCell ⟨w2.heap.size, 3, none⟩ (.int .i64 x1)) (w.heap.size + 1) w6.heap.size u l) := OwnI.still HU7.out (Still.set (k := 1) HI7.out (by decide)) (by decide)
   have HI8 : Hid (At (w7.setCell ⟨w2.heap.size, 3, none⟩ (.int .i64 x1)) w2.heap.size #[.int .i64 21, .int .i64 wi, .int .i64 x0, .int .i64 x1, .int .i64 0, .int .i64 im, .slice none 0 0] 91) := heap_set (o := 3) (v := .int .i64 x1) HI7.out
   have HA8 : Hid (At (w7.setCell ⟨w2.heap.size, 3, none⟩ (.int .i64 x1)) w.heap.size #[.int .i64 0, .int .i64 0, .int .i64 0, .int .i64 0, .int .i64 0, .int .i64 0, .slice none 0 0] 91) := At.setOther HA7.out ne1
   have HO8 : Hid (OnlyR G w (w7.setCell ⟨w2.heap.size, 3, none⟩ (.int .i64 x1))) := HO7.out.fresh (by omega)
   have HR8 : Hid (RdM (w7.setCell ⟨w2.heap.size, 3, none⟩ (.int .i64 x1)) G s k4 b4) := At.setOther HR7.out (by omega)
   clear HU7 HI7 HA7 HO7 HR7
   go_wp2_with fail
   generalize (w7.setCell ⟨w2.heap.size, 3, none⟩ (.int .i64 x1)) = w8 at *
   clear f7 g7
   have P2 := atO _ _ u c l 2 w8 HU8.out (by omega)
   rw [hx2] at P2
   refine P2.mono ?_
   rintro e w9 ⟨rfl, h9⟩
   have h8 := h9.symm
   clear h9
   subst h8
   clear P2 hx2
   have i0 : w8.cell? ⟨w2.heap.size, 0, none⟩ = some (.int .i64 21) := HI8.out.cell 0
   have r0 : w8.cell? ⟨w.heap.size, 0, none⟩ = some (.int .i64 0) := HA8.out.cell 0
   have i1 : w8.cell? ⟨w2.heap.size, 1, none⟩ = some (.int .i64 wi) := HI8.out.cell 1
   have r1 : w8.cell? ⟨w.heap.size, 1, none⟩ = some (.int .i64 0) := HA8.out.cell 1
   have i2 : w8.cell? ⟨w2.heap.size, 2, none⟩ = some (.int .i64 x0) := HI8.out.cell 2
   have r2 : w8.cell? ⟨w.heap.size, 2, none⟩ = some (.int .i64 0) := HA8.out.cell 2
   have i3 : w8.cell? ⟨w2.heap.size, 3, none⟩ = some (.int .i64 x1) := HI8.out.cell 3
   have r3 : w8.cell? ⟨w.heap.size, 3, none⟩ = some (.int .i64 0) := HA8.out.cell 3
   have i4 : w8.cell? ⟨w2.heap.size, 4, none⟩ = some (.int .i64 0) := HI8.out.cell 4
   have r4 : w8.cell? ⟨w.heap.size, 4, none⟩ = some (.int .i64 0) := HA8.out.cell 4
   have i5 : w8.cell? ⟨w2.heap.size, 5, none⟩ = some (.int .i64 im) := HI8.out.cell 5
   have r5 : w8.cell? ⟨w.heap.size, 5, none⟩ = some (.int .i64 0) := HA8.out.cell 5
   have i6 : w8.cell? ⟨w2.heap.size, 6, none⟩ = some (.slice none 0 0) := HI8.out.cell 6
   have r6 : w8.cell? ⟨w.heap.size, 6, none⟩ = some (.slice none 0 0) := HA8.out.cell 6
   have fi : ∀ o, w8.frozen? ⟨w2.heap.size, o, none⟩ = false := fun o => froz_of_heap HI8.out
   have fr : ∀ o, w8.frozen? ⟨w.heap.size, o, none⟩ = false := fun o => froz_of_heap HA8.out
   go_wp2_with fail
   have hr : At ((((((((w8.setCell ⟨w2.heap.size, 4, none⟩ (.int .i64 x2)).setCell ⟨w.heap.size, 0, none⟩ (.int .i64 21)).setCell ⟨w.heap.size, 1, none⟩ (.int .i64 wi)).setCell ⟨w.heap.size, 2, none⟩ (.int .i64 x0)).setCell ⟨w.heap.size, 3, none⟩ (.int .i64 x1)).setCell ⟨w.heap.size, 4, none⟩ (.int .i64 x2)).setCell ⟨w.heap.size, 5, none⟩ (.int .i64 im)).setCell ⟨w.heap.size, 6, none⟩ (.slice none 0 0)) w.heap.size #[.int .i64 21, .int .i64 wi, .int .i64 x0, .int .i64 x1, .int .i64 x2, .int .i64 im, .slice none 0 0] 91 := (heap_set (o := 6) (v := (.slice none 0 0)) (heap_set (o := 5) (v := (.int .i64 im)) (heap_set (o := 4) (v := (.int .i64 x2)) (heap_set (o := 3) (v := (.int .i64 x1)) (heap_set (o := 2) (v := (.int .i64 x0)) (heap_set (o := 1) (v := (.int .i64 wi)) (heap_set (o := 0) (v := (.int .i64 21)) (At.setOther (gi := w2.heap.size) (o := 4) (v := (.int .i64 x2)) HA8.out ne1))))))))
   have hRd : At ((((((((w8.setCell ⟨w2.heap.size, 4, none⟩ (.int .i64 x2)).setCell ⟨w.heap.size, 0, none⟩ (.int .i64 21)).setCell ⟨w.heap.size, 1, none⟩ (.int .i64 wi)).setCell ⟨w.heap.size, 2, none⟩ (.int .i64 x0)).setCell ⟨w.heap.size, 3, none⟩ (.int .i64 x1)).setCell ⟨w.heap.size, 4, none⟩ (.int .i64 x2)).setCell ⟨w.heap.size, 5, none⟩ (.int .i64 im)).setCell ⟨w.heap.size, 6, none⟩ (.slice none 0 0)) G #[.string s, .int .i64 (k4 : Int), .bool b4] 55 := (At.setOther (gi := w.heap.size) (o := 6) (v := (.slice none 0 0)) (At.setOther (gi := w.heap.size) (o := 5) (v := (.int .i64 im)) (At.setOther (gi := w.heap.size) (o := 4) (v := (.int .i64 x2)) (At.setOther (gi := w.heap.size) (o := 3) (v := (.int .i64 x1)) (At.setOther (gi := w.heap.size) (o := 2) (v := (.int .i64 x0)) (At.setOther (gi := w.heap.size) (o := 1) (v := (.int .i64 wi)) (At.setOther (gi := w.heap.size) (o := 0) (v := (.int .i64 21)) (At.setOther (gi := w2.heap.size) (o := 4) (v := (.int .i64 x2)) HR8.out (by omega)) (by omega)) (by omega)) (by omega)) (by omega)) (by omega)) (by omega)) (by omega))
   have hOn : OnlyR G w ((((((((w8.setCell ⟨w2.heap.size, 4, none⟩ (.int .i64 x2)).setCell ⟨w.heap.size, 0, none⟩ (.int .i64 21)).setCell ⟨w.heap.size, 1, none⟩ (.int .i64 wi)).setCell ⟨w.heap.size, 2, none⟩ (.int .i64 x0)).setCell ⟨w.heap.size, 3, none⟩ (.int .i64 x1)).setCell ⟨w.heap.size, 4, none⟩ (.int .i64 x2)).setCell ⟨w.heap.size, 5, none⟩ (.int .i64 im)).setCell ⟨w.heap.size, 6, none⟩ (.slice none 0 0)) := (OnlyR.fresh (g := w.heap.size) (o := 6) (v := (.slice none 0 0)) (OnlyR.fresh (g := w.heap.size) (o := 5) (v := (.int .i64 im)) (OnlyR.fresh (g := w.heap.size) (o := 4) (v := (.int .i64 x2)) (OnlyR.fresh (g := w.heap.size) (o := 3) (v := (.int .i64 x1)) (OnlyR.fresh (g := w.heap.size) (o := 2) (v := (.int .i64 x0)) (OnlyR.fresh (g := w.heap.size) (o := 1) (v := (.int .i64 wi)) (OnlyR.fresh (g := w.heap.size) (o := 0) (v := (.int .i64 21)) (OnlyR.fresh (g := w2.heap.size) (o := 4) (v := (.int .i64 x2)) HO8.out (by omega)) (by omega)) (by omega)) (by omega)) (by omega)) (by omega)) (by omega)) (by omega))
   have hS := HS.out
   rw [hd] at hS
   exact bodyPost_ret (v := .agg #[.int .i64 21, .int .i64 wi, .int .i64 x0, .int .i64 x1, .int .i64 x2, .int .i64 im, .slice none 0 0]) ((results_cell_row Tryz.results70 _ _ w.heap.size 91 _ (0, 0) _ rfl hr Tryz.underlying91 rfl (by kernel_rfl)).trans (by rfl)) rfl ⟨⟨21, wi, x0, x1, x2, im, []⟩, k4, b4, ⟨none, 0, rfl, ⟨by show 0 ≤ _; omega, .inl rfl⟩⟩, hS, hRd, hOn⟩
  ·have q26 : (op == 26) = false := by simpa using h26
   have q21 : (op == 21) = false := by simpa using h21
   have him : immM op = false := by unfold immM; rw [q21, q26]; rfl
   have HI5 : Hid (At (w2.alloc (.cells #[.int .i64 op, .int .i64 wi, .int .i64 0, .int .i64 0, .int .i64 0, .int .i64 0, .slice none 0 0] 91)) w2.heap.size #[.int .i64 op, .int .i64 wi, .int .i64 0, .int .i64 0, .int .i64 0, .int .i64 0, .slice none 0 0] 91) := HI3.out
   have HA5 : Hid (At (w2.alloc (.cells #[.int .i64 op, .int .i64 wi, .int .i64 0, .int .i64 0, .int .i64 0, .int .i64 0, .slice none 0 0] 91)) w.heap.size #[.int .i64 0, .int .i64 0, .int .i64 0, .int .i64 0, .int .i64 0, .int .i64 0, .slice none 0 0] 91) := HA3.out
   have HO5 : Hid (OnlyR G w (w2.alloc (.cells #[.int .i64 op, .int .i64 wi, .int .i64 0, .int .i64 0, .int .i64 0, .int .i64 0, .slice none 0 0] 91))) := HO3.out
   have hz5 : w2.heap.size + 1 ≤ (w2.alloc (.cells #[.int .i64 op, .int .i64 wi, .int .i64 0, .int .i64 0, .int .i64 0, .int .i64 0, .slice none 0 0] 91)).heap.size := HI5.out.lt
   have L1 := listS 4 G s k2 b2 (w2.alloc (.cells #[.int .i64 op, .int .i64 wi, .int .i64 0, .int .i64 0, .int .i64 0, .int .i64 0, .slice none 0 0] 91)) HR3.out hs hk2 (by omega)
   clear HI3 HA3 HO3 HR3
   go_wp2_with fail
   refine L1.mono ?_
   rintro e w6 ⟨v, l, k4, b4, rfl, hrow, hlen, hk4, hon, hr6, ko6⟩
   obtain ⟨u, c, rfl⟩ := hrow.slice
   have HU6 : Hid (OwnI w6 (w.heap.size + 1) w6.heap.size u l) := (OwnI.row (by omega) hrow).wide (by omega) (Nat.le_refl _)
   have HI6 : Hid (At w6 w2.heap.size #[.int .i64 op, .int .i64 wi, .int .i64 0, .int .i64 0, .int .i64 0, .int .i64 0, .slice none 0 0] 91) := (ko6.block _ HI5.out.lt (by omega)).trans HI5.out
   have HA6 : Hid (At w6 w.heap.size #[.int .i64 0, .int .i64 0, .int .i64 0, .int .i64 0, .int .i64 0, .int .i64 0, .slice none 0 0] 91) := (ko6.block _ HA5.out.lt (by omega)).trans HA5.out
   have HO6 : Hid (OnlyR G w w6) := HO5.out.trans ko6
   have HR6 : Hid (RdM w6 G s k4 b4) := hr6
   have HS : Hid (InstIs s k bad (mkD op wi 0 l) k4 b4) := inst_is HX1.out HX2.out (.inr ⟨him, rfl, rfl, rfl⟩) hon hk4
   clear L1 hrow hon hr6 ko6 HI5 HA5 HO5 HX1 HX2
   have ne1 : w.heap.size ≠ w2.heap.size := by omega
   have ne2 : w2.heap.size ≠ w.heap.size := by omega
   obtain ⟨x0, hx0⟩ : ∃ x, l.getD 0 0 = x := ⟨_, rfl⟩
   obtain ⟨x1, hx1⟩ : ∃ x, l.getD 1 0 = x := ⟨_, rfl⟩
   obtain ⟨x2, hx2⟩ : ∃ x, l.getD 2 0 = x := ⟨_, rfl⟩
   have hd : mkD op wi 0 l = ⟨op, wi, x0, x1, x2, 0, []⟩ := by unfold mkD; rw [if_neg (by omega), hx0, hx1, hx2]
   have P0 := atO _ _ u c l 0 w6 HU6.out (by omega)
   rw [hx0] at P0
   have i0 : w6.cell? ⟨w2.heap.size, 0, none⟩ = some (.int .i64 op) := HI6.out.cell 0
   clear him
   go_wp2_with fail
   clear i0
   refine P0.mono ?_
   rintro e w9 ⟨rfl, h9⟩
   have h8 := h9.symm
   clear h9
   subst h8
   clear P0 hx0
   have f6 : w6.frozen? ⟨w2.heap.size, 2, none⟩ = false := froz_of_heap HI6.out
   have g6 : w6.cell? ⟨w2.heap.size, 2, none⟩ = some (.int .i64 0) := HI6.out.cell 2
   have HU7 : Hid (OwnI (w6.setCell ⟨w2.heap.size, 2, none⟩ (.int .i64 x0)) (w.heap.size + 1) w6.heap.size u l) := OwnI.still HU6.out (Still.set (k := 1) HI6.out (by decide)) (by decide)
   have HI7 : Hid (At (w6.setCell ⟨w2.heap.size, 2, none⟩ (.int .i64 x0)) w2.heap.size #[.int .i64 op, .int .i64 wi, .int .i64 x0, .int .i64 0, .int .i64 0, .int .i64 0, .slice none 0 0] 91) := heap_set (o := 2) (v := .int .i64 x0) HI6.out
   have HA7 : Hid (At (w6.setCell ⟨w2.heap.size, 2, none⟩ (.int .i64 x0)) w.heap.size #[.int .i64 0, .int .i64 0, .int .i64 0, .int .i64 0, .int .i64 0, .int .i64 0, .slice none 0 0] 91) := At.setOther HA6.out ne1
   have HO7 : Hid (OnlyR G w (w6.setCell ⟨w2.heap.size, 2, none⟩ (.int .i64 x0))) := HO6.out.fresh (by omega)
   have HR7 : Hid (RdM (w6.setCell ⟨w2.heap.size, 2, none⟩ (.int .i64 x0)) G s k4 b4) := At.setOther HR6.out (by omega)
   clear HU6 HI6 HA6 HO6 HR6
   go_wp2_with fail
   generalize (w6.setCell ⟨w2.heap.size, 2, none⟩ (.int .i64 x0)) = w7 at *
   clear f6 g6
   have P1 := atO _ _ u c l 1 w7 HU7.out (by omega)
   rw [hx1] at P1
   refine P1.mono ?_
   rintro e w9 ⟨rfl, h9⟩
   have h8 := h9.symm
   clear h9
   subst h8
   clear P1 hx1
   have f7 : w7.frozen? ⟨w2.heap.size, 3, none⟩ = false := froz_of_heap HI7.out
   have g7 : w7.cell? ⟨w2.heap.size, 3, none⟩ = some (.int .i64 0) := HI7.out.cell 3
   have HU8 : Hid (OwnI (w7.setCell ⟨w2.heap.size, 3, none⟩ (.int .i64 x1)) (w.heap.size + 1) w6.heap.size u l) := OwnI.still HU7.out (Still.set (k := 1) HI7.out (by decide)) (by decide)
   have HI8 : Hid (At (w7.setCell ⟨w2.heap.size, 3, none⟩ (.int .i64 x1)) w2.heap.size #[.int .i64 op, .int .i64 wi, .int .i64 x0, .int .i64 x1, .int .i64 0, .int .i64 0, .slice none 0 0] 91) := heap_set (o := 3) (v := .int .i64 x1) HI7.out
   have HA8 : Hid (At (w7.setCell ⟨w2.heap.size, 3, none⟩ (.int .i64 x1)) w.heap.size #[.int .i64 0, .int .i64 0, .int .i64 0, .int .i64 0, .int .i64 0, .int .i64 0, .slice none 0 0] 91) := At.setOther HA7.out ne1
   have HO8 : Hid (OnlyR G w (w7.setCell ⟨w2.heap.size, 3, none⟩ (.int .i64 x1))) := HO7.out.fresh (by omega)
   have HR8 : Hid (RdM (w7.setCell ⟨w2.heap.size, 3, none⟩ (.int .i64 x1)) G s k4 b4) := At.setOther HR7.out (by omega)
   clear HU7 HI7 HA7 HO7 HR7
   go_wp2_with fail
   generalize (w7.setCell ⟨w2.heap.size, 3, none⟩ (.int .i64 x1)) = w8 at *
   clear f7 g7
   have P2 := atO _ _ u c l 2 w8 HU8.out (by omega)
   rw [hx2] at P2
   refine P2.mono ?_
   rintro e w9 ⟨rfl, h9⟩
   have h8 := h9.symm
   clear h9
   subst h8
   clear P2 hx2
   have i0 : w8.cell? ⟨w2.heap.size, 0, none⟩ = some (.int .i64 op) := HI8.out.cell 0
   have r0 : w8.cell? ⟨w.heap.size, 0, none⟩ = some (.int .i64 0) := HA8.out.cell 0
   have i1 : w8.cell? ⟨w2.heap.size, 1, none⟩ = some (.int .i64 wi) := HI8.out.cell 1
   have r1 : w8.cell? ⟨w.heap.size, 1, none⟩ = some (.int .i64 0) := HA8.out.cell 1
   have i2 : w8.cell? ⟨w2.heap.size, 2, none⟩ = some (.int .i64 x0) := HI8.out.cell 2
   have r2 : w8.cell? ⟨w.heap.size, 2, none⟩ = some (.int .i64 0) := HA8.out.cell 2
   have i3 : w8.cell? ⟨w2.heap.size, 3, none⟩ = some (.int .i64 x1) := HI8.out.cell 3
   have r3 : w8.cell? ⟨w.heap.size, 3, none⟩ = some (.int .i64 0) := HA8.out.cell 3
   have i4 : w8.cell? ⟨w2.heap.size, 4, none⟩ = some (.int .i64 0) := HI8.out.cell 4
   have r4 : w8.cell? ⟨w.heap.size, 4, none⟩ = some (.int .i64 0) := HA8.out.cell 4
   have i5 : w8.cell? ⟨w2.heap.size, 5, none⟩ = some (.int .i64 0) := HI8.out.cell 5
   have r5 : w8.cell? ⟨w.heap.size, 5, none⟩ = some (.int .i64 0) := HA8.out.cell 5
   have i6 : w8.cell? ⟨w2.heap.size, 6, none⟩ = some (.slice none 0 0) := HI8.out.cell 6
   have r6 : w8.cell? ⟨w.heap.size, 6, none⟩ = some (.slice none 0 0) := HA8.out.cell 6
   have fi : ∀ o, w8.frozen? ⟨w2.heap.size, o, none⟩ = false := fun o => froz_of_heap HI8.out
   have fr : ∀ o, w8.frozen? ⟨w.heap.size, o, none⟩ = false := fun o => froz_of_heap HA8.out
   go_wp2_with fail
   have hr : At ((((((((w8.setCell ⟨w2.heap.size, 4, none⟩ (.int .i64 x2)).setCell ⟨w.heap.size, 0, none⟩ (.int .i64 op)).setCell ⟨w.heap.size, 1, none⟩ (.int .i64 wi)).setCell ⟨w.heap.size, 2, none⟩ (.int .i64 x0)).setCell ⟨w.heap.size, 3, none⟩ (.int .i64 x1)).setCell ⟨w.heap.size, 4, none⟩ (.int .i64 x2)).setCell ⟨w.heap.size, 5, none⟩ (.int .i64 0)).setCell ⟨w.heap.size, 6, none⟩ (.slice none 0 0)) w.heap.size #[.int .i64 op, .int .i64 wi, .int .i64 x0, .int .i64 x1, .int .i64 x2, .int .i64 0, .slice none 0 0] 91 := (heap_set (o := 6) (v := (.slice none 0 0)) (heap_set (o := 5) (v := (.int .i64 0)) (heap_set (o := 4) (v := (.int .i64 x2)) (heap_set (o := 3) (v := (.int .i64 x1)) (heap_set (o := 2) (v := (.int .i64 x0)) (heap_set (o := 1) (v := (.int .i64 wi)) (heap_set (o := 0) (v := (.int .i64 op)) (At.setOther (gi := w2.heap.size) (o := 4) (v := (.int .i64 x2)) HA8.out ne1))))))))
   have hRd : At ((((((((w8.setCell ⟨w2.heap.size, 4, none⟩ (.int .i64 x2)).setCell ⟨w.heap.size, 0, none⟩ (.int .i64 op)).setCell ⟨w.heap.size, 1, none⟩ (.int .i64 wi)).setCell ⟨w.heap.size, 2, none⟩ (.int .i64 x0)).setCell ⟨w.heap.size, 3, none⟩ (.int .i64 x1)).setCell ⟨w.heap.size, 4, none⟩ (.int .i64 x2)).setCell ⟨w.heap.size, 5, none⟩ (.int .i64 0)).setCell ⟨w.heap.size, 6, none⟩ (.slice none 0 0)) G #[.string s, .int .i64 (k4 : Int), .bool b4] 55 := (At.setOther (gi := w.heap.size) (o := 6) (v := (.slice none 0 0)) (At.setOther (gi := w.heap.size) (o := 5) (v := (.int .i64 0)) (At.setOther (gi := w.heap.size) (o := 4) (v := (.int .i64 x2)) (At.setOther (gi := w.heap.size) (o := 3) (v := (.int .i64 x1)) (At.setOther (gi := w.heap.size) (o := 2) (v := (.int .i64 x0)) (At.setOther (gi := w.heap.size) (o := 1) (v := (.int .i64 wi)) (At.setOther (gi := w.heap.size) (o := 0) (v := (.int .i64 op)) (At.setOther (gi := w2.heap.size) (o := 4) (v := (.int .i64 x2)) HR8.out (by omega)) (by omega)) (by omega)) (by omega)) (by omega)) (by omega)) (by omega)) (by omega))
   have hOn : OnlyR G w ((((((((w8.setCell ⟨w2.heap.size, 4, none⟩ (.int .i64 x2)).setCell ⟨w.heap.size, 0, none⟩ (.int .i64 op)).setCell ⟨w.heap.size, 1, none⟩ (.int .i64 wi)).setCell ⟨w.heap.size, 2, none⟩ (.int .i64 x0)).setCell ⟨w.heap.size, 3, none⟩ (.int .i64 x1)).setCell ⟨w.heap.size, 4, none⟩ (.int .i64 x2)).setCell ⟨w.heap.size, 5, none⟩ (.int .i64 0)).setCell ⟨w.heap.size, 6, none⟩ (.slice none 0 0)) := (OnlyR.fresh (g := w.heap.size) (o := 6) (v := (.slice none 0 0)) (OnlyR.fresh (g := w.heap.size) (o := 5) (v := (.int .i64 0)) (OnlyR.fresh (g := w.heap.size) (o := 4) (v := (.int .i64 x2)) (OnlyR.fresh (g := w.heap.size) (o := 3) (v := (.int .i64 x1)) (OnlyR.fresh (g := w.heap.size) (o := 2) (v := (.int .i64 x0)) (OnlyR.fresh (g := w.heap.size) (o := 1) (v := (.int .i64 wi)) (OnlyR.fresh (g := w.heap.size) (o := 0) (v := (.int .i64 op)) (OnlyR.fresh (g := w2.heap.size) (o := 4) (v := (.int .i64 x2)) HO8.out (by omega)) (by omega)) (by omega)) (by omega)) (by omega)) (by omega)) (by omega)) (by omega))
   have hS := HS.out
   rw [hd] at hS
   exact bodyPost_ret (v := .agg #[.int .i64 op, .int .i64 wi, .int .i64 x0, .int .i64 x1, .int .i64 x2, .int .i64 0, .slice none 0 0]) ((results_cell_row Tryz.results70 _ _ w.heap.size 91 _ (0, 0) _ rfl hr Tryz.underlying91 rfl (by kernel_rfl)).trans (by rfl)) rfl ⟨⟨op, wi, x0, x1, x2, 0, []⟩, k4, b4, ⟨none, 0, rfl, ⟨by show 0 ≤ _; omega, .inl rfl⟩⟩, hS, hRd, hOn⟩
end Go.Proofs.YtojhakjkfkmklaaGreatDoor
