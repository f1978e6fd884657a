import Derived.Test.YtojhakjkfkmklaaGreatDoorRmAV
import Derived.Test.YtojhakjkfkmklaaGreatDoorRpBV
import Derived.Test.YtojhakjkfkmklaaGreatDoorRpIV
namespace Go.Proofs.YtojhakjkfkmklaaGreatDoor
open Go.RowKit
set_option linter.unusedVariables false
set_option linter.unusedSimpArgs false
def On (s : ByteArray) (k : Nat) (bad : Bool) (L : List Int) : Prop := bad = false ∧ Rng L ∧ s.data.toList.drop k = toL L
def NumIs (s : ByteArray) (k : Nat) (bad : Bool) (n : Int) (k' : Nat) (bad' : Bool) : Prop := 0 ≤ n ∧ n ≤ 4294967295 ∧ k' ≤ s.size ∧ ∀ x L, On s k bad (x :: L) → n = x ∧ On s k' bad' L
theorem on_read {s : ByteArray} {k : Nat} {bad : Bool} {x : Int} {L : List Int} (h : On s k bad (x :: L)) : rdAt s (k : Int) = (x.toNat, (vl x.toNat).length) ∧ On s (k + (vl x.toNat).length) bad L ∧ k < s.size := by
 obtain ⟨h1, h2, h3⟩ := h
 have hz : s.data.toList.length = s.size := Array.length_toList
 rw [toL_cons] at h3
 have hk : k < s.size := by
  rcases Nat.lt_or_ge k s.size with h' | h'
  ·exact h'
  ·rw [List.drop_eq_nil_of_le (by omega)] at h3
   exact absurd (List.append_eq_nil_iff.1 h3.symm).1 (vl_ne _)
 have hr : rdAt s (k : Int) = rdl 0 0 (s.data.toList.drop k) := by
  unfold rdAt
  rw [if_pos (by omega)]
  rfl
 refine ⟨?_, ⟨h1, h2.tail, ?_⟩, hk⟩
 ·rw [hr, h3, rd_one h2.head]
 ·rw [← List.drop_drop, h3, List.drop_left]
theorem rd_le {s : ByteArray} {k : Nat} (h0 : (rdAt s (k : Int)).2 ≠ 0) : k + (rdAt s (k : Int)).2 ≤ s.size ∧ (rdAt s (k : Int)).1 ≤ 4294967295 := by
 have hk2 : k < s.size := by
  rcases Nat.lt_or_ge k s.size with h' | h'
  ·exact h'
  ·have : rdAt s (k : Int) = (0, 0) := by
    unfold rdAt
    rw [if_neg (by omega)]
   rw [this] at h0
   exact absurd rfl h0
 have hz : s.data.toList.length = s.size := Array.length_toList
 have hr : rdAt s (k : Int) = rdl 0 0 (s.data.toList.drop k) := by
  unfold rdAt
  rw [if_pos (by omega)]
  rfl
 rw [hr] at h0 ⊢
 obtain ⟨h1, h2, h3⟩ := rd_yes (x := (rdl 0 0 (s.data.toList.drop k)).1) (m := (rdl 0 0 (s.data.toList.drop k)).2) rfl h0
 rw [List.length_drop] at h3
 exact ⟨by omega, h2⟩
def RdM (w : World) (G : Nat) (s : ByteArray) (k : Nat) (bad : Bool) : Prop := At w G #[.string s, .int .i64 (k : Int), .bool bad] 55
def NumTold (s : ByteArray) (k : Nat) (bad : Bool) (G : Nat) (w : World) (e : Ending) (w' : World) : Prop := ∃ (n : Int) (k' : Nat) (bad' : Bool), e = .returned (.int .i64 n) ∧ NumIs s k bad n k' bad' ∧ RdM w' G s k' bad' ∧ OnlyR G w w'
set_option maxHeartbeats 2000000 in
theorem numS (G : Nat) (s : ByteArray) (k : Nat) (bad : Bool) (w : World) (h : RdM w G s k bad) (hs : s.size ≤ 20000) (hk : k ≤ s.size) :
  Calls Tryz.prog 68 #[.pointer (some ⟨G, 0, none⟩)] w fun e w' => NumTold s k bad G w e w' := by
 have R := fun (V : World) => readS s (k : Int) (by omega) V
 have HA : Hid (RdM w G s k bad) := h
 have c0 : w.cell? ⟨G, 0, none⟩ = some (.string s) := h.cell 0
 have c1 : w.cell? ⟨G, 1, none⟩ = some (.int .i64 (k : Int)) := h.cell 1
 have c2 : w.cell? ⟨G, 2, none⟩ = some (.bool bad) := h.cell 2
 have d0 : w.drew.cell? ⟨G, 0, none⟩ = some (.string s) := h.cell 0
 have d1 : w.drew.cell? ⟨G, 1, none⟩ = some (.int .i64 (k : Int)) := h.cell 1
 have cf : ∀ o, w.frozen? ⟨G, o, none⟩ = false := fun o => froz_of_heap h
 have df : ∀ o, w.drew.frozen? ⟨G, o, none⟩ = false := fun o => froz_of_heap h
 have d2 : w.drew.cell? ⟨G, 2, none⟩ = some (.bool bad) := h.cell 2
 have hA2 : At w.drew G #[.string s, .int .i64 (k : Int), .bool bad] 55 := h
 clear h
 by_cases h0 : (rdAt s (k : Int)).2 = 0
 ·have HN : Hid (NumIs s k bad 0 k true) := ⟨by omega, by omega, hk, fun x L ho => by
   have := (on_read ho).1
   rw [this] at h0
   exact absurd (List.length_eq_zero_iff.1 h0) (vl_ne _)⟩
  generalize (rdAt s (k : Int)).1 = n at R
  rw [h0] at R
  clear h0
  go_enter Tryz.func68, Tryz.ntmps68
  go_wp2_with fail
  go_region_with (go_at_call 103; refine (R _).mono ?_; rintro e w1 ⟨rfl, rfl⟩)
  all_goals go_wp2_with fail
  all_goals go_ret
  all_goals exact ⟨0, k, true, rfl, HN.out, heap_set (o := 2) (v := .bool true) hA2, (OnlyR.refl G w).drew.set _ _⟩
 ·obtain ⟨h1, h2⟩ := rd_le h0
  have HN : Hid (NumIs s k bad ((rdAt s (k : Int)).1 : Int) (k + (rdAt s (k : Int)).2) bad) := ⟨by omega, by omega, h1, fun x L ho => by
   obtain ⟨e1, e2, _⟩ := on_read ho
   have := ho.2.1.head
   rw [e1]
   exact ⟨by show ((x.toNat : Nat) : Int) = x; omega, e2⟩⟩
  generalize (rdAt s (k : Int)).1 = n at R HN h2
  generalize (rdAt s (k : Int)).2 = m at R HN h0 h1
  have hm : ((m : Int) == 0) = false := by simp; exact h0
  go_enter Tryz.func68, Tryz.ntmps68
  go_wp2_with fail
  go_region_with (go_at_call 103; refine (R _).mono ?_; rintro e w1 ⟨rfl, rfl⟩)
  all_goals go_wp2_with fail
  all_goals go_ret
  all_goals
   refine ⟨(n : Int), k + m, bad, rfl, HN.out, ?_, (OnlyR.refl G w).drew.set _ _⟩
   show At _ _ _ _
   rw [show ((k + m : Nat) : Int) = (k : Int) + (m : Int) from by omega]
   exact heap_set (o := 1) (v := .int .i64 ((k : Int) + (m : Int))) hA2
def ManyTold (most : Int) (s : ByteArray) (k : Nat) (bad : Bool) (G : Nat) (w : World) (e : Ending) (w' : World) : Prop := ∃ (n : Nat) (k' : Nat) (bad' : Bool), e = .returned (.int .i64 (n : Int)) ∧ (n : Int) ≤ most ∧ k' ≤ s.size ∧ (∀ x L, On s k bad (x :: L) → x ≤ most → (n : Int) = x ∧ On s k' bad' L) ∧ RdM w' G s k' bad' ∧ OnlyR G w w'
set_option maxHeartbeats 2000000 in
theorem manyS (most : Int) (G : Nat) (s : ByteArray) (k : Nat) (bad : Bool) (w : World) (h : RdM w G s k bad) (hs : s.size ≤ 20000) (hk : k ≤ s.size) (hm : 0 ≤ most ∧ most ≤ 1000) :
  Calls Tryz.prog 35 #[.pointer (some ⟨G, 0, none⟩), .int .i64 most] w fun e w' => ManyTold most s k bad G w e w' := by
 have N := numS G s k bad w h hs hk
 clear h
 go_enter Tryz.func35, Tryz.ntmps35
 go_wp2_with fail
 refine N.mono ?_
 rintro e w1 ⟨n, k1, b1, rfl, hn, hr, ko⟩
 have HN : Hid (NumIs s k bad n k1 b1) := hn
 have HR : Hid (RdM w1 G s k1 b1) := hr
 have HO : Hid (OnlyR G w w1) := ko
 obtain ⟨hn0, hn1, hk1, _⟩ := hn
 clear N hr ko
 obtain ⟨m, rfl⟩ := Int.eq_ofNat_of_zero_le hn0
 have c2 : w1.cell? ⟨G, 2, none⟩ = some (.bool b1) := HR.out.cell 2
 have cf : w1.frozen? ⟨G, 2, none⟩ = false := froz_of_heap HR.out
 by_cases hgt : most < (m : Int)
 ·have KN : Hid (∀ x L, On s k bad (x :: L) → x ≤ most → ((0 : Nat) : Int) = x ∧ On s k1 true L) := fun x L ho hx => by
   have := (HN.out.2.2.2 x L ho).1
   omega
  go_wp2_with fail
  go_ret
  exact ⟨0, k1, true, rfl, by simpa using hm.1, hk1, KN.out, heap_set (o := 2) (v := .bool true) HR.out, HO.out.set _ _⟩
 ·cases b1
  ·have KN : Hid (∀ x L, On s k bad (x :: L) → x ≤ most → ((m : Nat) : Int) = x ∧ On s k1 false L) := fun x L ho hx => HN.out.2.2.2 x L ho
   go_wp2_with fail
   go_ret
   exact ⟨m, k1, false, rfl, by omega, hk1, KN.out, HR.out, HO.out⟩
  ·have KN : Hid (∀ x L, On s k bad (x :: L) → x ≤ most → ((0 : Nat) : Int) = x ∧ On s k1 true L) := fun x L ho hx => by
    have := (HN.out.2.2.2 x L ho).2.1
    cases this
   go_wp2_with fail
   go_ret
   exact ⟨0, k1, true, rfl, by simpa using hm.1, hk1, KN.out, HR.out, HO.out⟩
def ListTold (most : Int) (s : ByteArray) (k : Nat) (bad : Bool) (G : Nat) (w : World) (e : Ending) (w' : World) : Prop := ∃ (v : Value) (l : List Int) (k' : Nat) (bad' : Bool), e = .returned v ∧ Row w' w.heap.size v l ∧ (l.length : Int) ≤ most ∧ k' ≤ s.size ∧ (∀ l' L, On s k bad (listN l' ++ L) → (l'.length : Int) ≤ most → l = l' ∧ On s k' bad' L) ∧ RdM w' G s k' bad' ∧ OnlyR G w w'
theorem RdM.only {G g : Nat} {w w' : World} {s : ByteArray} {k : Nat} {bad : Bool} (h : RdM w G s k bad) (hg : w.grownBy w' (some g)) (hn : G ≠ g) : RdM w' G s k bad := (hg.block G (At.lt h) (by intro e; exact hn (Option.some.inj e))).trans h
theorem RdM.grown {G base : Nat} {w w' : World} {s : ByteArray} {k : Nat} {bad : Bool} {v : Value} {l : List Int} (h : RdM w G s k bad) (hr : Row w base v l) (hg : w.grownBy w' v.ownBlock) : RdM w' G s k bad := (hg.block G (At.lt h) (fun e => by
  rcases hr.2 with ⟨hv, _⟩ | ⟨g, cap, cur, hv, _, hc, _⟩
  ·rw [hv] at e; cases e
  ·rw [hv] at e
   have e2 : G = g := Option.some.inj e
   rw [← e2, show w.heap[G]? = _ from h] at hc
   cases hc)).trans h
theorem OnlyR.grown {G base : Nat} {w w1 w2 : World} {v : Value} {l : List Int} (h : OnlyR G w w1) (hr : Row w1 base v l) (hb : w.heap.size ≤ base) (hg : w1.grownBy w2 v.ownBlock) : OnlyR G w w2 :=
 ⟨hg.os.trans h.os, hg.tape.trans h.tape, hg.output.trans h.output, Nat.le_trans h.size hg.size, fun i hi hn => (hg.block i (by have := h.size; omega) (fun e => by have := (hr.ge e.symm).1; omega)).trans (h.block i hi hn)⟩
theorem Row.onlyM {G : Nat} {w w' : World} {base : Nat} {v : Value} {l : List Int} {s : ByteArray} {k : Nat} {bad : Bool} (h : Row w base v l) (k1 : OnlyR G w w') (hG : RdM w G s k bad) : Row w' base v l :=
 h.block fun g hg hlt => k1.block g hlt (fun e => by
  rcases h.2 with ⟨hv, _⟩ | ⟨g', cap, cur, hv, _, hc, _⟩
  ·rw [hv] at hg; cases hg
  ·rw [hv] at hg
   cases hg
   have e2 : g' = G := e
   rw [e2, show w.heap[G]? = _ from hG] at hc
   cases hc)
set_option maxHeartbeats 4000000 in
theorem listS (most : Int) (G : Nat) (s : ByteArray) (k : Nat) (bad : Bool) (w : World) (h : RdM w G s k bad) (hs : s.size ≤ 20000) (hk : k ≤ s.size) (hm : 0 ≤ most ∧ most ≤ 1000) :
  Calls Tryz.prog 69 #[.pointer (some ⟨G, 0, none⟩), .int .i64 most] w fun e w' => ListTold most s k bad G w e w' := by
 have B1 : Below w.heap.size w (w.alloc (.cells #[] 2)) := (Below.refl _ _).alloc (Nat.le_refl _) _
 have R1 := Row.lit w w.heap.size (Nat.le_refl _)
 have M := manyS most G s k bad (w.alloc (.cells #[] 2)) (At.below h B1) hs hk hm
 have HO0 : Hid (OnlyR G w (w.alloc (.cells #[] 2))) := OnlyR.below B1
 have HR0 : Hid (Row (w.alloc (.cells #[] 2)) w.heap.size (.slice (some ⟨w.heap.size, 0, none⟩) 0 0) []) := R1
 have HD0 : Hid (RdM (w.alloc (.cells #[] 2)) G s k bad) := At.below h B1
 clear B1 R1 h
 go_enter Tryz.func69, Tryz.ntmps69
 go_wp2_with fail
 refine M.mono ?_
 rintro e w1 ⟨n, k1, b1, rfl, hn, hk1, hon, hr, ko⟩
 have HR1 : Hid (Row w1 w.heap.size (.slice (some ⟨w.heap.size, 0, none⟩) 0 0) []) := HR0.out.onlyM ko HD0.out
 have HO1 : Hid (OnlyR G w w1) := HO0.out.trans ko
 have HD1 : Hid (RdM w1 G s k1 b1) := hr
 have HI1 : Hid (∀ l' L, On s k bad (listN l' ++ L) → (l'.length : Int) ≤ most → ∃ r, l' = [] ++ r ∧ r.length = n ∧ On s k1 b1 (r ++ L)) := fun l' L ho hl => by
  obtain ⟨e1, e2⟩ := hon _ _ ho hl
  exact ⟨l', rfl, by omega, e2⟩
 clear M hon hr ko HR0 HO0 HD0
 go_wp2_with fail
 go_loopw [5, 6] (fun v i wr => ∃ (l : List Int) (q : Nat) (k2 : Nat) (b2 : Bool), i = .int .i64 (q : Int) ∧ ((l.length + q : Nat) : Int) ≤ most ∧ k2 ≤ s.size ∧ Hid (Row wr w.heap.size v l) ∧ Hid (OnlyR G w wr) ∧ Hid (RdM wr G s k2 b2) ∧ Hid (∀ l' L, On s k bad (listN l' ++ L) → (l'.length : Int) ≤ most → ∃ r, l' = l ++ r ∧ r.length = q ∧ On s k2 b2 (r ++ L))) (fun _ i _ => (intOf i).toNat)
 case atStart => exact ⟨[], n, k1, b1, rfl, by simpa using hn, hk1, HR1, HO1, HD1, HI1⟩
 case round =>
  clear HR1 HO1 HD1 HI1
  obtain ⟨l, q, k2, b2, rfl, hlq, hk2, HR, HO, HD, HI⟩ := hrel
  have c2 : wr.cell? ⟨G, 2, none⟩ = some (.bool b2) := HD.out.cell 2
  by_cases hq : 0 < q
  ·have hqI : (0 : Int) < (q : Int) := by omega
   cases b2
   ·have N := numS G s k2 false wr HD.out hs hk2
    obtain ⟨va, vc, rfl⟩ := HR.out.slice
    go_wp2_with fail
    refine N.mono ?_
    rintro e w3 ⟨x, k3, b3, rfl, hx, hr3, ko3⟩
    have HR3 : Hid (Row w3 w.heap.size (.slice va l.length vc) l) := HR.out.onlyM ko3 HD.out
    have HO3 : Hid (OnlyR G w w3) := HO.out.trans ko3
    have HD3 : Hid (RdM w3 G s k3 b3) := hr3
    have hk3 : k3 ≤ s.size := hx.2.2.1
    have HI3 : Hid (∀ l' L, On s k bad (listN l' ++ L) → (l'.length : Int) ≤ most → ∃ r, l' = (l ++ [x]) ++ r ∧ r.length = q - 1 ∧ On s k3 b3 (r ++ L)) := fun l' L ho hl => by
     obtain ⟨r, e1, e2, e3⟩ := HI.out l' L ho hl
     cases r with
     | nil => simp at e2; omega
     | cons y r =>
      obtain ⟨f1, f2⟩ := hx.2.2.2 y (r ++ L) e3
      subst f1
      exact ⟨r, by rw [e1]; simp, by simp at e2; omega, f2⟩
    have bx : Below w3.heap.size w3 (w3.alloc (.cells #[.int .i64 x] 2)) := (Below.refl _ _).alloc (Nat.le_refl _) _
    have HR4 : Hid (Row (w3.alloc (.cells #[.int .i64 x] 2)) w.heap.size (.slice va l.length vc) l) := HR3.out.keep bx
    have HO4 : Hid (OnlyR G w (w3.alloc (.cells #[.int .i64 x] 2))) := HO3.out.trans (OnlyR.below bx)
    have HD4 : Hid (RdM (w3.alloc (.cells #[.int .i64 x] 2)) G s k3 b3) := At.below HD3.out bx
    have hzz : w.heap.size ≤ (w3.alloc (.cells #[.int .i64 x] 2)).heap.size := HO4.out.size
    have hll : l.length ≤ 4194304 := by omega
    clear N hx hr3 ko3 HR HO HD HI c2 bx HR3 HO3 HD3
    go_wp2_with (at_builtin; refine push_int rfl _ _ rfl w.heap.size (.slice va l.length vc) l rfl HR4.out x w3.heap.size 1 rfl (one_cell _ _ _) hll hzz ?_; intro v5 w5 hR5 hg5)
    have HR5 : Hid (Row w5 w.heap.size v5 (l ++ [x])) := hR5
    have HO5 : Hid (OnlyR G w w5) := HO4.out.grown HR4.out (Nat.le_refl _) hg5
    have HD5 : Hid (RdM w5 G s k3 b3) := HD4.out.grown HR4.out hg5
    clear hR5 hg5 HR4 HO4 HD4 hzz
    obtain ⟨va5, vc5, rfl⟩ := HR5.out.slice
    go_roundw
    case rel => exact ⟨l ++ [x], q - 1, k3, b3, by go_num, by simp; omega, hk3, HR5, HO5, HD5, HI3⟩
    case measure => simp [intOf]; omega
   ·have HIe : Hid (∀ l' L, On s k bad (listN l' ++ L) → (l'.length : Int) ≤ most → l = l' ∧ On s k2 true L) := fun l' L ho hl => by
     obtain ⟨r, e1, e2, e3⟩ := HI.out l' L ho hl
     cases e3.1
    go_wp2_with fail
    go_ret
    exact ⟨_, l, k2, true, rfl, HR.out, by omega, hk2, HIe.out, HD.out, HO.out⟩
  ·have hqI : ¬ (0 : Int) < (q : Int) := by omega
   have HIe : Hid (∀ l' L, On s k bad (listN l' ++ L) → (l'.length : Int) ≤ most → l = l' ∧ On s k2 b2 L) := fun l' L ho hl => by
    obtain ⟨r, e1, e2, e3⟩ := HI.out l' L ho hl
    have : r = [] := List.length_eq_zero_iff.1 (by omega)
    subst this
    exact ⟨by rw [e1]; simp, e3⟩
   go_wp2_with fail
   go_ret
   exact ⟨_, l, k2, b2, rfl, HR.out, by omega, hk2, HIe.out, HD.out, HO.out⟩
end Go.Proofs.YtojhakjkfkmklaaGreatDoor
