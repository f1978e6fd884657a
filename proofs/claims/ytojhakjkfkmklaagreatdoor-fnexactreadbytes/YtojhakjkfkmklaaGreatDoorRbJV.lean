import Derived.Test.YtojhakjkfkmklaaGreatDoorRbIV
import Derived.Deep.RegionHeld2
import Derived.Test.YtojhakjkfkmklaaGreatDoorMemV
namespace Go.Proofs.YtojhakjkfkmklaaGreatDoor
open Go.RowKit
set_option linter.unusedVariables false
set_option linter.unusedSimpArgs false
def pTk (k : Int) : Rdr TermD := fun r => if k = 1 then pT1 r else if k = 2 then pT2 r else if k = 3 then pT3 r else some (⟨k, 0, 0, 0⟩, r)
theorem pT1_eq (L : List Int) : pT1 L = (pNext L).bind fun p => some (⟨1, p.1, 0, 0⟩, p.2) := by cases L <;> rfl
theorem pT2_eq (L : List Int) : pT2 L = (pNext L).bind fun p => some (⟨2, 0, p.1, 0⟩, p.2) := by cases L <;> rfl
theorem pT3_eq (L : List Int) : pT3 L = (pNext L).bind fun p => (pNext p.2).bind fun q => (pNext q.2).bind fun r => some (⟨3, p.1, q.1, r.1⟩, r.2) := by
 match L with
 | [] => rfl
 | [_] => rfl
 | [_, _] => rfl
 | _ :: _ :: _ :: _ => rfl
structure TSt (w wr : World) (a0 : Addr) (R B : Nat) (k a x y : Int) (L : List Int) : Prop where
 box : At wr (w.heap.size + 1) #[.int .i64 k, .int .i64 a, .int .i64 x, .int .i64 y] 84
 res : At wr w.heap.size #[.int .i64 0, .int .i64 0, .int .i64 0, .int .i64 0] 84
 rw_ : RwIn B wr R L
 fit : Fit L
 only : OnlyR R w wr
 gv : Gv wr 0 (errV a0)
 lt : R < w.heap.size
 leB : B ≤ w.heap.size
 ne : 0 ≠ R
theorem TSt.step {w wr w2 : World} {a0 : Addr} {R B : Nat} {k a x y : Int} {L L2 : List Int} (h : TSt w wr a0 R B k a x y L) (ho : OnlyR R wr w2) (hr : RwIn B w2 R L2) (hf : Fit L2) : TSt w w2 a0 R B k a x y L2 :=
 ⟨(ho.block _ h.box.lt (by have := h.lt; omega)).trans h.box, (ho.block _ h.res.lt (by have := h.lt; omega)).trans h.res, hr, hf, h.only.trans ho, h.gv.only ho h.ne, h.lt, h.leB, h.ne⟩
theorem gv_setT {w : World} {g b o : Nat} {v x : Value} (h : Gv w g v) (hn : g ≠ b) : Gv (w.setCell ⟨b, o, none⟩ x) g v := ⟨(cell_block (Below.heap_setCell _ _ _ _ (by show g ≠ b; exact hn))).trans h.cell, by simp only [World.size_setCell]; exact h.lt⟩
theorem TSt.seta {w wr : World} {a0 : Addr} {R B : Nat} {k a x y : Int} {L : List Int} (h : TSt w wr a0 R B k a x y L) (hg : 0 < w.heap.size) (z : Int) : TSt w (wr.setCell ⟨w.heap.size + 1, 1, none⟩ (.int .i64 z)) a0 R B k z x y L :=
 ⟨heap_set (o := 1) h.box, h.res.setOther (by omega), h.rw_.set (by have := h.leB; omega) (by have := h.lt; omega), h.fit, h.only.fresh (by omega), gv_setT h.gv (by omega), h.lt, h.leB, h.ne⟩
theorem TSt.setx {w wr : World} {a0 : Addr} {R B : Nat} {k a x y : Int} {L : List Int} (h : TSt w wr a0 R B k a x y L) (hg : 0 < w.heap.size) (z : Int) : TSt w (wr.setCell ⟨w.heap.size + 1, 2, none⟩ (.int .i64 z)) a0 R B k a z y L :=
 ⟨heap_set (o := 2) h.box, h.res.setOther (by omega), h.rw_.set (by have := h.leB; omega) (by have := h.lt; omega), h.fit, h.only.fresh (by omega), gv_setT h.gv (by omega), h.lt, h.leB, h.ne⟩
theorem TSt.sety {w wr : World} {a0 : Addr} {R B : Nat} {k a x y : Int} {L : List Int} (h : TSt w wr a0 R B k a x y L) (hg : 0 < w.heap.size) (z : Int) : TSt w (wr.setCell ⟨w.heap.size + 1, 3, none⟩ (.int .i64 z)) a0 R B k a x z L :=
 ⟨heap_set (o := 3) h.box, h.res.setOther (by omega), h.rw_.set (by have := h.leB; omega) (by have := h.lt; omega), h.fit, h.only.fresh (by omega), gv_setT h.gv (by omega), h.lt, h.leB, h.ne⟩
set_option maxHeartbeats 4000000 in
set_option maxRecDepth 100000 in
theorem termT (a : Addr) (B R : Nat) (k : Int) (L : List Int) (w : World) (h : RwIn B w R L) (hf : Fit L) (hv : Gv w 0 (errV a)) (hR : 0 ≠ R) (hBw : B ≤ w.heap.size) :
  Calls Tryz.prog 124 #[.int .i64 k, .pointer (some ⟨R, 0, none⟩)] w fun e w' => Took (pTk k) a B R L w (fun t e _ => e = .returned (.agg #[.int .i64 t.kind, .int .i64 t.a, .int .i64 t.x, .int .i64 t.y])) e w' := by
 have hlt := h.lt
 have hgw := hv.lt
 have HRW : Hid (RwIn B w R L) := h
 have b1 : Below w.heap.size w ((w.alloc (.cells #[.int .i64 0, .int .i64 0, .int .i64 0, .int .i64 0] 84)).alloc (.cells #[.int .i64 k, .int .i64 0, .int .i64 0, .int .i64 0] 84)) := ((Below.refl _ _).alloc (Nat.le_refl _) _).alloc (by simp) _
 have HS0 : Hid (TSt w ((w.alloc (.cells #[.int .i64 0, .int .i64 0, .int .i64 0, .int .i64 0] 84)).alloc (.cells #[.int .i64 k, .int .i64 0, .int .i64 0, .int .i64 0] 84)) a R B k 0 0 0 L) := ⟨heap_two2 _ _ _, (Below.heap_alloc _ _ _ (by simp)).trans (heap_alloc_last _ _), h.keep b1, hf, OnlyR.below b1, hv.keep b1, hlt, hBw, hR⟩
 clear h hf hv b1
 by_cases k1 : k = 1
 ·subst k1
  have HP0 : Hid (pTk 1 L = _) := pT1_eq L
  have N0 := nextT a B R L _ HS0.out.rw_ HS0.out.fit.len HS0.out.gv
  go_enter Tryz.func124, Tryz.ntmps124
  go_wp2_with fail
  refine N0.mono ?_
  rintro e w1 ⟨o0, ⟨z0, L1, p0, rfl, q0⟩ | ⟨p0, rfl⟩⟩
  rotate_left
  ·have HN : Hid (pTk 1 L = none) := by show _ = _; rw [HP0.out, p0]; rfl
   have HO := HS0.out.only.trans o0
   clear p0 HP0 N0
   go_wp2_with fail
   exact ⟨rfl, HO, .inr ⟨HN.out, rfl⟩⟩
  have e9 := HP0.out
  rw [p0, Option.bind_some] at e9
  have HP1 : Hid (pTk 1 L = _) := e9
  have HS1a : Hid (TSt w w1 a R B 1 0 0 0 L1) := HS0.out.step o0 q0 (HS0.out.fit.next p0).1
  clear e9 p0 q0 o0 N0 HP0 HS0
  have b0 : w1.cell? ⟨w.heap.size + 1, 1, none⟩ = some (.int .i64 0) := HS1a.out.box.cell 1
  have bf : w1.frozen? ⟨w.heap.size + 1, 1, none⟩ = false := froz_of_heap HS1a.out.box
  have HS1 : Hid (TSt w (w1.setCell ⟨w.heap.size + 1, 1, none⟩ (.int .i64 z0)) a R B 1 z0 0 0 L1) := HS1a.out.seta hgw z0
  clear HS1a
  have HN : Hid (pTk 1 L = some (⟨1, z0, 0, 0⟩, L1)) := HP1.out
  have c0 : (w1.setCell ⟨w.heap.size + 1, 1, none⟩ (.int .i64 z0)).cell? ⟨w.heap.size + 1, 0, none⟩ = some (.int .i64 1) := HS1.out.box.cell 0
  have c1 : (w1.setCell ⟨w.heap.size + 1, 1, none⟩ (.int .i64 z0)).cell? ⟨w.heap.size + 1, 1, none⟩ = some (.int .i64 z0) := HS1.out.box.cell 1
  have c2 : (w1.setCell ⟨w.heap.size + 1, 1, none⟩ (.int .i64 z0)).cell? ⟨w.heap.size + 1, 2, none⟩ = some (.int .i64 0) := HS1.out.box.cell 2
  have c3 : (w1.setCell ⟨w.heap.size + 1, 1, none⟩ (.int .i64 z0)).cell? ⟨w.heap.size + 1, 3, none⟩ = some (.int .i64 0) := HS1.out.box.cell 3
  have r0 : (w1.setCell ⟨w.heap.size + 1, 1, none⟩ (.int .i64 z0)).cell? ⟨w.heap.size, 0, none⟩ = some (.int .i64 0) := HS1.out.res.cell 0
  have r1 : (w1.setCell ⟨w.heap.size + 1, 1, none⟩ (.int .i64 z0)).cell? ⟨w.heap.size, 1, none⟩ = some (.int .i64 0) := HS1.out.res.cell 1
  have r2 : (w1.setCell ⟨w.heap.size + 1, 1, none⟩ (.int .i64 z0)).cell? ⟨w.heap.size, 2, none⟩ = some (.int .i64 0) := HS1.out.res.cell 2
  have r3 : (w1.setCell ⟨w.heap.size + 1, 1, none⟩ (.int .i64 z0)).cell? ⟨w.heap.size, 3, none⟩ = some (.int .i64 0) := HS1.out.res.cell 3
  have rf : ∀ o, (w1.setCell ⟨w.heap.size + 1, 1, none⟩ (.int .i64 z0)).frozen? ⟨w.heap.size, o, none⟩ = false := fun o => froz_of_heap HS1.out.res
  go_wp2_with fail
  have hr := (heap_set (o := 3) (v := .int .i64 0) (heap_set (o := 2) (v := .int .i64 0) (heap_set (o := 1) (v := .int .i64 z0) (heap_set (o := 0) (v := .int .i64 1) HS1.out.res))))
  have OO := (OnlyR.fresh (o := 3) (v := .int .i64 0) (OnlyR.fresh (o := 2) (v := .int .i64 0) (OnlyR.fresh (o := 1) (v := .int .i64 z0) (OnlyR.fresh (o := 0) (v := .int .i64 1) HS1.out.only (Nat.le_refl _)) (Nat.le_refl _)) (Nat.le_refl _)) (Nat.le_refl _))
  have RR := (RwIn.set (o := 3) (v := .int .i64 0) (RwIn.set (o := 2) (v := .int .i64 0) (RwIn.set (o := 1) (v := .int .i64 z0) (RwIn.set (o := 0) (v := .int .i64 1) HS1.out.rw_ hBw (by omega)) hBw (by omega)) hBw (by omega)) hBw (by omega))
  exact bodyPost_ret (v := .agg #[.int .i64 1, .int .i64 z0, .int .i64 0, .int .i64 0]) ((results_cell_row Tryz.results124 _ _ w.heap.size 84 _ (0, 0) _ rfl hr Tryz.underlying84 rfl (by kernel_rfl)).trans (by rfl)) rfl ⟨OO, .inl ⟨⟨1, z0, 0, 0⟩, L1, HN.out, rfl, RR⟩⟩
 by_cases k2 : k = 2
 ·subst k2
  have HP0 : Hid (pTk 2 L = _) := pT2_eq L
  have N0 := nextT a B R L _ HS0.out.rw_ HS0.out.fit.len HS0.out.gv
  go_enter Tryz.func124, Tryz.ntmps124
  go_wp2_with fail
  refine N0.mono ?_
  rintro e w1 ⟨o0, ⟨z0, L1, p0, rfl, q0⟩ | ⟨p0, rfl⟩⟩
  rotate_left
  ·have HN : Hid (pTk 2 L = none) := by show _ = _; rw [HP0.out, p0]; rfl
   have HO := HS0.out.only.trans o0
   clear p0 HP0 N0
   go_wp2_with fail
   exact ⟨rfl, HO, .inr ⟨HN.out, rfl⟩⟩
  have e9 := HP0.out
  rw [p0, Option.bind_some] at e9
  have HP1 : Hid (pTk 2 L = _) := e9
  have HS1a : Hid (TSt w w1 a R B 2 0 0 0 L1) := HS0.out.step o0 q0 (HS0.out.fit.next p0).1
  clear e9 p0 q0 o0 N0 HP0 HS0
  have b0 : w1.cell? ⟨w.heap.size + 1, 2, none⟩ = some (.int .i64 0) := HS1a.out.box.cell 2
  have bf : w1.frozen? ⟨w.heap.size + 1, 2, none⟩ = false := froz_of_heap HS1a.out.box
  have HS1 : Hid (TSt w (w1.setCell ⟨w.heap.size + 1, 2, none⟩ (.int .i64 z0)) a R B 2 0 z0 0 L1) := HS1a.out.setx hgw z0
  clear HS1a
  have HN : Hid (pTk 2 L = some (⟨2, 0, z0, 0⟩, L1)) := HP1.out
  have c0 : (w1.setCell ⟨w.heap.size + 1, 2, none⟩ (.int .i64 z0)).cell? ⟨w.heap.size + 1, 0, none⟩ = some (.int .i64 2) := HS1.out.box.cell 0
  have c1 : (w1.setCell ⟨w.heap.size + 1, 2, none⟩ (.int .i64 z0)).cell? ⟨w.heap.size + 1, 1, none⟩ = some (.int .i64 0) := HS1.out.box.cell 1
  have c2 : (w1.setCell ⟨w.heap.size + 1, 2, none⟩ (.int .i64 z0)).cell? ⟨w.heap.size + 1, 2, none⟩ = some (.int .i64 z0) := HS1.out.box.cell 2
  have c3 : (w1.setCell ⟨w.heap.size + 1, 2, none⟩ (.int .i64 z0)).cell? ⟨w.heap.size + 1, 3, none⟩ = some (.int .i64 0) := HS1.out.box.cell 3
  have r0 : (w1.setCell ⟨w.heap.size + 1, 2, none⟩ (.int .i64 z0)).cell? ⟨w.heap.size, 0, none⟩ = some (.int .i64 0) := HS1.out.res.cell 0
  have r1 : (w1.setCell ⟨w.heap.size + 1, 2, none⟩ (.int .i64 z0)).cell? ⟨w.heap.size, 1, none⟩ = some (.int .i64 0) := HS1.out.res.cell 1
  have r2 : (w1.setCell ⟨w.heap.size + 1, 2, none⟩ (.int .i64 z0)).cell? ⟨w.heap.size, 2, none⟩ = some (.int .i64 0) := HS1.out.res.cell 2
  have r3 : (w1.setCell ⟨w.heap.size + 1, 2, none⟩ (.int .i64 z0)).cell? ⟨w.heap.size, 3, none⟩ = some (.int .i64 0) := HS1.out.res.cell 3
  have rf : ∀ o, (w1.setCell ⟨w.heap.size + 1, 2, none⟩ (.int .i64 z0)).frozen? ⟨w.heap.size, o, none⟩ = false := fun o => froz_of_heap HS1.out.res
  go_wp2_with fail
  have hr := (heap_set (o := 3) (v := .int .i64 0) (heap_set (o := 2) (v := .int .i64 z0) (heap_set (o := 1) (v := .int .i64 0) (heap_set (o := 0) (v := .int .i64 2) HS1.out.res))))
  have OO := (OnlyR.fresh (o := 3) (v := .int .i64 0) (OnlyR.fresh (o := 2) (v := .int .i64 z0) (OnlyR.fresh (o := 1) (v := .int .i64 0) (OnlyR.fresh (o := 0) (v := .int .i64 2) HS1.out.only (Nat.le_refl _)) (Nat.le_refl _)) (Nat.le_refl _)) (Nat.le_refl _))
  have RR := (RwIn.set (o := 3) (v := .int .i64 0) (RwIn.set (o := 2) (v := .int .i64 z0) (RwIn.set (o := 1) (v := .int .i64 0) (RwIn.set (o := 0) (v := .int .i64 2) HS1.out.rw_ hBw (by omega)) hBw (by omega)) hBw (by omega)) hBw (by omega))
  exact bodyPost_ret (v := .agg #[.int .i64 2, .int .i64 0, .int .i64 z0, .int .i64 0]) ((results_cell_row Tryz.results124 _ _ w.heap.size 84 _ (0, 0) _ rfl hr Tryz.underlying84 rfl (by kernel_rfl)).trans (by rfl)) rfl ⟨OO, .inl ⟨⟨2, 0, z0, 0⟩, L1, HN.out, rfl, RR⟩⟩
 by_cases k3 : k = 3
 ·subst k3
  have HP0 : Hid (pTk 3 L = _) := pT3_eq L
  have N0 := nextT a B R L _ HS0.out.rw_ HS0.out.fit.len HS0.out.gv
  go_enter Tryz.func124, Tryz.ntmps124
  go_wp2_with fail
  refine N0.mono ?_
  rintro e w1 ⟨o0, ⟨z0, L1, p0, rfl, q0⟩ | ⟨p0, rfl⟩⟩
  rotate_left
  ·have HN : Hid (pTk 3 L = none) := by show _ = _; rw [HP0.out, p0]; rfl
   have HO := HS0.out.only.trans o0
   clear p0 HP0 N0
   go_wp2_with fail
   exact ⟨rfl, HO, .inr ⟨HN.out, rfl⟩⟩
  have e9 := HP0.out
  rw [p0, Option.bind_some] at e9
  have HP1 : Hid (pTk 3 L = _) := e9
  have HS1a : Hid (TSt w w1 a R B 3 0 0 0 L1) := HS0.out.step o0 q0 (HS0.out.fit.next p0).1
  clear e9 p0 q0 o0 N0 HP0 HS0
  have b0 : w1.cell? ⟨w.heap.size + 1, 1, none⟩ = some (.int .i64 0) := HS1a.out.box.cell 1
  have bf : w1.frozen? ⟨w.heap.size + 1, 1, none⟩ = false := froz_of_heap HS1a.out.box
  have HS1 : Hid (TSt w (w1.setCell ⟨w.heap.size + 1, 1, none⟩ (.int .i64 z0)) a R B 3 z0 0 0 L1) := HS1a.out.seta hgw z0
  clear HS1a
  have N1 := nextT a B R L1 _ HS1.out.rw_ HS1.out.fit.len HS1.out.gv
  go_wp2_with fail
  refine N1.mono ?_
  rintro e w2 ⟨o1, ⟨z1, L2, p1, rfl, q1⟩ | ⟨p1, rfl⟩⟩
  rotate_left
  ·have HN : Hid (pTk 3 L = none) := by show _ = _; rw [HP1.out, p1]; rfl
   have HO := HS1.out.only.trans o1
   clear p1 HP1 N1
   go_wp2_with fail
   exact ⟨rfl, HO, .inr ⟨HN.out, rfl⟩⟩
  have e9 := HP1.out
  rw [p1, Option.bind_some] at e9
  have HP2 : Hid (pTk 3 L = _) := e9
  have HS2a : Hid (TSt w w2 a R B 3 z0 0 0 L2) := HS1.out.step o1 q1 (HS1.out.fit.next p1).1
  clear e9 p1 q1 o1 N1 HP1 HS1
  have b0 : w2.cell? ⟨w.heap.size + 1, 2, none⟩ = some (.int .i64 0) := HS2a.out.box.cell 2
  have bf : w2.frozen? ⟨w.heap.size + 1, 2, none⟩ = false := froz_of_heap HS2a.out.box
  have HS2 : Hid (TSt w (w2.setCell ⟨w.heap.size + 1, 2, none⟩ (.int .i64 z1)) a R B 3 z0 z1 0 L2) := HS2a.out.setx hgw z1
  clear HS2a
  have N2 := nextT a B R L2 _ HS2.out.rw_ HS2.out.fit.len HS2.out.gv
  go_wp2_with fail
  refine N2.mono ?_
  rintro e w3 ⟨o2, ⟨z2, L3, p2, rfl, q2⟩ | ⟨p2, rfl⟩⟩
  rotate_left
  ·have HN : Hid (pTk 3 L = none) := by show _ = _; rw [HP2.out, p2]; rfl
   have HO := HS2.out.only.trans o2
   clear p2 HP2 N2
   go_wp2_with fail
   exact ⟨rfl, HO, .inr ⟨HN.out, rfl⟩⟩
  have e9 := HP2.out
  rw [p2, Option.bind_some] at e9
  have HP3 : Hid (pTk 3 L = _) := e9
  have HS3a : Hid (TSt w w3 a R B 3 z0 z1 0 L3) := HS2.out.step o2 q2 (HS2.out.fit.next p2).1
  clear e9 p2 q2 o2 N2 HP2 HS2
  have b0 : w3.cell? ⟨w.heap.size + 1, 3, none⟩ = some (.int .i64 0) := HS3a.out.box.cell 3
  have bf : w3.frozen? ⟨w.heap.size + 1, 3, none⟩ = false := froz_of_heap HS3a.out.box
  have HS3 : Hid (TSt w (w3.setCell ⟨w.heap.size + 1, 3, none⟩ (.int .i64 z2)) a R B 3 z0 z1 z2 L3) := HS3a.out.sety hgw z2
  clear HS3a
  have HN : Hid (pTk 3 L = some (⟨3, z0, z1, z2⟩, L3)) := HP3.out
  have c0 : (w3.setCell ⟨w.heap.size + 1, 3, none⟩ (.int .i64 z2)).cell? ⟨w.heap.size + 1, 0, none⟩ = some (.int .i64 3) := HS3.out.box.cell 0
  have c1 : (w3.setCell ⟨w.heap.size + 1, 3, none⟩ (.int .i64 z2)).cell? ⟨w.heap.size + 1, 1, none⟩ = some (.int .i64 z0) := HS3.out.box.cell 1
  have c2 : (w3.setCell ⟨w.heap.size + 1, 3, none⟩ (.int .i64 z2)).cell? ⟨w.heap.size + 1, 2, none⟩ = some (.int .i64 z1) := HS3.out.box.cell 2
  have c3 : (w3.setCell ⟨w.heap.size + 1, 3, none⟩ (.int .i64 z2)).cell? ⟨w.heap.size + 1, 3, none⟩ = some (.int .i64 z2) := HS3.out.box.cell 3
  have r0 : (w3.setCell ⟨w.heap.size + 1, 3, none⟩ (.int .i64 z2)).cell? ⟨w.heap.size, 0, none⟩ = some (.int .i64 0) := HS3.out.res.cell 0
  have r1 : (w3.setCell ⟨w.heap.size + 1, 3, none⟩ (.int .i64 z2)).cell? ⟨w.heap.size, 1, none⟩ = some (.int .i64 0) := HS3.out.res.cell 1
  have r2 : (w3.setCell ⟨w.heap.size + 1, 3, none⟩ (.int .i64 z2)).cell? ⟨w.heap.size, 2, none⟩ = some (.int .i64 0) := HS3.out.res.cell 2
  have r3 : (w3.setCell ⟨w.heap.size + 1, 3, none⟩ (.int .i64 z2)).cell? ⟨w.heap.size, 3, none⟩ = some (.int .i64 0) := HS3.out.res.cell 3
  have rf : ∀ o, (w3.setCell ⟨w.heap.size + 1, 3, none⟩ (.int .i64 z2)).frozen? ⟨w.heap.size, o, none⟩ = false := fun o => froz_of_heap HS3.out.res
  go_wp2_with fail
  have hr := (heap_set (o := 3) (v := .int .i64 z2) (heap_set (o := 2) (v := .int .i64 z1) (heap_set (o := 1) (v := .int .i64 z0) (heap_set (o := 0) (v := .int .i64 3) HS3.out.res))))
  have OO := (OnlyR.fresh (o := 3) (v := .int .i64 z2) (OnlyR.fresh (o := 2) (v := .int .i64 z1) (OnlyR.fresh (o := 1) (v := .int .i64 z0) (OnlyR.fresh (o := 0) (v := .int .i64 3) HS3.out.only (Nat.le_refl _)) (Nat.le_refl _)) (Nat.le_refl _)) (Nat.le_refl _))
  have RR := (RwIn.set (o := 3) (v := .int .i64 z2) (RwIn.set (o := 2) (v := .int .i64 z1) (RwIn.set (o := 1) (v := .int .i64 z0) (RwIn.set (o := 0) (v := .int .i64 3) HS3.out.rw_ hBw (by omega)) hBw (by omega)) hBw (by omega)) hBw (by omega))
  exact bodyPost_ret (v := .agg #[.int .i64 3, .int .i64 z0, .int .i64 z1, .int .i64 z2]) ((results_cell_row Tryz.results124 _ _ w.heap.size 84 _ (0, 0) _ rfl hr Tryz.underlying84 rfl (by kernel_rfl)).trans (by rfl)) rfl ⟨OO, .inl ⟨⟨3, z0, z1, z2⟩, L3, HN.out, rfl, RR⟩⟩
 have HN : Hid (pTk k L = some (⟨k, 0, 0, 0⟩, L)) := by
  show _ = _
  unfold pTk
  rw [if_neg k1, if_neg k2, if_neg k3]
 have q1 : (k == 1) = false := by simpa using k1
 have q2 : (k == 2) = false := by simpa using k2
 have q3 : (k == 3) = false := by simpa using k3
 clear k1 k2 k3
 go_enter Tryz.func124, Tryz.ntmps124
 go_wp2_with fail
 have b2 : Below w.heap.size w ((w.alloc (.cells #[.int .i64 k, .int .i64 0, .int .i64 0, .int .i64 0] 84)).alloc (.cells #[.int .i64 k, .int .i64 0, .int .i64 0, .int .i64 0] 84)) := ((Below.refl _ _).alloc (Nat.le_refl _) _).alloc (by simp) _
 have hr : ((w.alloc (.cells #[.int .i64 k, .int .i64 0, .int .i64 0, .int .i64 0] 84)).alloc (.cells #[.int .i64 k, .int .i64 0, .int .i64 0, .int .i64 0] 84)).heap[w.heap.size]? = some (.cells #[.int .i64 k, .int .i64 0, .int .i64 0, .int .i64 0] 84 (0, 0)) := (Below.heap_alloc _ _ _ (by simp)).trans (heap_alloc_last _ _)
 exact bodyPost_ret (v := .agg #[.int .i64 k, .int .i64 0, .int .i64 0, .int .i64 0]) ((results_cell_row Tryz.results124 _ _ w.heap.size 84 _ (0, 0) _ rfl hr Tryz.underlying84 rfl (by kernel_rfl)).trans (by rfl)) rfl ⟨OnlyR.below b2, .inl ⟨⟨k, 0, 0, 0⟩, L, HN.out, rfl, HRW.out.keep b2⟩⟩
end Go.Proofs.YtojhakjkfkmklaaGreatDoor
namespace Go.Proofs.YtojhakjkfkmklaaGreatDoor
open Go.RowKit
set_option linter.unusedVariables false
theorem yesH {P : Program} {ops : Array Oper} {S : World → Prop} {o : Oper} {v : Value} {a : Act} (h : Region.wanted o (yielded ops a.tmps) = true) (k : ∀ w, S w → (execOp a.eval o).run P w = .ok (.value v) w) : YieldsIf P ops S o v a := .inl ⟨h, k⟩
theorem sA {α : Type} (l : List α) (i : Nat) (a : α) : l.toArray.setIfInBounds i a = (l.set i a).toArray := List.setIfInBounds_toArray ..
theorem sB {α : Type} (x : α) (l : List α) (a : α) : (x :: l).set 0 a = a :: l := rfl
theorem sC {α : Type} (x : α) (l : List α) (n : Nat) (a : α) : (x :: l).set (n + 1) a = x :: l.set n a := rfl
end Go.Proofs.YtojhakjkfkmklaaGreatDoor
namespace Go.Proofs.YtojhakjkfkmklaaGreatDoor
open Go.RowKit
set_option linter.unusedVariables false
section
variable {P : Program} {md : Region.Mode} {ops : Array Oper} {Q : Exit → Act → World → Prop} {S : World → Prop} {E : Nat → Bool}
def wpAnyX (P : Program) (md : Region.Mode) (ops : Array Oper) (Q : Exit → Act → World → Prop) (S : World → Prop) (E : Nat → Bool) : Nat → Array Bool → Act → World → Prop
 | 0, listed, a, w => Region.ready md ops listed = [] ∧ Q .normal a w
 | fuel + 1, listed, a, w =>
  (Region.ready md ops listed = [] → Q .normal a w) ∧
  ∀ i ∈ Region.ready md ops listed, wpOp P ops Q i (fun a' w' => (E i = true ∨ S w') ∧ wpAnyX P md ops Q S E fuel (listed.setIfInBounds i true) a' w') a w
theorem wpAny_of_x : ∀ (fuel : Nat) (listed : Array Bool) (a : Act) (w : World), wpAnyX P md ops Q S E fuel listed a w → wpAny P md ops Q fuel listed a w
 | 0, _, _, _, h => h
 | fuel + 1, _, _, _, h => ⟨h.1, fun i hi => wpOp_mono (fun a' w' h' => wpAny_of_x fuel _ a' w' h'.2) (h.2 i hi)⟩
theorem wpAnyX_first {i : Nat} {oi : Oper} {v : Value} (hi : ops[i]? = some oi) (hsel : ∀ (j : Nat) (o : Oper) cs b, ops[j]? = some o → o.op ≠ .select cs b)
  (hE : ∀ j oj, ops[j]? = some oj → E j = true → ∃ e ∈ oj.after, Region.binds md e = true ∧ e.on = i)
  (hQ : ∀ c a w, Q (.panic c) (a.put oi.dst v) w → Q (.panic c) a w) :
  ∀ (fuel : Nat) (listed : Array Bool) (a : Act) (w : World),
   (∀ j oj, ops[j]? = some oj → j ≠ i → listed.getD j true = false → (∀ e ∈ oj.after, Region.binds md e = true → e.on ≠ i) → oi.apart ops oj = true) →
   i ∈ Region.ready md ops listed → YieldsIf P ops S oi v a → S w →
   wpAnyX P md ops Q S E fuel (listed.setIfInBounds i true) (a.put oi.dst v) w → wpAnyX P md ops Q S E (fuel + 1) listed a w := by
 intro fuel
 induction fuel with
 | zero =>
  intro listed a w _ hr hy hS H
  refine ⟨fun h => (by rw [h] at hr; cases hr), fun j hj => ?_⟩
  by_cases hji : j = i
  ·subst hji; exact hy.wpOp hi hS ⟨.inr hS, H⟩
  ·have := ready_mono hj hji
   rw [H.1] at this
   cases this
 | succ fuel ih =>
  intro listed a w hfree hr hy hS H
  refine ⟨fun h => (by rw [h] at hr; cases hr), fun j hj => ?_⟩
  by_cases hji : j = i
  ·subst hji; exact hy.wpOp hi hS ⟨.inr hS, H⟩
  ·have h1 := H.2 j (ready_mono hj hji)
   obtain ⟨hjun, oj, hoj, hall⟩ := mem_ready.1 hj
   have hnot : ∀ e ∈ oj.after, Region.binds md e = true → e.on ≠ i := fun e he hb heq => by
    have h1 := hall e he hb
    have h0 := (mem_ready.1 hr).1
    rw [heq] at h1
    rcases Nat.lt_or_ge i listed.size with h' | h'
    ·simp [h'] at h0 h1; rw [h0] at h1; cases h1
    ·simp [Array.getElem?_eq_none h'] at h1
   have hEj : ¬ E j = true := fun h => by
    obtain ⟨e, he, hb, hon⟩ := hE j oj hoj h
    exact hnot e he hb hon
   have h2 := wpOp_putIf hoj (hfree j oj hoj hji hjun hnot) (fun cs b => hsel i oi cs b hi) (fun cs b => hsel j oj cs b hoj) hQ hy h1
   have hfree' : ∀ k ok, ops[k]? = some ok → k ≠ i → (listed.setIfInBounds j true).getD k true = false →
     (∀ e ∈ ok.after, Region.binds md e = true → e.on ≠ i) → oi.apart ops ok = true := fun k ok hk hki hun hno => by
    refine hfree k ok hk hki ?_ hno
    by_cases hjk : j = k
    ·subst hjk; exact hjun
    ·rw [getD_set_ne true hjk] at hun; exact hun
   refine wpOp_mono (fun a' w' h3 => ⟨h3.2.1, ih (listed.setIfInBounds j true) a' w' hfree' (ready_mono hr (Ne.symm hji)) h3.1 (h3.2.1.resolve_left hEj) ?_⟩) h2
   rw [Array.setIfInBounds_comm _ _ hji]
   exact h3.2.2
def exB (md : Region.Mode) (ops : Array Oper) (E : Nat → Bool) (i : Nat) : Bool := (List.range ops.size).all fun j => !E j || (match ops[j]? with | some oj => oj.after.toList.any fun e => Region.binds md e && decide (e.on = i) | none => true)
theorem exB_spec {i : Nat} (h : exB md ops E i = true) : ∀ j oj, ops[j]? = some oj → E j = true → ∃ e ∈ oj.after, Region.binds md e = true ∧ e.on = i := fun j oj hj hE => by
 unfold exB at h
 rw [List.all_eq_true] at h
 have h1 := h j (List.mem_range.2 (Array.getElem?_eq_some_iff.1 hj).1)
 rw [hE, hj] at h1
 simp only [Bool.not_true, Bool.false_or, List.any_eq_true, Bool.and_eq_true, decide_eq_true_eq] at h1
 obtain ⟨e, he, hb, ho⟩ := h1
 exact ⟨e, Array.mem_toList_iff.1 he, hb, ho⟩
theorem takeX (i : Nat) {oi : Oper} {v : Value} {fuel : Nat} {listed : Array Bool} {s : Tmp} {a : Act} {w : World} (hi : ops[i]? = some oi) (hd : oi.dst = some s)
  (hc : (exB md ops E i && (Region.noSelect ops && (Region.free md ops listed i && (Region.ready md ops listed).contains i))) = true)
  (hQ : ∀ c a w, Q (.panic c) (a.put oi.dst v) w → Q (.panic c) a w) (hy : YieldsIf P ops S oi v a) (hS : S w)
  (h : wpAnyX P md ops Q S E fuel (listed.setIfInBounds i true) { a with tmps := a.tmps.setIfInBounds s v } w) : wpAnyX P md ops Q S E (fuel + 1) listed a w := by
 simp only [Bool.and_eq_true] at hc
 refine wpAnyX_first hi (Region.noSelect_spec hc.2.1) (exB_spec hc.1) hQ fuel listed a w (Region.free_spec hi hc.2.2.1) (by simpa using hc.2.2.2) hy hS ?_
 rw [hd]
 exact h
theorem readyX (i : Nat) {o : Oper} {fuel : Nat} {listed : Array Bool} {a : Act} {w : World} (ho : ops[i]? = some o) (hr : Region.ready md ops listed = [i])
  (h : ∀ K' : Act → World → Prop, Shut (∀ a w, (E i = true ∨ S w) → wpAnyX P md ops Q S E fuel (listed.setIfInBounds i true) a w → K' a w) → if Region.wanted o (yielded ops a.tmps) = true then Oper.wp P o a w K' Q else K' (a.put o.dst undef) w) : wpAnyX P md ops Q S E (fuel + 1) listed a w :=
 ⟨fun h0 => (by rw [hr] at h0; cases h0), fun j hj => (by
  rw [hr] at hj
  obtain rfl := List.mem_singleton.1 hj
  exact wpOp_step ho (fun K' hK => h K' (fun a w hS hW => hK a w ⟨hS, hW⟩)))⟩
theorem doneX {listed : Array Bool} {a : Act} {w : World} (hr : Region.ready md ops listed = []) (h : Q .normal a w) : ∀ fuel, wpAnyX P md ops Q S E fuel listed a w
 | 0 => ⟨hr, h⟩
 | _ + 1 => ⟨fun _ => h, by rw [hr]; simp⟩
theorem startX {id : Nat} {a : Act} {w : World} (S : World → Prop) (E : Nat → Bool) (hm : P.follows .mixedOrders = true) (h : wpAnyX P .any ops Q S E ops.size (Array.replicate ops.size false) a w.drew) : (Code.region id ops true).wp P Q a w :=
 wp_region_any hm (wpAny_of_x _ _ _ _ h)
end
theorem step_runP {P : Program} {ops : Array Oper} {o : Oper} {a : Act} {w w1 : World} {K : Act → World → Prop} {Q : Exit → Act → World → Prop} {E : Prop} {v' : Value} (hgd : o.guard = none) (s x : Operand) (t : TypeId)
  (ho : o.op = .call { callee := .builtin .append, args := #[s, x], argTypes := #[t, t] }) {v1 v2 : Value} (h1 : a.eval s = v1) (h2 : a.eval x = v2) (hrun : (Builtin.append_ #[t, t] o.type #[v1, v2]).run P w = .ok v' w1) (h : K (a.put o.dst v') w1) :
  if Region.wanted o (yielded ops a.tmps) = true then Oper.wp P o a w K Q else E := by
 have hw : Region.wanted o (yielded ops a.tmps) = true := by simp [Region.wanted, hgd]
 rw [if_pos hw]
 unfold Oper.wp execOp
 simp only [ho, resolve, invoke, builtin, Sem.run_bind, Sem.run_pure, Result.andThen_ok, List.map_toArray, List.map_cons, List.map_nil, h1, h2, hrun]
 exact h
end Go.Proofs.YtojhakjkfkmklaaGreatDoor
