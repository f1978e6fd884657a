import Derived.Test.YtojhakjkfkmklaaGreatDoorFmJV
import Derived.Test.YtojhakjkfkmklaaGreatDoorFmHV
import Derived.Deep.RegionHeld2
import Derived.Test.YtojhakjkfkmklaaGreatDoorRmAV
import Derived.Test.YtojhakjkfkmklaaGreatDoorEqV
import Derived.Test.YtojhakjkfkmklaaGreatDoorFmIV
namespace Go.Proofs.YtojhakjkfkmklaaGreatDoor
open Go.RowKit
set_option linter.unusedVariables false
set_option maxHeartbeats 2000000 in
set_option maxRecDepth 100000 in
theorem funcShS_p (lo : Nat) (d : FuncD) (u0 : Option Addr) (c0 : Nat) (u2 : Option Addr) (c2 : Nat) (funcs : Int) (w : World) (hs : SmFunc d) (k0 : IntsAt w lo u0 d.params) (k2 : BlocksAt w lo u2 d.blocks) (hp : ¬ d.params.length ≤ 4) : Calls Tryz.prog 56 #[.agg #[.slice u0 d.params.length c0, .int .i64 d.ret, .slice u2 d.blocks.length c2], .int .i64 funcs] w fun e w' => e = .returned (.bool (funcB funcs d)) ∧ Below w.heap.size w w' := by
 have HR : Hid (false = funcB funcs d) := by show _ = _; simp [funcB, hp]
 have F0 := FBox.start (d := d) (u0 := u0) (u2 := u2) (c0 := c0) (c2 := c2) (w := w) (T := 49)
 have hbl := hs.2.1
 have i1 : (4 : Int) < d.params.length := by omega
 go_enter Tryz.func56, Tryz.ntmps56
 go_wp2_with fail
 refine (countS_any lo d u0 c0 u2 c2 _ hs (k2.keep (agree_of_below F0.below lo))).mono ?_
 rintro e w1 ⟨rfl, hb1'⟩
 have F1 := F0.keep hb1'
 have b0 := F1.a0
 have b1 := F1.a1
 have b2 := F1.a2
 clear hb1' F0
 go_wp2_with fail
 go_ret
 exact ⟨ret_bool HR.out, F1.below⟩
set_option maxHeartbeats 2000000 in
set_option maxRecDepth 100000 in
theorem funcShS_r (lo : Nat) (d : FuncD) (u0 : Option Addr) (c0 : Nat) (u2 : Option Addr) (c2 : Nat) (funcs : Int) (w : World) (hs : SmFunc d) (k0 : IntsAt w lo u0 d.params) (k2 : BlocksAt w lo u2 d.blocks) (hp : d.params.length ≤ 4) (hr : widthB d.ret = false) : Calls Tryz.prog 56 #[.agg #[.slice u0 d.params.length c0, .int .i64 d.ret, .slice u2 d.blocks.length c2], .int .i64 funcs] w fun e w' => e = .returned (.bool (funcB funcs d)) ∧ Below w.heap.size w w' := by
 have HR : Hid (false = funcB funcs d) := by show _ = _; simp [funcB, hr]
 have F0 := FBox.start (d := d) (u0 := u0) (u2 := u2) (c0 := c0) (c2 := c2) (w := w) (T := 49)
 have hbl := hs.2.1
 have i1 : ¬ (4 : Int) < d.params.length := by omega
 go_enter Tryz.func56, Tryz.ntmps56
 go_wp2_with fail
 refine (countS_any lo d u0 c0 u2 c2 _ hs (k2.keep (agree_of_below F0.below lo))).mono ?_
 rintro e w1 ⟨rfl, hb1'⟩
 have F1 := F0.keep hb1'
 have b0 := F1.a0
 have b1 := F1.a1
 have b2 := F1.a2
 clear hb1' F0
 go_wp2_with (first | (go_at_call 91; refine (widthS _ _).mono ?_; rintro e w' ⟨rfl, rfl⟩))
 go_ret
 exact ⟨ret_bool HR.out, F1.below⟩
set_option maxHeartbeats 2000000 in
set_option maxRecDepth 100000 in
theorem funcShS_b (lo : Nat) (d : FuncD) (u0 : Option Addr) (c0 : Nat) (u2 : Option Addr) (c2 : Nat) (funcs : Int) (w : World) (hs : SmFunc d) (k0 : IntsAt w lo u0 d.params) (k2 : BlocksAt w lo u2 d.blocks) (hp : d.params.length ≤ 4) (hr : widthB d.ret = true) (hb : ¬ (1 ≤ d.blocks.length ∧ d.blocks.length ≤ 10)) : Calls Tryz.prog 56 #[.agg #[.slice u0 d.params.length c0, .int .i64 d.ret, .slice u2 d.blocks.length c2], .int .i64 funcs] w fun e w' => e = .returned (.bool (funcB funcs d)) ∧ Below w.heap.size w w' := by
 have HR : Hid (false = funcB funcs d) := by show _ = _; (by_cases q : 1 ≤ d.blocks.length <;> by_cases q2 : d.blocks.length ≤ 10 <;> simp [funcB, q, q2] <;> omega)
 have F0 := FBox.start (d := d) (u0 := u0) (u2 := u2) (c0 := c0) (c2 := c2) (w := w) (T := 49)
 have hbl := hs.2.1
 have i1 : ¬ (4 : Int) < d.params.length := by omega
 have i2 : (decide (1 ≤ (d.blocks.length : Int)) && decide ((d.blocks.length : Int) ≤ 10)) = false := by simp; omega
 go_enter Tryz.func56, Tryz.ntmps56
 go_wp2_with fail
 refine (countS_any lo d u0 c0 u2 c2 _ hs (k2.keep (agree_of_below F0.below lo))).mono ?_
 rintro e w1 ⟨rfl, hb1'⟩
 have F1 := F0.keep hb1'
 have b0 := F1.a0
 have b1 := F1.a1
 have b2 := F1.a2
 clear hb1' F0
 go_wp2_with (first | (go_at_call 91; refine (widthS _ _).mono ?_; rintro e w' ⟨rfl, rfl⟩) | (go_at_call 55; refine (inS _ _ _ _).mono ?_; rw [i2]; rintro e w' ⟨rfl, rfl⟩))
 go_ret
 exact ⟨ret_bool HR.out, F1.below⟩
set_option maxHeartbeats 2000000 in
set_option maxRecDepth 100000 in
theorem funcShS_n (lo : Nat) (d : FuncD) (u0 : Option Addr) (c0 : Nat) (u2 : Option Addr) (c2 : Nat) (funcs : Int) (w : World) (hs : SmFunc d) (k0 : IntsAt w lo u0 d.params) (k2 : BlocksAt w lo u2 d.blocks) (hp : d.params.length ≤ 4) (hr : widthB d.ret = true) (hb : (1 ≤ d.blocks.length ∧ d.blocks.length ≤ 10)) (hn : ¬ cntF d ≤ 60) : Calls Tryz.prog 56 #[.agg #[.slice u0 d.params.length c0, .int .i64 d.ret, .slice u2 d.blocks.length c2], .int .i64 funcs] w fun e w' => e = .returned (.bool (funcB funcs d)) ∧ Below w.heap.size w w' := by
 have HR : Hid (false = funcB funcs d) := by show _ = _; simp [funcB, hn]
 have F0 := FBox.start (d := d) (u0 := u0) (u2 := u2) (c0 := c0) (c2 := c2) (w := w) (T := 49)
 have hbl := hs.2.1
 have i1 : ¬ (4 : Int) < d.params.length := by omega
 have i2 : (decide (1 ≤ (d.blocks.length : Int)) && decide ((d.blocks.length : Int) ≤ 10)) = true := by simp; omega
 have i4 : (60 : Int) < cntF d := by omega
 go_enter Tryz.func56, Tryz.ntmps56
 go_wp2_with fail
 refine (countS_any lo d u0 c0 u2 c2 _ hs (k2.keep (agree_of_below F0.below lo))).mono ?_
 rintro e w1 ⟨rfl, hb1'⟩
 have F1 := F0.keep hb1'
 have b0 := F1.a0
 have b1 := F1.a1
 have b2 := F1.a2
 clear hb1' F0
 go_wp2_with (first | (go_at_call 91; refine (widthS _ _).mono ?_; rintro e w' ⟨rfl, rfl⟩) | (go_at_call 55; refine (inS _ _ _ _).mono ?_; rw [i2]; rintro e w' ⟨rfl, rfl⟩))
 go_ret
 exact ⟨ret_bool HR.out, F1.below⟩
theorem funcShS (lo : Nat) (d : FuncD) (u0 : Option Addr) (c0 : Nat) (u2 : Option Addr) (c2 : Nat) (funcs : Int) (w : World) (hs : SmFunc d) (k0 : IntsAt w lo u0 d.params) (k2 : BlocksAt w lo u2 d.blocks) (g2 : 0 ≤ funcs) (g3 : funcs ≤ 4611686018427387904) : Calls Tryz.prog 56 #[.agg #[.slice u0 d.params.length c0, .int .i64 d.ret, .slice u2 d.blocks.length c2], .int .i64 funcs] w fun e w' => e = .returned (.bool (funcB funcs d)) ∧ Below w.heap.size w w' := by
 by_cases hp : d.params.length ≤ 4
 ·cases hr : widthB d.ret with
  | false => exact funcShS_r lo d u0 c0 u2 c2 funcs w hs k0 k2 hp hr
  | true =>
   by_cases hb : 1 ≤ d.blocks.length ∧ d.blocks.length ≤ 10
   ·by_cases hn : cntF d ≤ 60
    ·exact funcShS_ok lo d u0 c0 u2 c2 funcs w hs k0 k2 g2 g3 hp hr hb.1 hb.2 hn
    ·exact funcShS_n lo d u0 c0 u2 c2 funcs w hs k0 k2 hp hr hb hn
   ·exact funcShS_b lo d u0 c0 u2 c2 funcs w hs k0 k2 hp hr hb
 ·exact funcShS_p lo d u0 c0 u2 c2 funcs w hs k0 k2 hp
set_option maxHeartbeats 2000000 in
set_option maxRecDepth 100000 in
theorem modShS (lo : Nat) (l : List FuncD) (u0 : Option Addr) (c0 : Nat) (w : World) (hs : SmMod l) (k0 : FuncsAt w lo u0 l) :
  Calls Tryz.prog 26 #[.agg #[.slice u0 l.length c0]] w fun e w' => e = .returned (.bool (modB l)) ∧ Below w.heap.size w w' := by
 have hsl := hs.1
 have HS : Hid (∀ d ∈ l, SmFunc d) := hs.2
 by_cases h1 : 1 ≤ l.length ∧ l.length ≤ 3
 ·have HE : Hid (modB l = l.all (funcB l.length)) := by show _ = _; simp [modB, h1.1, h1.2]
  have i1 : (decide (1 ≤ (l.length : Int)) && decide ((l.length : Int) ≤ 3)) = true := by simp; omega
  clear hs
  go_enter Tryz.func26, Tryz.ntmps26
  go_wp2_with (go_at_call 55; refine (inS _ _ _ _).mono ?_; rw [i1]; rintro e w' ⟨rfl, rfl⟩)
  go_loopw [3] (fun i wr => ∃ j : Nat, j ≤ l.length ∧ i = .int .i64 j ∧ Hid (∀ k, k < j → funcB l.length (l.getD k func0) = true) ∧ Below (w.heap.size + 1) (w.alloc (.cells #[.slice u0 l.length c0] 26)) wr) (fun i _ => l.length - (intOf i).toNat)
  case atStart => exact ⟨0, by omega, rfl, fun k hk => by omega, Below.refl _ _⟩
  case round =>
   obtain ⟨j, hj, rfl, HD, hB⟩ := hrel
   obtain ⟨wp, hwp⟩ : ∃ wp, wp = wr := ⟨_, rfl⟩
   subst hwp
   have hW : Below w.heap.size w wp := below_box hB
   have y0 : wp.cell? ⟨w.heap.size, 0, none⟩ = some (.slice u0 l.length c0) := (cell_block (hB.block w.heap.size (by omega))).trans ((cell_of_heap (heap_alloc_last _ _)).trans rfl)
   have hzw : w.heap.size + 1 ≤ wp.heap.size := by have := hB.size; simp at this; omega
   by_cases hjl : j < l.length
   ·rcases k0.2 with hn | ⟨bb, off, rfl, hlo, hbb, hcell⟩
    ·simp [hn] at hjl
    obtain ⟨⟨p0, q0, h0, m0⟩, h1', ⟨p2, q2, h2, m2⟩⟩ := hcell j hjl
    have hsm := HS.out _ (getD_mem func0 l j hjl)
    generalize hx : l.getD j func0 = x at h0 h1' h2 m0 m2 hsm
    have HX : Hid (l.getD j func0 = x) := hx
    have f0 : wp.cell? ⟨bb, off + j * 3, none⟩ = some (.slice p0 x.params.length q0) := (cell_block (hW.block bb hbb)).trans h0
    have f1 : wp.cell? ⟨bb, off + j * 3 + 1, none⟩ = some (.int .i64 x.ret) := (cell_block (hW.block bb hbb)).trans h1'
    have f2 : wp.cell? ⟨bb, off + j * 3 + 2, none⟩ = some (.slice p2 x.blocks.length q2) := (cell_block (hW.block bb hbb)).trans h2
    have M0 := (m0.keep (agree_of_below hW lo)).keep (agree_of_below (Below.refl wp.heap.size wp).drew lo)
    have M2 := (m2.keep (agree_of_below hW lo)).keep (agree_of_below (Below.refl wp.heap.size wp).drew lo)
    have y0d : wp.drew.cell? ⟨w.heap.size, 0, none⟩ = some (.slice (some ⟨bb, off, none⟩) l.length c0) := y0
    have f0d : wp.drew.cell? ⟨bb, off + j * 3, none⟩ = some (.slice p0 x.params.length q0) := f0
    have f1d : wp.drew.cell? ⟨bb, off + j * 3 + 1, none⟩ = some (.int .i64 x.ret) := f1
    have f2d : wp.drew.cell? ⟨bb, off + j * 3 + 2, none⟩ = some (.slice p2 x.blocks.length q2) := f2
    have hz1 : w.heap.size < wp.heap.size := by omega
    have hz2 : bb < wp.heap.size := Nat.lt_of_lt_of_le hbb hW.size
    have HBA : Hid (Below (w.heap.size + 1) (w.alloc (.cells #[.slice (some ⟨bb, off, none⟩) l.length c0] 26)) wp) := hB
    have B : ∀ B, funcB l.length x = B → ∀ wz : World, wz = wp.drew → Calls Tryz.prog 56 #[.agg #[.slice p0 x.params.length q0, .int .i64 x.ret, .slice p2 x.blocks.length q2], .int .i64 l.length] wz fun e w' => e = .returned (.bool B) ∧ Below wz.heap.size wz w' := fun B h wz e => by
     subst e; rw [← h]; exact funcShS lo x p0 q0 p2 q2 l.length _ hsm M0 M2 (by omega) (by omega)
    have NO : Hid (funcB l.length x = false → false = modB l) := fun h => by
     rw [HE.out]; exact (all_no func0 l j hjl (by rw [HX.out, h]; decide)).symm
    have YES : Hid (funcB l.length x = true → ∀ k, k < j + 1 → funcB l.length (l.getD k func0) = true) := fun h k hk => by
     by_cases e : k = j
     ·subst e; rw [HX.out]; exact h
     ·exact HD.out k (by omega)
    clear hcell h0 h1' h2 m0 m2 hsm hx hB M0 M2 HD k0 hW
    cases hb : funcB l.length x with
    | false =>
     have HF : Hid (false = modB l) := NO.out hb
     have BB := B _ hb
     clear B
     go_wp2_with fail
     go_region_held2 (fun w' => w'.cell? ⟨w.heap.size, 0, none⟩ = some (.slice (some ⟨bb, off, none⟩) l.length c0) ∧ w'.cell? ⟨bb, off + j * 3, none⟩ = some (.slice p0 x.params.length q0) ∧ w'.cell? ⟨bb, off + j * 3 + 1, none⟩ = some (.int .i64 x.ret) ∧ w'.cell? ⟨bb, off + j * 3 + 2, none⟩ = some (.slice p2 x.blocks.length q2)) (first | with_reducible exact ⟨y0d, f0d, f1d, f2d⟩ | with_reducible exact ⟨d0, d1, d2, d3⟩) ((go_at_call 56; refine (BB wp.drew rfl).mono ?_; rintro e w3 ⟨rfl, hb3⟩; have d0 := (cell_block (hb3.block w.heap.size (by exact hz1))).trans y0d; have d1 := (cell_block (hb3.block bb (by exact hz2))).trans f0d; have d2 := (cell_block (hb3.block bb (by exact hz2))).trans f1d; have d3 := (cell_block (hb3.block bb (by exact hz2))).trans f2d))
     all_goals
      have hb4 := drop_drew hb3
      clear d0 d1 d2 d3
      go_wp2_with fail
      go_ret
      exact ⟨ret_bool HF.out, below_box (HBA.out.trans (hb4.mono hzw))⟩
    | true =>
     have HF : Hid (funcB l.length x = true) := hb
     have BB := B _ hb
     clear B
     go_wp2_with fail
     go_region_held2 (fun w' => w'.cell? ⟨w.heap.size, 0, none⟩ = some (.slice (some ⟨bb, off, none⟩) l.length c0) ∧ w'.cell? ⟨bb, off + j * 3, none⟩ = some (.slice p0 x.params.length q0) ∧ w'.cell? ⟨bb, off + j * 3 + 1, none⟩ = some (.int .i64 x.ret) ∧ w'.cell? ⟨bb, off + j * 3 + 2, none⟩ = some (.slice p2 x.blocks.length q2)) (first | with_reducible exact ⟨y0d, f0d, f1d, f2d⟩ | with_reducible exact ⟨d0, d1, d2, d3⟩) ((go_at_call 56; refine (BB wp.drew rfl).mono ?_; rintro e w3 ⟨rfl, hb3⟩; have d0 := (cell_block (hb3.block w.heap.size (by exact hz1))).trans y0d; have d1 := (cell_block (hb3.block bb (by exact hz2))).trans f0d; have d2 := (cell_block (hb3.block bb (by exact hz2))).trans f1d; have d3 := (cell_block (hb3.block bb (by exact hz2))).trans f2d))
     all_goals
      have hb4 := drop_drew hb3
      clear d0 d1 d2 d3
      go_wp2_with fail
      go_roundw
      case rel => exact ⟨j + 1, by omega, by go_num, YES.out HF.out, HBA.out.trans (hb4.mono hzw)⟩
      case measure => simp [intOf]; omega
   ·have HF : Hid (true = modB l) := by
     show _ = _
     rw [HE.out]; exact (all_yes func0 l (fun k hk => HD.out k (by omega))).symm
    go_wp2_with fail
    go_ret
    exact ⟨ret_bool HF.out, hW⟩
 ·have HR : Hid (false = modB l) := by show _ = _; (by_cases q : 1 ≤ l.length <;> by_cases q2 : l.length ≤ 3 <;> simp [modB, q, q2] <;> omega)
  have i1 : (decide (1 ≤ (l.length : Int)) && decide ((l.length : Int) ≤ 3)) = false := by simp; omega
  clear hs
  go_enter Tryz.func26, Tryz.ntmps26
  go_wp2_with (go_at_call 55; refine (inS _ _ _ _).mono ?_; rw [i1]; rintro e w' ⟨rfl, rfl⟩)
  go_ret
  exact ⟨ret_bool HR.out, (Below.refl _ _).alloc (Nat.le_refl _) _⟩
end Go.Proofs.YtojhakjkfkmklaaGreatDoor
namespace Go.Proofs.YtojhakjkfkmklaaGreatDoor
open Go.RowKit
end Go.Proofs.YtojhakjkfkmklaaGreatDoor
namespace Go.Proofs.YtojhakjkfkmklaaGreatDoor
open Go.RowKit
set_option maxHeartbeats 2000000 in
theorem eqFuncS_any (lo lo' : Nat) (a b : Option Addr) (ca cb : Nat) (l : List FuncD) (w : World) (ha : FuncsAt w lo a l) (hb : FuncsAt w lo' b l) :
  Calls Tryz.prog 38 #[.slice a l.length ca, .slice b l.length cb] w fun e w' => e = .returned (.bool true) ∧ Below w.heap.size w w' := by
 have hm := ha.1
 go_enter Tryz.func38, Tryz.ntmps38
 go_wp2_with fail
 go_loopw [5] (fun i wr => ∃ (k : Nat), k ≤ l.length ∧ i = .int .i64 k ∧ Below w.heap.size w wr) (fun i _ => l.length - (intOf i).toNat)
 case atStart => exact ⟨0, by omega, rfl, Below.refl _ _⟩
 case round =>
  obtain ⟨k, hk, rfl, hB⟩ := hrel
  by_cases hlt : k < l.length
  ·rcases ha.2 with rfl | ⟨ba, offa, rfl, hla, hba, hca⟩
   ·simp at hlt
   rcases hb.2 with rfl | ⟨bb, offb, rfl, hlb, hbb, hcb⟩
   ·simp at hlt
   obtain ⟨⟨u0, c0, h0, k0⟩, h1, ⟨u2, c2, h2, k2⟩⟩ := hca k hlt
   obtain ⟨⟨v0, q0, g0, n0⟩, g1, ⟨v2, q2, g2, n2⟩⟩ := hcb k hlt
   generalize l.getD k func0 = d at h0 g0 h1 g1 h2 g2 k0 n0 k2 n2
   have e0 : wr.cell? ⟨ba, offa + k * 3, none⟩ = some (.slice u0 d.params.length c0) := (cell_block (hB.block ba hba)).trans h0
   have f0 : wr.cell? ⟨bb, offb + k * 3, none⟩ = some (.slice v0 d.params.length q0) := (cell_block (hB.block bb hbb)).trans g0
   have m0 := k0.keep (agree_of_below hB _)
   have o0 := n0.keep (agree_of_below hB _)
   have e1 : wr.cell? ⟨ba, offa + k * 3 + 1, none⟩ = some (.int .i64 d.ret) := (cell_block (hB.block ba hba)).trans h1
   have f1 : wr.cell? ⟨bb, offb + k * 3 + 1, none⟩ = some (.int .i64 d.ret) := (cell_block (hB.block bb hbb)).trans g1
   have e2 : wr.cell? ⟨ba, offa + k * 3 + 2, none⟩ = some (.slice u2 d.blocks.length c2) := (cell_block (hB.block ba hba)).trans h2
   have f2 : wr.cell? ⟨bb, offb + k * 3 + 2, none⟩ = some (.slice v2 d.blocks.length q2) := (cell_block (hB.block bb hbb)).trans g2
   have m2 := k2.keep (agree_of_below hB _)
   have o2 := n2.keep (agree_of_below hB _)
   have HB : Hid (Below w.heap.size w wr) := hB
   clear hca hcb hB ha hb h0 g0 h1 g1 h2 g2 k0 n0 k2 n2
   go_wp2_with fail
   go_region_with (go_at_call 72; refine (eqFunc_any lo lo' d _ _ _ _ _ _ _ _ _ (by exact m0) (by exact m2) (by exact o0) (by exact o2)).mono ?_; rintro e w1 ⟨rfl, hb1⟩)
   all_goals
    go_wp2_with fail
    go_roundw
    case rel =>
     have hx := HB.out
     have hy := hb1.mono (B' := w.heap.size) hx.size
     exact ⟨k + 1, by omega, by go_num, ⟨hy.os.trans hx.os, hy.tape.trans hx.tape, hy.output.trans hx.output, Nat.le_trans hx.size hy.size, fun i hi => (hy.block i hi).trans (hx.block i hi)⟩⟩
    case measure => simp [intOf]; omega
  ·go_wp2_with fail
   go_ret
   exact ⟨rfl, hB⟩
set_option maxHeartbeats 2000000 in
theorem eqModule_any (lo lo' : Nat) (l : List FuncD) (u0 : Option Addr) (c0 : Nat) (v0 : Option Addr) (q0 : Nat) (w : World) (k0 : FuncsAt w lo u0 l) (n0 : FuncsAt w lo' v0 l) :
  Calls Tryz.prog 15 #[.agg #[.slice u0 l.length c0], .agg #[.slice v0 l.length q0]] w fun e w' => e = .returned (.bool true) ∧ Below w.heap.size w w' := by
 go_enter Tryz.func15, Tryz.ntmps15
 go_wp2_with (go_at_call 38; refine (eqFuncS_any lo lo' _ _ _ _ _ _ (k0.keep ((agree_alloc _ _ _).trans (agree_alloc _ _ _))) (n0.keep ((agree_alloc _ _ _).trans (agree_alloc _ _ _)))).mono ?_; rintro e w1 ⟨rfl, hb1⟩)
 go_ret
 exact ⟨rfl, (((Below.refl w.heap.size w).alloc (Nat.le_refl _) _).alloc (by first | (simp; done) | (simp; omega)) _).trans (hb1.mono (by first | (simp; done) | (simp; omega)))⟩
end Go.Proofs.YtojhakjkfkmklaaGreatDoor
namespace Go.Proofs.YtojhakjkfkmklaaGreatDoor
open Go.RowKit
set_option linter.unusedVariables false
def Box1 (w : World) (B : Nat) (n : Nat) (u : Option Addr) (c : Nat) : Prop := B < w.heap.size ∧ w.cell? ⟨B, 0, none⟩ = some (.slice u n c)
theorem Box1.new (w : World) (n : Nat) (u : Option Addr) (c : Nat) (T : TypeId) : Box1 (w.alloc (.cells #[.slice u n c] T)) w.heap.size n u c :=
 ⟨by simp, (cell_of_heap (heap_alloc_last _ _)).trans rfl⟩
theorem Box1.below {w w' : World} {B n : Nat} {u : Option Addr} {c : Nat} (h : Box1 w B n u c) (k : Below w.heap.size w w') : Box1 w' B n u c := ⟨Nat.lt_of_lt_of_le h.1 k.size, (cell_block (k.block _ h.1)).trans h.2⟩
theorem Box1.alloc {w : World} {B n : Nat} {u : Option Addr} {c : Nat} (h : Box1 w B n u c) (o : Obj) : Box1 (w.alloc o) B n u c := h.below ((Below.refl _ _).alloc (Nat.le_refl _) o)
end Go.Proofs.YtojhakjkfkmklaaGreatDoor
