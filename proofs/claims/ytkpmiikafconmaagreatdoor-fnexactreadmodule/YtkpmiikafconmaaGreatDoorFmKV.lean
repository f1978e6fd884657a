import Derived.Test.YtkpmiikafconmaaGreatDoorFmJV
import Derived.Test.YtkpmiikafconmaaGreatDoorFmHV
import Derived.Deep.RegionHeld2
import Derived.Test.YtkpmiikafconmaaGreatDoorSzV
import Derived.Test.YtkpmiikafconmaaGreatDoorFmIV
import Derived.Test.YtkpmiikafconmaaGreatDoorMtAV
import Derived.Test.YtkpmiikafconmaaGreatDoorReAV
namespace Go.Proofs.YtkpmiikafconmaaGreatDoor
open Go.RowKit
set_option linter.unusedVariables false
set_option maxHeartbeats 2000000 in
set_option maxRecDepth 100000 in
theorem funcShS_p (lo : Nat) (d : FuncD) (u0 : Option Addr) (c0 : Nat) (u2 : Option Addr) (c2 : Nat) (funcs : Int) (w : World) (hs : SmFunc d) (k0 : IntsAt w lo u0 d.params) (k2 : BlocksAt w lo u2 d.blocks) (hp : ¬ d.params.length ≤ 4) : Calls Tryz.prog 50 #[.agg #[.slice u0 d.params.length c0, .int .i64 d.ret, .slice u2 d.blocks.length c2], .int .i64 funcs] w fun e w' => e = .returned (.bool (funcB funcs d)) ∧ Below w.heap.size w w' := by
 have HR : Hid (false = funcB funcs d) := by show _ = _; simp [funcB, hp]
 have F0 := FBox.start (d := d) (u0 := u0) (u2 := u2) (c0 := c0) (c2 := c2) (w := w) (T := 55)
 have hbl := hs.2.1
 have i1 : (4 : Int) < d.params.length := by omega
 go_enter Tryz.func50, Tryz.ntmps50
 go_wp2_with fail
 refine (countS_any lo d u0 c0 u2 c2 _ hs (k2.keep (agree_of_below F0.below lo))).mono ?_
 rintro e w1 ⟨rfl, hb1'⟩
 have F1 := F0.keep hb1'
 have b0 := F1.a0
 have b1 := F1.a1
 have b2 := F1.a2
 clear hb1' F0
 go_wp2_with fail
 go_ret
 exact ⟨ret_bool HR.out, F1.below⟩
set_option maxHeartbeats 2000000 in
set_option maxRecDepth 100000 in
theorem funcShS_r (lo : Nat) (d : FuncD) (u0 : Option Addr) (c0 : Nat) (u2 : Option Addr) (c2 : Nat) (funcs : Int) (w : World) (hs : SmFunc d) (k0 : IntsAt w lo u0 d.params) (k2 : BlocksAt w lo u2 d.blocks) (hp : d.params.length ≤ 4) (hr : widthB d.ret = false) : Calls Tryz.prog 50 #[.agg #[.slice u0 d.params.length c0, .int .i64 d.ret, .slice u2 d.blocks.length c2], .int .i64 funcs] w fun e w' => e = .returned (.bool (funcB funcs d)) ∧ Below w.heap.size w w' := by
 have HR : Hid (false = funcB funcs d) := by show _ = _; simp [funcB, hr]
 have F0 := FBox.start (d := d) (u0 := u0) (u2 := u2) (c0 := c0) (c2 := c2) (w := w) (T := 55)
 have hbl := hs.2.1
 have i1 : ¬ (4 : Int) < d.params.length := by omega
 go_enter Tryz.func50, Tryz.ntmps50
 go_wp2_with fail
 refine (countS_any lo d u0 c0 u2 c2 _ hs (k2.keep (agree_of_below F0.below lo))).mono ?_
 rintro e w1 ⟨rfl, hb1'⟩
 have F1 := F0.keep hb1'
 have b0 := F1.a0
 have b1 := F1.a1
 have b2 := F1.a2
 clear hb1' F0
 go_wp2_with (first | (go_at_call 86; refine (widthS _ _).mono ?_; rintro e w' ⟨rfl, rfl⟩))
 go_ret
 exact ⟨ret_bool HR.out, F1.below⟩
set_option maxHeartbeats 2000000 in
set_option maxRecDepth 100000 in
theorem funcShS_b (lo : Nat) (d : FuncD) (u0 : Option Addr) (c0 : Nat) (u2 : Option Addr) (c2 : Nat) (funcs : Int) (w : World) (hs : SmFunc d) (k0 : IntsAt w lo u0 d.params) (k2 : BlocksAt w lo u2 d.blocks) (hp : d.params.length ≤ 4) (hr : widthB d.ret = true) (hb : ¬ (1 ≤ d.blocks.length ∧ d.blocks.length ≤ 10)) : Calls Tryz.prog 50 #[.agg #[.slice u0 d.params.length c0, .int .i64 d.ret, .slice u2 d.blocks.length c2], .int .i64 funcs] w fun e w' => e = .returned (.bool (funcB funcs d)) ∧ Below w.heap.size w w' := by
 have HR : Hid (false = funcB funcs d) := by show _ = _; (by_cases q : 1 ≤ d.blocks.length <;> by_cases q2 : d.blocks.length ≤ 10 <;> simp [funcB, q, q2] <;> omega)
 have F0 := FBox.start (d := d) (u0 := u0) (u2 := u2) (c0 := c0) (c2 := c2) (w := w) (T := 55)
 have hbl := hs.2.1
 have i1 : ¬ (4 : Int) < d.params.length := by omega
 have i2 : (decide (1 ≤ (d.blocks.length : Int)) && decide ((d.blocks.length : Int) ≤ 10)) = false := by simp; omega
 go_enter Tryz.func50, Tryz.ntmps50
 go_wp2_with fail
 refine (countS_any lo d u0 c0 u2 c2 _ hs (k2.keep (agree_of_below F0.below lo))).mono ?_
 rintro e w1 ⟨rfl, hb1'⟩
 have F1 := F0.keep hb1'
 have b0 := F1.a0
 have b1 := F1.a1
 have b2 := F1.a2
 clear hb1' F0
 go_wp2_with (first | (go_at_call 86; refine (widthS _ _).mono ?_; rintro e w' ⟨rfl, rfl⟩) | (go_at_call 49; refine (inS _ _ _ _).mono ?_; rw [i2]; rintro e w' ⟨rfl, rfl⟩))
 go_ret
 exact ⟨ret_bool HR.out, F1.below⟩
set_option maxHeartbeats 2000000 in
set_option maxRecDepth 100000 in
theorem funcShS_n (lo : Nat) (d : FuncD) (u0 : Option Addr) (c0 : Nat) (u2 : Option Addr) (c2 : Nat) (funcs : Int) (w : World) (hs : SmFunc d) (k0 : IntsAt w lo u0 d.params) (k2 : BlocksAt w lo u2 d.blocks) (hp : d.params.length ≤ 4) (hr : widthB d.ret = true) (hb : (1 ≤ d.blocks.length ∧ d.blocks.length ≤ 10)) (hn : ¬ cntF d ≤ 60) : Calls Tryz.prog 50 #[.agg #[.slice u0 d.params.length c0, .int .i64 d.ret, .slice u2 d.blocks.length c2], .int .i64 funcs] w fun e w' => e = .returned (.bool (funcB funcs d)) ∧ Below w.heap.size w w' := by
 have HR : Hid (false = funcB funcs d) := by show _ = _; simp [funcB, hn]
 have F0 := FBox.start (d := d) (u0 := u0) (u2 := u2) (c0 := c0) (c2 := c2) (w := w) (T := 55)
 have hbl := hs.2.1
 have i1 : ¬ (4 : Int) < d.params.length := by omega
 have i2 : (decide (1 ≤ (d.blocks.length : Int)) && decide ((d.blocks.length : Int) ≤ 10)) = true := by simp; omega
 have i4 : (60 : Int) < cntF d := by omega
 go_enter Tryz.func50, Tryz.ntmps50
 go_wp2_with fail
 refine (countS_any lo d u0 c0 u2 c2 _ hs (k2.keep (agree_of_below F0.below lo))).mono ?_
 rintro e w1 ⟨rfl, hb1'⟩
 have F1 := F0.keep hb1'
 have b0 := F1.a0
 have b1 := F1.a1
 have b2 := F1.a2
 clear hb1' F0
 go_wp2_with (first | (go_at_call 86; refine (widthS _ _).mono ?_; rintro e w' ⟨rfl, rfl⟩) | (go_at_call 49; refine (inS _ _ _ _).mono ?_; rw [i2]; rintro e w' ⟨rfl, rfl⟩))
 go_ret
 exact ⟨ret_bool HR.out, F1.below⟩
theorem funcShS (lo : Nat) (d : FuncD) (u0 : Option Addr) (c0 : Nat) (u2 : Option Addr) (c2 : Nat) (funcs : Int) (w : World) (hs : SmFunc d) (k0 : IntsAt w lo u0 d.params) (k2 : BlocksAt w lo u2 d.blocks) (g2 : 0 ≤ funcs) (g3 : funcs ≤ 4611686018427387904) : Calls Tryz.prog 50 #[.agg #[.slice u0 d.params.length c0, .int .i64 d.ret, .slice u2 d.blocks.length c2], .int .i64 funcs] w fun e w' => e = .returned (.bool (funcB funcs d)) ∧ Below w.heap.size w w' := by
 by_cases hp : d.params.length ≤ 4
 ·cases hr : widthB d.ret with
  | false => exact funcShS_r lo d u0 c0 u2 c2 funcs w hs k0 k2 hp hr
  | true =>
   by_cases hb : 1 ≤ d.blocks.length ∧ d.blocks.length ≤ 10
   ·by_cases hn : cntF d ≤ 60
    ·exact funcShS_ok lo d u0 c0 u2 c2 funcs w hs k0 k2 g2 g3 hp hr hb.1 hb.2 hn
    ·exact funcShS_n lo d u0 c0 u2 c2 funcs w hs k0 k2 hp hr hb hn
   ·exact funcShS_b lo d u0 c0 u2 c2 funcs w hs k0 k2 hp hr hb
 ·exact funcShS_p lo d u0 c0 u2 c2 funcs w hs k0 k2 hp
set_option maxHeartbeats 2000000 in
set_option maxRecDepth 100000 in
theorem modShS (lo : Nat) (l : List FuncD) (u0 : Option Addr) (c0 : Nat) (w : World) (hs : SmMod l) (k0 : FuncsAt w lo u0 l) :
  Calls Tryz.prog 25 #[.agg #[.slice u0 l.length c0]] w fun e w' => e = .returned (.bool (modB l)) ∧ Below w.heap.size w w' := by
 have hsl := hs.1
 have HS : Hid (∀ d ∈ l, SmFunc d) := hs.2
 by_cases h1 : 1 ≤ l.length ∧ l.length ≤ 3
 ·have HE : Hid (modB l = l.all (funcB l.length)) := by show _ = _; simp [modB, h1.1, h1.2]
  have i1 : (decide (1 ≤ (l.length : Int)) && decide ((l.length : Int) ≤ 3)) = true := by simp; omega
  clear hs
  go_enter Tryz.func25, Tryz.ntmps25
  go_wp2_with (go_at_call 49; refine (inS _ _ _ _).mono ?_; rw [i1]; rintro e w' ⟨rfl, rfl⟩)
  go_loopw [3] (fun i wr => ∃ j : Nat, j ≤ l.length ∧ i = .int .i64 j ∧ Hid (∀ k, k < j → funcB l.length (l.getD k func0) = true) ∧ Below (w.heap.size + 1) (w.alloc (.cells #[.slice u0 l.length c0] 26)) wr) (fun i _ => l.length - (intOf i).toNat)
  case atStart => exact ⟨0, by omega, rfl, fun k hk => by omega, Below.refl _ _⟩
  case round =>
   obtain ⟨j, hj, rfl, HD, hB⟩ := hrel
   obtain ⟨wp, hwp⟩ : ∃ wp, wp = wr := ⟨_, rfl⟩
   subst hwp
   have hW : Below w.heap.size w wp := below_box hB
   have y0 : wp.cell? ⟨w.heap.size, 0, none⟩ = some (.slice u0 l.length c0) := (cell_block (hB.block w.heap.size (by omega))).trans ((cell_of_heap (heap_alloc_last _ _)).trans rfl)
   have hzw : w.heap.size + 1 ≤ wp.heap.size := by have := hB.size; simp at this; omega
   by_cases hjl : j < l.length
   ·rcases k0.2 with hn | ⟨bb, off, rfl, hlo, hbb, hcell⟩
    ·simp [hn] at hjl
    obtain ⟨⟨p0, q0, h0, m0⟩, h1', ⟨p2, q2, h2, m2⟩⟩ := hcell j hjl
    have hsm := HS.out _ (getD_mem func0 l j hjl)
    generalize hx : l.getD j func0 = x at h0 h1' h2 m0 m2 hsm
    have HX : Hid (l.getD j func0 = x) := hx
    have f0 : wp.cell? ⟨bb, off + j * 3, none⟩ = some (.slice p0 x.params.length q0) := (cell_block (hW.block bb hbb)).trans h0
    have f1 : wp.cell? ⟨bb, off + j * 3 + 1, none⟩ = some (.int .i64 x.ret) := (cell_block (hW.block bb hbb)).trans h1'
    have f2 : wp.cell? ⟨bb, off + j * 3 + 2, none⟩ = some (.slice p2 x.blocks.length q2) := (cell_block (hW.block bb hbb)).trans h2
    have M0 := (m0.keep (agree_of_below hW lo)).keep (agree_of_below (Below.refl wp.heap.size wp).drew lo)
    have M2 := (m2.keep (agree_of_below hW lo)).keep (agree_of_below (Below.refl wp.heap.size wp).drew lo)
    have y0d : wp.drew.cell? ⟨w.heap.size, 0, none⟩ = some (.slice (some ⟨bb, off, none⟩) l.length c0) := y0
    have f0d : wp.drew.cell? ⟨bb, off + j * 3, none⟩ = some (.slice p0 x.params.length q0) := f0
    have f1d : wp.drew.cell? ⟨bb, off + j * 3 + 1, none⟩ = some (.int .i64 x.ret) := f1
    have f2d : wp.drew.cell? ⟨bb, off + j * 3 + 2, none⟩ = some (.slice p2 x.blocks.length q2) := f2
    have hz1 : w.heap.size < wp.heap.size := by omega
    have hz2 : bb < wp.heap.size := Nat.lt_of_lt_of_le hbb hW.size
    have HBA : Hid (Below (w.heap.size + 1) (w.alloc (.cells #[.slice (some ⟨bb, off, none⟩) l.length c0] 26)) wp) := hB
    have B : ∀ B, funcB l.length x = B → ∀ wz : World, wz = wp.drew → Calls Tryz.prog 50 #[.agg #[.slice p0 x.params.length q0, .int .i64 x.ret, .slice p2 x.blocks.length q2], .int .i64 l.length] wz fun e w' => e = .returned (.bool B) ∧ Below wz.heap.size wz w' := fun B h wz e => by
     subst e; rw [← h]; exact funcShS lo x p0 q0 p2 q2 l.length _ hsm M0 M2 (by omega) (by omega)
    have NO : Hid (funcB l.length x = false → false = modB l) := fun h => by
     rw [HE.out]; exact (all_no func0 l j hjl (by rw [HX.out, h]; decide)).symm
    have YES : Hid (funcB l.length x = true → ∀ k, k < j + 1 → funcB l.length (l.getD k func0) = true) := fun h k hk => by
     by_cases e : k = j
     ·subst e; rw [HX.out]; exact h
     ·exact HD.out k (by omega)
    clear hcell h0 h1' h2 m0 m2 hsm hx hB M0 M2 HD k0 hW
    cases hb : funcB l.length x with
    | false =>
     have HF : Hid (false = modB l) := NO.out hb
     have BB := B _ hb
     clear B
     go_wp2_with fail
     go_region_held2 (fun w' => w'.cell? ⟨w.heap.size, 0, none⟩ = some (.slice (some ⟨bb, off, none⟩) l.length c0) ∧ w'.cell? ⟨bb, off + j * 3, none⟩ = some (.slice p0 x.params.length q0) ∧ w'.cell? ⟨bb, off + j * 3 + 1, none⟩ = some (.int .i64 x.ret) ∧ w'.cell? ⟨bb, off + j * 3 + 2, none⟩ = some (.slice p2 x.blocks.length q2)) (first | with_reducible exact ⟨y0d, f0d, f1d, f2d⟩ | with_reducible exact ⟨d0, d1, d2, d3⟩) ((go_at_call 50; refine (BB wp.drew rfl).mono ?_; rintro e w3 ⟨rfl, hb3⟩; have d0 := (cell_block (hb3.block w.heap.size (by exact hz1))).trans y0d; have d1 := (cell_block (hb3.block bb (by exact hz2))).trans f0d; have d2 := (cell_block (hb3.block bb (by exact hz2))).trans f1d; have d3 := (cell_block (hb3.block bb (by exact hz2))).trans f2d))
     all_goals
      have hb4 := drop_drew hb3
      clear d0 d1 d2 d3
      go_wp2_with fail
      go_ret
      exact ⟨ret_bool HF.out, below_box (HBA.out.trans (hb4.mono hzw))⟩
    | true =>
     have HF : Hid (funcB l.length x = true) := hb
     have BB := B _ hb
     clear B
     go_wp2_with fail
     go_region_held2 (fun w' => w'.cell? ⟨w.heap.size, 0, none⟩ = some (.slice (some ⟨bb, off, none⟩) l.length c0) ∧ w'.cell? ⟨bb, off + j * 3, none⟩ = some (.slice p0 x.params.length q0) ∧ w'.cell? ⟨bb, off + j * 3 + 1, none⟩ = some (.int .i64 x.ret) ∧ w'.cell? ⟨bb, off + j * 3 + 2, none⟩ = some (.slice p2 x.blocks.length q2)) (first | with_reducible exact ⟨y0d, f0d, f1d, f2d⟩ | with_reducible exact ⟨d0, d1, d2, d3⟩) ((go_at_call 50; refine (BB wp.drew rfl).mono ?_; rintro e w3 ⟨rfl, hb3⟩; have d0 := (cell_block (hb3.block w.heap.size (by exact hz1))).trans y0d; have d1 := (cell_block (hb3.block bb (by exact hz2))).trans f0d; have d2 := (cell_block (hb3.block bb (by exact hz2))).trans f1d; have d3 := (cell_block (hb3.block bb (by exact hz2))).trans f2d))
     all_goals
      have hb4 := drop_drew hb3
      clear d0 d1 d2 d3
      go_wp2_with fail
      go_roundw
      case rel => exact ⟨j + 1, by omega, by go_num, YES.out HF.out, HBA.out.trans (hb4.mono hzw)⟩
      case measure => simp [intOf]; omega
   ·have HF : Hid (true = modB l) := by
     show _ = _
     rw [HE.out]; exact (all_yes func0 l (fun k hk => HD.out k (by omega))).symm
    go_wp2_with fail
    go_ret
    exact ⟨ret_bool HF.out, hW⟩
 ·have HR : Hid (false = modB l) := by show _ = _; (by_cases q : 1 ≤ l.length <;> by_cases q2 : l.length ≤ 3 <;> simp [modB, q, q2] <;> omega)
  have i1 : (decide (1 ≤ (l.length : Int)) && decide ((l.length : Int) ≤ 3)) = false := by simp; omega
  clear hs
  go_enter Tryz.func25, Tryz.ntmps25
  go_wp2_with (go_at_call 49; refine (inS _ _ _ _).mono ?_; rw [i1]; rintro e w' ⟨rfl, rfl⟩)
  go_ret
  exact ⟨ret_bool HR.out, (Below.refl _ _).alloc (Nat.le_refl _) _⟩
end Go.Proofs.YtkpmiikafconmaaGreatDoor
namespace Go.Proofs.YtkpmiikafconmaaGreatDoor
open Go.RowKit
end Go.Proofs.YtkpmiikafconmaaGreatDoor
namespace Go.Proofs.YtkpmiikafconmaaGreatDoor
open Go.RowKit
set_option maxHeartbeats 2000000 in
theorem eqFuncS_any (lo lo' : Nat) (a b : Option Addr) (ca cb : Nat) (l : List FuncD) (w : World) (ha : FuncsAt w lo a l) (hb : FuncsAt w lo' b l) :
  Calls Tryz.prog 34 #[.slice a l.length ca, .slice b l.length cb] w fun e w' => e = .returned (.bool true) ∧ Below w.heap.size w w' := by
 have hm := ha.1
 go_enter Tryz.func34, Tryz.ntmps34
 go_wp2_with fail
 go_loopw [5] (fun i wr => ∃ (k : Nat), k ≤ l.length ∧ i = .int .i64 k ∧ Below w.heap.size w wr) (fun i _ => l.length - (intOf i).toNat)
 case atStart => exact ⟨0, by omega, rfl, Below.refl _ _⟩
 case round =>
  obtain ⟨k, hk, rfl, hB⟩ := hrel
  by_cases hlt : k < l.length
  ·rcases ha.2 with rfl | ⟨ba, offa, rfl, hla, hba, hca⟩
   ·simp at hlt
   rcases hb.2 with rfl | ⟨bb, offb, rfl, hlb, hbb, hcb⟩
   ·simp at hlt
   obtain ⟨⟨u0, c0, h0, k0⟩, h1, ⟨u2, c2, h2, k2⟩⟩ := hca k hlt
   obtain ⟨⟨v0, q0, g0, n0⟩, g1, ⟨v2, q2, g2, n2⟩⟩ := hcb k hlt
   generalize l.getD k func0 = d at h0 g0 h1 g1 h2 g2 k0 n0 k2 n2
   have e0 : wr.cell? ⟨ba, offa + k * 3, none⟩ = some (.slice u0 d.params.length c0) := (cell_block (hB.block ba hba)).trans h0
   have f0 : wr.cell? ⟨bb, offb + k * 3, none⟩ = some (.slice v0 d.params.length q0) := (cell_block (hB.block bb hbb)).trans g0
   have m0 := k0.keep (agree_of_below hB _)
   have o0 := n0.keep (agree_of_below hB _)
   have e1 : wr.cell? ⟨ba, offa + k * 3 + 1, none⟩ = some (.int .i64 d.ret) := (cell_block (hB.block ba hba)).trans h1
   have f1 : wr.cell? ⟨bb, offb + k * 3 + 1, none⟩ = some (.int .i64 d.ret) := (cell_block (hB.block bb hbb)).trans g1
   have e2 : wr.cell? ⟨ba, offa + k * 3 + 2, none⟩ = some (.slice u2 d.blocks.length c2) := (cell_block (hB.block ba hba)).trans h2
   have f2 : wr.cell? ⟨bb, offb + k * 3 + 2, none⟩ = some (.slice v2 d.blocks.length q2) := (cell_block (hB.block bb hbb)).trans g2
   have m2 := k2.keep (agree_of_below hB _)
   have o2 := n2.keep (agree_of_below hB _)
   have HB : Hid (Below w.heap.size w wr) := hB
   clear hca hcb hB ha hb h0 g0 h1 g1 h2 g2 k0 n0 k2 n2
   go_wp2_with fail
   go_region_with (go_at_call 64; refine (eqFunc_any lo lo' d _ _ _ _ _ _ _ _ _ (by exact m0) (by exact m2) (by exact o0) (by exact o2)).mono ?_; rintro e w1 ⟨rfl, hb1⟩)
   all_goals
    go_wp2_with fail
    go_roundw
    case rel =>
     have hx := HB.out
     have hy := hb1.mono (B' := w.heap.size) hx.size
     exact ⟨k + 1, by omega, by go_num, ⟨hy.os.trans hx.os, hy.tape.trans hx.tape, hy.output.trans hx.output, Nat.le_trans hx.size hy.size, fun i hi => (hy.block i hi).trans (hx.block i hi)⟩⟩
    case measure => simp [intOf]; omega
  ·go_wp2_with fail
   go_ret
   exact ⟨rfl, hB⟩
set_option maxHeartbeats 2000000 in
theorem eqModule_any (lo lo' : Nat) (l : List FuncD) (u0 : Option Addr) (c0 : Nat) (v0 : Option Addr) (q0 : Nat) (w : World) (k0 : FuncsAt w lo u0 l) (n0 : FuncsAt w lo' v0 l) :
  Calls Tryz.prog 13 #[.agg #[.slice u0 l.length c0], .agg #[.slice v0 l.length q0]] w fun e w' => e = .returned (.bool true) ∧ Below w.heap.size w w' := by
 go_enter Tryz.func13, Tryz.ntmps13
 go_wp2_with (go_at_call 34; refine (eqFuncS_any lo lo' _ _ _ _ _ _ (k0.keep ((agree_alloc _ _ _).trans (agree_alloc _ _ _))) (n0.keep ((agree_alloc _ _ _).trans (agree_alloc _ _ _)))).mono ?_; rintro e w1 ⟨rfl, hb1⟩)
 go_ret
 exact ⟨rfl, (((Below.refl w.heap.size w).alloc (Nat.le_refl _) _).alloc (by first | (simp; done) | (simp; omega)) _).trans (hb1.mono (by first | (simp; done) | (simp; omega)))⟩
end Go.Proofs.YtkpmiikafconmaaGreatDoor
namespace Go.Proofs.YtkpmiikafconmaaGreatDoor
open Go.RowKit
set_option linter.unusedVariables false
def Box1 (w : World) (B : Nat) (n : Nat) (u : Option Addr) (c : Nat) : Prop := B < w.heap.size ∧ w.cell? ⟨B, 0, none⟩ = some (.slice u n c)
theorem Box1.new (w : World) (n : Nat) (u : Option Addr) (c : Nat) (T : TypeId) : Box1 (w.alloc (.cells #[.slice u n c] T)) w.heap.size n u c :=
 ⟨by simp, (cell_of_heap (heap_alloc_last _ _)).trans rfl⟩
theorem Box1.below {w w' : World} {B n : Nat} {u : Option Addr} {c : Nat} (h : Box1 w B n u c) (k : Below w.heap.size w w') : Box1 w' B n u c := ⟨Nat.lt_of_lt_of_le h.1 k.size, (cell_block (k.block _ h.1)).trans h.2⟩
theorem Box1.alloc {w : World} {B n : Nat} {u : Option Addr} {c : Nat} (h : Box1 w B n u c) (o : Obj) : Box1 (w.alloc o) B n u c := h.below ((Below.refl _ _).alloc (Nat.le_refl _) o)
end Go.Proofs.YtkpmiikafconmaaGreatDoor
namespace Go.Proofs.YtkpmiikafconmaaGreatDoor
open Go.RowKit
set_option linter.unusedVariables false
set_option linter.unusedSimpArgs false
theorem mod_lnok {l : List FuncD} (h : modB l = true) : ∀ x ∈ modL l, LnOk x := by
 obtain ⟨h1, h2⟩ := mod_ok h
 intro x hx
 obtain ⟨f, hf, hx⟩ := List.mem_flatMap.1 hx
 have hF := h2 f hf
 unfold funL at hx
 rcases List.mem_cons.1 hx with rfl | hx
 ·exact hF.h
 ·obtain ⟨b, hb, hx⟩ := List.mem_flatMap.1 hx
  have hB := hF.b b hb
  unfold blkL at hx
  rcases List.mem_cons.1 hx with rfl | hx
  ·exact ⟨by show 5 ≤ 6; omega, by show 0 ≤ 20; omega, sm_nil⟩
  ·rcases List.mem_append.1 hx with hx | hx
   ·rcases List.mem_append.1 hx with hx | hx
    ·obtain ⟨p, hp, rfl⟩ := List.mem_map.1 hx; exact hB.p p hp
    ·obtain ⟨i, hi, rfl⟩ := List.mem_map.1 hx; exact hB.ins i hi
   ·rw [List.mem_singleton.1 hx]; exact trm_ok hB.t
end Go.Proofs.YtkpmiikafconmaaGreatDoor
namespace Go.Proofs.YtkpmiikafconmaaGreatDoor
open Go.RowKit
set_option linter.unusedVariables false
set_option linter.unusedSimpArgs false
def LineIs (b : ByteArray) (x : Ln) : Prop := ∃ w0 ws, pieces b = w0 :: ws ∧ w0 = bs x.1 ∧ NumsIs ws x.2
theorem LineIs.one {b : ByteArray} {x y : Ln} (h : LineIs b x) (k : LineIs b y) : x = y := by
 obtain ⟨w0, ws, h1, h2, h3⟩ := h
 obtain ⟨v0, vs, k1, k2, k3⟩ := k
 rw [h1] at k1
 obtain ⟨rfl, rfl⟩ := List.cons.inj k1
 obtain ⟨a, l⟩ := x
 obtain ⟨c, m⟩ := y
 dsimp only at h2 h3 k2 k3
 rw [bs_inj (h2.symm.trans k2), h3.one k3]
theorem LineIs.text {b : ByteArray} {x : Ln} (h : LineIs b x) : b.data.toList = x.1 ++ numsL x.2 := by
 obtain ⟨w0, ws, h1, h2, h3⟩ := h
 rw [← join_pieces b.size b (Nat.le_refl _), h1, h3.map, h2, List.map_cons, List.map_map]
 exact nums_join x.1 x.2
theorem line_back {x : Ln} (hb : (32 : UInt8) ∉ x.1) (hs : SmN x.2) : LineIs (bs (x.1 ++ numsL x.2)) x := by
 refine ⟨bs x.1, x.2.map fun n => bs (Lib.itoa n), ?_, rfl, nums_is hs⟩
 refine pieces_join _ (by simp) (fun y hy => ?_) _ ?_
 ·rcases List.mem_cons.1 hy with rfl | hy
  ·exact hb
  ·obtain ⟨n, hn, rfl⟩ := List.mem_map.1 hy
   obtain ⟨k, e, _⟩ := hs n hn
   rw [e, itoa_nat]
   exact digits_blank k
 ·rw [List.map_cons, List.map_map]
  exact (nums_join x.1 x.2).symm
def LinesIs (P : List ByteArray) (L : List Ln) : Prop := P.length = L.length ∧ ∀ i, i < P.length → LineIs (P.getD i ⟨#[]⟩) (L.getD i ([], []))
theorem LinesIs.nil : LinesIs [] [] := ⟨rfl, fun i hi => by simp at hi⟩
theorem LinesIs.cons {b : ByteArray} {x : Ln} {P : List ByteArray} {L : List Ln} (h : LineIs b x) (k : LinesIs P L) : LinesIs (b :: P) (x :: L) :=
 ⟨by simp [k.1], fun i hi => by
  cases i with
  | zero => exact h
  | succ i => exact k.2 i (by simpa using hi)⟩
theorem LinesIs.tail {b : ByteArray} {x : Ln} {P : List ByteArray} {L : List Ln} (h : LinesIs (b :: P) (x :: L)) : LineIs b x ∧ LinesIs P L :=
 ⟨h.2 0 (by simp), by have := h.1; simpa using this, fun i hi => h.2 (i + 1) (by simpa using hi)⟩
theorem LinesIs.one : ∀ {P : List ByteArray} {L M : List Ln}, LinesIs P L → LinesIs P M → L = M
 | [], L, M, h, k => by rw [List.length_eq_zero_iff.1 h.1.symm, List.length_eq_zero_iff.1 k.1.symm]
 | b :: P, [], M, h, k => by have := h.1; simp at this
 | b :: P, x :: L, [], h, k => by have := k.1; simp at this
 | b :: P, x :: L, y :: M, h, k => by
  rw [h.tail.1.one k.tail.1, h.tail.2.one k.tail.2]
theorem LinesIs.snoc {b : ByteArray} {x : Ln} : ∀ {P : List ByteArray} {L : List Ln}, LinesIs P L → LineIs b x → LinesIs (P ++ [b]) (L ++ [x])
 | [], [], h, k => LinesIs.nil.cons k
 | [], _ :: _, h, k => by have := h.1; simp at this
 | _ :: _, [], h, k => by have := h.1; simp at this
 | _ :: _, _ :: _, h, k => LinesIs.cons h.tail.1 (h.tail.2.snoc k)
def xLn (x : Ln) : List UInt8 := x.1 ++ numsL x.2
theorem lines_text : ∀ {P : List ByteArray} {L : List Ln}, LinesIs P L → P.map (·.data.toList) = L.map xLn
 | [], L, h => by rw [List.length_eq_zero_iff.1 h.1.symm]; rfl
 | b :: P, [], h => by have := h.1; simp at this
 | b :: P, x :: L, h => by
  rw [List.map_cons, List.map_cons, lines_text h.tail.2, h.tail.1.text]
  rfl
theorem join_flat : ∀ {L : List Ln}, L ≠ [] → Lib.join (L.map xLn) [10] ++ [10] = L.flatMap lnT
 | [], h => absurd rfl h
 | [x], _ => by
  show Lib.join [xLn x] [10] ++ [10] = _
  rw [Lib.join_one]
  simp [lnT, xLn]
 | x :: y :: L, _ => by
  have ih := join_flat (L := y :: L) (by simp)
  rw [List.map_cons, List.map_cons, join_moreN, List.flatMap_cons, ← ih, List.map_cons]
  simp [lnT, xLn]
def OkT (s : ByteArray) (l : List FuncD) : Prop := modB l = true ∧ s = bs (xMod l) ∧ s.size ≤ 20000
theorem modL_ne {l : List FuncD} (h : modB l = true) : modL l ≠ [] := by
 simp only [modB, Bool.and_eq_true, decide_eq_true_eq] at h
 cases l with
 | nil => have := h.1.1; simp at this
 | cons f l => unfold modL funL; simp
theorem opWL_line (k : Nat) : (10 : UInt8) ∉ opWL.getD k [] := by
 rcases Nat.lt_or_ge k 28 with h | h
 ·have : ∀ k : Fin 28, (10 : UInt8) ∉ opWL.getD k.1 [] := by decide
  exact this ⟨k, h⟩
 ·rw [List.getD, List.getElem?_eq_none (by simpa [opWL] using h)]
  decide
theorem tmWL_plain (k : Nat) : (10 : UInt8) ∉ tmWL.getD k [] ∧ (32 : UInt8) ∉ tmWL.getD k [] := by
 rcases Nat.lt_or_ge k 5 with h | h
 ·have : ∀ k : Fin 5, (10 : UInt8) ∉ tmWL.getD k.1 [] ∧ (32 : UInt8) ∉ tmWL.getD k.1 [] := by decide
  exact this ⟨k, h⟩
 ·rw [List.getD, List.getElem?_eq_none (by simpa [tmWL] using h)]
  decide
theorem mod_plain {l : List FuncD} : ∀ x ∈ modL l, (10 : UInt8) ∉ x.1 ∧ (32 : UInt8) ∉ x.1 := fun x hx => by
 obtain ⟨f, _, hx⟩ := List.mem_flatMap.1 hx
 unfold funL at hx
 rcases List.mem_cons.1 hx with rfl | hx
 ·dsimp only
  exact ⟨by decide, by decide⟩
 ·obtain ⟨b, _, hx⟩ := List.mem_flatMap.1 hx
  unfold blkL at hx
  rcases List.mem_cons.1 hx with rfl | hx
  ·exact ⟨by decide, by decide⟩
  ·rcases List.mem_append.1 hx with hx | hx
   ·rcases List.mem_append.1 hx with hx | hx
    ·obtain ⟨p, _, rfl⟩ := List.mem_map.1 hx
     exact ⟨by show _ ∉ [_, _, _]; decide, by show _ ∉ [_, _, _]; decide⟩
    ·obtain ⟨i, _, rfl⟩ := List.mem_map.1 hx
     exact ⟨opWL_line _, opWL_blank _⟩
   ·obtain rfl := List.mem_singleton.1 hx
    exact tmWL_plain _
theorem nums_line {l : List Int} (h : SmN l) : (10 : UInt8) ∉ numsL l := fun hm => by
 unfold numsL at hm
 obtain ⟨n, hn, hm⟩ := List.mem_flatMap.1 hm
 obtain ⟨k, e, _⟩ := h n hn
 rcases List.mem_cons.1 hm with hm | hm
 ·cases hm
 ·rw [e, itoa_nat] at hm
  have := digits_all k 10 hm
  have e : (10 : UInt8).toNat = 10 := rfl
  omega
theorem lines_is : ∀ {L : List Ln}, (∀ x ∈ L, (32 : UInt8) ∉ x.1 ∧ SmN x.2) → LinesIs (L.map fun x => bs (xLn x)) L
 | [], _ => LinesIs.nil
 | x :: L, h => LinesIs.cons (line_back (h x (List.mem_cons_self ..)).1 (h x (List.mem_cons_self ..)).2) (lines_is fun y hy => h y (List.mem_cons_of_mem _ hy))
theorem okt_lines {s : ByteArray} {l : List FuncD} (h : OkT s l) : ∃ b : ByteArray, s.data.toList = b.data.toList ++ [10] ∧ LinesIs (piecesN b) (modL l) := by
 have hn := modL_ne h.1
 have hok := mod_lnok h.1
 refine ⟨bs (Lib.join ((modL l).map xLn) [10]), ?_, ?_⟩
 ·rw [h.2.1]
  show xMod l = _
  rw [← mod_lines, ← join_flat hn]
  rfl
 ·have e : piecesN (bs (Lib.join ((modL l).map xLn) [10])) = (modL l).map fun x => bs (xLn x) := by
   refine pieces_joinN _ (by simpa using hn) (fun y hy => ?_) _ ?_
   ·obtain ⟨x, hx, rfl⟩ := List.mem_map.1 hy
    show (10 : UInt8) ∉ xLn x
    unfold xLn
    rw [List.mem_append]
    rintro (h1 | h1)
    ·exact (mod_plain x hx).1 h1
    ·exact nums_line (hok x hx).s h1
   ·rw [List.map_map]
    rfl
  rw [e]
  exact lines_is fun x hx => ⟨(mod_plain x hx).2, (hok x hx).s⟩
theorem okt_back {s b : ByteArray} {l : List FuncD} {L : List Ln} (hz : s.size ≤ 20000) (hs : s.data.toList = b.data.toList ++ [10]) (hL : LinesIs (piecesN b) L) (hq : qMod L = some l) (hm : modB l = true) : OkT s l := by
 refine ⟨hm, ba_ext ?_, hz⟩
 have e := qMod_yes hq hm
 subst e
 show _ = xMod l
 rw [hs, ← mod_lines, ← join_flat (modL_ne hm), ← lines_text hL, join_piecesN b.size b (Nat.le_refl _)]
theorem okt_iff {s b : ByteArray} {L : List Ln} (hz : s.size ≤ 20000) (hs : s.data.toList = b.data.toList ++ [10]) (hL : LinesIs (piecesN b) L) (l : List FuncD) : OkT s l ↔ qMod L = some l ∧ modB l = true := by
 constructor
 ·intro h
  obtain ⟨b2, h1, h2⟩ := okt_lines h
  have e : b = b2 := ba_ext (List.append_cancel_right (hs.symm.trans h1))
  subst e
  rw [hL.one h2]
  exact ⟨qMod_back h.1, h.1⟩
 ·rintro ⟨h1, h2⟩
  exact okt_back hz hs hL h1 h2
theorem okt_no {s b : ByteArray} (hs : s.data.toList = b.data.toList ++ [10]) (h : ¬ ∃ L, LinesIs (piecesN b) L) : ¬ ∃ l, OkT s l := fun ⟨l, hl⟩ => by
 obtain ⟨b2, h1, h2⟩ := okt_lines hl
 have e : b = b2 := ba_ext (List.append_cancel_right (hs.symm.trans h1))
 subst e
 exact h ⟨_, h2⟩
theorem okt_end {s : ByteArray} (h : ¬ ∃ b : ByteArray, s.data.toList = b.data.toList ++ [10]) : ¬ ∃ l, OkT s l := fun ⟨l, hl⟩ => by
 obtain ⟨b2, h1, _⟩ := okt_lines hl
 exact h ⟨b2, h1⟩
theorem okt_one {s : ByteArray} {l m : List FuncD} (h : OkT s l) (k : OkT s m) : l = m := by
 obtain ⟨b, h1, h2⟩ := okt_lines h
 have := ((okt_iff h.2.2 h1 h2 m).1 k).1
 rw [qMod_back h.1] at this
 exact Option.some.inj this
end Go.Proofs.YtkpmiikafconmaaGreatDoor
