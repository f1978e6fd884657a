import Derived.Test.YtgojlnclpebdcaaGreatDoorMemR
import Derived.Test.YtgojlnclpebdcaaGreatDoorKndR
import Derived.Test.YtgojlnclpebdcaaGreatDoorRows
import Derived.WalkKit
namespace Go.Proofs.YtgojlnclpebdcaaGreatDoor
open Go.RowKit
def typeF (d : FuncD) (id : Int) : Int :=
 if (placeF d id).1 = -2 then -1 else if (placeF d id).1 = -1 then d.params.getD (placeF d id).2.toNat 0 else
 if (placeF d id).2 < (d.blocks.getD (placeF d id).1.toNat block0).phis.length then ((d.blocks.getD (placeF d id).1.toNat block0).phis.getD (placeF d id).2.toNat phi0).w
 else instW ((d.blocks.getD (placeF d id).1.toNat block0).insts.getD ((placeF d id).2 - (d.blocks.getD (placeF d id).1.toNat block0).phis.length).toNat inst0)
theorem placeL_cases : ∀ (r : List BlockD) (b : Nat) (x : Int), 0 ≤ x → placeL r b x = (-2, 0) ∨ ∃ i j : Nat, i < r.length ∧ j < cntB (r.getD i block0) ∧ placeL r b x = (((b + i : Nat) : Int), (j : Int))
 | [], _, _, _ => .inl rfl
 | d :: r, b, x, hx => by
  unfold placeL
  by_cases h : x < cntB d
  ·rw [if_pos h]
   exact .inr ⟨0, x.toNat, by simp, by simp; omega, by simp; omega⟩
  ·rw [if_neg h]
   rcases placeL_cases r (b + 1) (x - cntB d) (by omega) with k | ⟨i, j, k1, k2, k3⟩
   ·exact .inl k
   ·refine .inr ⟨i + 1, j, by simp; omega, by simpa using k2, ?_⟩
    rw [k3, show b + 1 + i = b + (i + 1) by omega]
theorem place_cases (d : FuncD) (id : Int) : placeF d id = (-2, 0) ∨ (∃ j : Nat, j < d.params.length ∧ placeF d id = (-1, (j : Int))) ∨ ∃ k j : Nat, k < d.blocks.length ∧ j < cntB (d.blocks.getD k block0) ∧ placeF d id = ((k : Int), (j : Int)) := by
 unfold placeF
 by_cases h1 : id < 0
 ·rw [if_pos h1]; exact .inl rfl
 ·rw [if_neg h1]
  by_cases h2 : id < d.params.length
  ·rw [if_pos h2]; exact .inr (.inl ⟨id.toNat, by omega, by simp; omega⟩)
  ·rw [if_neg h2]
   rcases placeL_cases d.blocks 0 (id - d.params.length) (by omega) with k | ⟨i, j, k1, k2, k3⟩
   ·exact .inl k
   ·exact .inr (.inr ⟨i, j, k1, k2, by rw [k3]; simp⟩)
set_option maxHeartbeats 4000000 in
theorem typeS_any_none (lo : Nat) (d : FuncD) (u0 : Option Addr) (c0 : Nat) (u2 : Option Addr) (c2 : Nat) (id : Int) (w : World) (hs : SmFunc d) (_k0 : IntsAt w lo u0 d.params) (k2 : BlocksAt w lo u2 d.blocks) (hi : id ≤ 9223372036854775807) (h : placeF d id = (-2, 0)) :
  Calls Tryz.prog 95 #[.agg #[.slice u0 d.params.length c0, .int .i64 d.ret, .slice u2 d.blocks.length c2], .int .i64 id] w fun e w' => e = .returned (.int .i64 (typeF d id)) ∧ Below w.heap.size w w' := by
 have E : Hid (-1 = typeF d id) := by show _ = _; simp [typeF, h]
 have q1 : (placeF d id).1 = -2 := by rw [h]
 have q2 : (placeF d id).2 = 0 := by rw [h]
 clear h
 go_enter Tryz.func95, Tryz.ntmps95
 go_wp2_with fail
 refine (placeS_any lo d _ _ _ _ _ _ hs (k2.keep (agree_alloc _ _ _)) hi).mono ?_
 rintro e w1 ⟨rfl, hb1⟩
 have hx1 := box_first hb1
 obtain ⟨p1, p2, p3⟩ := box3 hx1
 have hW := below_box hx1
 have HW : Hid (Below w.heap.size w w1) := hW
 clear hW hx1
 go_wp2_with fail
 go_ret
 exact ⟨ret_i E.out, HW.out⟩
set_option maxHeartbeats 4000000 in
theorem typeS_any_par (lo : Nat) (d : FuncD) (u0 : Option Addr) (c0 : Nat) (u2 : Option Addr) (c2 : Nat) (id : Int) (w : World) (hs : SmFunc d) (k0 : IntsAt w lo u0 d.params) (k2 : BlocksAt w lo u2 d.blocks) (hi : id ≤ 9223372036854775807) (j : Nat) (hj : j < d.params.length) (h : placeF d id = (-1, (j : Int))) :
  Calls Tryz.prog 95 #[.agg #[.slice u0 d.params.length c0, .int .i64 d.ret, .slice u2 d.blocks.length c2], .int .i64 id] w fun e w' => e = .returned (.int .i64 (typeF d id)) ∧ Below w.heap.size w w' := by
 have E : Hid (d.params.getD j 0 = typeF d id) := by show _ = _; simp [typeF, h]
 have q1 : (placeF d id).1 = -1 := by rw [h]
 have q2 : (placeF d id).2 = (j : Int) := by rw [h]
 clear h
 have hp := hs.1
 go_enter Tryz.func95, Tryz.ntmps95
 go_wp2_with fail
 refine (placeS_any lo d _ _ _ _ _ _ hs (k2.keep (agree_alloc _ _ _)) hi).mono ?_
 rintro e w1 ⟨rfl, hb1⟩
 have hx1 := box_first hb1
 obtain ⟨p1, p2, p3⟩ := box3 hx1
 have hW := below_box hx1
 rcases k0.2 with hn | ⟨b, off, rfl, hlo, hb, hcell⟩
 ·simp [hn] at hj
 have e0 : w1.cell? ⟨b, off + j, none⟩ = some (.int .i64 (d.params.getD j 0)) := (cell_block (hW.block b hb)).trans (hcell j hj)
 have HW : Hid (Below w.heap.size w w1) := hW
 generalize d.params.getD j 0 = pv at e0 E
 clear hW hx1 hcell
 go_wp2_with fail
 go_ret
 exact ⟨ret_i E.out, HW.out⟩
set_option maxHeartbeats 4000000 in
theorem typeS_any_phi (lo : Nat) (d : FuncD) (u0 : Option Addr) (c0 : Nat) (u2 : Option Addr) (c2 : Nat) (id : Int) (w : World) (hs : SmFunc d) (_k0 : IntsAt w lo u0 d.params) (k2 : BlocksAt w lo u2 d.blocks) (hi : id ≤ 9223372036854775807) (k j : Nat) (hk : k < d.blocks.length) (hj : j < (d.blocks.getD k block0).phis.length) (h : placeF d id = ((k : Int), (j : Int))) :
  Calls Tryz.prog 95 #[.agg #[.slice u0 d.params.length c0, .int .i64 d.ret, .slice u2 d.blocks.length c2], .int .i64 id] w fun e w' => e = .returned (.int .i64 (typeF d id)) ∧ Below w.heap.size w w' := by
 have E : Hid (((d.blocks.getD k block0).phis.getD j phi0).w = typeF d id) := by
  show _ = _
  have a1 : ¬ ((k : Int) = -2) := by omega
  have a2 : ¬ ((k : Int) = -1) := by omega
  have a3 : (j : Int) < (d.blocks.getD k block0).phis.length := by omega
  simp only [typeF, h, if_neg a1, if_neg a2, Int.toNat_natCast, if_pos a3]
 have q1 : (placeF d id).1 = (k : Int) := by rw [h]
 have q2 : (placeF d id).2 = (j : Int) := by rw [h]
 clear h
 go_enter Tryz.func95, Tryz.ntmps95
 go_wp2_with fail
 refine (placeS_any lo d _ _ _ _ _ _ hs (k2.keep (agree_alloc _ _ _)) hi).mono ?_
 rintro e w1 ⟨rfl, hb1⟩
 have hx1 := box_first hb1
 obtain ⟨p1, p2, p3⟩ := box3 hx1
 have hW := below_box hx1
 rcases k2.2 with hn | ⟨b, off, rfl, hlo, hb, hcell⟩
 ·simp [hn] at hk
 obtain ⟨⟨v0, r0, g0, n0⟩, ⟨v1, r1, g1, n1⟩, g2, g3, g4, g5⟩ := hcell k hk
 have hsm := hs.2.2 _ (getD_mem block0 d.blocks k hk)
 generalize d.blocks.getD k block0 = x at *
 have e0 : w1.cell? ⟨b, off + k * 6, none⟩ = some (.slice v0 x.phis.length r0) := (cell_block (hW.block b hb)).trans g0
 have e1 : w1.cell? ⟨b, off + k * 6 + 1, none⟩ = some (.slice v1 x.insts.length r1) := (cell_block (hW.block b hb)).trans g1
 have e2 : w1.cell? ⟨b, off + k * 6 + 2, none⟩ = some (.int .i64 x.term.kind) := (cell_block (hW.block b hb)).trans g2
 have e3 : w1.cell? ⟨b, off + k * 6 + 3, none⟩ = some (.int .i64 x.term.a) := (cell_block (hW.block b hb)).trans g3
 have e4 : w1.cell? ⟨b, off + k * 6 + 4, none⟩ = some (.int .i64 x.term.x) := (cell_block (hW.block b hb)).trans g4
 have e5 : w1.cell? ⟨b, off + k * 6 + 5, none⟩ = some (.int .i64 x.term.y) := (cell_block (hW.block b hb)).trans g5
 have s0 := hsm.1.1
 have s1 := hsm.2.1
 have hbl := hs.2.1
 have HW : Hid (Below w.heap.size w w1) := hW
 rcases n0.2 with hn | ⟨bp, op, rfl, hlp, hbp, hcp⟩
 ·simp [hn] at hj
 have f0 : w1.cell? ⟨bp, op + j * 2, none⟩ = some (.int .i64 (x.phis.getD j phi0).w) := (cell_block (hW.block bp hbp)).trans (hcp j hj).1
 have z1 : bp < w1.heap.size := Nat.lt_of_lt_of_le hbp hW.size
 generalize (x.phis.getD j phi0).w = pv at f0 E
 clear hW hx1 hcell hcp g0 g1 g2 g3 g4 g5 n0 n1 hsm _k0 k2
 go_wp2_with fail
 go_ret
 exact ⟨ret_i E.out, by first | exact HW.out | exact HW.out.alloc HW.out.size _⟩
set_option maxHeartbeats 4000000 in
theorem typeS_any_inst (lo : Nat) (d : FuncD) (u0 : Option Addr) (c0 : Nat) (u2 : Option Addr) (c2 : Nat) (id : Int) (w : World) (hs : SmFunc d) (_k0 : IntsAt w lo u0 d.params) (k2 : BlocksAt w lo u2 d.blocks) (hi : id ≤ 9223372036854775807) (k j : Nat) (hk : k < d.blocks.length) (hj : j < (d.blocks.getD k block0).insts.length) (h : placeF d id = ((k : Int), (((d.blocks.getD k block0).phis.length + j : Nat) : Int))) :
  Calls Tryz.prog 95 #[.agg #[.slice u0 d.params.length c0, .int .i64 d.ret, .slice u2 d.blocks.length c2], .int .i64 id] w fun e w' => e = .returned (.int .i64 (typeF d id)) ∧ Below w.heap.size w w' := by
 have E : Hid (instW ((d.blocks.getD k block0).insts.getD j inst0) = typeF d id) := by
  show _ = _
  have a1 : ¬ ((k : Int) = -2) := by omega
  have a2 : ¬ ((k : Int) = -1) := by omega
  have a3 : ¬ ((((d.blocks.getD k block0).phis.length + j : Nat) : Int) < (d.blocks.getD k block0).phis.length) := by omega
  have a4 : ((((d.blocks.getD k block0).phis.length + j : Nat) : Int) - (d.blocks.getD k block0).phis.length).toNat = j := by omega
  simp only [typeF, h, if_neg a1, if_neg a2, Int.toNat_natCast, if_neg a3, a4]
 have q1 : (placeF d id).1 = (k : Int) := by rw [h]
 have q2 : (placeF d id).2 = ((d.blocks.getD k block0).phis.length : Int) + (j : Int) := by rw [h]; simp
 clear h
 go_enter Tryz.func95, Tryz.ntmps95
 go_wp2_with fail
 refine (placeS_any lo d _ _ _ _ _ _ hs (k2.keep (agree_alloc _ _ _)) hi).mono ?_
 rintro e w1 ⟨rfl, hb1⟩
 have hx1 := box_first hb1
 obtain ⟨p1, p2, p3⟩ := box3 hx1
 have hW := below_box hx1
 rcases k2.2 with hn | ⟨b, off, rfl, hlo, hb, hcell⟩
 ·simp [hn] at hk
 obtain ⟨⟨v0, r0, g0, n0⟩, ⟨v1, r1, g1, n1⟩, g2, g3, g4, g5⟩ := hcell k hk
 have hsm := hs.2.2 _ (getD_mem block0 d.blocks k hk)
 generalize d.blocks.getD k block0 = x at *
 have e0 : w1.cell? ⟨b, off + k * 6, none⟩ = some (.slice v0 x.phis.length r0) := (cell_block (hW.block b hb)).trans g0
 have e1 : w1.cell? ⟨b, off + k * 6 + 1, none⟩ = some (.slice v1 x.insts.length r1) := (cell_block (hW.block b hb)).trans g1
 have e2 : w1.cell? ⟨b, off + k * 6 + 2, none⟩ = some (.int .i64 x.term.kind) := (cell_block (hW.block b hb)).trans g2
 have e3 : w1.cell? ⟨b, off + k * 6 + 3, none⟩ = some (.int .i64 x.term.a) := (cell_block (hW.block b hb)).trans g3
 have e4 : w1.cell? ⟨b, off + k * 6 + 4, none⟩ = some (.int .i64 x.term.x) := (cell_block (hW.block b hb)).trans g4
 have e5 : w1.cell? ⟨b, off + k * 6 + 5, none⟩ = some (.int .i64 x.term.y) := (cell_block (hW.block b hb)).trans g5
 have s0 := hsm.1.1
 have s1 := hsm.2.1
 have hbl := hs.2.1
 have HW : Hid (Below w.heap.size w w1) := hW
 rcases n1.2 with hn | ⟨bp, op, rfl, hlp, hbp, hcp⟩
 ·simp [hn] at hj
 obtain ⟨i0, i1, i2, i3, i4, i5, ⟨ua, qa, i6, _⟩⟩ := hcp j hj
 generalize x.insts.getD j inst0 = y at *
 have f0 : w1.cell? ⟨bp, op + j * 7, none⟩ = some (.int .i64 y.op) := (cell_block (hW.block bp hbp)).trans i0
 have f1 : w1.cell? ⟨bp, op + j * 7 + 1, none⟩ = some (.int .i64 y.w) := (cell_block (hW.block bp hbp)).trans i1
 have f2 : w1.cell? ⟨bp, op + j * 7 + 2, none⟩ = some (.int .i64 y.a) := (cell_block (hW.block bp hbp)).trans i2
 have f3 : w1.cell? ⟨bp, op + j * 7 + 3, none⟩ = some (.int .i64 y.b) := (cell_block (hW.block bp hbp)).trans i3
 have f4 : w1.cell? ⟨bp, op + j * 7 + 4, none⟩ = some (.int .i64 y.c) := (cell_block (hW.block bp hbp)).trans i4
 have f5 : w1.cell? ⟨bp, op + j * 7 + 5, none⟩ = some (.int .i64 y.imm) := (cell_block (hW.block bp hbp)).trans i5
 have f6 : w1.cell? ⟨bp, op + j * 7 + 6, none⟩ = some (.slice ua y.args.length qa) := (cell_block (hW.block bp hbp)).trans i6
 have z1 : bp < w1.heap.size := Nat.lt_of_lt_of_le hbp hW.size
 clear hW hx1 hcell hcp g0 g1 g2 g3 g4 g5 n0 n1 hsm _k0 k2 i0 i1 i2 i3 i4 i5 i6
 go_wp2_with (go_at_call 130; refine (instS_any y ua qa _).mono ?_; rintro e w2 ⟨rfl, hb2⟩)
 go_ret
 exact ⟨ret_i E.out, by first | exact HW.out.trans (hb2.mono HW.out.size) | exact (HW.out.alloc HW.out.size _).trans (hb2.mono (by have := HW.out.size; simp; omega))⟩
set_option maxHeartbeats 4000000 in
theorem typeS_any (lo : Nat) (d : FuncD) (u0 : Option Addr) (c0 : Nat) (u2 : Option Addr) (c2 : Nat) (id : Int) (w : World) (hs : SmFunc d) (k0 : IntsAt w lo u0 d.params) (k2 : BlocksAt w lo u2 d.blocks) (hi : id ≤ 9223372036854775807) :
  Calls Tryz.prog 95 #[.agg #[.slice u0 d.params.length c0, .int .i64 d.ret, .slice u2 d.blocks.length c2], .int .i64 id] w fun e w' => e = .returned (.int .i64 (typeF d id)) ∧ Below w.heap.size w w' := by
 rcases place_cases d id with h | ⟨j, hj, h⟩ | ⟨k, j, hk, hj, h⟩
 ·exact typeS_any_none lo d u0 c0 u2 c2 id w hs k0 k2 hi h
 ·exact typeS_any_par lo d u0 c0 u2 c2 id w hs k0 k2 hi j hj h
 ·by_cases hp : j < (d.blocks.getD k block0).phis.length
  ·exact typeS_any_phi lo d u0 c0 u2 c2 id w hs k0 k2 hi k j hk hp h
  ·unfold cntB at hj
   refine typeS_any_inst lo d u0 c0 u2 c2 id w hs k0 k2 hi k (j - (d.blocks.getD k block0).phis.length) hk (by omega) ?_
   rw [h, show (d.blocks.getD k block0).phis.length + (j - (d.blocks.getD k block0).phis.length) = j by omega]
set_option maxHeartbeats 4000000 in
theorem typeI_any_none (lo : Nat) (d : FuncD) (u0 : Option Addr) (c0 : Nat) (u2 : Option Addr) (c2 : Nat) (id : Int) (w : World) (hs : SmFunc d) (_k0 : IntsAt w lo u0 d.params) (k2 : BlocksAt w lo u2 d.blocks) (hi : id ≤ 9223372036854775807) (h : placeF d id = (-2, 0)) :
  Calls Tryz.prog 15 #[.agg #[.slice u0 d.params.length c0, .int .i64 d.ret, .slice u2 d.blocks.length c2], .int .i64 id] w fun e w' => e = .returned (.int .i64 (typeF d id)) ∧ Below w.heap.size w w' := by
 have E : Hid (-1 = typeF d id) := by show _ = _; simp [typeF, h]
 have q1 : (placeF d id).1 = -2 := by rw [h]
 have q2 : (placeF d id).2 = 0 := by rw [h]
 clear h
 go_enter Tryz.func15, Tryz.ntmps15
 go_wp2_with fail
 refine (placeI_any lo d _ _ _ _ _ _ hs (k2.keep (agree_alloc _ _ _)) hi).mono ?_
 rintro e w1 ⟨rfl, hb1⟩
 have hx1 := box_first hb1
 obtain ⟨p1, p2, p3⟩ := box3 hx1
 have hW := below_box hx1
 have HW : Hid (Below w.heap.size w w1) := hW
 clear hW hx1
 go_wp2_with fail
 go_ret
 exact ⟨ret_i E.out, HW.out⟩
set_option maxHeartbeats 4000000 in
theorem typeI_any_par (lo : Nat) (d : FuncD) (u0 : Option Addr) (c0 : Nat) (u2 : Option Addr) (c2 : Nat) (id : Int) (w : World) (hs : SmFunc d) (k0 : IntsAt w lo u0 d.params) (k2 : BlocksAt w lo u2 d.blocks) (hi : id ≤ 9223372036854775807) (j : Nat) (hj : j < d.params.length) (h : placeF d id = (-1, (j : Int))) :
  Calls Tryz.prog 15 #[.agg #[.slice u0 d.params.length c0, .int .i64 d.ret, .slice u2 d.blocks.length c2], .int .i64 id] w fun e w' => e = .returned (.int .i64 (typeF d id)) ∧ Below w.heap.size w w' := by
 have E : Hid (d.params.getD j 0 = typeF d id) := by show _ = _; simp [typeF, h]
 have q1 : (placeF d id).1 = -1 := by rw [h]
 have q2 : (placeF d id).2 = (j : Int) := by rw [h]
 clear h
 have hp := hs.1
 go_enter Tryz.func15, Tryz.ntmps15
 go_wp2_with fail
 refine (placeI_any lo d _ _ _ _ _ _ hs (k2.keep (agree_alloc _ _ _)) hi).mono ?_
 rintro e w1 ⟨rfl, hb1⟩
 have hx1 := box_first hb1
 obtain ⟨p1, p2, p3⟩ := box3 hx1
 have hW := below_box hx1
 rcases k0.2 with hn | ⟨b, off, rfl, hlo, hb, hcell⟩
 ·simp [hn] at hj
 have e0 : w1.cell? ⟨b, off + j, none⟩ = some (.int .i64 (d.params.getD j 0)) := (cell_block (hW.block b hb)).trans (hcell j hj)
 have HW : Hid (Below w.heap.size w w1) := hW
 generalize d.params.getD j 0 = pv at e0 E
 clear hW hx1 hcell
 go_wp2_with fail
 go_ret
 exact ⟨ret_i E.out, HW.out⟩
set_option maxHeartbeats 4000000 in
theorem typeI_any_phi (lo : Nat) (d : FuncD) (u0 : Option Addr) (c0 : Nat) (u2 : Option Addr) (c2 : Nat) (id : Int) (w : World) (hs : SmFunc d) (_k0 : IntsAt w lo u0 d.params) (k2 : BlocksAt w lo u2 d.blocks) (hi : id ≤ 9223372036854775807) (k j : Nat) (hk : k < d.blocks.length) (hj : j < (d.blocks.getD k block0).phis.length) (h : placeF d id = ((k : Int), (j : Int))) :
  Calls Tryz.prog 15 #[.agg #[.slice u0 d.params.length c0, .int .i64 d.ret, .slice u2 d.blocks.length c2], .int .i64 id] w fun e w' => e = .returned (.int .i64 (typeF d id)) ∧ Below w.heap.size w w' := by
 have E : Hid (((d.blocks.getD k block0).phis.getD j phi0).w = typeF d id) := by
  show _ = _
  have a1 : ¬ ((k : Int) = -2) := by omega
  have a2 : ¬ ((k : Int) = -1) := by omega
  have a3 : (j : Int) < (d.blocks.getD k block0).phis.length := by omega
  simp only [typeF, h, if_neg a1, if_neg a2, Int.toNat_natCast, if_pos a3]
 have q1 : (placeF d id).1 = (k : Int) := by rw [h]
 have q2 : (placeF d id).2 = (j : Int) := by rw [h]
 clear h
 go_enter Tryz.func15, Tryz.ntmps15
 go_wp2_with fail
 refine (placeI_any lo d _ _ _ _ _ _ hs (k2.keep (agree_alloc _ _ _)) hi).mono ?_
 rintro e w1 ⟨rfl, hb1⟩
 have hx1 := box_first hb1
 obtain ⟨p1, p2, p3⟩ := box3 hx1
 have hW := below_box hx1
 rcases k2.2 with hn | ⟨b, off, rfl, hlo, hb, hcell⟩
 ·simp [hn] at hk
 obtain ⟨⟨v0, r0, g0, n0⟩, ⟨v1, r1, g1, n1⟩, g2, g3, g4, g5⟩ := hcell k hk
 have hsm := hs.2.2 _ (getD_mem block0 d.blocks k hk)
 generalize d.blocks.getD k block0 = x at *
 have e0 : w1.cell? ⟨b, off + k * 6, none⟩ = some (.slice v0 x.phis.length r0) := (cell_block (hW.block b hb)).trans g0
 have e1 : w1.cell? ⟨b, off + k * 6 + 1, none⟩ = some (.slice v1 x.insts.length r1) := (cell_block (hW.block b hb)).trans g1
 have e2 : w1.cell? ⟨b, off + k * 6 + 2, none⟩ = some (.int .i64 x.term.kind) := (cell_block (hW.block b hb)).trans g2
 have e3 : w1.cell? ⟨b, off + k * 6 + 3, none⟩ = some (.int .i64 x.term.a) := (cell_block (hW.block b hb)).trans g3
 have e4 : w1.cell? ⟨b, off + k * 6 + 4, none⟩ = some (.int .i64 x.term.x) := (cell_block (hW.block b hb)).trans g4
 have e5 : w1.cell? ⟨b, off + k * 6 + 5, none⟩ = some (.int .i64 x.term.y) := (cell_block (hW.block b hb)).trans g5
 have s0 := hsm.1.1
 have s1 := hsm.2.1
 have hbl := hs.2.1
 have HW : Hid (Below w.heap.size w w1) := hW
 rcases n0.2 with hn | ⟨bp, op, rfl, hlp, hbp, hcp⟩
 ·simp [hn] at hj
 have f0 : w1.cell? ⟨bp, op + j * 2, none⟩ = some (.int .i64 (x.phis.getD j phi0).w) := (cell_block (hW.block bp hbp)).trans (hcp j hj).1
 have z1 : bp < w1.heap.size := Nat.lt_of_lt_of_le hbp hW.size
 generalize (x.phis.getD j phi0).w = pv at f0 E
 clear hW hx1 hcell hcp g0 g1 g2 g3 g4 g5 n0 n1 hsm _k0 k2
 go_wp2_with fail
 go_ret
 exact ⟨ret_i E.out, by first | exact HW.out | exact HW.out.alloc HW.out.size _⟩
set_option maxHeartbeats 4000000 in
theorem typeI_any_inst (lo : Nat) (d : FuncD) (u0 : Option Addr) (c0 : Nat) (u2 : Option Addr) (c2 : Nat) (id : Int) (w : World) (hs : SmFunc d) (_k0 : IntsAt w lo u0 d.params) (k2 : BlocksAt w lo u2 d.blocks) (hi : id ≤ 9223372036854775807) (k j : Nat) (hk : k < d.blocks.length) (hj : j < (d.blocks.getD k block0).insts.length) (h : placeF d id = ((k : Int), (((d.blocks.getD k block0).phis.length + j : Nat) : Int))) :
  Calls Tryz.prog 15 #[.agg #[.slice u0 d.params.length c0, .int .i64 d.ret, .slice u2 d.blocks.length c2], .int .i64 id] w fun e w' => e = .returned (.int .i64 (typeF d id)) ∧ Below w.heap.size w w' := by
 have E : Hid (instW ((d.blocks.getD k block0).insts.getD j inst0) = typeF d id) := by
  show _ = _
  have a1 : ¬ ((k : Int) = -2) := by omega
  have a2 : ¬ ((k : Int) = -1) := by omega
  have a3 : ¬ ((((d.blocks.getD k block0).phis.length + j : Nat) : Int) < (d.blocks.getD k block0).phis.length) := by omega
  have a4 : ((((d.blocks.getD k block0).phis.length + j : Nat) : Int) - (d.blocks.getD k block0).phis.length).toNat = j := by omega
  simp only [typeF, h, if_neg a1, if_neg a2, Int.toNat_natCast, if_neg a3, a4]
 have q1 : (placeF d id).1 = (k : Int) := by rw [h]
 have q2 : (placeF d id).2 = ((d.blocks.getD k block0).phis.length : Int) + (j : Int) := by rw [h]; simp
 clear h
 go_enter Tryz.func15, Tryz.ntmps15
 go_wp2_with fail
 refine (placeI_any lo d _ _ _ _ _ _ hs (k2.keep (agree_alloc _ _ _)) hi).mono ?_
 rintro e w1 ⟨rfl, hb1⟩
 have hx1 := box_first hb1
 obtain ⟨p1, p2, p3⟩ := box3 hx1
 have hW := below_box hx1
 rcases k2.2 with hn | ⟨b, off, rfl, hlo, hb, hcell⟩
 ·simp [hn] at hk
 obtain ⟨⟨v0, r0, g0, n0⟩, ⟨v1, r1, g1, n1⟩, g2, g3, g4, g5⟩ := hcell k hk
 have hsm := hs.2.2 _ (getD_mem block0 d.blocks k hk)
 generalize d.blocks.getD k block0 = x at *
 have e0 : w1.cell? ⟨b, off + k * 6, none⟩ = some (.slice v0 x.phis.length r0) := (cell_block (hW.block b hb)).trans g0
 have e1 : w1.cell? ⟨b, off + k * 6 + 1, none⟩ = some (.slice v1 x.insts.length r1) := (cell_block (hW.block b hb)).trans g1
 have e2 : w1.cell? ⟨b, off + k * 6 + 2, none⟩ = some (.int .i64 x.term.kind) := (cell_block (hW.block b hb)).trans g2
 have e3 : w1.cell? ⟨b, off + k * 6 + 3, none⟩ = some (.int .i64 x.term.a) := (cell_block (hW.block b hb)).trans g3
 have e4 : w1.cell? ⟨b, off + k * 6 + 4, none⟩ = some (.int .i64 x.term.x) := (cell_block (hW.block b hb)).trans g4
 have e5 : w1.cell? ⟨b, off + k * 6 + 5, none⟩ = some (.int .i64 x.term.y) := (cell_block (hW.block b hb)).trans g5
 have s0 := hsm.1.1
 have s1 := hsm.2.1
 have hbl := hs.2.1
 have HW : Hid (Below w.heap.size w w1) := hW
 rcases n1.2 with hn | ⟨bp, op, rfl, hlp, hbp, hcp⟩
 ·simp [hn] at hj
 obtain ⟨i0, i1, i2, i3, i4, i5, ⟨ua, qa, i6, _⟩⟩ := hcp j hj
 generalize x.insts.getD j inst0 = y at *
 have f0 : w1.cell? ⟨bp, op + j * 7, none⟩ = some (.int .i64 y.op) := (cell_block (hW.block bp hbp)).trans i0
 have f1 : w1.cell? ⟨bp, op + j * 7 + 1, none⟩ = some (.int .i64 y.w) := (cell_block (hW.block bp hbp)).trans i1
 have f2 : w1.cell? ⟨bp, op + j * 7 + 2, none⟩ = some (.int .i64 y.a) := (cell_block (hW.block bp hbp)).trans i2
 have f3 : w1.cell? ⟨bp, op + j * 7 + 3, none⟩ = some (.int .i64 y.b) := (cell_block (hW.block bp hbp)).trans i3
 have f4 : w1.cell? ⟨bp, op + j * 7 + 4, none⟩ = some (.int .i64 y.c) := (cell_block (hW.block bp hbp)).trans i4
 have f5 : w1.cell? ⟨bp, op + j * 7 + 5, none⟩ = some (.int .i64 y.imm) := (cell_block (hW.block bp hbp)).trans i5
 have f6 : w1.cell? ⟨bp, op + j * 7 + 6, none⟩ = some (.slice ua y.args.length qa) := (cell_block (hW.block bp hbp)).trans i6
 have z1 : bp < w1.heap.size := Nat.lt_of_lt_of_le hbp hW.size
 clear hW hx1 hcell hcp g0 g1 g2 g3 g4 g5 n0 n1 hsm _k0 k2 i0 i1 i2 i3 i4 i5 i6
 go_wp2_with (go_at_call 38; refine (instI_any y ua qa _).mono ?_; rintro e w2 ⟨rfl, hb2⟩)
 go_ret
 exact ⟨ret_i E.out, by first | exact HW.out.trans (hb2.mono HW.out.size) | exact (HW.out.alloc HW.out.size _).trans (hb2.mono (by have := HW.out.size; simp; omega))⟩
set_option maxHeartbeats 4000000 in
theorem typeI_any (lo : Nat) (d : FuncD) (u0 : Option Addr) (c0 : Nat) (u2 : Option Addr) (c2 : Nat) (id : Int) (w : World) (hs : SmFunc d) (k0 : IntsAt w lo u0 d.params) (k2 : BlocksAt w lo u2 d.blocks) (hi : id ≤ 9223372036854775807) :
  Calls Tryz.prog 15 #[.agg #[.slice u0 d.params.length c0, .int .i64 d.ret, .slice u2 d.blocks.length c2], .int .i64 id] w fun e w' => e = .returned (.int .i64 (typeF d id)) ∧ Below w.heap.size w w' := by
 rcases place_cases d id with h | ⟨j, hj, h⟩ | ⟨k, j, hk, hj, h⟩
 ·exact typeI_any_none lo d u0 c0 u2 c2 id w hs k0 k2 hi h
 ·exact typeI_any_par lo d u0 c0 u2 c2 id w hs k0 k2 hi j hj h
 ·by_cases hp : j < (d.blocks.getD k block0).phis.length
  ·exact typeI_any_phi lo d u0 c0 u2 c2 id w hs k0 k2 hi k j hk hp h
  ·unfold cntB at hj
   refine typeI_any_inst lo d u0 c0 u2 c2 id w hs k0 k2 hi k (j - (d.blocks.getD k block0).phis.length) hk (by omega) ?_
   rw [h, show (d.blocks.getD k block0).phis.length + (j - (d.blocks.getD k block0).phis.length) = j by omega]
end Go.Proofs.YtgojlnclpebdcaaGreatDoor
namespace Go.Proofs.YtgojlnclpebdcaaGreatDoor
open Go.RowKit
def Rch (S : Nat → List Nat) (w : Option Nat) (x : Nat) : Prop :=
 ∀ C : Nat → Prop, (w ≠ some 0 → C 0) → (∀ a, C a → ∀ s ∈ S a, w ≠ some s → C s) → C x
theorem Rch.zero {S : Nat → List Nat} {w : Option Nat} (h : w ≠ some 0) : Rch S w 0 := fun _ h0 _ => h0 h
theorem Rch.step {S : Nat → List Nat} {w : Option Nat} {a s : Nat} (h : Rch S w a) (hs : s ∈ S a) (hw : w ≠ some s) : Rch S w s :=
 fun C h0 hc => hc a (h C h0 hc) s hs hw
theorem Rch.ne {S : Nat → List Nat} {w : Option Nat} {x : Nat} (h : Rch S w x) : w ≠ some x := h (fun x => w ≠ some x) id fun _ _ _ _ h => h
theorem Rch.all {S : Nat → List Nat} {w : Option Nat} {x : Nat} (h : Rch S w x) : Rch S none x :=
 h (Rch S none) (fun _ => Rch.zero (by simp)) fun _ ha _ hs _ => ha.step hs (by simp)
def Dom (S : Nat → List Nat) (a b : Nat) : Prop := Rch S none b ∧ ¬ Rch S (some a) b
theorem Dom.first {S : Nat → List Nat} {b : Nat} (h : Rch S none b) : Dom S 0 b :=
 ⟨h, fun k => k (fun _ => False) (fun h => h rfl) fun _ h _ _ _ => h⟩
theorem Dom.reached {S : Nat → List Nat} {a b : Nat} (h : Dom S a b) : Rch S none a := by
 refine Classical.byContradiction fun hn => h.2 ?_
 have : Rch S none b ∧ Rch S (some a) b := by
  refine h.1 (fun x => Rch S none x ∧ Rch S (some a) x) (fun _ => ⟨Rch.zero (by simp), Rch.zero ?_⟩) ?_
  ·intro e; cases e; exact hn (Rch.zero (by simp))
  ·intro x hx s hs _
   have hr := hx.1.step hs (by simp)
   exact ⟨hr, hx.2.step hs (by intro e; cases e; exact hn hr)⟩
 exact this.2
theorem Dom.trans {S : Nat → List Nat} {a b c : Nat} (h : Dom S a b) (k : Dom S b c) : Dom S a c := by
 refine ⟨k.1, fun hc => k.2 ?_⟩
 have : Rch S (some a) c ∧ Rch S (some b) c := by
  refine hc (fun x => Rch S (some a) x ∧ Rch S (some b) x) (fun h0 => ⟨Rch.zero h0, Rch.zero ?_⟩) ?_
  ·intro e; cases e; exact h.2 (Rch.zero h0)
  ·intro x hx s hs hw
   have hr := hx.1.step hs hw
   exact ⟨hr, hx.2.step hs (by intro e; cases e; exact h.2 hr)⟩
 exact this.2
theorem Dom.both {S : Nat → List Nat} {a b : Nat} (h : Dom S a b) (k : Dom S b a) : a = b := by
 refine Classical.byContradiction fun hne => ?_
 have ha0 : a ≠ 0 := by
  intro e; subst e
  exact k.2 (Rch.zero (by intro e; cases e; exact hne rfl))
 have hb0 : b ≠ 0 := by
  intro e; subst e
  exact h.2 (Rch.zero (by intro e; cases e; exact hne rfl))
 have : Rch S (some a) a ∧ Rch S (some b) a := by
  refine k.1 (fun x => Rch S (some a) x ∧ Rch S (some b) x) (fun _ => ⟨Rch.zero (by simpa using ha0), Rch.zero (by simpa using hb0)⟩) ?_
  intro x hx s hs _
  by_cases e1 : s = a
  ·subst e1; exact absurd (hx.2.step hs (by intro e; cases e; exact hne rfl)) k.2
  by_cases e2 : s = b
  ·subst e2; exact absurd (hx.1.step hs (by intro e; cases e; exact hne rfl)) h.2
  exact ⟨hx.1.step hs (by intro e; cases e; exact e1 rfl), hx.2.step hs (by intro e; cases e; exact e2 rfl)⟩
 exact this.1.ne rfl
def un (n : Nat) (M : List Nat) : Nat := ((List.range n).filter (fun x => !M.contains x)).length
theorem filter_le {α : Type} (p q : α → Bool) (l : List α) (h : ∀ x ∈ l, p x = true → q x = true) : (l.filter p).length ≤ (l.filter q).length := by
 induction l with
 | nil => simp
 | cons a r ih =>
  have ih := ih fun x hx => h x (List.mem_cons_of_mem _ hx)
  have ha := h a (List.mem_cons_self ..)
  by_cases hp : p a = true
  ·simp [hp, ha hp]; exact ih
  ·by_cases hq : q a = true
   ·simp [hp, hq]; omega
   ·simp [hp, hq]; exact ih
theorem filter_lt {α : Type} (p q : α → Bool) (l : List α) (h : ∀ x ∈ l, p x = true → q x = true) (y : α) (hy : y ∈ l) (hq : q y = true) (hp : p y = false) : (l.filter p).length < (l.filter q).length := by
 induction l with
 | nil => simp at hy
 | cons a r ih =>
  have hr := filter_le p q r fun x hx => h x (List.mem_cons_of_mem _ hx)
  have ha := h a (List.mem_cons_self ..)
  rcases List.mem_cons.1 hy with rfl | hy
  ·simp [hp, hq]; omega
  ·have ih := ih (fun x hx => h x (List.mem_cons_of_mem _ hx)) hy
   by_cases hpa : p a = true
   ·simp [hpa, ha hpa]; exact ih
   ·by_cases hqa : q a = true
    ·simp [hpa, hqa]; omega
    ·simp [hpa, hqa]; exact ih
theorem un_mono {n : Nat} {M M' : List Nat} (h : ∀ x ∈ M, x ∈ M') : un n M' ≤ un n M := by
 refine filter_le _ _ _ fun x _ hx => ?_
 simp at hx ⊢
 exact fun k => hx (h x k)
theorem un_cons {n x : Nat} {M : List Nat} (hx : x < n) (hm : x ∉ M) : un n (x :: M) < un n M := by
 refine filter_lt _ _ _ (fun y _ hy => ?_) x (by simpa using hx) (by simpa using hm) (by simp)
 simp at hy ⊢
 exact hy.2
theorem un_nil (n : Nat) : un n [] = n := by
 unfold un; rw [List.filter_eq_self.2 (by simp)]; simp
def dfs (S : Nat → List Nat) (w : Option Nat) : Nat → Nat → List Nat × List Nat → List Nat × List Nat
 | 0, _, p => p
 | k + 1, x, p => if w = some x ∨ x ∈ p.1 then p else
  let q := (S x).foldl (fun p s => dfs S w k s p) (x :: p.1, p.2)
  (q.1, q.2 ++ [x])
theorem dfs_skip {S : Nat → List Nat} {w : Option Nat} {k x : Nat} {p : List Nat × List Nat} (h : w = some x ∨ x ∈ p.1) : dfs S w (k + 1) x p = p := by rw [dfs, if_pos h]
theorem dfs_go {S : Nat → List Nat} {w : Option Nat} {k x : Nat} {p : List Nat × List Nat} (h : ¬ (w = some x ∨ x ∈ p.1)) :
  dfs S w (k + 1) x p = (((S x).foldl (fun p s => dfs S w k s p) (x :: p.1, p.2)).1, ((S x).foldl (fun p s => dfs S w k s p) (x :: p.1, p.2)).2 ++ [x]) := by rw [dfs, if_neg h]
structure Went (S : Nat → List Nat) (w : Option Nat) (n : Nat) (l : List Nat) (p q : List Nat × List Nat) (t : List Nat) : Prop where
 told : q.2 = p.2 ++ t
 met : ∀ y, y ∈ q.1 ↔ y ∈ p.1 ∨ y ∈ t
 new : ∀ y ∈ t, y ∉ p.1
 once : t.Nodup
 shut : ∀ y ∈ t, ∀ s ∈ S y, w ≠ some s → s ∈ q.1
 low : ∀ y ∈ t, y < n ∧ w ≠ some y
 from' : ∀ s ∈ l, w ≠ some s → s ∈ q.1
 in' : ∀ C : Nat → Prop, (∀ a, C a → ∀ s ∈ S a, w ≠ some s → C s) → (∀ s ∈ l, w ≠ some s → C s) → ∀ y ∈ t, C y
 ahead : ∀ y ∈ t, y ∈ l ∨ ∃ z t1 t2, t = t1 ++ y :: t2 ∧ z ∈ t2 ∧ y ∈ S z
theorem Went.refl {S : Nat → List Nat} {w : Option Nat} {n : Nat} {l : List Nat} {p : List Nat × List Nat} (h : ∀ s ∈ l, w ≠ some s → s ∈ p.1) : Went S w n l p p [] :=
 ⟨by simp, by simp, by simp, by simp, by simp, by simp, h, by simp, by simp⟩
theorem Went.then {S : Nat → List Nat} {w : Option Nat} {n x : Nat} {l : List Nat} {p q r : List Nat × List Nat} {t u : List Nat} (h : Went S w n [x] p q t) (k : Went S w n l q r u) : Went S w n (x :: l) p r (t ++ u) := by
 refine ⟨by rw [k.told, h.told, List.append_assoc], ?_, ?_, ?_, ?_, ?_, ?_, ?_, ?_⟩
 ·intro y; rw [k.met, h.met, List.mem_append, or_assoc]
 ·intro y hy
  rcases List.mem_append.1 hy with hy | hy
  ·exact h.new y hy
  ·exact fun hp => k.new y hy ((h.met y).2 (.inl hp))
 ·rw [List.nodup_append]
  exact ⟨h.once, k.once, fun a ha b hb e => k.new b hb ((h.met b).2 (.inr (e ▸ ha)))⟩
 ·intro y hy s hs hw
  rcases List.mem_append.1 hy with hy | hy
  ·exact (k.met s).2 (.inl (h.shut y hy s hs hw))
  ·exact k.shut y hy s hs hw
 ·intro y hy
  rcases List.mem_append.1 hy with hy | hy
  ·exact h.low y hy
  ·exact k.low y hy
 ·intro s hs hw
  rcases List.mem_cons.1 hs with rfl | hs
  ·exact (k.met s).2 (.inl (h.from' s (by simp) hw))
  ·exact k.from' s hs hw
 ·intro C hC hl y hy
  rcases List.mem_append.1 hy with hy | hy
  ·exact h.in' C hC (fun s hs hw => hl s (by simp at hs; simp [hs]) hw) y hy
  ·exact k.in' C hC (fun s hs hw => hl s (List.mem_cons_of_mem _ hs) hw) y hy
 ·intro y hy
  rcases List.mem_append.1 hy with hy | hy
  ·rcases h.ahead y hy with hx | ⟨z, t1, t2, e, hz, hs⟩
   ·exact .inl (by simp at hx; simp [hx])
   ·exact .inr ⟨z, t1, t2 ++ u, by rw [e]; simp, List.mem_append_left _ hz, hs⟩
  ·rcases k.ahead y hy with hx | ⟨z, t1, t2, e, hz, hs⟩
   ·exact .inl (List.mem_cons_of_mem _ hx)
   ·exact .inr ⟨z, t ++ t1, t2, by rw [e]; simp, hz, hs⟩
theorem Went.mono {S : Nat → List Nat} {w : Option Nat} {n : Nat} {l : List Nat} {p q : List Nat × List Nat} {t : List Nat} (h : Went S w n l p q t) : ∀ y ∈ p.1, y ∈ q.1 := fun y hy => (h.met y).2 (.inl hy)
theorem dfs_went (S : Nat → List Nat) (w : Option Nat) (n : Nat) (hS : ∀ a, ∀ s ∈ S a, s < n) (k : Nat) : ∀ (x : Nat) (p : List Nat × List Nat), x < n → un n p.1 < k → ∃ t, Went S w n [x] p (dfs S w k x p) t := by
 induction k with
 | zero => intro x p _ h; omega
 | succ k ih =>
  intro x p hx hk
  by_cases hc : w = some x ∨ x ∈ p.1
  ·rw [dfs_skip hc]
   refine ⟨[], Went.refl fun s hs hw => ?_⟩
   simp at hs; subst hs
   exact hc.resolve_left hw
  ·rw [dfs_go hc]
   have hxm : x ∉ p.1 := fun h => hc (.inr h)
   have hwx : w ≠ some x := fun h => hc (.inl h)
   have hfold : ∀ (l : List Nat) (p : List Nat × List Nat), (∀ s ∈ l, s < n) → un n p.1 < k → ∃ t, Went S w n l p (l.foldl (fun p s => dfs S w k s p) p) t := by
    intro l
    induction l with
    | nil => intro p _ _; exact ⟨[], Went.refl (by simp)⟩
    | cons s r ihl =>
     intro p hl hp
     obtain ⟨t, ht⟩ := ih s p (hl s (List.mem_cons_self ..)) hp
     obtain ⟨u, hu⟩ := ihl (dfs S w k s p) (fun y hy => hl y (List.mem_cons_of_mem _ hy)) (Nat.lt_of_le_of_lt (un_mono ht.mono) hp)
     exact ⟨t ++ u, ht.then hu⟩
   obtain ⟨t, ht⟩ := hfold (S x) (x :: p.1, p.2) (hS x) (by have := un_cons hx hxm; show un n (x :: p.1) < k; omega)
   refine ⟨t ++ [x], ?_⟩
   generalize (S x).foldl (fun p s => dfs S w k s p) (x :: p.1, p.2) = q at ht
   refine ⟨by simp [ht.told], ?_, ?_, ?_, ?_, ?_, ?_, ?_, ?_⟩
   ·intro y
    show y ∈ q.1 ↔ _
    rw [ht.met]; simp only [List.mem_cons, List.mem_append, List.not_mem_nil, or_false]
    constructor
    ·rintro ((h | h) | h) <;> simp [h]
    ·rintro (h | h | h) <;> simp [h]
   ·intro y hy
    rcases List.mem_append.1 hy with hy | hy
    ·exact fun h => ht.new y hy (List.mem_cons_of_mem _ h)
    ·simp at hy; subst hy; exact hxm
   ·rw [List.nodup_append]
    refine ⟨ht.once, by simp, fun a ha b hb e => ?_⟩
    simp at hb; subst hb; subst e
    exact ht.new a ha (List.mem_cons_self ..)
   ·intro y hy s hs hw
    rcases List.mem_append.1 hy with hy | hy
    ·exact ht.shut y hy s hs hw
    ·simp at hy; subst hy; exact ht.from' s hs hw
   ·intro y hy
    rcases List.mem_append.1 hy with hy | hy
    ·exact ht.low y hy
    ·simp at hy; subst hy; exact ⟨hx, hwx⟩
   ·intro s hs _
    simp at hs; subst hs
    exact (ht.met s).2 (.inl (List.mem_cons_self ..))
   ·intro C hC hl y hy
    have hCx := hl x (by simp) hwx
    rcases List.mem_append.1 hy with hy | hy
    ·exact ht.in' C hC (fun s hs hw => hC x hCx s hs hw) y hy
    ·simp at hy; subst hy; exact hCx
   ·intro y hy
    rcases List.mem_append.1 hy with hy | hy
    ·rcases ht.ahead y hy with hx | ⟨z, t1, t2, e, hz, hs⟩
     ·obtain ⟨t1, t2, e⟩ := List.append_of_mem hy
      exact .inr ⟨x, t1, t2 ++ [x], by rw [e]; simp, by simp, hx⟩
     ·exact .inr ⟨z, t1, t2 ++ [x], by rw [e]; simp, List.mem_append_left _ hz, hs⟩
    ·exact .inl hy
def post (S : Nat → List Nat) (w : Option Nat) (n : Nat) : List Nat := (dfs S w (n + 1) 0 ([], [])).2
structure Told (S : Nat → List Nat) (w : Option Nat) (n : Nat) (l : List Nat) : Prop where
 mem : ∀ y, y ∈ l ↔ Rch S w y
 once : l.Nodup
 low : ∀ y ∈ l, y < n
 ahead : ∀ y ∈ l, y = 0 ∨ ∃ z t1 t2, l = t1 ++ y :: t2 ∧ z ∈ t2 ∧ y ∈ S z
theorem post_told (S : Nat → List Nat) (w : Option Nat) (n : Nat) (hn : 0 < n) (hS : ∀ a, ∀ s ∈ S a, s < n) : Told S w n (post S w n) := by
 obtain ⟨t, ht⟩ := dfs_went S w n hS (n + 1) 0 ([], []) hn (by show un n [] < _; rw [un_nil]; omega)
 have e : post S w n = t := by show (dfs S w (n + 1) 0 ([], [])).2 = t; rw [ht.told]; rfl
 rw [e]
 refine ⟨fun y => ⟨fun hy C h0 hC => ?_, fun hy => ?_⟩, ht.once, fun y hy => (ht.low y hy).1, fun y hy => ?_⟩
 ·exact ht.in' C hC (fun s hs hw => by simp at hs; subst hs; exact h0 hw) y hy
 ·have hm := hy (fun y => y ∈ (dfs S w (n + 1) 0 ([], [])).1) (fun h => ht.from' 0 (by simp) h) (fun a ha s hs hw => by
   have ha' := (ht.met a).1 ha
   exact ht.shut a (ha'.resolve_left (by simp)) s hs hw)
  exact ((ht.met y).1 hm).resolve_left (by simp)
 ·rcases ht.ahead y hy with h | h
  ·exact .inl (by simpa using h)
  ·exact .inr h
theorem Told.behind {S : Nat → List Nat} {n : Nat} {l : List Nat} (h : Told S none n l) {d : Nat} : ∀ (t2 t1 : List Nat), l = t1 ++ t2 → d ∈ t1 → ∀ y ∈ t2, Rch S (some d) y := by
 have hne : ∀ (t1 t2 : List Nat), l = t1 ++ t2 → d ∈ t1 → ∀ y ∈ t2, y ≠ d := by
  intro t1 t2 e hd y hy hyd
  have hn := h.once
  rw [e, List.nodup_append] at hn
  exact hn.2.2 d hd y hy hyd.symm
 intro t2
 induction t2 with
 | nil => intro _ _ _ y hy; simp at hy
 | cons x r ih =>
  intro t1 e hd y hy
  have e' : l = (t1 ++ [x]) ++ r := by rw [e]; simp
  have ihr := ih (t1 ++ [x]) e' (List.mem_append_left _ hd)
  rcases List.mem_cons.1 hy with hyx | hy
  ·subst hyx
   have hyd := hne t1 (y :: r) e hd y (List.mem_cons_self ..)
   rcases h.ahead y (by rw [e]; simp) with h0 | ⟨z, u1, u2, e2, hz, hs⟩
   ·subst h0; exact Rch.zero (by intro q; cases q; exact hyd rfl)
   ·have hsplit : u1 = t1 ∧ u2 = r := by
     have hn := h.once
     have hq : t1 ++ y :: r = u1 ++ y :: u2 := by rw [← e, ← e2]
     rw [e] at hn
     clear e' ihr e e2 ih hd
     revert u1
     induction t1 with
     | nil =>
      intro u1 hq
      cases u1 with
      | nil => simp at hq; exact ⟨rfl, hq.symm⟩
      | cons c u1 =>
       simp only [List.nil_append, List.cons_append, List.cons.injEq] at hq hn
       rw [List.nodup_cons, hq.2] at hn
       simp at hn
     | cons c t1 ih =>
      intro u1 hq
      cases u1 with
      | nil =>
       simp only [List.nil_append, List.cons_append, List.cons.injEq] at hq
       rw [List.cons_append, List.nodup_cons, hq.1] at hn
       simp at hn
      | cons c' u1 =>
       simp only [List.cons_append, List.cons.injEq] at hq
       rw [List.cons_append, List.nodup_cons] at hn
       have := ih hn.2 u1 hq.2
       exact ⟨by rw [hq.1, this.1], this.2⟩
    exact (ihr z (hsplit.2 ▸ hz)).step hs (by intro q; cases q; exact hyd rfl)
  ·exact ihr y hy
end Go.Proofs.YtgojlnclpebdcaaGreatDoor
