/- Where an id stands: the contracts of PlaceOf, the program's and the model's. -/
import Derived.Test.YtclagbdomfgodaaGreatDoorCntW
namespace Go.Proofs.YtclagbdomfgodaaGreatDoor
open Go.RowKit

def placeL : List BlockD → Nat → Int → Int × Int
  | [], _, _ => (-2, 0)
  | d :: r, b, x => if x < cntB d then ((b : Int), x) else placeL r (b + 1) (x - cntB d)
def placeF (d : FuncD) (id : Int) : Int × Int := if id < 0 then (-2, 0) else if id < d.params.length then (-1, id) else placeL d.blocks 0 (id - d.params.length)
theorem i64_le {n : Int} (h : (Lit.int .i64 n).wf = true) : n ≤ 9223372036854775807 := by
  have h' : IntKind.i64.min ≤ n ∧ n ≤ IntKind.i64.max := by simpa [Lit.wf] using h
  exact h'.2
theorem ret_p {a b c d : Int} (h : a = b) (k : c = d) : Ending.returned (.tuple #[.int .i64 a, .int .i64 c]) = .returned (.tuple #[.int .i64 b, .int .i64 d]) := by rw [h, k]
theorem placeL_hit {l : List BlockD} {k : Nat} {b : Nat} {x : Int} {d : BlockD} (hd : l.drop k = d :: l.drop (k + 1)) (h : x < cntB d) : placeL (l.drop k) b x = ((b : Int), x) := by rw [hd, placeL, if_pos h]
theorem placeL_miss {l : List BlockD} {k : Nat} {b : Nat} {x : Int} {d : BlockD} (hd : l.drop k = d :: l.drop (k + 1)) (h : ¬ x < cntB d) : placeL (l.drop k) b x = placeL (l.drop (k + 1)) (b + 1) (x - cntB d) := by rw [hd, placeL, if_neg h]

set_option maxHeartbeats 2000000 in
theorem placeS_any (lo : Nat) (d : FuncD) (u0 : Option Addr) (c0 : Nat) (u2 : Option Addr) (c2 : Nat) (id : Int) (w : World) (hs : SmFunc d) (k2 : BlocksAt w lo u2 d.blocks) (hi : id ≤ 9223372036854775807) :
    Calls Tryz.prog 59 #[.agg #[.slice u0 d.params.length c0, .int .i64 d.ret, .slice u2 d.blocks.length c2], .int .i64 id] w fun e w' => e = .returned (.tuple #[.int .i64 (placeF d id).1, .int .i64 (placeF d id).2]) ∧ Below w.heap.size w w' := by
  have hp := hs.1
  have hbl := hs.2.1
  have HS : Hid (∀ p ∈ d.blocks, SmBlock p) := hs.2.2
  clear hs
  by_cases h1 : id < 0
  · have E : Hid (placeF d id = (-2, 0)) := by show _ = _; rw [placeF, if_pos h1]
    go_enter Tryz.func59, Tryz.ntmps59
    go_wp2_with fail
    go_ret2
    exact ⟨ret_p (by rw [E.out]) (by rw [E.out]), (Below.refl _ _).alloc (Nat.le_refl _) _⟩
  by_cases h2 : id < d.params.length
  · have E : Hid (placeF d id = (-1, id)) := by show _ = _; rw [placeF, if_neg h1, if_pos h2]
    go_enter Tryz.func59, Tryz.ntmps59
    go_wp2_with fail
    go_ret2
    exact ⟨ret_p (by rw [E.out]) (by rw [E.out]), (Below.refl _ _).alloc (Nat.le_refl _) _⟩
  have E : Hid (placeF d id = placeL d.blocks 0 (id - d.params.length)) := by show _ = _; rw [placeF, if_neg h1, if_neg h2]
  go_enter Tryz.func59, Tryz.ntmps59
  go_wp2_with fail
  go_loopw [1, 6] (fun x i wr => ∃ (k : Nat) (z : Int), k ≤ d.blocks.length ∧ i = .int .i64 k ∧ x = .int .i64 z ∧ 0 ≤ z ∧ z ≤ 9223372036854775807 ∧ placeL (d.blocks.drop k) k z = placeF d id ∧ Below (w.heap.size + 1) (w.alloc (.cells #[.slice u0 d.params.length c0, .int .i64 d.ret, .slice u2 d.blocks.length c2] 27)) wr) (fun _ i _ => d.blocks.length - (intOf i).toNat)
  case atStart => exact ⟨0, _, by omega, rfl, rfl, by omega, by omega, by rw [E.out]; rfl, Below.refl _ _⟩
  case round =>
    obtain ⟨k, z, hk, rfl, rfl, hz0, hz1, hq, hB⟩ := hrel
    have b2 : wr.cell? ⟨w.heap.size, 2, none⟩ = some (.slice u2 d.blocks.length c2) := (box3 hB).2.2
    have hW : Below w.heap.size w wr := below_box hB
    have HQ : Hid (placeL (d.blocks.drop k) k z = placeF d id) := hq
    clear hq
    by_cases hlt : k < d.blocks.length
    · rcases k2.2 with hn | ⟨b, off, rfl, hlo, hb, hcell⟩
      · simp [hn] at hlt
      obtain ⟨⟨v0, q0, g0, _⟩, ⟨v1, q1, g1, _⟩, _⟩ := hcell k hlt
      have hdr := drop_get block0 d.blocks k hlt
      have hsm := HS.out _ (getD_mem block0 d.blocks k hlt)
      generalize d.blocks.getD k block0 = x at g0 g1 hdr hsm
      have e0 : wr.cell? ⟨b, off + k * 6, none⟩ = some (.slice v0 x.phis.length q0) := (cell_block (hW.block b hb)).trans g0
      have e1 : wr.cell? ⟨b, off + k * 6 + 1, none⟩ = some (.slice v1 x.insts.length q1) := (cell_block (hW.block b hb)).trans g1
      have s0 := hsm.1.1
      have s1 := hsm.2.1
      have HD : Hid (d.blocks.drop k = x :: d.blocks.drop (k + 1)) := hdr
      have HB : Hid (Below (w.heap.size + 1) (w.alloc (.cells #[.slice u0 d.params.length c0, .int .i64 d.ret, .slice (some ⟨b, off, none⟩) d.blocks.length c2] 27)) wr) := hB
      have HW : Hid (Below w.heap.size w wr) := hW
      clear hcell g0 g1 hdr hsm hB hW k2
      by_cases hc : z < (x.phis.length : Int) + (x.insts.length : Int)
      · go_wp2_with fail
        go_quiet (fail)
        go_wp2_with fail
        go_ret2
        have hh := HQ.out.symm.trans (placeL_hit HD.out (by unfold cntB; omega))
        exact ⟨ret_p (by rw [hh]) (by rw [hh]), below_drewN HW.out _⟩
      · go_wp2_with fail
        go_quiet (fail)
        go_wp2_with fail
        go_roundw
        case rel =>
          have hh := (placeL_miss HD.out (by unfold cntB; omega)).symm.trans HQ.out
          have ec : ((cntB x : Nat) : Int) = (x.phis.length : Int) + (x.insts.length : Int) := by unfold cntB; omega
          rw [ec] at hh
          exact ⟨k + 1, _, by omega, by go_num, rfl, by omega, by omega, hh, below_drewN HB.out _⟩
        case measure => simp [intOf]; omega
    · have hke : k = d.blocks.length := by omega
      clear hB
      go_wp2_with fail
      go_ret2
      have hh := HQ.out
      rw [hke, List.drop_length, placeL] at hh
      exact ⟨ret_p (by rw [← hh]) (by rw [← hh]), hW⟩
set_option maxHeartbeats 2000000 in
theorem placeI_any (lo : Nat) (d : FuncD) (u0 : Option Addr) (c0 : Nat) (u2 : Option Addr) (c2 : Nat) (id : Int) (w : World) (hs : SmFunc d) (k2 : BlocksAt w lo u2 d.blocks) (hi : id ≤ 9223372036854775807) :
    Calls Tryz.prog 9 #[.agg #[.slice u0 d.params.length c0, .int .i64 d.ret, .slice u2 d.blocks.length c2], .int .i64 id] w fun e w' => e = .returned (.tuple #[.int .i64 (placeF d id).1, .int .i64 (placeF d id).2]) ∧ Below w.heap.size w w' := by
  have hp := hs.1
  have hbl := hs.2.1
  have HS : Hid (∀ p ∈ d.blocks, SmBlock p) := hs.2.2
  clear hs
  by_cases h1 : id < 0
  · have E : Hid (placeF d id = (-2, 0)) := by show _ = _; rw [placeF, if_pos h1]
    go_enter Tryz.func9, Tryz.ntmps9
    go_wp2_with fail
    go_ret2
    exact ⟨ret_p (by rw [E.out]) (by rw [E.out]), (Below.refl _ _).alloc (Nat.le_refl _) _⟩
  by_cases h2 : id < d.params.length
  · have E : Hid (placeF d id = (-1, id)) := by show _ = _; rw [placeF, if_neg h1, if_pos h2]
    go_enter Tryz.func9, Tryz.ntmps9
    go_wp2_with fail
    go_ret2
    exact ⟨ret_p (by rw [E.out]) (by rw [E.out]), (Below.refl _ _).alloc (Nat.le_refl _) _⟩
  have E : Hid (placeF d id = placeL d.blocks 0 (id - d.params.length)) := by show _ = _; rw [placeF, if_neg h1, if_neg h2]
  go_enter Tryz.func9, Tryz.ntmps9
  go_wp2_with fail
  go_loopw [6, 26] (fun x i wr => ∃ (k : Nat) (z : Int), k ≤ d.blocks.length ∧ i = .int .i64 k ∧ x = .int .i64 z ∧ 0 ≤ z ∧ z ≤ 9223372036854775807 ∧ placeL (d.blocks.drop k) k z = placeF d id ∧ Below w.heap.size w wr) (fun _ i _ => d.blocks.length - (intOf i).toNat)
  case atStart => exact ⟨0, _, by omega, rfl, rfl, by omega, by omega, by rw [E.out]; rfl, (Below.refl _ _).alloc (Nat.le_refl _) _⟩
  case round =>
    obtain ⟨k, z, hk, rfl, rfl, hz0, hz1, hq, hW⟩ := hrel
    have HQ : Hid (placeL (d.blocks.drop k) k z = placeF d id) := hq
    clear hq
    by_cases hlt : k < d.blocks.length
    · rcases k2.2 with hn | ⟨b, off, rfl, hlo, hb, hcell⟩
      · simp [hn] at hlt
      obtain ⟨⟨v0, q0, g0, _⟩, ⟨v1, q1, g1, _⟩, g2, g3, g4, g5⟩ := hcell k hlt
      have hdr := drop_get block0 d.blocks k hlt
      have hsm := HS.out _ (getD_mem block0 d.blocks k hlt)
      generalize d.blocks.getD k block0 = x at g0 g1 g2 g3 g4 g5 hdr hsm
      have e0 : wr.cell? ⟨b, off + k * 6, none⟩ = some (.slice v0 x.phis.length q0) := (cell_block (hW.block b hb)).trans g0
      have e1 : wr.cell? ⟨b, off + k * 6 + 1, none⟩ = some (.slice v1 x.insts.length q1) := (cell_block (hW.block b hb)).trans g1
      have e2 : wr.cell? ⟨b, off + k * 6 + 2, none⟩ = some (.int .i64 x.term.kind) := (cell_block (hW.block b hb)).trans g2
      have e3 : wr.cell? ⟨b, off + k * 6 + 3, none⟩ = some (.int .i64 x.term.a) := (cell_block (hW.block b hb)).trans g3
      have e4 : wr.cell? ⟨b, off + k * 6 + 4, none⟩ = some (.int .i64 x.term.x) := (cell_block (hW.block b hb)).trans g4
      have e5 : wr.cell? ⟨b, off + k * 6 + 5, none⟩ = some (.int .i64 x.term.y) := (cell_block (hW.block b hb)).trans g5
      have s0 := hsm.1.1
      have s1 := hsm.2.1
      have HD : Hid (d.blocks.drop k = x :: d.blocks.drop (k + 1)) := hdr
      have HW : Hid (Below w.heap.size w wr) := hW
      clear hcell g0 g1 g2 g3 g4 g5 hdr hsm hW k2
      by_cases hc : z < (x.phis.length : Int) + (x.insts.length : Int)
      · go_wp2_with fail
        go_ret2
        have hh := HQ.out.symm.trans (placeL_hit HD.out (by unfold cntB; omega))
        exact ⟨ret_p (by rw [hh]) (by rw [hh]), HW.out.alloc HW.out.size _⟩
      · go_wp2_with fail
        go_roundw
        case rel =>
          have hh := (placeL_miss HD.out (by unfold cntB; omega)).symm.trans HQ.out
          have ec : ((cntB x : Nat) : Int) = (x.phis.length : Int) + (x.insts.length : Int) := by unfold cntB; omega
          rw [ec] at hh
          exact ⟨k + 1, _, by omega, by go_num, rfl, by omega, by omega, hh, HW.out.alloc HW.out.size _⟩
        case measure => simp [intOf]; omega
    · have hke : k = d.blocks.length := by omega
      go_wp2_with fail
      go_ret2
      have hh := HQ.out
      rw [hke, List.drop_length, placeL] at hh
      exact ⟨ret_p (by rw [← hh]) (by rw [← hh]), hW⟩
end Go.Proofs.YtclagbdomfgodaaGreatDoor
