/- The contracts of the comparing functions of blocks and functions, where both sides hold the same. -/
import Derived.Test.YtjpiiemhklphlaaGreatDoorEq
namespace Go.Proofs.YtjpiiemhklphlaaGreatDoor
open Go.RowKit

set_option maxHeartbeats 2000000 in
theorem eqBlock_any (lo lo' : Nat) (d : BlockD) (u0 : Option Addr) (c0 : Nat) (u1 : Option Addr) (c1 : Nat) (v0 : Option Addr) (q0 : Nat) (v1 : Option Addr) (q1 : Nat) (w : World) (k0 : PhisAt w lo u0 d.phis) (k1 : InstsAt w lo u1 d.insts) (n0 : PhisAt w lo' v0 d.phis) (n1 : InstsAt w lo' v1 d.insts) :
    Calls Tryz.prog 66 #[.agg #[.slice u0 d.phis.length c0, .slice u1 d.insts.length c1, .int .i64 d.term.kind, .int .i64 d.term.a, .int .i64 d.term.x, .int .i64 d.term.y], .agg #[.slice v0 d.phis.length q0, .slice v1 d.insts.length q1, .int .i64 d.term.kind, .int .i64 d.term.a, .int .i64 d.term.x, .int .i64 d.term.y]] w fun e w' => e = .returned (.bool true) ∧ Below w.heap.size w w' := by
  go_enter Tryz.func66, Tryz.ntmps66
  go_wp2_with (first | (go_at_call 83; refine (eqPhiS_any lo lo' _ _ _ _ _ _ (k0.keep (agree_of_below (((Below.refl w.heap.size w).alloc (Nat.le_refl _) _).alloc (by first | (simp; done) | (simp; omega)) _) _)) (n0.keep (agree_of_below (((Below.refl w.heap.size w).alloc (Nat.le_refl _) _).alloc (by first | (simp; done) | (simp; omega)) _) _))).mono ?_; rintro e w1 ⟨rfl, hb1⟩; have hcc1 := bcell hb1; have z1a : w.heap.size < w1.heap.size := (by have := hb1.size; (try simp at this); omega); have z1b : w.heap.size + 1 < w1.heap.size := (by have := hb1.size; (try simp at this); omega); have hB1 : Below w.heap.size w w1 := (((Below.refl w.heap.size w).alloc (Nat.le_refl _) _).alloc (by first | (simp; done) | (simp; omega)) _).trans (hb1.mono (by first | (simp; done) | (simp; omega)))) | (go_at_call 84; refine (eqInstS_any lo lo' _ _ _ _ _ _ (k1.keep (agree_of_below hB1 _)) (n1.keep (agree_of_below hB1 _))).mono ?_; rintro e w2 ⟨rfl, hb2⟩; have hcc2 := bcell hb2; have z2a : w.heap.size < w2.heap.size := (by have := hb2.size; (try simp at this); omega); have z2b : w.heap.size + 1 < w2.heap.size := (by have := hb2.size; (try simp at this); omega); have hB2 : Below w.heap.size w w2 := hB1.trans (hb2.mono hB1.size)) | (go_at_call 85; refine (eqTerm_any _ _ _ _ _).mono ?_; rintro e w3 ⟨rfl, hb3⟩; have hcc3 := bcell hb3; have z3a : w.heap.size < w3.heap.size := (by have := hb3.size; (try simp at this); omega); have z3b : w.heap.size + 1 < w3.heap.size := (by have := hb3.size; (try simp at this); omega); have hB3 : Below w.heap.size w w3 := hB2.trans (hb3.mono hB2.size)))
  go_ret
  exact ⟨rfl, hB3⟩
set_option maxHeartbeats 2000000 in
theorem eqBlockS_any (lo lo' : Nat) (a b : Option Addr) (ca cb : Nat) (l : List BlockD) (w : World) (ha : BlocksAt w lo a l) (hb : BlocksAt w lo' b l) :
    Calls Tryz.prog 52 #[.slice a l.length ca, .slice b l.length cb] w fun e w' => e = .returned (.bool true) ∧ Below w.heap.size w w' := by
  have hm := ha.1
  go_enter Tryz.func52, Tryz.ntmps52
  go_wp2_with fail
  go_loopw [5] (fun i wr => ∃ (k : Nat), k ≤ l.length ∧ i = .int .i64 k ∧ Below w.heap.size w wr) (fun i _ => l.length - (intOf i).toNat)
  case atStart => exact ⟨0, by omega, rfl, Below.refl _ _⟩
  case round =>
    obtain ⟨k, hk, rfl, hB⟩ := hrel
    by_cases hlt : k < l.length
    · rcases ha.2 with rfl | ⟨ba, offa, rfl, hla, hba, hca⟩
      · simp at hlt
      rcases hb.2 with rfl | ⟨bb, offb, rfl, hlb, hbb, hcb⟩
      · simp at hlt
      obtain ⟨⟨u0, c0, h0, k0⟩, ⟨u1, c1, h1, k1⟩, h2, h3, h4, h5⟩ := hca k hlt
      obtain ⟨⟨v0, q0, g0, n0⟩, ⟨v1, q1, g1, n1⟩, g2, g3, g4, g5⟩ := hcb k hlt
      generalize l.getD k block0 = d at h0 g0 h1 g1 h2 g2 h3 g3 h4 g4 h5 g5 k0 n0 k1 n1
      have e0 : wr.cell? ⟨ba, offa + k * 6, none⟩ = some (.slice u0 d.phis.length c0) := (cell_block (hB.block ba hba)).trans h0
      have f0 : wr.cell? ⟨bb, offb + k * 6, none⟩ = some (.slice v0 d.phis.length q0) := (cell_block (hB.block bb hbb)).trans g0
      have m0 := k0.keep (agree_of_below hB _)
      have o0 := n0.keep (agree_of_below hB _)
      have e1 : wr.cell? ⟨ba, offa + k * 6 + 1, none⟩ = some (.slice u1 d.insts.length c1) := (cell_block (hB.block ba hba)).trans h1
      have f1 : wr.cell? ⟨bb, offb + k * 6 + 1, none⟩ = some (.slice v1 d.insts.length q1) := (cell_block (hB.block bb hbb)).trans g1
      have m1 := k1.keep (agree_of_below hB _)
      have o1 := n1.keep (agree_of_below hB _)
      have e2 : wr.cell? ⟨ba, offa + k * 6 + 2, none⟩ = some (.int .i64 d.term.kind) := (cell_block (hB.block ba hba)).trans h2
      have f2 : wr.cell? ⟨bb, offb + k * 6 + 2, none⟩ = some (.int .i64 d.term.kind) := (cell_block (hB.block bb hbb)).trans g2
      have e3 : wr.cell? ⟨ba, offa + k * 6 + 3, none⟩ = some (.int .i64 d.term.a) := (cell_block (hB.block ba hba)).trans h3
      have f3 : wr.cell? ⟨bb, offb + k * 6 + 3, none⟩ = some (.int .i64 d.term.a) := (cell_block (hB.block bb hbb)).trans g3
      have e4 : wr.cell? ⟨ba, offa + k * 6 + 4, none⟩ = some (.int .i64 d.term.x) := (cell_block (hB.block ba hba)).trans h4
      have f4 : wr.cell? ⟨bb, offb + k * 6 + 4, none⟩ = some (.int .i64 d.term.x) := (cell_block (hB.block bb hbb)).trans g4
      have e5 : wr.cell? ⟨ba, offa + k * 6 + 5, none⟩ = some (.int .i64 d.term.y) := (cell_block (hB.block ba hba)).trans h5
      have f5 : wr.cell? ⟨bb, offb + k * 6 + 5, none⟩ = some (.int .i64 d.term.y) := (cell_block (hB.block bb hbb)).trans g5
      have HB : Hid (Below w.heap.size w wr) := hB
      clear hca hcb hB ha hb h0 g0 h1 g1 h2 g2 h3 g3 h4 g4 h5 g5 k0 n0 k1 n1
      go_wp2_with fail
      go_region_with (go_at_call 66; refine (eqBlock_any lo lo' d _ _ _ _ _ _ _ _ _ (by exact m0) (by exact m1) (by exact o0) (by exact o1)).mono ?_; rintro e w1 ⟨rfl, hb1⟩)
      all_goals
        go_wp2_with fail
        go_roundw
        case rel =>
          have hx := HB.out
          have hy := hb1.mono (B' := w.heap.size) hx.size
          exact ⟨k + 1, by omega, by go_num, ⟨hy.os.trans hx.os, hy.tape.trans hx.tape, hy.output.trans hx.output, Nat.le_trans hx.size hy.size, fun i hi => (hy.block i hi).trans (hx.block i hi)⟩⟩
        case measure => simp [intOf]; omega
    · go_wp2_with fail
      go_ret
      exact ⟨rfl, hB⟩
set_option maxHeartbeats 2000000 in
theorem eqFunc_any (lo lo' : Nat) (d : FuncD) (u0 : Option Addr) (c0 : Nat) (u2 : Option Addr) (c2 : Nat) (v0 : Option Addr) (q0 : Nat) (v2 : Option Addr) (q2 : Nat) (w : World) (k0 : IntsAt w lo u0 d.params) (k2 : BlocksAt w lo u2 d.blocks) (n0 : IntsAt w lo' v0 d.params) (n2 : BlocksAt w lo' v2 d.blocks) :
    Calls Tryz.prog 32 #[.agg #[.slice u0 d.params.length c0, .int .i64 d.ret, .slice u2 d.blocks.length c2], .agg #[.slice v0 d.params.length q0, .int .i64 d.ret, .slice v2 d.blocks.length q2]] w fun e w' => e = .returned (.bool true) ∧ Below w.heap.size w w' := by
  go_enter Tryz.func32, Tryz.ntmps32
  go_wp2_with (first | (go_at_call 51; refine (eqInts_any lo lo' _ _ _ _ _ _ (k0.keep (agree_of_below (((Below.refl w.heap.size w).alloc (Nat.le_refl _) _).alloc (by first | (simp; done) | (simp; omega)) _) _)) (n0.keep (agree_of_below (((Below.refl w.heap.size w).alloc (Nat.le_refl _) _).alloc (by first | (simp; done) | (simp; omega)) _) _))).mono ?_; rintro e w1 ⟨rfl, hb1⟩; have hcc1 := bcell hb1; have z1a : w.heap.size < w1.heap.size := (by have := hb1.size; (try simp at this); omega); have z1b : w.heap.size + 1 < w1.heap.size := (by have := hb1.size; (try simp at this); omega); have hB1 : Below w.heap.size w w1 := (((Below.refl w.heap.size w).alloc (Nat.le_refl _) _).alloc (by first | (simp; done) | (simp; omega)) _).trans (hb1.mono (by first | (simp; done) | (simp; omega)))) | (go_at_call 52; refine (eqBlockS_any lo lo' _ _ _ _ _ _ (k2.keep (agree_of_below hB1 _)) (n2.keep (agree_of_below hB1 _))).mono ?_; rintro e w2 ⟨rfl, hb2⟩; have hcc2 := bcell hb2; have z2a : w.heap.size < w2.heap.size := (by have := hb2.size; (try simp at this); omega); have z2b : w.heap.size + 1 < w2.heap.size := (by have := hb2.size; (try simp at this); omega); have hB2 : Below w.heap.size w w2 := hB1.trans (hb2.mono hB1.size)))
  go_ret
  exact ⟨rfl, hB2⟩
end Go.Proofs.YtjpiiemhklphlaaGreatDoor
