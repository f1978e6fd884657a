/- The contracts of the comparing functions, where both sides hold the same: they say so. -/
import Derived.Test.YtjpiiemhklphlaaGreatDoorTo1
import Derived.Deep.QuietTactic
import Derived.BigQuiet
import Derived.Deep.RegionWith
import Derived.WalkSmall
namespace Go.Proofs.YtjpiiemhklphlaaGreatDoor
open Go.RowKit

set_option maxHeartbeats 1000000 in
theorem eqInts_any (lo lo' : Nat) (a b : Option Addr) (ca cb : Nat) (l : List Int) (w : World) (ha : IntsAt w lo a l) (hb : IntsAt w lo' b l) :
    Calls Tryz.prog 51 #[.slice a l.length ca, .slice b l.length cb] w fun e w' => e = .returned (.bool true) ∧ Below w.heap.size w w' := by
  have hm := ha.1
  go_enter Tryz.func51, Tryz.ntmps51
  go_wp2_with fail
  go_loopw [5] (fun i wr => ∃ (k : Nat), k ≤ l.length ∧ i = .int .i64 k ∧ Below w.heap.size w wr) (fun i _ => l.length - (intOf i).toNat)
  case atStart => exact ⟨0, by omega, rfl, Below.refl _ _⟩
  case round =>
    obtain ⟨k, hk, rfl, hB⟩ := hrel
    by_cases hlt : k < l.length
    · rcases ha.2 with rfl | ⟨ba, offa, rfl, hla, hba, hca⟩
      · simp at hlt
      rcases hb.2 with rfl | ⟨bb, offb, rfl, hlb, hbb, hcb⟩
      · simp at hlt
      have e0 : wr.cell? ⟨ba, offa + k, none⟩ = some (.int .i64 (l.getD k 0)) := (cell_block (hB.block ba hba)).trans (hca k hlt)
      have e1 : wr.cell? ⟨bb, offb + k, none⟩ = some (.int .i64 (l.getD k 0)) := (cell_block (hB.block bb hbb)).trans (hcb k hlt)
      generalize l.getD k 0 = d at e0 e1
      have HB : Hid (Below w.heap.size w wr) := hB
      clear hca hcb hB ha hb
      go_wp2_with fail
      go_quiet (fail)
      go_wp2_with fail
      go_roundw
      case rel => exact ⟨k + 1, by omega, by go_num, below_drewN HB.out _⟩
      case measure => simp [intOf]; omega
    · go_wp2_with fail
      go_ret
      exact ⟨rfl, hB⟩
set_option maxHeartbeats 2000000 in
theorem eqPhi_any (lo lo' : Nat) (d : PhiD) (u1 : Option Addr) (c1 : Nat) (v1 : Option Addr) (q1 : Nat) (w : World) (k1 : IntsAt w lo u1 d.ins) (n1 : IntsAt w lo' v1 d.ins) :
    Calls Tryz.prog 94 #[.agg #[.int .i64 d.w, .slice u1 d.ins.length c1], .agg #[.int .i64 d.w, .slice v1 d.ins.length q1]] w fun e w' => e = .returned (.bool true) ∧ Below w.heap.size w w' := by
  go_enter Tryz.func94, Tryz.ntmps94
  go_wp2_with (first | (go_at_call 51; refine (eqInts_any lo lo' _ _ _ _ _ _ (k1.keep (agree_of_below (((Below.refl w.heap.size w).alloc (Nat.le_refl _) _).alloc (by first | (simp; done) | (simp; omega)) _) _)) (n1.keep (agree_of_below (((Below.refl w.heap.size w).alloc (Nat.le_refl _) _).alloc (by first | (simp; done) | (simp; omega)) _) _))).mono ?_; rintro e w1 ⟨rfl, hb1⟩; have hcc1 := bcell hb1; have z1a : w.heap.size < w1.heap.size := (by have := hb1.size; (try simp at this); omega); have z1b : w.heap.size + 1 < w1.heap.size := (by have := hb1.size; (try simp at this); omega); have hB1 : Below w.heap.size w w1 := (((Below.refl w.heap.size w).alloc (Nat.le_refl _) _).alloc (by first | (simp; done) | (simp; omega)) _).trans (hb1.mono (by first | (simp; done) | (simp; omega)))))
  go_ret
  exact ⟨rfl, hB1⟩
set_option maxHeartbeats 2000000 in
theorem eqPhiS_any (lo lo' : Nat) (a b : Option Addr) (ca cb : Nat) (l : List PhiD) (w : World) (ha : PhisAt w lo a l) (hb : PhisAt w lo' b l) :
    Calls Tryz.prog 83 #[.slice a l.length ca, .slice b l.length cb] w fun e w' => e = .returned (.bool true) ∧ Below w.heap.size w w' := by
  have hm := ha.1
  go_enter Tryz.func83, Tryz.ntmps83
  go_wp2_with fail
  go_loopw [5] (fun i wr => ∃ (k : Nat), k ≤ l.length ∧ i = .int .i64 k ∧ Below w.heap.size w wr) (fun i _ => l.length - (intOf i).toNat)
  case atStart => exact ⟨0, by omega, rfl, Below.refl _ _⟩
  case round =>
    obtain ⟨k, hk, rfl, hB⟩ := hrel
    by_cases hlt : k < l.length
    · rcases ha.2 with rfl | ⟨ba, offa, rfl, hla, hba, hca⟩
      · simp at hlt
      rcases hb.2 with rfl | ⟨bb, offb, rfl, hlb, hbb, hcb⟩
      · simp at hlt
      obtain ⟨h0, ⟨u1, c1, h1, k1⟩⟩ := hca k hlt
      obtain ⟨g0, ⟨v1, q1, g1, n1⟩⟩ := hcb k hlt
      generalize l.getD k phi0 = d at h0 g0 h1 g1 k1 n1
      have e0 : wr.cell? ⟨ba, offa + k * 2, none⟩ = some (.int .i64 d.w) := (cell_block (hB.block ba hba)).trans h0
      have f0 : wr.cell? ⟨bb, offb + k * 2, none⟩ = some (.int .i64 d.w) := (cell_block (hB.block bb hbb)).trans g0
      have e1 : wr.cell? ⟨ba, offa + k * 2 + 1, none⟩ = some (.slice u1 d.ins.length c1) := (cell_block (hB.block ba hba)).trans h1
      have f1 : wr.cell? ⟨bb, offb + k * 2 + 1, none⟩ = some (.slice v1 d.ins.length q1) := (cell_block (hB.block bb hbb)).trans g1
      have m1 := k1.keep (agree_of_below hB _)
      have o1 := n1.keep (agree_of_below hB _)
      have HB : Hid (Below w.heap.size w wr) := hB
      clear hca hcb hB ha hb h0 g0 h1 g1 k1 n1
      go_wp2_with fail
      go_region_with (go_at_call 94; refine (eqPhi_any lo lo' d _ _ _ _ _ (by exact m1) (by exact o1)).mono ?_; rintro e w1 ⟨rfl, hb1⟩)
      all_goals
        go_wp2_with fail
        go_roundw
        case rel =>
          have hx := HB.out
          have hy := hb1.mono (B' := w.heap.size) hx.size
          exact ⟨k + 1, by omega, by go_num, ⟨hy.os.trans hx.os, hy.tape.trans hx.tape, hy.output.trans hx.output, Nat.le_trans hx.size hy.size, fun i hi => (hy.block i hi).trans (hx.block i hi)⟩⟩
        case measure => simp [intOf]; omega
    · go_wp2_with fail
      go_ret
      exact ⟨rfl, hB⟩
set_option maxHeartbeats 2000000 in
theorem eqInst_any (lo lo' : Nat) (d : InstD) (u6 : Option Addr) (c6 : Nat) (v6 : Option Addr) (q6 : Nat) (w : World) (k6 : IntsAt w lo u6 d.args) (n6 : IntsAt w lo' v6 d.args) :
    Calls Tryz.prog 95 #[.agg #[.int .i64 d.op, .int .i64 d.w, .int .i64 d.a, .int .i64 d.b, .int .i64 d.c, .int .i64 d.imm, .slice u6 d.args.length c6], .agg #[.int .i64 d.op, .int .i64 d.w, .int .i64 d.a, .int .i64 d.b, .int .i64 d.c, .int .i64 d.imm, .slice v6 d.args.length q6]] w fun e w' => e = .returned (.bool true) ∧ Below w.heap.size w w' := by
  go_enter Tryz.func95, Tryz.ntmps95
  go_wp2_with (first | (go_at_call 51; refine (eqInts_any lo lo' _ _ _ _ _ _ (k6.keep (agree_of_below (((Below.refl w.heap.size w).alloc (Nat.le_refl _) _).alloc (by first | (simp; done) | (simp; omega)) _) _)) (n6.keep (agree_of_below (((Below.refl w.heap.size w).alloc (Nat.le_refl _) _).alloc (by first | (simp; done) | (simp; omega)) _) _))).mono ?_; rintro e w1 ⟨rfl, hb1⟩; have hcc1 := bcell hb1; have z1a : w.heap.size < w1.heap.size := (by have := hb1.size; (try simp at this); omega); have z1b : w.heap.size + 1 < w1.heap.size := (by have := hb1.size; (try simp at this); omega); have hB1 : Below w.heap.size w w1 := (((Below.refl w.heap.size w).alloc (Nat.le_refl _) _).alloc (by first | (simp; done) | (simp; omega)) _).trans (hb1.mono (by first | (simp; done) | (simp; omega)))))
  go_ret
  exact ⟨rfl, hB1⟩
set_option maxHeartbeats 2000000 in
theorem eqInstS_any (lo lo' : Nat) (a b : Option Addr) (ca cb : Nat) (l : List InstD) (w : World) (ha : InstsAt w lo a l) (hb : InstsAt w lo' b l) :
    Calls Tryz.prog 84 #[.slice a l.length ca, .slice b l.length cb] w fun e w' => e = .returned (.bool true) ∧ Below w.heap.size w w' := by
  have hm := ha.1
  go_enter Tryz.func84, Tryz.ntmps84
  go_wp2_with fail
  go_loopw [5] (fun i wr => ∃ (k : Nat), k ≤ l.length ∧ i = .int .i64 k ∧ Below w.heap.size w wr) (fun i _ => l.length - (intOf i).toNat)
  case atStart => exact ⟨0, by omega, rfl, Below.refl _ _⟩
  case round =>
    obtain ⟨k, hk, rfl, hB⟩ := hrel
    by_cases hlt : k < l.length
    · rcases ha.2 with rfl | ⟨ba, offa, rfl, hla, hba, hca⟩
      · simp at hlt
      rcases hb.2 with rfl | ⟨bb, offb, rfl, hlb, hbb, hcb⟩
      · simp at hlt
      obtain ⟨h0, h1, h2, h3, h4, h5, ⟨u6, c6, h6, k6⟩⟩ := hca k hlt
      obtain ⟨g0, g1, g2, g3, g4, g5, ⟨v6, q6, g6, n6⟩⟩ := hcb k hlt
      generalize l.getD k inst0 = d at h0 g0 h1 g1 h2 g2 h3 g3 h4 g4 h5 g5 h6 g6 k6 n6
      have e0 : wr.cell? ⟨ba, offa + k * 7, none⟩ = some (.int .i64 d.op) := (cell_block (hB.block ba hba)).trans h0
      have f0 : wr.cell? ⟨bb, offb + k * 7, none⟩ = some (.int .i64 d.op) := (cell_block (hB.block bb hbb)).trans g0
      have e1 : wr.cell? ⟨ba, offa + k * 7 + 1, none⟩ = some (.int .i64 d.w) := (cell_block (hB.block ba hba)).trans h1
      have f1 : wr.cell? ⟨bb, offb + k * 7 + 1, none⟩ = some (.int .i64 d.w) := (cell_block (hB.block bb hbb)).trans g1
      have e2 : wr.cell? ⟨ba, offa + k * 7 + 2, none⟩ = some (.int .i64 d.a) := (cell_block (hB.block ba hba)).trans h2
      have f2 : wr.cell? ⟨bb, offb + k * 7 + 2, none⟩ = some (.int .i64 d.a) := (cell_block (hB.block bb hbb)).trans g2
      have e3 : wr.cell? ⟨ba, offa + k * 7 + 3, none⟩ = some (.int .i64 d.b) := (cell_block (hB.block ba hba)).trans h3
      have f3 : wr.cell? ⟨bb, offb + k * 7 + 3, none⟩ = some (.int .i64 d.b) := (cell_block (hB.block bb hbb)).trans g3
      have e4 : wr.cell? ⟨ba, offa + k * 7 + 4, none⟩ = some (.int .i64 d.c) := (cell_block (hB.block ba hba)).trans h4
      have f4 : wr.cell? ⟨bb, offb + k * 7 + 4, none⟩ = some (.int .i64 d.c) := (cell_block (hB.block bb hbb)).trans g4
      have e5 : wr.cell? ⟨ba, offa + k * 7 + 5, none⟩ = some (.int .i64 d.imm) := (cell_block (hB.block ba hba)).trans h5
      have f5 : wr.cell? ⟨bb, offb + k * 7 + 5, none⟩ = some (.int .i64 d.imm) := (cell_block (hB.block bb hbb)).trans g5
      have e6 : wr.cell? ⟨ba, offa + k * 7 + 6, none⟩ = some (.slice u6 d.args.length c6) := (cell_block (hB.block ba hba)).trans h6
      have f6 : wr.cell? ⟨bb, offb + k * 7 + 6, none⟩ = some (.slice v6 d.args.length q6) := (cell_block (hB.block bb hbb)).trans g6
      have m6 := k6.keep (agree_of_below hB _)
      have o6 := n6.keep (agree_of_below hB _)
      have HB : Hid (Below w.heap.size w wr) := hB
      clear hca hcb hB ha hb h0 g0 h1 g1 h2 g2 h3 g3 h4 g4 h5 g5 h6 g6 k6 n6
      go_wp2_with fail
      go_region_with (go_at_call 95; refine (eqInst_any lo lo' d _ _ _ _ _ (by exact m6) (by exact o6)).mono ?_; rintro e w1 ⟨rfl, hb1⟩)
      all_goals
        go_wp2_with fail
        go_roundw
        case rel =>
          have hx := HB.out
          have hy := hb1.mono (B' := w.heap.size) hx.size
          exact ⟨k + 1, by omega, by go_num, ⟨hy.os.trans hx.os, hy.tape.trans hx.tape, hy.output.trans hx.output, Nat.le_trans hx.size hy.size, fun i hi => (hy.block i hi).trans (hx.block i hi)⟩⟩
        case measure => simp [intOf]; omega
    · go_wp2_with fail
      go_ret
      exact ⟨rfl, hB⟩
set_option maxHeartbeats 2000000 in
theorem eqTerm_any (k a x y : Int) (w : World) :
    Calls Tryz.prog 85 #[.agg #[.int .i64 k, .int .i64 a, .int .i64 x, .int .i64 y], .agg #[.int .i64 k, .int .i64 a, .int .i64 x, .int .i64 y]] w fun e w' => e = .returned (.bool true) ∧ Below w.heap.size w w' := by
  go_enter Tryz.func85, Tryz.ntmps85
  go_wp2_with fail
  go_ret
  exact ⟨rfl, ((Below.refl w.heap.size w).alloc (Nat.le_refl _) _).alloc (by first | (simp; done) | (simp; omega)) _⟩
end Go.Proofs.YtjpiiemhklphlaaGreatDoor
