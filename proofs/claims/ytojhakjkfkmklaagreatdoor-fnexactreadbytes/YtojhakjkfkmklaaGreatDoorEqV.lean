import Derived.Test.YtojhakjkfkmklaaGreatDoorRmAV
import Derived.Deep.QuietTactic
import Derived.BigQuiet
import Derived.Deep.RegionWith
import Derived.WalkSmall
namespace Go.Proofs.YtojhakjkfkmklaaGreatDoor
open Go.RowKit
set_option maxHeartbeats 1000000 in
theorem eqInts_any (lo lo' : Nat) (a b : Option Addr) (ca cb : Nat) (l : List Int) (w : World) (ha : IntsAt w lo a l) (hb : IntsAt w lo' b l) :
  Calls Tryz.prog 105 #[.slice a l.length ca, .slice b l.length cb] w fun e w' => e = .returned (.bool true) ∧ Below w.heap.size w w' := by
 have hm := ha.1
 go_enter Tryz.func105, Tryz.ntmps105
 go_wp2_with fail
 go_loopw [5] (fun i wr => ∃ (k : Nat), k ≤ l.length ∧ i = .int .i64 k ∧ Below w.heap.size w wr) (fun i _ => l.length - (intOf i).toNat)
 case atStart => exact ⟨0, by omega, rfl, Below.refl _ _⟩
 case round =>
  obtain ⟨k, hk, rfl, hB⟩ := hrel
  by_cases hlt : k < l.length
  ·rcases ha.2 with rfl | ⟨ba, offa, rfl, hla, hba, hca⟩
   ·simp at hlt
   rcases hb.2 with rfl | ⟨bb, offb, rfl, hlb, hbb, hcb⟩
   ·simp at hlt
   have e0 : wr.cell? ⟨ba, offa + k, none⟩ = some (.int .i64 (l.getD k 0)) := (cell_block (hB.block ba hba)).trans (hca k hlt)
   have e1 : wr.cell? ⟨bb, offb + k, none⟩ = some (.int .i64 (l.getD k 0)) := (cell_block (hB.block bb hbb)).trans (hcb k hlt)
   generalize l.getD k 0 = d at e0 e1
   have HB : Hid (Below w.heap.size w wr) := hB
   clear hca hcb hB ha hb
   go_wp2_with fail
   go_quiet (fail)
   go_wp2_with fail
   go_roundw
   case rel => exact ⟨k + 1, by omega, by go_num, below_drewN HB.out _⟩
   case measure => simp [intOf]; omega
  ·go_wp2_with fail
   go_ret
   exact ⟨rfl, hB⟩
set_option maxHeartbeats 2000000 in
theorem eqPhi_any (lo lo' : Nat) (d : PhiD) (u1 : Option Addr) (c1 : Nat) (v1 : Option Addr) (q1 : Nat) (w : World) (k1 : IntsAt w lo u1 d.ins) (n1 : IntsAt w lo' v1 d.ins) :
  Calls Tryz.prog 152 #[.agg #[.int .i64 d.w, .slice u1 d.ins.length c1], .agg #[.int .i64 d.w, .slice v1 d.ins.length q1]] w fun e w' => e = .returned (.bool true) ∧ Below w.heap.size w w' := by
 go_enter Tryz.func152, Tryz.ntmps152
 go_wp2_with (first | (go_at_call 105; refine (eqInts_any lo lo' _ _ _ _ _ _ (k1.keep (agree_of_below (((Below.refl w.heap.size w).alloc (Nat.le_refl _) _).alloc (by first | (simp; done) | (simp; omega)) _) _)) (n1.keep (agree_of_below (((Below.refl w.heap.size w).alloc (Nat.le_refl _) _).alloc (by first | (simp; done) | (simp; omega)) _) _))).mono ?_; rintro e w1 ⟨rfl, hb1⟩; have hcc1 := bcell hb1; have z1a : w.heap.size < w1.heap.size := (by have := hb1.size; (try simp at this); omega); have z1b : w.heap.size + 1 < w1.heap.size := (by have := hb1.size; (try simp at this); omega); have hB1 : Below w.heap.size w w1 := (((Below.refl w.heap.size w).alloc (Nat.le_refl _) _).alloc (by first | (simp; done) | (simp; omega)) _).trans (hb1.mono (by first | (simp; done) | (simp; omega)))))
 go_ret
 exact ⟨rfl, hB1⟩
set_option maxHeartbeats 2000000 in
theorem eqPhiS_any (lo lo' : Nat) (a b : Option Addr) (ca cb : Nat) (l : List PhiD) (w : World) (ha : PhisAt w lo a l) (hb : PhisAt w lo' b l) :
  Calls Tryz.prog 145 #[.slice a l.length ca, .slice b l.length cb] w fun e w' => e = .returned (.bool true) ∧ Below w.heap.size w w' := by
 have hm := ha.1
 go_enter Tryz.func145, Tryz.ntmps145
 go_wp2_with fail
 go_loopw [5] (fun i wr => ∃ (k : Nat), k ≤ l.length ∧ i = .int .i64 k ∧ Below w.heap.size w wr) (fun i _ => l.length - (intOf i).toNat)
 case atStart => exact ⟨0, by omega, rfl, Below.refl _ _⟩
 case round =>
  obtain ⟨k, hk, rfl, hB⟩ := hrel
  by_cases hlt : k < l.length
  ·rcases ha.2 with rfl | ⟨ba, offa, rfl, hla, hba, hca⟩
   ·simp at hlt
   rcases hb.2 with rfl | ⟨bb, offb, rfl, hlb, hbb, hcb⟩
   ·simp at hlt
   obtain ⟨h0, ⟨u1, c1, h1, k1⟩⟩ := hca k hlt
   obtain ⟨g0, ⟨v1, q1, g1, n1⟩⟩ := hcb k hlt
   generalize l.getD k phi0 = d at h0 g0 h1 g1 k1 n1
   have e0 : wr.cell? ⟨ba, offa + k * 2, none⟩ = some (.int .i64 d.w) := (cell_block (hB.block ba hba)).trans h0
   have f0 : wr.cell? ⟨bb, offb + k * 2, none⟩ = some (.int .i64 d.w) := (cell_block (hB.block bb hbb)).trans g0
   have e1 : wr.cell? ⟨ba, offa + k * 2 + 1, none⟩ = some (.slice u1 d.ins.length c1) := (cell_block (hB.block ba hba)).trans h1
   have f1 : wr.cell? ⟨bb, offb + k * 2 + 1, none⟩ = some (.slice v1 d.ins.length q1) := (cell_block (hB.block bb hbb)).trans g1
   have m1 := k1.keep (agree_of_below hB _)
   have o1 := n1.keep (agree_of_below hB _)
   have HB : Hid (Below w.heap.size w wr) := hB
   clear hca hcb hB ha hb h0 g0 h1 g1 k1 n1
   go_wp2_with fail
   go_region_with (go_at_call 152; refine (eqPhi_any lo lo' d _ _ _ _ _ (by exact m1) (by exact o1)).mono ?_; rintro e w1 ⟨rfl, hb1⟩)
   all_goals
    go_wp2_with fail
    go_roundw
    case rel =>
     have hx := HB.out
     have hy := hb1.mono (B' := w.heap.size) hx.size
     exact ⟨k + 1, by omega, by go_num, ⟨hy.os.trans hx.os, hy.tape.trans hx.tape, hy.output.trans hx.output, Nat.le_trans hx.size hy.size, fun i hi => (hy.block i hi).trans (hx.block i hi)⟩⟩
    case measure => simp [intOf]; omega
  ·go_wp2_with fail
   go_ret
   exact ⟨rfl, hB⟩
set_option maxHeartbeats 2000000 in
theorem eqInst_any (lo lo' : Nat) (d : InstD) (u6 : Option Addr) (c6 : Nat) (v6 : Option Addr) (q6 : Nat) (w : World) (k6 : IntsAt w lo u6 d.args) (n6 : IntsAt w lo' v6 d.args) :
  Calls Tryz.prog 153 #[.agg #[.int .i64 d.op, .int .i64 d.w, .int .i64 d.a, .int .i64 d.b, .int .i64 d.c, .int .i64 d.imm, .slice u6 d.args.length c6], .agg #[.int .i64 d.op, .int .i64 d.w, .int .i64 d.a, .int .i64 d.b, .int .i64 d.c, .int .i64 d.imm, .slice v6 d.args.length q6]] w fun e w' => e = .returned (.bool true) ∧ Below w.heap.size w w' := by
 go_enter Tryz.func153, Tryz.ntmps153
 go_wp2_with (first | (go_at_call 105; refine (eqInts_any lo lo' _ _ _ _ _ _ (k6.keep (agree_of_below (((Below.refl w.heap.size w).alloc (Nat.le_refl _) _).alloc (by first | (simp; done) | (simp; omega)) _) _)) (n6.keep (agree_of_below (((Below.refl w.heap.size w).alloc (Nat.le_refl _) _).alloc (by first | (simp; done) | (simp; omega)) _) _))).mono ?_; rintro e w1 ⟨rfl, hb1⟩; have hcc1 := bcell hb1; have z1a : w.heap.size < w1.heap.size := (by have := hb1.size; (try simp at this); omega); have z1b : w.heap.size + 1 < w1.heap.size := (by have := hb1.size; (try simp at this); omega); have hB1 : Below w.heap.size w w1 := (((Below.refl w.heap.size w).alloc (Nat.le_refl _) _).alloc (by first | (simp; done) | (simp; omega)) _).trans (hb1.mono (by first | (simp; done) | (simp; omega)))))
 go_ret
 exact ⟨rfl, hB1⟩
set_option maxHeartbeats 2000000 in
theorem eqInstS_any (lo lo' : Nat) (a b : Option Addr) (ca cb : Nat) (l : List InstD) (w : World) (ha : InstsAt w lo a l) (hb : InstsAt w lo' b l) :
  Calls Tryz.prog 146 #[.slice a l.length ca, .slice b l.length cb] w fun e w' => e = .returned (.bool true) ∧ Below w.heap.size w w' := by
 have hm := ha.1
 go_enter Tryz.func146, Tryz.ntmps146
 go_wp2_with fail
 go_loopw [5] (fun i wr => ∃ (k : Nat), k ≤ l.length ∧ i = .int .i64 k ∧ Below w.heap.size w wr) (fun i _ => l.length - (intOf i).toNat)
 case atStart => exact ⟨0, by omega, rfl, Below.refl _ _⟩
 case round =>
  obtain ⟨k, hk, rfl, hB⟩ := hrel
  by_cases hlt : k < l.length
  ·rcases ha.2 with rfl | ⟨ba, offa, rfl, hla, hba, hca⟩
   ·simp at hlt
   rcases hb.2 with rfl | ⟨bb, offb, rfl, hlb, hbb, hcb⟩
   ·simp at hlt
   obtain ⟨h0, h1, h2, h3, h4, h5, ⟨u6, c6, h6, k6⟩⟩ := hca k hlt
   obtain ⟨g0, g1, g2, g3, g4, g5, ⟨v6, q6, g6, n6⟩⟩ := hcb k hlt
   generalize l.getD k inst0 = d at h0 g0 h1 g1 h2 g2 h3 g3 h4 g4 h5 g5 h6 g6 k6 n6
   have e0 : wr.cell? ⟨ba, offa + k * 7, none⟩ = some (.int .i64 d.op) := (cell_block (hB.block ba hba)).trans h0
   have f0 : wr.cell? ⟨bb, offb + k * 7, none⟩ = some (.int .i64 d.op) := (cell_block (hB.block bb hbb)).trans g0
   have e1 : wr.cell? ⟨ba, offa + k * 7 + 1, none⟩ = some (.int .i64 d.w) := (cell_block (hB.block ba hba)).trans h1
   have f1 : wr.cell? ⟨bb, offb + k * 7 + 1, none⟩ = some (.int .i64 d.w) := (cell_block (hB.block bb hbb)).trans g1
   have e2 : wr.cell? ⟨ba, offa + k * 7 + 2, none⟩ = some (.int .i64 d.a) := (cell_block (hB.block ba hba)).trans h2
   have f2 : wr.cell? ⟨bb, offb + k * 7 + 2, none⟩ = some (.int .i64 d.a) := (cell_block (hB.block bb hbb)).trans g2
   have e3 : wr.cell? ⟨ba, offa + k * 7 + 3, none⟩ = some (.int .i64 d.b) := (cell_block (hB.block ba hba)).trans h3
   have f3 : wr.cell? ⟨bb, offb + k * 7 + 3, none⟩ = some (.int .i64 d.b) := (cell_block (hB.block bb hbb)).trans g3
   have e4 : wr.cell? ⟨ba, offa + k * 7 + 4, none⟩ = some (.int .i64 d.c) := (cell_block (hB.block ba hba)).trans h4
   have f4 : wr.cell? ⟨bb, offb + k * 7 + 4, none⟩ = some (.int .i64 d.c) := (cell_block (hB.block bb hbb)).trans g4
   have e5 : wr.cell? ⟨ba, offa + k * 7 + 5, none⟩ = some (.int .i64 d.imm) := (cell_block (hB.block ba hba)).trans h5
   have f5 : wr.cell? ⟨bb, offb + k * 7 + 5, none⟩ = some (.int .i64 d.imm) := (cell_block (hB.block bb hbb)).trans g5
   have e6 : wr.cell? ⟨ba, offa + k * 7 + 6, none⟩ = some (.slice u6 d.args.length c6) := (cell_block (hB.block ba hba)).trans h6
   have f6 : wr.cell? ⟨bb, offb + k * 7 + 6, none⟩ = some (.slice v6 d.args.length q6) := (cell_block (hB.block bb hbb)).trans g6
   have m6 := k6.keep (agree_of_below hB _)
   have o6 := n6.keep (agree_of_below hB _)
   have HB : Hid (Below w.heap.size w wr) := hB
   clear hca hcb hB ha hb h0 g0 h1 g1 h2 g2 h3 g3 h4 g4 h5 g5 h6 g6 k6 n6
   go_wp2_with fail
   go_region_with (go_at_call 153; refine (eqInst_any lo lo' d _ _ _ _ _ (by exact m6) (by exact o6)).mono ?_; rintro e w1 ⟨rfl, hb1⟩)
   all_goals
    go_wp2_with fail
    go_roundw
    case rel =>
     have hx := HB.out
     have hy := hb1.mono (B' := w.heap.size) hx.size
     exact ⟨k + 1, by omega, by go_num, ⟨hy.os.trans hx.os, hy.tape.trans hx.tape, hy.output.trans hx.output, Nat.le_trans hx.size hy.size, fun i hi => (hy.block i hi).trans (hx.block i hi)⟩⟩
    case measure => simp [intOf]; omega
  ·go_wp2_with fail
   go_ret
   exact ⟨rfl, hB⟩
set_option maxHeartbeats 2000000 in
theorem eqTerm_any (k a x y : Int) (w : World) :
  Calls Tryz.prog 147 #[.agg #[.int .i64 k, .int .i64 a, .int .i64 x, .int .i64 y], .agg #[.int .i64 k, .int .i64 a, .int .i64 x, .int .i64 y]] w fun e w' => e = .returned (.bool true) ∧ Below w.heap.size w w' := by
 go_enter Tryz.func147, Tryz.ntmps147
 go_wp2_with fail
 go_ret
 exact ⟨rfl, ((Below.refl w.heap.size w).alloc (Nat.le_refl _) _).alloc (by first | (simp; done) | (simp; omega)) _⟩
end Go.Proofs.YtojhakjkfkmklaaGreatDoor
namespace Go.Proofs.YtojhakjkfkmklaaGreatDoor
open Go.RowKit
set_option maxHeartbeats 2000000 in
theorem eqBlock_any (lo lo' : Nat) (d : BlockD) (u0 : Option Addr) (c0 : Nat) (u1 : Option Addr) (c1 : Nat) (v0 : Option Addr) (q0 : Nat) (v1 : Option Addr) (q1 : Nat) (w : World) (k0 : PhisAt w lo u0 d.phis) (k1 : InstsAt w lo u1 d.insts) (n0 : PhisAt w lo' v0 d.phis) (n1 : InstsAt w lo' v1 d.insts) :
  Calls Tryz.prog 134 #[.agg #[.slice u0 d.phis.length c0, .slice u1 d.insts.length c1, .int .i64 d.term.kind, .int .i64 d.term.a, .int .i64 d.term.x, .int .i64 d.term.y], .agg #[.slice v0 d.phis.length q0, .slice v1 d.insts.length q1, .int .i64 d.term.kind, .int .i64 d.term.a, .int .i64 d.term.x, .int .i64 d.term.y]] w fun e w' => e = .returned (.bool true) ∧ Below w.heap.size w w' := by
 go_enter Tryz.func134, Tryz.ntmps134
 go_wp2_with (first | (go_at_call 145; refine (eqPhiS_any lo lo' _ _ _ _ _ _ (k0.keep (agree_of_below (((Below.refl w.heap.size w).alloc (Nat.le_refl _) _).alloc (by first | (simp; done) | (simp; omega)) _) _)) (n0.keep (agree_of_below (((Below.refl w.heap.size w).alloc (Nat.le_refl _) _).alloc (by first | (simp; done) | (simp; omega)) _) _))).mono ?_; rintro e w1 ⟨rfl, hb1⟩; have hcc1 := bcell hb1; have z1a : w.heap.size < w1.heap.size := (by have := hb1.size; (try simp at this); omega); have z1b : w.heap.size + 1 < w1.heap.size := (by have := hb1.size; (try simp at this); omega); have hB1 : Below w.heap.size w w1 := (((Below.refl w.heap.size w).alloc (Nat.le_refl _) _).alloc (by first | (simp; done) | (simp; omega)) _).trans (hb1.mono (by first | (simp; done) | (simp; omega)))) | (go_at_call 146; refine (eqInstS_any lo lo' _ _ _ _ _ _ (k1.keep (agree_of_below hB1 _)) (n1.keep (agree_of_below hB1 _))).mono ?_; rintro e w2 ⟨rfl, hb2⟩; have hcc2 := bcell hb2; have z2a : w.heap.size < w2.heap.size := (by have := hb2.size; (try simp at this); omega); have z2b : w.heap.size + 1 < w2.heap.size := (by have := hb2.size; (try simp at this); omega); have hB2 : Below w.heap.size w w2 := hB1.trans (hb2.mono hB1.size)) | (go_at_call 147; refine (eqTerm_any _ _ _ _ _).mono ?_; rintro e w3 ⟨rfl, hb3⟩; have hcc3 := bcell hb3; have z3a : w.heap.size < w3.heap.size := (by have := hb3.size; (try simp at this); omega); have z3b : w.heap.size + 1 < w3.heap.size := (by have := hb3.size; (try simp at this); omega); have hB3 : Below w.heap.size w w3 := hB2.trans (hb3.mono hB2.size)))
 go_ret
 exact ⟨rfl, hB3⟩
set_option maxHeartbeats 2000000 in
theorem eqBlockS_any (lo lo' : Nat) (a b : Option Addr) (ca cb : Nat) (l : List BlockD) (w : World) (ha : BlocksAt w lo a l) (hb : BlocksAt w lo' b l) :
  Calls Tryz.prog 106 #[.slice a l.length ca, .slice b l.length cb] w fun e w' => e = .returned (.bool true) ∧ Below w.heap.size w w' := by
 have hm := ha.1
 go_enter Tryz.func106, Tryz.ntmps106
 go_wp2_with fail
 go_loopw [5] (fun i wr => ∃ (k : Nat), k ≤ l.length ∧ i = .int .i64 k ∧ Below w.heap.size w wr) (fun i _ => l.length - (intOf i).toNat)
 case atStart => exact ⟨0, by omega, rfl, Below.refl _ _⟩
 case round =>
  obtain ⟨k, hk, rfl, hB⟩ := hrel
  by_cases hlt : k < l.length
  ·rcases ha.2 with rfl | ⟨ba, offa, rfl, hla, hba, hca⟩
   ·simp at hlt
   rcases hb.2 with rfl | ⟨bb, offb, rfl, hlb, hbb, hcb⟩
   ·simp at hlt
   obtain ⟨⟨u0, c0, h0, k0⟩, ⟨u1, c1, h1, k1⟩, h2, h3, h4, h5⟩ := hca k hlt
   obtain ⟨⟨v0, q0, g0, n0⟩, ⟨v1, q1, g1, n1⟩, g2, g3, g4, g5⟩ := hcb k hlt
   generalize l.getD k block0 = d at h0 g0 h1 g1 h2 g2 h3 g3 h4 g4 h5 g5 k0 n0 k1 n1
   have e0 : wr.cell? ⟨ba, offa + k * 6, none⟩ = some (.slice u0 d.phis.length c0) := (cell_block (hB.block ba hba)).trans h0
   have f0 : wr.cell? ⟨bb, offb + k * 6, none⟩ = some (.slice v0 d.phis.length q0) := (cell_block (hB.block bb hbb)).trans g0
   have m0 := k0.keep (agree_of_below hB _)
   have o0 := n0.keep (agree_of_below hB _)
   have e1 : wr.cell? ⟨ba, offa + k * 6 + 1, none⟩ = some (.slice u1 d.insts.length c1) := (cell_block (hB.block ba hba)).trans h1
   have f1 : wr.cell? ⟨bb, offb + k * 6 + 1, none⟩ = some (.slice v1 d.insts.length q1) := (cell_block (hB.block bb hbb)).trans g1
   have m1 := k1.keep (agree_of_below hB _)
   have o1 := n1.keep (agree_of_below hB _)
   have e2 : wr.cell? ⟨ba, offa + k * 6 + 2, none⟩ = some (.int .i64 d.term.kind) := (cell_block (hB.block ba hba)).trans h2
   have f2 : wr.cell? ⟨bb, offb + k * 6 + 2, none⟩ = some (.int .i64 d.term.kind) := (cell_block (hB.block bb hbb)).trans g2
   have e3 : wr.cell? ⟨ba, offa + k * 6 + 3, none⟩ = some (.int .i64 d.term.a) := (cell_block (hB.block ba hba)).trans h3
   have f3 : wr.cell? ⟨bb, offb + k * 6 + 3, none⟩ = some (.int .i64 d.term.a) := (cell_block (hB.block bb hbb)).trans g3
   have e4 : wr.cell? ⟨ba, offa + k * 6 + 4, none⟩ = some (.int .i64 d.term.x) := (cell_block (hB.block ba hba)).trans h4
   have f4 : wr.cell? ⟨bb, offb + k * 6 + 4, none⟩ = some (.int .i64 d.term.x) := (cell_block (hB.block bb hbb)).trans g4
   have e5 : wr.cell? ⟨ba, offa + k * 6 + 5, none⟩ = some (.int .i64 d.term.y) := (cell_block (hB.block ba hba)).trans h5
   have f5 : wr.cell? ⟨bb, offb + k * 6 + 5, none⟩ = some (.int .i64 d.term.y) := (cell_block (hB.block bb hbb)).trans g5
   have HB : Hid (Below w.heap.size w wr) := hB
   clear hca hcb hB ha hb h0 g0 h1 g1 h2 g2 h3 g3 h4 g4 h5 g5 k0 n0 k1 n1
   go_wp2_with fail
   go_region_with (go_at_call 134; refine (eqBlock_any lo lo' d _ _ _ _ _ _ _ _ _ (by exact m0) (by exact m1) (by exact o0) (by exact o1)).mono ?_; rintro e w1 ⟨rfl, hb1⟩)
   all_goals
    go_wp2_with fail
    go_roundw
    case rel =>
     have hx := HB.out
     have hy := hb1.mono (B' := w.heap.size) hx.size
     exact ⟨k + 1, by omega, by go_num, ⟨hy.os.trans hx.os, hy.tape.trans hx.tape, hy.output.trans hx.output, Nat.le_trans hx.size hy.size, fun i hi => (hy.block i hi).trans (hx.block i hi)⟩⟩
    case measure => simp [intOf]; omega
  ·go_wp2_with fail
   go_ret
   exact ⟨rfl, hB⟩
set_option maxHeartbeats 2000000 in
theorem eqFunc_any (lo lo' : Nat) (d : FuncD) (u0 : Option Addr) (c0 : Nat) (u2 : Option Addr) (c2 : Nat) (v0 : Option Addr) (q0 : Nat) (v2 : Option Addr) (q2 : Nat) (w : World) (k0 : IntsAt w lo u0 d.params) (k2 : BlocksAt w lo u2 d.blocks) (n0 : IntsAt w lo' v0 d.params) (n2 : BlocksAt w lo' v2 d.blocks) :
  Calls Tryz.prog 72 #[.agg #[.slice u0 d.params.length c0, .int .i64 d.ret, .slice u2 d.blocks.length c2], .agg #[.slice v0 d.params.length q0, .int .i64 d.ret, .slice v2 d.blocks.length q2]] w fun e w' => e = .returned (.bool true) ∧ Below w.heap.size w w' := by
 go_enter Tryz.func72, Tryz.ntmps72
 go_wp2_with (first | (go_at_call 105; refine (eqInts_any lo lo' _ _ _ _ _ _ (k0.keep (agree_of_below (((Below.refl w.heap.size w).alloc (Nat.le_refl _) _).alloc (by first | (simp; done) | (simp; omega)) _) _)) (n0.keep (agree_of_below (((Below.refl w.heap.size w).alloc (Nat.le_refl _) _).alloc (by first | (simp; done) | (simp; omega)) _) _))).mono ?_; rintro e w1 ⟨rfl, hb1⟩; have hcc1 := bcell hb1; have z1a : w.heap.size < w1.heap.size := (by have := hb1.size; (try simp at this); omega); have z1b : w.heap.size + 1 < w1.heap.size := (by have := hb1.size; (try simp at this); omega); have hB1 : Below w.heap.size w w1 := (((Below.refl w.heap.size w).alloc (Nat.le_refl _) _).alloc (by first | (simp; done) | (simp; omega)) _).trans (hb1.mono (by first | (simp; done) | (simp; omega)))) | (go_at_call 106; refine (eqBlockS_any lo lo' _ _ _ _ _ _ (k2.keep (agree_of_below hB1 _)) (n2.keep (agree_of_below hB1 _))).mono ?_; rintro e w2 ⟨rfl, hb2⟩; have hcc2 := bcell hb2; have z2a : w.heap.size < w2.heap.size := (by have := hb2.size; (try simp at this); omega); have z2b : w.heap.size + 1 < w2.heap.size := (by have := hb2.size; (try simp at this); omega); have hB2 : Below w.heap.size w w2 := hB1.trans (hb2.mono hB1.size)))
 go_ret
 exact ⟨rfl, hB2⟩
end Go.Proofs.YtojhakjkfkmklaaGreatDoor
namespace Go.Proofs.YtojhakjkfkmklaaGreatDoor
open Go.RowKit
def cntB (d : BlockD) : Nat := d.phis.length + d.insts.length
def cntL : List BlockD → Nat
 | [] => 0
 | d :: r => cntB d + cntL r
def cntF (d : FuncD) : Nat := d.params.length + cntL d.blocks
theorem cntL_append (a b : List BlockD) : cntL (a ++ b) = cntL a + cntL b := by
 induction a with
 | nil => simp [cntL]
 | cons d r ih => simp [cntL, ih]; omega
theorem cntL_take (l : List BlockD) (k : Nat) (h : k < l.length) : cntL (l.take (k + 1)) = cntL (l.take k) + cntB (l.getD k block0) := by
 rw [List.take_succ_eq_append_getElem h, cntL_append]
 simp [cntL, List.getD, h]
theorem cntL_le (l : List BlockD) (hs : ∀ d ∈ l, SmBlock d) : cntL l ≤ l.length * 2097152 := by
 induction l with
 | nil => simp [cntL]
 | cons d r ih =>
  have h1 := ih fun x hx => hs x (List.mem_cons_of_mem _ hx)
  have h2 := hs d (List.mem_cons_self ..)
  have h3 := h2.1.1
  have h4 := h2.2.1
  simp only [cntL, cntB, List.length_cons]; omega
theorem cnt_take_le (l : List BlockD) (k : Nat) (hl : l.length ≤ 1048576) (hs : ∀ d ∈ l, SmBlock d) : cntL (l.take k) ≤ 2199023255552 := by
 have h := cntL_le (l.take k) fun d hd => hs d (List.mem_of_mem_take hd)
 have : (l.take k).length ≤ 1048576 := by simp; omega
 omega
set_option maxHeartbeats 2000000 in
theorem countS_any (lo : Nat) (d : FuncD) (u0 : Option Addr) (c0 : Nat) (u2 : Option Addr) (c2 : Nat) (w : World) (hs : SmFunc d) (k2 : BlocksAt w lo u2 d.blocks) :
  Calls Tryz.prog 65 #[.agg #[.slice u0 d.params.length c0, .int .i64 d.ret, .slice u2 d.blocks.length c2]] w fun e w' => e = .returned (.int .i64 (cntF d)) ∧ Below w.heap.size w w' := by
 have hp := hs.1
 have hbl := hs.2.1
 have HS : Hid (∀ p ∈ d.blocks, SmBlock p) := hs.2.2
 clear hs
 go_enter Tryz.func65, Tryz.ntmps65
 go_wp2_with fail
 go_loopw [3, 4] (fun n i wr => ∃ k : Nat, k ≤ d.blocks.length ∧ i = .int .i64 k ∧ n = .int .i64 ((d.params.length : Int) + (cntL (d.blocks.take k) : Int)) ∧ Below (w.heap.size + 1) (w.alloc (.cells #[.slice u0 d.params.length c0, .int .i64 d.ret, .slice u2 d.blocks.length c2] 49)) wr) (fun _ i _ => d.blocks.length - (intOf i).toNat)
 case atStart => exact ⟨0, by omega, rfl, by simp [cntL], Below.refl _ _⟩
 case round =>
  obtain ⟨k, hk, rfl, rfl, hB⟩ := hrel
  have b2 : wr.cell? ⟨w.heap.size, 2, none⟩ = some (.slice u2 d.blocks.length c2) := (cell_block (hB.block w.heap.size (by omega))).trans (by simp)
  have hW : Below w.heap.size w wr := ((Below.refl w.heap.size w).alloc (Nat.le_refl _) _).trans (hB.mono (by omega))
  have hct := cnt_take_le d.blocks k hbl HS.out
  by_cases hlt : k < d.blocks.length
  ·rcases k2.2 with hn | ⟨b, off, rfl, hlo, hb, hcell⟩
   ·simp [hn] at hlt
   obtain ⟨⟨v0, q0, h0, _⟩, ⟨v1, q1, h1, _⟩, _⟩ := hcell k hlt
   have htk := cntL_take d.blocks k hlt
   have hsm := HS.out _ (getD_mem block0 d.blocks k hlt)
   generalize d.blocks.getD k block0 = x at h0 h1 htk hsm
   have e0 : wr.cell? ⟨b, off + k * 6, none⟩ = some (.slice v0 x.phis.length q0) := (cell_block (hW.block b hb)).trans h0
   have e1 : wr.cell? ⟨b, off + k * 6 + 1, none⟩ = some (.slice v1 x.insts.length q1) := (cell_block (hW.block b hb)).trans h1
   have s0 := hsm.1.1
   have s1 := hsm.2.1
   have HT : Hid (cntL (d.blocks.take (k + 1)) = cntL (d.blocks.take k) + cntB x) := htk
   have HB : Hid (Below (w.heap.size + 1) (w.alloc (.cells #[.slice u0 d.params.length c0, .int .i64 d.ret, .slice (some ⟨b, off, none⟩) d.blocks.length c2] 49)) wr) := hB
   clear hcell h0 h1 htk hsm hB hW k2
   go_wp2_with fail
   go_quiet (fail)
   go_wp2_with fail
   go_roundw
   case rel => exact ⟨k + 1, by omega, by go_num, congrArg (Value.int .i64) (by rw [HT.out]; unfold cntB; omega), below_drewN HB.out _⟩
   case measure => simp [intOf]; omega
  ·have hke : k = d.blocks.length := by omega
   clear hB
   go_wp2_with fail
   go_ret
   exact ⟨ret_i (by rw [hke, List.take_length]; unfold cntF; omega), hW⟩
set_option maxHeartbeats 2000000 in
theorem countI_any (lo : Nat) (d : FuncD) (u0 : Option Addr) (c0 : Nat) (u2 : Option Addr) (c2 : Nat) (w : World) (hs : SmFunc d) (k2 : BlocksAt w lo u2 d.blocks) :
  Calls Tryz.prog 79 #[.agg #[.slice u0 d.params.length c0, .int .i64 d.ret, .slice u2 d.blocks.length c2]] w fun e w' => e = .returned (.int .i64 (cntF d)) ∧ Below w.heap.size w w' := by
 have hp := hs.1
 have hbl := hs.2.1
 have HS : Hid (∀ p ∈ d.blocks, SmBlock p) := hs.2.2
 clear hs
 go_enter Tryz.func79, Tryz.ntmps79
 go_wp2_with fail
 go_loopw [3, 12] (fun n i wr => ∃ k : Nat, k ≤ d.blocks.length ∧ i = .int .i64 k ∧ n = .int .i64 ((d.params.length : Int) + (cntL (d.blocks.take k) : Int)) ∧ Below w.heap.size w wr) (fun _ i _ => d.blocks.length - (intOf i).toNat)
 case atStart => exact ⟨0, by omega, rfl, by simp [cntL], (Below.refl _ _).alloc (Nat.le_refl _) _⟩
 case round =>
  obtain ⟨k, hk, rfl, rfl, hW⟩ := hrel
  have hct := cnt_take_le d.blocks k hbl HS.out
  by_cases hlt : k < d.blocks.length
  ·rcases k2.2 with hn | ⟨b, off, rfl, hlo, hb, hcell⟩
   ·simp [hn] at hlt
   obtain ⟨⟨v0, q0, h0, _⟩, ⟨v1, q1, h1, _⟩, h2, h3, h4, h5⟩ := hcell k hlt
   have htk := cntL_take d.blocks k hlt
   have hsm := HS.out _ (getD_mem block0 d.blocks k hlt)
   generalize d.blocks.getD k block0 = x at h0 h1 h2 h3 h4 h5 htk hsm
   have e0 : wr.cell? ⟨b, off + k * 6, none⟩ = some (.slice v0 x.phis.length q0) := (cell_block (hW.block b hb)).trans h0
   have e1 : wr.cell? ⟨b, off + k * 6 + 1, none⟩ = some (.slice v1 x.insts.length q1) := (cell_block (hW.block b hb)).trans h1
   have e2 : wr.cell? ⟨b, off + k * 6 + 2, none⟩ = some (.int .i64 x.term.kind) := (cell_block (hW.block b hb)).trans h2
   have e3 : wr.cell? ⟨b, off + k * 6 + 3, none⟩ = some (.int .i64 x.term.a) := (cell_block (hW.block b hb)).trans h3
   have e4 : wr.cell? ⟨b, off + k * 6 + 4, none⟩ = some (.int .i64 x.term.x) := (cell_block (hW.block b hb)).trans h4
   have e5 : wr.cell? ⟨b, off + k * 6 + 5, none⟩ = some (.int .i64 x.term.y) := (cell_block (hW.block b hb)).trans h5
   have s0 := hsm.1.1
   have s1 := hsm.2.1
   have HT : Hid (cntL (d.blocks.take (k + 1)) = cntL (d.blocks.take k) + cntB x) := htk
   have HB : Hid (Below w.heap.size w wr) := hW
   clear hcell h0 h1 h2 h3 h4 h5 htk hsm hW k2
   go_wp2_with fail
   go_roundw
   case rel => exact ⟨k + 1, by omega, by go_num, congrArg (Value.int .i64) (by rw [HT.out]; unfold cntB; omega), HB.out.alloc HB.out.size _⟩
   case measure => simp [intOf]; omega
  ·have hke : k = d.blocks.length := by omega
   go_wp2_with fail
   go_ret
   exact ⟨ret_i (by rw [hke, List.take_length]; unfold cntF; omega), hW⟩
end Go.Proofs.YtojhakjkfkmklaaGreatDoor
