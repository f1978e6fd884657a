/- The contracts of the comparing functions of programs, where both sides hold the same. -/
import Derived.Test.YtpmanjkaiknlhaaDoorEq
import Derived.Test.YtpmanjkaiknlhaaDoorPgM
namespace Go.Proofs.YtpmanjkaiknlhaaDoor
open Go.RowKit
set_option linter.unusedVariables false

set_option maxHeartbeats 2000000 in
theorem eqMIns_any (d : MInsD) (w : World) :
    Calls Tryd.prog 34 #[.agg #[.int .i64 d.op, .int .i64 d.w, .int .i64 d.d, .int .i64 d.a, .int .i64 d.b, .int .i64 d.c, .int .i64 d.imm], .agg #[.int .i64 d.op, .int .i64 d.w, .int .i64 d.d, .int .i64 d.a, .int .i64 d.b, .int .i64 d.c, .int .i64 d.imm]] w fun e w' => e = .returned (.bool true) ∧ Below w.heap.size w w' := by
  go_enter Tryd.func34, Tryd.ntmps34
  go_wp2_with fail
  go_ret
  exact ⟨rfl, ((Below.refl w.heap.size w).alloc (Nat.le_refl _) _).alloc (by first | (simp; done) | (simp; omega)) _⟩
set_option maxHeartbeats 2000000 in
theorem eqMInsS_any (lo lo' : Nat) (a b : Option Addr) (ca cb : Nat) (l : List MInsD) (w : World) (ha : MinsAt w lo a l) (hb : MinsAt w lo' b l) :
    Calls Tryd.prog 17 #[.slice a l.length ca, .slice b l.length cb] w fun e w' => e = .returned (.bool true) ∧ Below w.heap.size w w' := by
  have hm := ha.1
  go_enter Tryd.func17, Tryd.ntmps17
  go_wp2_with fail
  go_loopw [5] (fun i wr => ∃ (k : Nat), k ≤ l.length ∧ i = .int .i64 k ∧ Below w.heap.size w wr) (fun i _ => l.length - (intOf i).toNat)
  case atStart => exact ⟨0, by omega, rfl, Below.refl _ _⟩
  case round =>
    obtain ⟨k, hk, rfl, hB⟩ := hrel
    by_cases hlt : k < l.length
    · rcases ha.2 with rfl | ⟨ba, offa, rfl, hla, hba, hca⟩
      · simp at hlt
      rcases hb.2 with rfl | ⟨bb, offb, rfl, hlb, hbb, hcb⟩
      · simp at hlt
      obtain ⟨h0, h1, h2, h3, h4, h5, h6⟩ := hca k hlt
      obtain ⟨g0, g1, g2, g3, g4, g5, g6⟩ := hcb k hlt
      generalize l.getD k mins0 = d at h0 g0 h1 g1 h2 g2 h3 g3 h4 g4 h5 g5 h6 g6 
      have e0 : wr.cell? ⟨ba, offa + k * 7, none⟩ = some (.int .i64 d.op) := (cell_block (hB.block ba hba)).trans h0
      have f0 : wr.cell? ⟨bb, offb + k * 7, none⟩ = some (.int .i64 d.op) := (cell_block (hB.block bb hbb)).trans g0
      have e1 : wr.cell? ⟨ba, offa + k * 7 + 1, none⟩ = some (.int .i64 d.w) := (cell_block (hB.block ba hba)).trans h1
      have f1 : wr.cell? ⟨bb, offb + k * 7 + 1, none⟩ = some (.int .i64 d.w) := (cell_block (hB.block bb hbb)).trans g1
      have e2 : wr.cell? ⟨ba, offa + k * 7 + 2, none⟩ = some (.int .i64 d.d) := (cell_block (hB.block ba hba)).trans h2
      have f2 : wr.cell? ⟨bb, offb + k * 7 + 2, none⟩ = some (.int .i64 d.d) := (cell_block (hB.block bb hbb)).trans g2
      have e3 : wr.cell? ⟨ba, offa + k * 7 + 3, none⟩ = some (.int .i64 d.a) := (cell_block (hB.block ba hba)).trans h3
      have f3 : wr.cell? ⟨bb, offb + k * 7 + 3, none⟩ = some (.int .i64 d.a) := (cell_block (hB.block bb hbb)).trans g3
      have e4 : wr.cell? ⟨ba, offa + k * 7 + 4, none⟩ = some (.int .i64 d.b) := (cell_block (hB.block ba hba)).trans h4
      have f4 : wr.cell? ⟨bb, offb + k * 7 + 4, none⟩ = some (.int .i64 d.b) := (cell_block (hB.block bb hbb)).trans g4
      have e5 : wr.cell? ⟨ba, offa + k * 7 + 5, none⟩ = some (.int .i64 d.c) := (cell_block (hB.block ba hba)).trans h5
      have f5 : wr.cell? ⟨bb, offb + k * 7 + 5, none⟩ = some (.int .i64 d.c) := (cell_block (hB.block bb hbb)).trans g5
      have e6 : wr.cell? ⟨ba, offa + k * 7 + 6, none⟩ = some (.int .i64 d.imm) := (cell_block (hB.block ba hba)).trans h6
      have f6 : wr.cell? ⟨bb, offb + k * 7 + 6, none⟩ = some (.int .i64 d.imm) := (cell_block (hB.block bb hbb)).trans g6
      have HB : Hid (Below w.heap.size w wr) := hB
      clear hca hcb hB ha hb h0 g0 h1 g1 h2 g2 h3 g3 h4 g4 h5 g5 h6 g6 
      go_wp2_with fail
      go_region_with (go_at_call 34; refine (eqMIns_any d _).mono ?_; rintro e w1 ⟨rfl, hb1⟩)
      all_goals
        go_wp2_with fail
        go_roundw
        case rel =>
          have hx := HB.out
          have hy := hb1.mono (B' := w.heap.size) hx.size
          exact ⟨k + 1, by omega, by go_num, ⟨hy.os.trans hx.os, hy.tape.trans hx.tape, hy.output.trans hx.output, Nat.le_trans hx.size hy.size, fun i hi => (hy.block i hi).trans (hx.block i hi)⟩⟩
        case measure => simp [intOf]; omega
    · go_wp2_with fail
      go_ret
      exact ⟨rfl, hB⟩
set_option maxHeartbeats 2000000 in
theorem eqProgram_any (lo lo' : Nat) (d : ProgD) (u1 : Option Addr) (c1 : Nat) (u2 : Option Addr) (c2 : Nat) (u3 : Option Addr) (c3 : Nat) (v1 : Option Addr) (q1 : Nat) (v2 : Option Addr) (q2 : Nat) (v3 : Option Addr) (q3 : Nat) (w : World) (k1 : IntsAt w lo u1 d.params) (k2 : IntsAt w lo u2 d.widths) (k3 : MinsAt w lo u3 d.code) (n1 : IntsAt w lo' v1 d.params) (n2 : IntsAt w lo' v2 d.widths) (n3 : MinsAt w lo' v3 d.code) :
    Calls Tryd.prog 6 #[.agg #[.int .i64 d.regs, .slice u1 d.params.length c1, .slice u2 d.widths.length c2, .slice u3 d.code.length c3], .agg #[.int .i64 d.regs, .slice v1 d.params.length q1, .slice v2 d.widths.length q2, .slice v3 d.code.length q3]] w fun e w' => e = .returned (.bool true) ∧ Below w.heap.size w w' := by
  go_enter Tryd.func6, Tryd.ntmps6
  go_wp2_with fail
  refine (eqInts_any lo lo' _ _ _ _ _ _ (k1.keep (agree_of_below (((Below.refl w.heap.size w).alloc (Nat.le_refl _) _).alloc (by first | (simp; done) | (simp; omega)) _) _)) (n1.keep (agree_of_below (((Below.refl w.heap.size w).alloc (Nat.le_refl _) _).alloc (by first | (simp; done) | (simp; omega)) _) _))).mono ?_
  rintro e w1 ⟨rfl, hb1⟩
  have hcc1 := bcell hb1
  have z1a : w.heap.size < w1.heap.size := (by have := hb1.size; (try simp at this); omega)
  have z1b : w.heap.size + 1 < w1.heap.size := (by have := hb1.size; (try simp at this); omega)
  have hB1 : Below w.heap.size w w1 := (((Below.refl w.heap.size w).alloc (Nat.le_refl _) _).alloc (by first | (simp; done) | (simp; omega)) _).trans (hb1.mono (by first | (simp; done) | (simp; omega)))
  go_wp2_with fail
  refine (eqInts_any lo lo' _ _ _ _ _ _ (k2.keep (agree_of_below hB1 _)) (n2.keep (agree_of_below hB1 _))).mono ?_
  rintro e w2 ⟨rfl, hb2⟩
  have hcc2 := bcell hb2
  have z2a : w.heap.size < w2.heap.size := (by have := hb2.size; (try simp at this); omega)
  have z2b : w.heap.size + 1 < w2.heap.size := (by have := hb2.size; (try simp at this); omega)
  have hB2 : Below w.heap.size w w2 := hB1.trans (hb2.mono hB1.size)
  go_wp2_with fail
  refine (eqMInsS_any lo lo' _ _ _ _ _ _ (k3.keep (agree_of_below hB2 _)) (n3.keep (agree_of_below hB2 _))).mono ?_
  rintro e w3 ⟨rfl, hb3⟩
  have hcc3 := bcell hb3
  have z3a : w.heap.size < w3.heap.size := (by have := hb3.size; (try simp at this); omega)
  have z3b : w.heap.size + 1 < w3.heap.size := (by have := hb3.size; (try simp at this); omega)
  have hB3 : Below w.heap.size w w3 := hB2.trans (hb3.mono hB2.size)
  go_wp2_with fail
  go_ret
  exact ⟨rfl, hB3⟩
end Go.Proofs.YtpmanjkaiknlhaaDoor
