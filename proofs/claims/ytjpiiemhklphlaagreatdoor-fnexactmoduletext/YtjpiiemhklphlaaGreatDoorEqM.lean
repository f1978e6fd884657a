/- The contracts of the comparing functions of modules, where both sides hold the same. -/
import Derived.Test.YtjpiiemhklphlaaGreatDoorEq2
namespace Go.Proofs.YtjpiiemhklphlaaGreatDoor
open Go.RowKit

set_option maxHeartbeats 2000000 in
theorem eqFuncS_any (lo lo' : Nat) (a b : Option Addr) (ca cb : Nat) (l : List FuncD) (w : World) (ha : FuncsAt w lo a l) (hb : FuncsAt w lo' b l) :
    Calls Tryz.prog 18 #[.slice a l.length ca, .slice b l.length cb] w fun e w' => e = .returned (.bool true) ∧ Below w.heap.size w w' := by
  have hm := ha.1
  go_enter Tryz.func18, Tryz.ntmps18
  go_wp2_with fail
  go_loopw [5] (fun i wr => ∃ (k : Nat), k ≤ l.length ∧ i = .int .i64 k ∧ Below w.heap.size w wr) (fun i _ => l.length - (intOf i).toNat)
  case atStart => exact ⟨0, by omega, rfl, Below.refl _ _⟩
  case round =>
    obtain ⟨k, hk, rfl, hB⟩ := hrel
    by_cases hlt : k < l.length
    · rcases ha.2 with rfl | ⟨ba, offa, rfl, hla, hba, hca⟩
      · simp at hlt
      rcases hb.2 with rfl | ⟨bb, offb, rfl, hlb, hbb, hcb⟩
      · simp at hlt
      obtain ⟨⟨u0, c0, h0, k0⟩, h1, ⟨u2, c2, h2, k2⟩⟩ := hca k hlt
      obtain ⟨⟨v0, q0, g0, n0⟩, g1, ⟨v2, q2, g2, n2⟩⟩ := hcb k hlt
      generalize l.getD k func0 = d at h0 g0 h1 g1 h2 g2 k0 n0 k2 n2
      have e0 : wr.cell? ⟨ba, offa + k * 3, none⟩ = some (.slice u0 d.params.length c0) := (cell_block (hB.block ba hba)).trans h0
      have f0 : wr.cell? ⟨bb, offb + k * 3, none⟩ = some (.slice v0 d.params.length q0) := (cell_block (hB.block bb hbb)).trans g0
      have m0 := k0.keep (agree_of_below hB _)
      have o0 := n0.keep (agree_of_below hB _)
      have e1 : wr.cell? ⟨ba, offa + k * 3 + 1, none⟩ = some (.int .i64 d.ret) := (cell_block (hB.block ba hba)).trans h1
      have f1 : wr.cell? ⟨bb, offb + k * 3 + 1, none⟩ = some (.int .i64 d.ret) := (cell_block (hB.block bb hbb)).trans g1
      have e2 : wr.cell? ⟨ba, offa + k * 3 + 2, none⟩ = some (.slice u2 d.blocks.length c2) := (cell_block (hB.block ba hba)).trans h2
      have f2 : wr.cell? ⟨bb, offb + k * 3 + 2, none⟩ = some (.slice v2 d.blocks.length q2) := (cell_block (hB.block bb hbb)).trans g2
      have m2 := k2.keep (agree_of_below hB _)
      have o2 := n2.keep (agree_of_below hB _)
      have HB : Hid (Below w.heap.size w wr) := hB
      clear hca hcb hB ha hb h0 g0 h1 g1 h2 g2 k0 n0 k2 n2
      go_wp2_with fail
      go_region_with (go_at_call 32; refine (eqFunc_any lo lo' d _ _ _ _ _ _ _ _ _ (by exact m0) (by exact m2) (by exact o0) (by exact o2)).mono ?_; rintro e w1 ⟨rfl, hb1⟩)
      all_goals
        go_wp2_with fail
        go_roundw
        case rel =>
          have hx := HB.out
          have hy := hb1.mono (B' := w.heap.size) hx.size
          exact ⟨k + 1, by omega, by go_num, ⟨hy.os.trans hx.os, hy.tape.trans hx.tape, hy.output.trans hx.output, Nat.le_trans hx.size hy.size, fun i hi => (hy.block i hi).trans (hx.block i hi)⟩⟩
        case measure => simp [intOf]; omega
    · go_wp2_with fail
      go_ret
      exact ⟨rfl, hB⟩
set_option maxHeartbeats 2000000 in
theorem eqModule_any (lo lo' : Nat) (l : List FuncD) (u0 : Option Addr) (c0 : Nat) (v0 : Option Addr) (q0 : Nat) (w : World) (k0 : FuncsAt w lo u0 l) (n0 : FuncsAt w lo' v0 l) :
    Calls Tryz.prog 8 #[.agg #[.slice u0 l.length c0], .agg #[.slice v0 l.length q0]] w fun e w' => e = .returned (.bool true) ∧ Below w.heap.size w w' := by
  go_enter Tryz.func8, Tryz.ntmps8
  go_wp2_with (go_at_call 18; refine (eqFuncS_any lo lo' _ _ _ _ _ _ (k0.keep ((agree_alloc _ _ _).trans (agree_alloc _ _ _))) (n0.keep ((agree_alloc _ _ _).trans (agree_alloc _ _ _)))).mono ?_; rintro e w1 ⟨rfl, hb1⟩)
  go_ret
  exact ⟨rfl, (((Below.refl w.heap.size w).alloc (Nat.le_refl _) _).alloc (by first | (simp; done) | (simp; omega)) _).trans (hb1.mono (by first | (simp; done) | (simp; omega)))⟩
end Go.Proofs.YtjpiiemhklphlaaGreatDoor
