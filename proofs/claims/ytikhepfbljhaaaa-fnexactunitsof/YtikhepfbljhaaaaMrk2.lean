/- Writing numbers through phis, instructions, blocks and functions that were copied. -/
import Derived.Test.YtikhepfbljhaaaaMrk
namespace Go.Proofs.Ytikhepfbljhaaaa
open Go.RowKit

set_option maxHeartbeats 2000000 in
theorem markPhis (lo hi : Nat) (a : Option Addr) (c : Nat) (l : List PhiD) (k : Int) (w : World) (hl : l.length ≤ 1048576) (hsm : ∀ d ∈ l, SmPhi d) (hk0 : 0 ≤ k) (hk : k ≤ 4611683000000000000) (hv : SP w lo hi a l) :
    Calls Try.prog 34 #[.slice a l.length c, .int .i64 k] w fun e w' => ∃ x : Int, e = .returned (.int .i64 x) ∧ 0 ≤ x ∧ x ≤ k + l.length * 1048577 ∧ Hdr lo hi w w' := by
  have HV : Hid (SP w lo hi a l) := hv
  have HS : Hid (∀ d ∈ l, SmPhi d) := hsm
  clear hv hsm
  go_enter Try.func34, Try.ntmps34
  go_wp2_with fail
  go_loopw [1, 5] (fun q i wr => ∃ (j : Nat) (x : Int), j ≤ l.length ∧ i = .int .i64 j ∧ q = .int .i64 x ∧ 0 ≤ x ∧ x ≤ k + j * 1048577 ∧ Hid (Hdr lo hi w wr)) (fun _ i _ => l.length - (intOf i).toNat)
  case atStart => exact ⟨0, k, by omega, rfl, rfl, hk0, by omega, Hdr.refl _ _ _⟩
  case round =>
    obtain ⟨j, x, hj, rfl, rfl, hx0, hx1, HH⟩ := hrel
    by_cases hlt : j < l.length
    · rcases HV.out.keep HH.out with h | ⟨g, cur, rfl, hlo, hhi, hb, hc⟩
      · simp [h] at hlt
      obtain ⟨⟨z0, h0⟩, ⟨u, cc, hs, ks⟩⟩ := hc j hlt
      have hsd := HS.out _ (getD_mem phi0 l j hlt)
      generalize l.getD j phi0 = d at hs ks hsd
      have hsl : d.ins.length ≤ 1048576 := hsd
      have e0 : wr.cell? ⟨g, j * 2, none⟩ = some (.int .i64 z0) := (cell_of_heap hb).trans h0
      have f0 : wr.frozen? ⟨g, j * 2, none⟩ = false := froz_of_heap hb
      have es : wr.cell? ⟨g, j * 2 + 1, none⟩ = some (.slice u d.ins.length cc) := (cell_of_heap hb).trans hs
      have HW : Hid (Hdr lo hi wr (wr.setCell ⟨g, j * 2, none⟩ (.int .i64 x))) := (Hdr.refl lo hi wr).store hb h0 hlo hhi x
      have HK : Hid (SI wr lo hi u d.ins.length) := ks
      clear hc hb h0 hs ks hsd
      go_wp2_with (go_at_call 11; refine (markInts lo hi u cc d.ins.length (x + 1) _ hsl (by omega) (by omega) (HK.out.keep HW.out)).mono ?_; rintro e w1 ⟨rfl, hb1⟩; have HB1 : Hid _ := hb1; clear hb1)
      go_roundw
      case rel => exact ⟨j + 1, x + 1 + d.ins.length, by omega, by go_num, by refine congrArg (Value.int .i64) ?_; omega, by omega, by omega, (HH.out.trans HW.out).trans HB1.out⟩
      case measure => simp [intOf]; omega
    · have hke : j = l.length := by omega
      go_wp2_with fail
      go_ret
      exact ⟨x, rfl, hx0, by omega, HH.out⟩
set_option maxHeartbeats 2000000 in
theorem markInsts (lo hi : Nat) (a : Option Addr) (c : Nat) (l : List InstD) (k : Int) (w : World) (hl : l.length ≤ 1048576) (hsm : ∀ d ∈ l, SmInst d) (hk0 : 0 ≤ k) (hk : k ≤ 4611683000000000000) (hv : SN w lo hi a l) :
    Calls Try.prog 35 #[.slice a l.length c, .int .i64 k] w fun e w' => ∃ x : Int, e = .returned (.int .i64 x) ∧ 0 ≤ x ∧ x ≤ k + l.length * 1048582 ∧ Hdr lo hi w w' := by
  have HV : Hid (SN w lo hi a l) := hv
  have HS : Hid (∀ d ∈ l, SmInst d) := hsm
  clear hv hsm
  go_enter Try.func35, Try.ntmps35
  go_wp2_with fail
  go_loopw [1, 5] (fun q i wr => ∃ (j : Nat) (x : Int), j ≤ l.length ∧ i = .int .i64 j ∧ q = .int .i64 x ∧ 0 ≤ x ∧ x ≤ k + j * 1048582 ∧ Hid (Hdr lo hi w wr)) (fun _ i _ => l.length - (intOf i).toNat)
  case atStart => exact ⟨0, k, by omega, rfl, rfl, hk0, by omega, Hdr.refl _ _ _⟩
  case round =>
    obtain ⟨j, x, hj, rfl, rfl, hx0, hx1, HH⟩ := hrel
    by_cases hlt : j < l.length
    · rcases HV.out.keep HH.out with h | ⟨g, cur, rfl, hlo, hhi, hb, hc⟩
      · simp [h] at hlt
      obtain ⟨⟨z0, h0⟩, ⟨z1, h1⟩, ⟨z2, h2⟩, ⟨z3, h3⟩, ⟨z4, h4⟩, ⟨z5, h5⟩, ⟨u, cc, hs, ks⟩⟩ := hc j hlt
      have hsd := HS.out _ (getD_mem inst0 l j hlt)
      generalize l.getD j inst0 = d at hs ks hsd
      have hsl : d.args.length ≤ 1048576 := hsd
      have e0 : wr.cell? ⟨g, j * 7, none⟩ = some (.int .i64 z0) := (cell_of_heap hb).trans h0
      have f0 : wr.frozen? ⟨g, j * 7, none⟩ = false := froz_of_heap hb
      have e1 : wr.cell? ⟨g, j * 7 + 1, none⟩ = some (.int .i64 z1) := (cell_of_heap hb).trans h1
      have f1 : wr.frozen? ⟨g, j * 7 + 1, none⟩ = false := froz_of_heap hb
      have e2 : wr.cell? ⟨g, j * 7 + 2, none⟩ = some (.int .i64 z2) := (cell_of_heap hb).trans h2
      have f2 : wr.frozen? ⟨g, j * 7 + 2, none⟩ = false := froz_of_heap hb
      have e3 : wr.cell? ⟨g, j * 7 + 3, none⟩ = some (.int .i64 z3) := (cell_of_heap hb).trans h3
      have f3 : wr.frozen? ⟨g, j * 7 + 3, none⟩ = false := froz_of_heap hb
      have e4 : wr.cell? ⟨g, j * 7 + 4, none⟩ = some (.int .i64 z4) := (cell_of_heap hb).trans h4
      have f4 : wr.frozen? ⟨g, j * 7 + 4, none⟩ = false := froz_of_heap hb
      have e5 : wr.cell? ⟨g, j * 7 + 5, none⟩ = some (.int .i64 z5) := (cell_of_heap hb).trans h5
      have f5 : wr.frozen? ⟨g, j * 7 + 5, none⟩ = false := froz_of_heap hb
      have es : wr.cell? ⟨g, j * 7 + 6, none⟩ = some (.slice u d.args.length cc) := (cell_of_heap hb).trans hs
      have HW : Hid (Hdr lo hi wr ((((((wr.setCell ⟨g, j * 7, none⟩ (.int .i64 x)).setCell ⟨g, j * 7 + 1, none⟩ (.int .i64 (x + 1))).setCell ⟨g, j * 7 + 2, none⟩ (.int .i64 (x + 1 + 1))).setCell ⟨g, j * 7 + 3, none⟩ (.int .i64 (x + 1 + 1 + 1))).setCell ⟨g, j * 7 + 4, none⟩ (.int .i64 (x + 1 + 1 + 1 + 1))).setCell ⟨g, j * 7 + 5, none⟩ (.int .i64 (x + 1 + 1 + 1 + 1 + 1)))) := ((((((Hdr.refl lo hi wr).store hb h0 hlo hhi x).store hb h1 hlo hhi (x + 1)).store hb h2 hlo hhi (x + 1 + 1)).store hb h3 hlo hhi (x + 1 + 1 + 1)).store hb h4 hlo hhi (x + 1 + 1 + 1 + 1)).store hb h5 hlo hhi (x + 1 + 1 + 1 + 1 + 1)
      have HK : Hid (SI wr lo hi u d.args.length) := ks
      clear hc hb h0 h1 h2 h3 h4 h5 hs ks hsd
      go_wp2_with (go_at_call 11; refine (markInts lo hi u cc d.args.length (x + 1 + 1 + 1 + 1 + 1 + 1) _ hsl (by omega) (by omega) (HK.out.keep HW.out)).mono ?_; rintro e w1 ⟨rfl, hb1⟩; have HB1 : Hid _ := hb1; clear hb1)
      go_roundw
      case rel => exact ⟨j + 1, x + 6 + d.args.length, by omega, by go_num, by refine congrArg (Value.int .i64) ?_; omega, by omega, by omega, (HH.out.trans HW.out).trans HB1.out⟩
      case measure => simp [intOf]; omega
    · have hke : j = l.length := by omega
      go_wp2_with fail
      go_ret
      exact ⟨x, rfl, hx0, by omega, HH.out⟩
set_option maxHeartbeats 4000000 in
theorem markBlocks (lo hi : Nat) (a : Option Addr) (c : Nat) (l : List BlockD) (k : Int) (w : World) (hl : l.length ≤ 1048576) (hsm : ∀ d ∈ l, SmBlock d) (hk0 : 0 ≤ k) (hk : k ≤ 2000000000000000000) (hv : SB w lo hi a l) :
    Calls Try.prog 23 #[.slice a l.length c, .int .i64 k] w fun e w' => ∃ x : Int, e = .returned (.int .i64 x) ∧ 0 ≤ x ∧ Hdr lo hi w w' := by
  have HV : Hid (SB w lo hi a l) := hv
  have HS : Hid (∀ d ∈ l, SmBlock d) := hsm
  clear hv hsm
  go_enter Try.func23, Try.ntmps23
  go_wp2_with fail
  go_loopw [1, 5] (fun q i wr => ∃ (j : Nat) (x : Int), j ≤ l.length ∧ i = .int .i64 j ∧ q = .int .i64 x ∧ 0 ≤ x ∧ x ≤ k + j * 2199030595588 ∧ Hid (Hdr lo hi w wr)) (fun _ i _ => l.length - (intOf i).toNat)
  case atStart => exact ⟨0, k, by omega, rfl, rfl, hk0, by omega, Hdr.refl _ _ _⟩
  case round =>
    obtain ⟨j, x, hj, rfl, rfl, hx0, hx1, HH⟩ := hrel
    by_cases hlt : j < l.length
    · rcases HV.out.keep HH.out with h | ⟨g, cur, rfl, hlo, hhi, hb, hc⟩
      · simp [h] at hlt
      obtain ⟨⟨u0, c0, hs0, ks0⟩, ⟨u1, c1, hs1, ks1⟩, ⟨z2, h2⟩, ⟨z3, h3⟩, ⟨z4, h4⟩, ⟨z5, h5⟩⟩ := hc j hlt
      have hsd := HS.out _ (getD_mem block0 l j hlt)
      generalize l.getD j block0 = d at hs0 ks0 hs1 ks1 hsd
      have hp : d.phis.length ≤ 1048576 := hsd.1.1
      have hn : d.insts.length ≤ 1048576 := hsd.2.1
      have HSD : Hid (SmBlock d) := hsd
      have es0 : wr.cell? ⟨g, j * 6, none⟩ = some (.slice u0 d.phis.length c0) := (cell_of_heap hb).trans hs0
      have HK0 : Hid (SP wr lo hi u0 d.phis) := ks0
      have HK1 : Hid (SN wr lo hi u1 d.insts) := ks1
      have HBk : Hid (wr.heap[g]? = some (.cells cur 62 (0, 0))) := hb
      have HS1 : Hid (cur[j * 6 + 1]? = some (.slice u1 d.insts.length c1)) := hs1
      have H2 : Hid (cur[j * 6 + 2]? = some (.int .i64 z2)) := h2
      have H3 : Hid (cur[j * 6 + 3]? = some (.int .i64 z3)) := h3
      have H4 : Hid (cur[j * 6 + 4]? = some (.int .i64 z4)) := h4
      have H5 : Hid (cur[j * 6 + 5]? = some (.int .i64 z5)) := h5
      clear hc hb hs0 hs1 ks0 ks1 h2 h3 h4 h5 hsd
      go_wp2_with (first | (go_at_call 35; refine (markInsts lo hi u1 c1 d.insts x1 _ hn HSD.out.2.2 (by omega) (by omega) (HK1.out.keep HB1.out)).mono ?_; rintro e w2 ⟨x2, rfl, hx20, hx21, hb2⟩; have HB2 : Hid (Hdr lo hi wr w2) := HB1.out.trans hb2; obtain ⟨⟨y2, e2⟩, f2⟩ := HB2.out.cell HBk.out H2.out; obtain ⟨⟨y3, e3⟩, f3⟩ := HB2.out.cell HBk.out H3.out; obtain ⟨⟨y4, e4⟩, f4⟩ := HB2.out.cell HBk.out H4.out; obtain ⟨⟨y5, e5⟩, f5⟩ := HB2.out.cell HBk.out H5.out; clear hb2) | (go_at_call 34; refine (markPhis lo hi u0 c0 d.phis x _ hp HSD.out.1.2 (by omega) (by omega) HK0.out).mono ?_; rintro e w1 ⟨x1, rfl, hx10, hx11, hb1⟩; have HB1 : Hid (Hdr lo hi wr w1) := hb1; have es1 : w1.cell? ⟨g, j * 6 + 1, none⟩ = some (.slice u1 d.insts.length c1) := HB1.out.head HBk.out HS1.out; clear hb1))
      go_roundw
      case rel => exact ⟨j + 1, x2 + 4, by omega, by go_num, by refine congrArg (Value.int .i64) ?_; omega, by omega, by omega, HH.out.trans ((((HB2.out.store HBk.out H2.out hlo hhi _).store HBk.out H3.out hlo hhi _).store HBk.out H4.out hlo hhi _).store HBk.out H5.out hlo hhi _)⟩
      case measure => simp [intOf]; omega
    · have hke : j = l.length := by omega
      go_wp2_with fail
      go_ret
      exact ⟨x, rfl, hx0, HH.out⟩
set_option maxHeartbeats 1000000 in
theorem markFunc_any (lo hi : Nat) (d : FuncD) (u0 : Option Addr) (c0 : Nat) (u2 : Option Addr) (c2 : Nat) (k : Int) (w : World) (hs : SmFunc d) (hk0 : 0 ≤ k) (hk : k ≤ 1000000000000000000) (hhi : hi ≤ w.heap.size) (k0 : SI w lo hi u0 d.params.length) (k2 : SB w lo hi u2 d.blocks) :
    Calls Try.prog 10 #[.agg #[.slice u0 d.params.length c0, .int .i64 d.ret, .slice u2 d.blocks.length c2], .int .i64 k] w fun e w' => ∃ x : Int, e = .returned (.int .i64 x) ∧ 0 ≤ x ∧ Hdr lo hi w w' := by
  have hp := hs.1
  have HS : Hid (SmFunc d) := hs
  have K0 : Hid (SI (w.alloc (.cells #[.slice u0 d.params.length c0, .int .i64 d.ret, .slice u2 d.blocks.length c2] 30)) lo hi u0 d.params.length) := k0.keep (Hdr.alloc _ _ _ _)
  have K2 : Hid (SB (w.alloc (.cells #[.slice u0 d.params.length c0, .int .i64 d.ret, .slice u2 d.blocks.length c2] 30)) lo hi u2 d.blocks) := k2.keep (Hdr.alloc _ _ _ _)
  have HA : Hid (Hdr lo hi w (w.alloc (.cells #[.slice u0 d.params.length c0, .int .i64 d.ret, .slice u2 d.blocks.length c2] 30))) := Hdr.alloc _ _ _ _
  clear hs k0 k2
  go_enter Try.func10, Try.ntmps10
  go_wp2_with (first | (go_at_call 11; refine (markInts lo hi u0 c0 d.params.length k _ hp hk0 (by omega) K0.out).mono ?_; rintro e w1 ⟨rfl, hb1⟩; have HB1 : Hid _ := hb1; have eb : w1.cell? ⟨w.heap.size, 2, none⟩ = some (.slice u2 d.blocks.length c2) := (cell_block (hb1.out w.heap.size (.inr hhi) (by simp))).trans (by simp); clear hb1) | (go_at_call 23; refine (markBlocks lo hi u2 c2 d.blocks (k + d.params.length) _ HS.out.2.1 HS.out.2.2 (by omega) (by omega) (K2.out.keep HB1.out)).mono ?_; rintro e w2 ⟨x, rfl, hx, hb2⟩; have HB2 : Hid _ := hb2; clear hb2))
  go_ret
  exact ⟨x, rfl, hx, (HA.out.trans HB1.out).trans HB2.out⟩
end Go.Proofs.Ytikhepfbljhaaaa
