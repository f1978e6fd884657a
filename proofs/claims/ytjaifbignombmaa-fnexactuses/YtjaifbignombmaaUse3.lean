/- How often an id is named: the program's side. -/
import Derived.Test.YtjaifbignombmaaUse2
namespace Go.Proofs.Ytjaifbignombmaa
open Go.RowKit

set_option maxHeartbeats 4000000 in
theorem usesI (lo : Nat) (d : FuncD) (u0 : Option Addr) (c0 : Nat) (u2 : Option Addr) (c2 : Nat) (id : Int) (w : World) (hs : SmFunc d) (k2 : BlocksAt w lo u2 d.blocks) :
    Calls Try.prog 23 #[.agg #[.slice u0 d.params.length c0, .int .i64 d.ret, .slice u2 d.blocks.length c2], .int .i64 id] w fun e w' => e = .returned (.int .i64 (usF id d)) ∧ Below w.heap.size w w' := by
  have hbl := hs.2.1
  have HS : Hid (∀ p ∈ d.blocks, SmBlock p) := hs.2.2
  clear hs
  go_enter Try.func23, Try.ntmps23
  go_wp2_with fail
  go_loopw [5, 15] (fun n i wr => ∃ k : Nat, k ≤ d.blocks.length ∧ i = .int .i64 k ∧ n = .int .i64 (sumN (usB id) (d.blocks.take k)) ∧ Below w.heap.size w wr) (fun _ i _ => d.blocks.length - (intOf i).toNat)
  case atStart => exact ⟨0, by omega, rfl, by simp [sumN], (Below.refl _ _).alloc (Nat.le_refl _) _⟩
  case round =>
    obtain ⟨k, hk, rfl, rfl, hW⟩ := hrel
    obtain ⟨wo, hwo⟩ : ∃ wo, wo = wr := ⟨_, rfl⟩
    subst hwo
    have hct := usL_le (id := id) k hbl HS.out
    by_cases hlt : k < d.blocks.length
    · rcases k2.2 with hn | ⟨b, off, rfl, hlo, hb, hcell⟩
      · simp [hn] at hlt
      obtain ⟨⟨v0, q0, h0, m0⟩, ⟨v1, q1, h1, m1⟩, h2, h3, h4, h5⟩ := hcell k hlt
      have htk := sumN_take (usB id) block0 d.blocks k hlt
      have hsm := HS.out _ (getD_mem block0 d.blocks k hlt)
      generalize d.blocks.getD k block0 = x at h0 h1 h2 h3 h4 h5 m0 m1 htk hsm
      have e0 : wo.cell? ⟨b, off + k * 6, none⟩ = some (.slice v0 x.phis.length q0) := (cell_block (hW.block b hb)).trans h0
      have e1 : wo.cell? ⟨b, off + k * 6 + 1, none⟩ = some (.slice v1 x.insts.length q1) := (cell_block (hW.block b hb)).trans h1
      have e2 : wo.cell? ⟨b, off + k * 6 + 2, none⟩ = some (.int .i64 x.term.kind) := (cell_block (hW.block b hb)).trans h2
      have e3 : wo.cell? ⟨b, off + k * 6 + 3, none⟩ = some (.int .i64 x.term.a) := (cell_block (hW.block b hb)).trans h3
      have e4 : wo.cell? ⟨b, off + k * 6 + 4, none⟩ = some (.int .i64 x.term.x) := (cell_block (hW.block b hb)).trans h4
      have e5 : wo.cell? ⟨b, off + k * 6 + 5, none⟩ = some (.int .i64 x.term.y) := (cell_block (hW.block b hb)).trans h5
      have s0 := hsm.1.1
      have s1 := hsm.2.1
      have SP : Hid (∀ p ∈ x.phis, SmPhi p) := hsm.1.2
      have SN : Hid (∀ p ∈ x.insts, SmInst p) := hsm.2.2
      have HT : Hid (sumN (usB id) (d.blocks.take (k + 1)) = sumN (usB id) (d.blocks.take k) + usB id x) := htk
      have HB : Hid (Below w.heap.size w wo) := hW
      have M0 := m0.keep (agree_of_below hW lo)
      have M1 := m1.keep (agree_of_below hW lo)
      generalize hN : sumN (usB id) (d.blocks.take k) = N at hct HT
      clear hcell h0 h1 h2 h3 h4 h5 htk hsm hW k2 m0 m1 hN
      go_wp2_with fail
      go_loopw [5, 22] (fun n i wr => ∃ j : Nat, j ≤ x.phis.length ∧ i = .int .i64 j ∧ n = .int .i64 ((N : Int) + (sumN (fun p => cntI id p.ins) (x.phis.take j) : Int)) ∧ Below (wo.heap.size + 1) (wo.alloc (.cells #[.slice v0 x.phis.length q0, .slice v1 x.insts.length q1, .int .i64 x.term.kind, .int .i64 x.term.a, .int .i64 x.term.x, .int .i64 x.term.y] 72)) wr) (fun _ i _ => x.phis.length - (intOf i).toNat)
      case atStart => exact ⟨0, by omega, rfl, by simp [sumN], Below.refl _ _⟩
      case round =>
        obtain ⟨j, hj, rfl, rfl, hJ⟩ := hrel
        obtain ⟨wp, hwp⟩ : ∃ wp, wp = wr := ⟨_, rfl⟩
        subst hwp
        have hWj := box_below hJ
        have hpt := usP_le (id := id) j s0 SP.out
        by_cases hjl : j < x.phis.length
        · rcases M0.2 with hn | ⟨pb, po, rfl, hplo, hpb, hpc⟩
          · simp [hn] at hjl
          obtain ⟨hi0, ⟨iu, iq, hi1, im⟩⟩ := hpc j hjl
          have hptk := sumN_take (fun p => cntI id p.ins) phi0 x.phis j hjl
          have hsp := SP.out _ (getD_mem phi0 x.phis j hjl)
          generalize x.phis.getD j phi0 = p at hi0 hi1 im hptk hsp
          have f0 : wp.cell? ⟨pb, po + j * 2, none⟩ = some (.int .i64 p.w) := (cell_block (hWj.block pb hpb)).trans hi0
          have f1 : wp.cell? ⟨pb, po + j * 2 + 1, none⟩ = some (.slice iu p.ins.length iq) := (cell_block (hWj.block pb hpb)).trans hi1
          have IM := im.keep (agree_of_below hWj lo)
          have hcl := cntI_le id p.ins
          have hsp' : p.ins.length ≤ 1048576 := hsp
          have HP : Hid (sumN (fun p => cntI id p.ins) (x.phis.take (j + 1)) = sumN (fun p => cntI id p.ins) (x.phis.take j) + cntI id p.ins) := hptk
          have HJ : Hid (Below (wo.heap.size + 1) (wo.alloc (.cells #[.slice (some ⟨pb, po, none⟩) x.phis.length q0, .slice v1 x.insts.length q1, .int .i64 x.term.kind, .int .i64 x.term.a, .int .i64 x.term.x, .int .i64 x.term.y] 72)) wp) := hJ
          have hzp : wo.heap.size + 1 ≤ wp.heap.size := by have := hJ.size; simpa using this
          clear hpc hi0 hi1 im hptk hsp hJ hWj M0 M1
          go_wp2_with (go_at_call 39; refine (timesI lo _ _ _ _ _ hsp' (IM.keep (agree_alloc _ _ _))).mono ?_; rintro e w' ⟨rfl, rfl⟩)
          go_roundw
          case rel => exact ⟨j + 1, by omega, by go_num, congrArg (Value.int .i64) (by rw [HP.out]; omega), HJ.out.alloc hzp _⟩
          case measure => simp [intOf]; omega
        · have hje : j = x.phis.length := by omega
          subst hje
          rw [List.take_length] at hpt ⊢
          generalize hA : sumN (fun p => cntI id p.ins) x.phis = A at hpt ⊢
          have HA : Hid (sumN (fun p => cntI id p.ins) x.phis = A) := hA
          clear hA
          obtain ⟨x0, x1, x2, x3, x4, x5⟩ := cells6 hJ
          have HW : Hid (Below (wo.heap.size + 1) (wo.alloc (.cells #[.slice v0 x.phis.length q0, .slice v1 x.insts.length q1, .int .i64 x.term.kind, .int .i64 x.term.a, .int .i64 x.term.x, .int .i64 x.term.y] 72)) wp) := hJ
          clear hJ M0
          go_wp2_with fail
          clear x0 x1 x2 x3 x4 x5
          go_loopw [5, 36] (fun n i wr => ∃ j : Nat, j ≤ x.insts.length ∧ i = .int .i64 j ∧ n = .int .i64 ((N : Int) + (A : Int) + (sumN (fun i => cntI id (opsD i)) (x.insts.take j) : Int)) ∧ Below (wo.heap.size + 1) (wo.alloc (.cells #[.slice v0 x.phis.length q0, .slice v1 x.insts.length q1, .int .i64 x.term.kind, .int .i64 x.term.a, .int .i64 x.term.x, .int .i64 x.term.y] 72)) wr) (fun _ i _ => x.insts.length - (intOf i).toNat)
          case atStart => exact ⟨0, by omega, rfl, by simp [sumN], HW.out⟩
          case round =>
            obtain ⟨j, hj, rfl, rfl, hJ⟩ := hrel
            obtain ⟨wq, hwq⟩ : ∃ wq, wq = wr := ⟨_, rfl⟩
            subst hwq
            clear HW
            have hWj := box_below hJ
            have hnt := usN_le (id := id) j s1 SN.out
            by_cases hjl : j < x.insts.length
            · rcases M1.2 with hn | ⟨pb, po, rfl, hplo, hpb, hpc⟩
              · simp [hn] at hjl
              obtain ⟨i0, i1, i2, i3, i4, i5, ⟨iu, iq, i6, im⟩⟩ := hpc j hjl
              have hptk := sumN_take (fun i => cntI id (opsD i)) inst0 x.insts j hjl
              have hsp := SN.out _ (getD_mem inst0 x.insts j hjl)
              generalize x.insts.getD j inst0 = p at i0 i1 i2 i3 i4 i5 i6 im hptk hsp
              have f0 : wq.cell? ⟨pb, po + j * 7, none⟩ = some (.int .i64 p.op) := (cell_block (hWj.block pb hpb)).trans i0
              have f1 : wq.cell? ⟨pb, po + j * 7 + 1, none⟩ = some (.int .i64 p.w) := (cell_block (hWj.block pb hpb)).trans i1
              have f2 : wq.cell? ⟨pb, po + j * 7 + 2, none⟩ = some (.int .i64 p.a) := (cell_block (hWj.block pb hpb)).trans i2
              have f3 : wq.cell? ⟨pb, po + j * 7 + 3, none⟩ = some (.int .i64 p.b) := (cell_block (hWj.block pb hpb)).trans i3
              have f4 : wq.cell? ⟨pb, po + j * 7 + 4, none⟩ = some (.int .i64 p.c) := (cell_block (hWj.block pb hpb)).trans i4
              have f5 : wq.cell? ⟨pb, po + j * 7 + 5, none⟩ = some (.int .i64 p.imm) := (cell_block (hWj.block pb hpb)).trans i5
              have f6 : wq.cell? ⟨pb, po + j * 7 + 6, none⟩ = some (.slice iu p.args.length iq) := (cell_block (hWj.block pb hpb)).trans i6
              have IM := im.keep (agree_of_below hWj lo)
              have hsp' : p.args.length ≤ 1048576 := hsp
              have hol := opsD_len p hsp'
              have hcl := cntI_le id (opsD p)
              have HP : Hid (sumN (fun i => cntI id (opsD i)) (x.insts.take (j + 1)) = sumN (fun i => cntI id (opsD i)) (x.insts.take j) + cntI id (opsD p)) := hptk
              have hzq : wo.heap.size + 1 ≤ wq.heap.size := by have := hJ.size; simpa using this
              have HJ : Hid (Below (wo.heap.size + 1) (wo.alloc (.cells #[.slice v0 x.phis.length q0, .slice (some ⟨pb, po, none⟩) x.insts.length q1, .int .i64 x.term.kind, .int .i64 x.term.a, .int .i64 x.term.x, .int .i64 x.term.y] 72)) wq) := hJ
              clear hpc i0 i1 i2 i3 i4 i5 i6 im hptk hsp hJ hWj M1
              go_wp2_with (first | (go_at_call 14; refine (operI lo p _ _ _ hsp' (IM.keep (agree_alloc _ _ _))).mono ?_; rintro e w1 ⟨v, r, rfl, ho, hb1⟩) | (go_at_call 39; refine (timesI _ _ _ _ _ _ hol ho.ints).mono ?_; rintro e w' ⟨rfl, rfl⟩))
              go_roundw
              case rel => exact ⟨j + 1, by omega, by go_num, congrArg (Value.int .i64) (by rw [HP.out]; omega), (HJ.out.alloc hzq _).trans (hb1.mono (by simp; omega))⟩
              case measure => simp [intOf]; omega
            · have hje : j = x.insts.length := by omega
              subst hje
              rw [List.take_length] at hnt ⊢
              generalize hC : sumN (fun i => cntI id (opsD i)) x.insts = C at hnt ⊢
              have HC : Hid (sumN (fun i => cntI id (opsD i)) x.insts = C) := hC
              have HW : Hid (Below w.heap.size w wq) := HB.out.trans ((box_below hJ).mono HB.out.size)
              obtain ⟨x0, x1, x2, x3, x4, x5⟩ := cells6 hJ
              have hzw := HW.out.size
              have hcn := cntT_le id x.term
              have hln : (namesT x.term).length ≤ 1048576 := by unfold namesT; split <;> simp
              clear hC hJ hWj M1
              go_wp2_with (first | (go_at_call 40; refine (termI x.term _).mono ?_; rintro e w1 ⟨v, r, rfl, ho, hb1⟩) | (go_at_call 39; refine (timesI _ _ _ _ _ _ hln ho.ints).mono ?_; rintro e w' ⟨rfl, rfl⟩))
              go_roundw
              case rel => exact ⟨k + 1, by omega, by go_num, congrArg (Value.int .i64) (by rw [HT.out, usB, HA.out, HC.out]; omega), HW.out.trans (hb1.mono hzw)⟩
              case measure => simp [intOf]; omega
    · have hke : k = d.blocks.length := by omega
      go_wp2_with fail
      go_ret
      exact ⟨ret_i (by rw [hke, List.take_length]; rfl), hW⟩
end Go.Proofs.Ytjaifbignombmaa
