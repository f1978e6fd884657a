/- As many as lead to it: phisWrong. -/
import Derived.Test.YthcaagkkajopiaaGreatDoorChBQ
import Derived.Test.YthcaagkkajopiaaGreatDoorMemQ
import Derived.LaidEql
namespace Go.Proofs.YthcaagkkajopiaaGreatDoor
open Go.RowKit
set_option linter.unusedVariables false

theorem ret_out {v : Value} {b : Bool} {x : Value} (h : v = outV b x) : Ending.returned v = .returned (outV b x) := by rw [h]
set_option maxHeartbeats 4000000 in
theorem phisI (lo : Nat) (d : FuncD) (u0 : Option Addr) (c0 : Nat) (u2 : Option Addr) (c2 : Nat) (a : Addr) (w : World) (hs : SmFunc d) (k2 : BlocksAt w lo u2 d.blocks) (hR : RightL d.blocks) (hv : Gv w 4 (errV a)) :
    Calls Tryz.prog 35 #[.agg #[.slice u0 d.params.length c0, .int .i64 d.ret, .slice u2 d.blocks.length c2]] w fun e w' => e = .returned (outV (phsB d) (errV a)) ∧ Below w.heap.size w w' := by
  have hb1 := hR.1
  have hb10 := hR.2.1
  have HS : Hid (SmFunc d) := hs
  have HR : Hid (RightL d.blocks) := hR
  have F0 := FBox.start (d := d) (u0 := u0) (u2 := u2) (c0 := c0) (c2 := c2) (w := w) (T := 42)
  have D := graphI lo d u0 c0 u2 c2 _ hs (k2.keep (agree_of_below F0.below lo))
  clear hs hR
  go_enter Tryz.func35, Tryz.ntmps35
  go_wp2_with (go_at_call 65; refine D.mono ?_; rintro e w1 ⟨hb1', h1⟩; obtain ⟨N, hN, rfl, hG⟩ := (h1.resolve_left (fun h => h.1 HR.out)).2; have HG : Hid (Graph w1 N d.blocks.length (succN d.blocks)) := hG; have HF1 : Hid (FBox d u0 c0 u2 c2 w w1) := F0.keep hb1'; have hN' : w.heap.size < N := (by simp at hN; omega); clear hb1' h1 hG hN F0 D)
  go_loopw [10] (fun i wr => ∃ k : Nat, k ≤ d.blocks.length ∧ i = .int .i64 k ∧ Hid (∀ j, j < k → phaB d j = true) ∧ Hid (FBox d u0 c0 u2 c2 w wr) ∧ Hid (Graph wr N d.blocks.length (succN d.blocks))) (fun i _ => d.blocks.length - (intOf i).toNat)
  case atStart => exact ⟨0, by omega, rfl, fun j hj => by omega, HF1.out, HG.out⟩
  case round =>
    obtain ⟨k, hk, rfl, HD, HF, HGr⟩ := hrel
    clear HG HF1
    obtain ⟨wo, hwo⟩ : ∃ wo, wo = wr := ⟨_, rfl⟩
    subst hwo
    by_cases hlt : k < d.blocks.length
    · have a2 := HF.out.a2
      have hW := HF.out.below
      have hzo := HF.out.size
      obtain ⟨sa, sc, pa, pc, hh, _, _⟩ := HGr.out.node k hlt
      have c0' := HGr.out.head k hlt
      unfold ptrV at c0'
      have c1 : wo.cell? ⟨N + 1 + k, 0, none⟩ = some (.int .i64 k) := (cell_of_heap hh).trans rfl
      have c3 : wo.cell? ⟨N + 1 + k, 2, none⟩ = some (.slice pa (predN (succN d.blocks) d.blocks.length k).length pc) := (cell_of_heap hh).trans rfl
      have hNk : N + 1 + k < wo.heap.size := (Array.getElem?_eq_some_iff.1 hh).1
      rcases k2.2 with hn | ⟨b, off, rfl, hlo, hb, hcell⟩
      · simp [hn] at hlt
      obtain ⟨⟨v0, q0, h0, m0⟩, _⟩ := hcell k hlt
      have PB : Hid (phaB d k = (d.blocks.getD k block0).phis.all fun p => decide (p.ins.length = (predN (succN d.blocks) d.blocks.length k).length)) := (by show _ = _; rfl)
      have hsm := (HS.out.2.2 _ (getD_mem block0 d.blocks k hlt)).1
      have hpl := pred_len (S := succN d.blocks) (n := d.blocks.length) (x := k)
      generalize hpn : (predN (succN d.blocks) d.blocks.length k).length = pn at c3 PB hpl
      generalize d.blocks.getD k block0 = x at h0 m0 PB hsm
      have e0 : wo.cell? ⟨b, off + k * 6, none⟩ = some (.slice v0 x.phis.length q0) := (cell_block (hW.block b hb)).trans h0
      have M0 := m0.keep (agree_of_below hW lo)
      have s0 := hsm.1
      have SP : Hid (∀ p ∈ x.phis, SmPhi p) := hsm.2
      have g0 := (hv.keep hW).cell
      have g1 := (hv.keep hW).lt
      have hbo : b < wo.heap.size := Nat.lt_of_lt_of_le hb hW.size
      unfold errV at g0
      clear hcell h0 m0 hsm hpn hh hW
      go_wp2_with fail
      go_quiet (fail)
      go_wp2_with fail
      clear c0' c1 e0
      go_loopw [24] (fun i wr => ∃ j : Nat, j ≤ x.phis.length ∧ i = .int .i64 j ∧ Hid (∀ q, q < j → (x.phis.getD q phi0).ins.length = pn) ∧ Hid (Below wo.heap.size wo wr)) (fun i _ => x.phis.length - (intOf i).toNat)
      case atStart => exact ⟨0, by omega, rfl, fun q hq => by omega, below_drewN (Below.refl _ _) _⟩
      case round =>
        obtain ⟨j, hj, rfl, HJ, HB⟩ := hrel
        obtain ⟨wp, hwp⟩ : ∃ wp, wp = wr := ⟨_, rfl⟩
        subst hwp
        have hB := HB.out
        have hzp := hB.size
        have c3' := (bcell hB _ _ hNk).trans c3
        have g0' := (bcell hB _ _ g1).trans g0
        by_cases hjl : j < x.phis.length
        · rcases M0.2 with hn | ⟨pb, po, rfl, hplo, hpb, hpc⟩
          · simp [hn] at hjl
          obtain ⟨hi0, ⟨iu, iq, hi1, im⟩⟩ := hpc j hjl
          have hil := im.1
          generalize hp : x.phis.getD j phi0 = p at hi0 hi1 im hil
          have HP : Hid (x.phis.getD j phi0 = p) := hp
          have f0 : wp.cell? ⟨pb, po + j * 2, none⟩ = some (.int .i64 p.w) := (bcell hB _ _ hpb).trans hi0
          have f1 : wp.cell? ⟨pb, po + j * 2 + 1, none⟩ = some (.slice iu p.ins.length iq) := (bcell hB _ _ hpb).trans hi1
          have zp : N + 1 + k < wp.heap.size := by omega
          have zg : 4 < wp.heap.size := by omega
          clear hpc hi0 hi1 im hp M0 c3 g0 hB a2
          by_cases hq : p.ins.length = pn
          · have hq2 : (p.ins.length : Int) = pn := by omega
            have HQ : Hid (p.ins.length = pn) := hq
            clear hq
            go_wp2_with fail
            go_quiet (fail)
            go_wp2_with fail
            go_roundw
            case rel =>
              refine ⟨j + 1, by omega, by go_num, fun q hq => ?_, below_drewN (HB.out.alloc hzp _) _⟩
              by_cases e : q = j
              · subst e; rw [HP.out]; exact HQ.out
              · exact HJ.out q (by omega)
            case measure => simp [intOf]; omega
          · have hq2 : ¬ (p.ins.length : Int) = pn := by omega
            have E : Hid (errV a = outV (phsB d) (errV a)) := by
              have hno : phaB d k = false := by
                rw [PB.out]; exact all_no phi0 x.phis j hjl (by rw [HP.out]; simp [hq])
              have : phsB d = false := all_no 0 (List.range d.blocks.length) k (by simp; exact hlt) (by simp [hlt, hno])
              show _ = _
              rw [this]; rfl
            clear hq
            go_wp2_with fail
            go_quiet (fail)
            go_wp2_with fail
            go_ret
            exact ⟨ret_out E.out, HF.out.below.trans ((below_drewN (HB.out.alloc hzp _) _).mono HF.out.below.size)⟩
        · have YES : Hid (phaB d k = true) := by
            show _ = _
            rw [PB.out]; exact all_yes phi0 x.phis (fun q hq => decide_eq_true (HJ.out q (by omega)))
          clear c3' g0' hB M0
          go_wp2_with fail
          go_roundw
          case rel =>
            refine ⟨k + 1, by omega, by go_num, fun q hq => ?_, HF.out.keep HB.out, HGr.out.keep (agree_of_below HB.out _)⟩
            by_cases e : q = k
            · subst e; exact YES.out
            · exact HD.out q (by omega)
          case measure => simp [intOf]; omega
    · have E : Hid (.nilIface = outV (phsB d) (errV a)) := by
        have : phsB d = true := by
          unfold phsB
          rw [List.all_eq_true]
          exact fun q hq => HD.out q (by have := List.mem_range.1 hq; omega)
        show _ = _
        rw [this]; rfl
      go_wp2_with fail
      go_ret
      exact ⟨ret_out E.out, HF.out.below⟩
end Go.Proofs.YthcaagkkajopiaaGreatDoor
namespace Go.Proofs.YthcaagkkajopiaaGreatDoor
open Go.RowKit
set_option linter.unusedVariables false

theorem argB_congr {t t' : Int → Int} {i : InstD} (h : ∀ id ∈ opsD i, t id = t' id) : argB t i = argB t' i := by
  rcases op_split i.op with ho | ho | ho | ho | ho | ho | ho | ho | ho | ho | ho | ⟨ho, hk⟩
  · simp [opsD, ho] at h; simp [argB, ho, h]
  · simp [opsD, ho, show opB 18 = false by decide] at h; simp [argB, ho, h, show opB 18 = false by decide]
  · simp [opsD, ho, show opB 19 = false by decide] at h; simp [argB, ho, h, show opB 19 = false by decide]
  · simp [opsD, ho, show opB 20 = false by decide] at h; simp [argB, ho, h, show opB 20 = false by decide]
  · simp [argB, ho, show opB 21 = false by decide]
  · simp [opsD, ho, show opB 22 = false by decide] at h; simp [argB, ho, h, show opB 22 = false by decide]
  · simp [opsD, ho, show opB 23 = false by decide] at h; simp [argB, ho, h, show opB 23 = false by decide]
  · simp [opsD, ho, show opB 24 = false by decide] at h; simp [argB, ho, h, show opB 24 = false by decide]
  · simp [opsD, ho, show opB 25 = false by decide] at h; simp [argB, ho, h, show opB 25 = false by decide]
  · simp [argB, ho, show opB 26 = false by decide]
  · simp [opsD, ho, show opB 27 = false by decide] at h; simp [argB, ho, h, show opB 27 = false by decide]
  · have g1 : ¬ i.op = 18 := by omega
    have g2 : ¬ i.op = 19 := by omega
    have g3 : ¬ i.op = 20 := by omega
    have g4 : ¬ i.op = 22 := by omega
    have g5 : ¬ i.op = 23 := by omega
    have g6 : ¬ i.op = 24 := by omega
    have g7 : ¬ i.op = 25 := by omega
    have g8 : ¬ i.op = 27 := by omega
    simp [argB, ho, g1, g2, g3, g4, g5, g6, g7, g8]
def tyL (d : FuncD) : Int → Int := fun i => (tysF d).getD i.toNat 0
theorem tyL_at {d : FuncD} {id : Int} (h : 0 ≤ id ∧ id < cntF d) : tyL d id = typeF d id := by
  unfold tyL
  rw [tys_at (by omega)]
  congr 1; omega
theorem cells2 {w w' : World} {a : Int} {v : Value} {T : TypeId} (h : Below (w.heap.size + 1) (w.alloc (.cells #[.int .i64 a, v] T)) w') :
    w'.cell? ⟨w.heap.size, 0, none⟩ = some (.int .i64 a) ∧ w'.cell? ⟨w.heap.size, 1, none⟩ = some v := by
  have e : w'.heap[w.heap.size]? = some (.cells #[.int .i64 a, v] T (0, 0)) := (h.block _ (by omega)).trans (heap_alloc_last _ _)
  exact ⟨(cell_of_heap e).trans rfl, (cell_of_heap e).trans rfl⟩
theorem cells6c {w w' : World} {v0 v1 : Value} {t0 t1 t2 t3 : Int} {T : TypeId} (h : Below (w.heap.size + 1) (w.alloc (.cells #[v0, v1, .int .i64 t0, .int .i64 t1, .int .i64 t2, .int .i64 t3] T)) w') :
    w'.cell? ⟨w.heap.size, 0, none⟩ = some v0 ∧ w'.cell? ⟨w.heap.size, 1, none⟩ = some v1 ∧ w'.cell? ⟨w.heap.size, 2, none⟩ = some (.int .i64 t0) ∧ w'.cell? ⟨w.heap.size, 3, none⟩ = some (.int .i64 t1) ∧ w'.cell? ⟨w.heap.size, 4, none⟩ = some (.int .i64 t2) ∧ w'.cell? ⟨w.heap.size, 5, none⟩ = some (.int .i64 t3) := by
  have e : w'.heap[w.heap.size]? = some (.cells #[v0, v1, .int .i64 t0, .int .i64 t1, .int .i64 t2, .int .i64 t3] T (0, 0)) := (h.block _ (by omega)).trans (heap_alloc_last _ _)
  exact ⟨(cell_of_heap e).trans rfl, (cell_of_heap e).trans rfl, (cell_of_heap e).trans rfl, (cell_of_heap e).trans rfl, (cell_of_heap e).trans rfl, (cell_of_heap e).trans rfl⟩
theorem typ_no {d : FuncD} {k : Nat} (hk : k < d.blocks.length) (h : blkTB (typeF d) d.ret (d.blocks.getD k block0) = false) (a : Value) : a = outV (typB d) a := by
  have : typB d = false := all_no block0 d.blocks k hk (by rw [h]; decide)
  rw [this]; rfl
theorem cntB_le : ∀ (l : List BlockD) (b : BlockD), b ∈ l → cntB b ≤ cntL l
  | d :: r, b, h => by
    rcases List.mem_cons.1 h with rfl | h
    · simp [cntL]
    · have := cntB_le r b h; simp [cntL]; omega
set_option maxHeartbeats 4000000 in
theorem typI (lo : Nat) (d : FuncD) (u0 : Option Addr) (c0 : Nat) (u2 : Option Addr) (c2 : Nat) (a : Addr) (funcs : Int) (w : World) (hs : SmFunc d) (k0 : IntsAt w lo u0 d.params) (k2 : BlocksAt w lo u2 d.blocks) (hF : Form funcs d) (hv : Gv w 5 (errV a)) :
    Calls Tryz.prog 36 #[.agg #[.slice u0 d.params.length c0, .int .i64 d.ret, .slice u2 d.blocks.length c2]] w fun e w' => e = .returned (outV (typB d) (errV a)) ∧ Below w.heap.size w w' := by
  have hb1 := hF.b1
  have hb10 := hF.b10
  have hc60 := hF.c60
  have HS : Hid (SmFunc d) := hs
  have HF : Hid (Form funcs d) := hF
  have F0 := FBox.start (d := d) (u0 := u0) (u2 := u2) (c0 := c0) (c2 := c2) (w := w) (T := 42)
  have D := typesI lo d u0 c0 u2 c2 _ hs (k0.keep (agree_of_below F0.below lo)) (k2.keep (agree_of_below F0.below lo)) hc60
  clear hs hF k0
  go_enter Tryz.func36, Tryz.ntmps36
  go_wp2_with (go_at_call 61; refine D.mono ?_; rintro e w1 ⟨⟨N, rfl, hT⟩, hb1'⟩; have HT : Hid (IntsAt w1 (w.heap.size + 1) (some ⟨N, 0, none⟩) (tysF d)) := hT.low (by simp); have HF1 : Hid (FBox d u0 c0 u2 c2 w w1) := F0.keep hb1'; have a2 := HF1.out.a2; clear hb1' hT F0 D)
  go_loopw [17] (fun i wr => ∃ k : Nat, k ≤ d.blocks.length ∧ i = .int .i64 k ∧ Hid (∀ j, j < k → blkTB (typeF d) d.ret (d.blocks.getD j block0) = true) ∧ Hid (Below w1.heap.size w1 wr)) (fun i _ => d.blocks.length - (intOf i).toNat)
  case atStart => exact ⟨0, by omega, rfl, fun j hj => by omega, Below.refl _ _⟩
  case round =>
    obtain ⟨k, hk, rfl, HD, HW⟩ := hrel
    clear a2
    obtain ⟨wo, hwo⟩ : ∃ wo, wo = wr := ⟨_, rfl⟩
    subst hwo
    have HFo : Hid _ := HF1.out.keep HW.out
    by_cases hlt : k < d.blocks.length
    · have a1 := HFo.out.a1
      have hW := HFo.out.below
      have hzo := HFo.out.size
      have HTo : Hid (IntsAt wo (w.heap.size + 1) (some ⟨N, 0, none⟩) (tysF d)) := HT.out.keep (agree_of_below HW.out _)
      rcases k2.2 with hn | ⟨b, off, rfl, hlo, hb, hcell⟩
      · simp [hn] at hlt
      obtain ⟨⟨v0, q0, h0, m0⟩, ⟨v1, q1, h1, m1⟩, h2, h3, h4, h5⟩ := hcell k hlt
      have hfb := HF.out.at hlt
      have hsm := HS.out.2.2 _ (getD_mem block0 d.blocks k hlt)
      have HNO : Hid (blkTB (typeF d) d.ret (d.blocks.getD k block0) = false → errV a = outV (typB d) (errV a)) := fun h => typ_no hlt h _
      have HYS : Hid (blkTB (typeF d) d.ret (d.blocks.getD k block0) = true → ∀ j, j < k + 1 → blkTB (typeF d) d.ret (d.blocks.getD j block0) = true) := fun h j hj => by
        by_cases e : j = k
        · subst e; exact h
        · exact HD.out j (by omega)
      have HCB : Hid (cntB (d.blocks.getD k block0) ≤ cntL d.blocks) := cntB_le _ _ (getD_mem block0 d.blocks k hlt)
      generalize d.blocks.getD k block0 = x at h0 h1 h2 h3 h4 h5 m0 m1 hsm HNO HYS hfb HCB
      have HFB : Hid (FBlk (cntF d) d.blocks.length funcs x) := hfb
      have e0 : wo.cell? ⟨b, off + k * 6, none⟩ = some (.slice v0 x.phis.length q0) := (cell_block (hW.block b hb)).trans h0
      have e1 : wo.cell? ⟨b, off + k * 6 + 1, none⟩ = some (.slice v1 x.insts.length q1) := (cell_block (hW.block b hb)).trans h1
      have e2 : wo.cell? ⟨b, off + k * 6 + 2, none⟩ = some (.int .i64 x.term.kind) := (cell_block (hW.block b hb)).trans h2
      have e3 : wo.cell? ⟨b, off + k * 6 + 3, none⟩ = some (.int .i64 x.term.a) := (cell_block (hW.block b hb)).trans h3
      have e4 : wo.cell? ⟨b, off + k * 6 + 4, none⟩ = some (.int .i64 x.term.x) := (cell_block (hW.block b hb)).trans h4
      have e5 : wo.cell? ⟨b, off + k * 6 + 5, none⟩ = some (.int .i64 x.term.y) := (cell_block (hW.block b hb)).trans h5
      have M0 := m0.keep (agree_of_below hW lo)
      have M1 := m1.keep (agree_of_below hW lo)
      have s0 := hsm.1.1
      have s1 := hsm.2.1
      have SN : Hid (∀ p ∈ x.insts, SmInst p) := hsm.2.2
      have g0 := (hv.keep hW).cell
      have g1 := (hv.keep hW).lt
      unfold errV at g0
      have HWo : Hid (Below w.heap.size w wo) := hW
      clear hcell h0 h1 h2 h3 h4 h5 m0 m1 hsm hfb hW HD
      go_wp2_with fail
      clear e0 e1 e2 e3 e4 e5
      go_loopw [24] (fun i wr => ∃ j : Nat, j ≤ x.phis.length ∧ i = .int .i64 j ∧ Hid (∀ q, q < j → ((x.phis.getD q phi0).ins.all fun id => typeF d id == (x.phis.getD q phi0).w) = true) ∧ Hid (Below (wo.heap.size + 1) (wo.alloc (.cells #[.slice v0 x.phis.length q0, .slice v1 x.insts.length q1, .int .i64 x.term.kind, .int .i64 x.term.a, .int .i64 x.term.x, .int .i64 x.term.y] 61)) wr)) (fun i _ => x.phis.length - (intOf i).toNat)
      case atStart => exact ⟨0, by omega, rfl, fun q hq => by omega, Below.refl _ _⟩
      case round =>
        obtain ⟨j, hj, rfl, HJ, HB⟩ := hrel
        obtain ⟨wp, hwp⟩ : ∃ wp, wp = wr := ⟨_, rfl⟩
        subst hwp
        have hWj : Below wo.heap.size wo wp := below_box HB.out
        have hzp : wo.heap.size + 1 ≤ wp.heap.size := by have := HB.out.size; simp at this; omega
        by_cases hjl : j < x.phis.length
        · rcases M0.2 with hn | ⟨pb, po, rfl, hplo, hpb, hpc⟩
          · simp [hn] at hjl
          obtain ⟨hi0, ⟨iu, iq, hi1, im⟩⟩ := hpc j hjl
          have hil := im.1
          have HID : Hid (∀ id ∈ (x.phis.getD j phi0).ins, 0 ≤ id ∧ id < (cntF d : Int)) := HFB.out.phi _ (getD_mem phi0 x.phis j hjl)
          have hl10 := HFB.out.phl _ (getD_mem phi0 x.phis j hjl)
          have PNO : Hid (((x.phis.getD j phi0).ins.all fun id => typeF d id == (x.phis.getD j phi0).w) = false → blkTB (typeF d) d.ret x = false) := fun h => by
            have := all_no (f := fun p : PhiD => p.ins.all fun id => typeF d id == p.w) phi0 x.phis j hjl (by simp only [h]; decide)
            unfold blkTB; rw [this]; rfl
          have PYS : Hid (((x.phis.getD j phi0).ins.all fun id => typeF d id == (x.phis.getD j phi0).w) = true → ∀ q, q < j + 1 → ((x.phis.getD q phi0).ins.all fun id => typeF d id == (x.phis.getD q phi0).w) = true) := fun h q hq => by
            by_cases e : q = j
            · subst e; exact h
            · exact HJ.out q (by omega)
          generalize x.phis.getD j phi0 = p at hi0 hi1 im hil HID PNO PYS hl10
          have f0 : wp.cell? ⟨pb, po + j * 2, none⟩ = some (.int .i64 p.w) := (bcell hWj _ _ hpb).trans hi0
          have f1 : wp.cell? ⟨pb, po + j * 2 + 1, none⟩ = some (.slice iu p.ins.length iq) := (bcell hWj _ _ hpb).trans hi1
          have IM := (im.keep (agree_of_below hWj lo)).keep (agree_alloc wp (.cells #[.int .i64 p.w, .slice iu p.ins.length iq] 86) lo)
          have HTp : Hid (IntsAt wp (w.heap.size + 1) (some ⟨N, 0, none⟩) (tysF d)) := HTo.out.keep (agree_of_below hWj _)
          have gp := (bcell hWj _ _ g1).trans g0
          have gz : 5 < wp.heap.size := by omega
          clear hpc hi0 hi1 im M0 M1 HJ hWj a1
          go_wp2_with fail
          clear f0 f1
          go_loopw [31] (fun i wr => ∃ r : Nat, r ≤ p.ins.length ∧ i = .int .i64 r ∧ Hid (∀ q, q < r → (typeF d (p.ins.getD q 0) == p.w) = true) ∧ Hid (Below (wp.heap.size + 1) (wp.alloc (.cells #[.int .i64 p.w, .slice iu p.ins.length iq] 86)) wr)) (fun i _ => p.ins.length - (intOf i).toNat)
          case atStart => exact ⟨0, by omega, rfl, fun q hq => by omega, Below.refl _ _⟩
          case round =>
            obtain ⟨r, hr, rfl, HRR, HC⟩ := hrel
            obtain ⟨wq, hwq⟩ : ∃ wq, wq = wr := ⟨_, rfl⟩
            subst hwq
            have hC : Below wp.heap.size wp wq := below_box HC.out
            have hzq : wp.heap.size + 1 ≤ wq.heap.size := by have := HC.out.size; simp at this; omega
            by_cases hrl : r < p.ins.length
            · obtain ⟨y0, y1⟩ := cells2 HC.out
              rcases IM.2 with hn | ⟨ib, io, rfl, hilo, hib, hic⟩
              · simp [hn] at hrl
              have z0 : wq.cell? ⟨ib, io + r, none⟩ = some (.int .i64 (p.ins.getD r 0)) := (cell_block (HC.out.block ib (by simpa using hib))).trans (hic r hrl)
              have hid := HID.out _ (getD_mem 0 p.ins r hrl)
              have INO : Hid ((typeF d (p.ins.getD r 0) == p.w) = false → (p.ins.all fun id => typeF d id == p.w) = false) := fun h => all_no 0 p.ins r hrl (by simp only [h]; decide)
              have IYS : Hid ((typeF d (p.ins.getD r 0) == p.w) = true → ∀ q, q < r + 1 → (typeF d (p.ins.getD q 0) == p.w) = true) := fun h q hq => by
                by_cases e : q = r
                · subst e; exact h
                · exact HRR.out q (by omega)
              generalize p.ins.getD r 0 = id at z0 hid INO IYS
              obtain ⟨idn, rfl⟩ : ∃ n : Nat, id = n := ⟨id.toNat, by omega⟩
              have hidn : idn < cntF d := by omega
              rcases HTp.out.2 with hn | ⟨tb, tof, hte, htlo, htb, htc⟩
              · have := tys_len d; simp [hn] at this; omega
              cases hte
              have z1 : wq.cell? ⟨N, 0 + idn, none⟩ = some (.int .i64 (typeF d idn)) := (cell_block (hC.block N htb)).trans ((htc idn (by rw [tys_len]; exact hidn)).trans (by rw [tys_at hidn]))
              simp only [Nat.zero_add] at z1
              have gq := (bcell hC _ _ gz).trans gp
              have gqz : 5 < wq.heap.size := by omega
              have hzN : N < wq.heap.size := Nat.lt_of_lt_of_le htb hC.size
              generalize typeF d (idn : Int) = tv at z1 INO IYS
              clear hic htc hid hC IM gp
              by_cases hq : tv = p.w
              · have HQ : Hid (tv = p.w) := hq
                clear hq
                subst tv
                go_wp2_with fail
                go_quiet (fail)
                go_wp2_with fail
                go_roundw
                case rel => exact ⟨r + 1, by omega, by go_num, IYS.out (by simp), below_drewN HC.out _⟩
                case measure => simp [intOf]; omega
              · have E : Hid (errV a = outV (typB d) (errV a)) := HNO.out (PNO.out (INO.out (by simp [hq])))
                go_wp2_with fail
                go_quiet (fail)
                go_wp2_with fail
                go_ret
                exact ⟨ret_out E.out, HWo.out.trans ((below_box (HB.out.trans ((below_box (below_drewN HC.out _)).mono hzp))).mono HWo.out.size)⟩
            · have YES : Hid ((p.ins.all fun id => typeF d id == p.w) = true) := all_yes 0 p.ins (fun q hq => HRR.out q (by omega))
              have hq2 : Below wo.heap.size wo wq := (below_box HB.out).trans (hC.mono (by omega))
              clear hC IM gp
              go_wp2_with fail
              go_roundw
              case rel => exact ⟨j + 1, by omega, by go_num, PYS.out YES.out, HB.out.trans ((below_box HC.out).mono hzp)⟩
              case measure => simp [intOf]; omega
        · have YES : Hid ((x.phis.all fun p => p.ins.all fun id => typeF d id == p.w) = true) := all_yes phi0 x.phis (fun q hq => HJ.out q (by omega))
          obtain ⟨x0, x1, x2, x3, x4, x5⟩ := cells6c HB.out
          clear hWj M0 HJ
          go_wp2_with fail
          clear x0 x1 x2 x3 x4 x5
          go_loopw [48] (fun i wr => ∃ j : Nat, j ≤ x.insts.length ∧ i = .int .i64 j ∧ Hid (∀ q, q < j → argB (typeF d) (x.insts.getD q inst0) = true) ∧ Hid (Below (wo.heap.size + 1) (wo.alloc (.cells #[.slice v0 x.phis.length q0, .slice v1 x.insts.length q1, .int .i64 x.term.kind, .int .i64 x.term.a, .int .i64 x.term.x, .int .i64 x.term.y] 61)) wr)) (fun i _ => x.insts.length - (intOf i).toNat)
          case atStart => exact ⟨0, by omega, rfl, fun q hq => by omega, HB.out⟩
          case round =>
            obtain ⟨j, hj, rfl, HJ, HC⟩ := hrel
            obtain ⟨wq, hwq⟩ : ∃ wq, wq = wr := ⟨_, rfl⟩
            subst hwq
            clear HB hzp
            have hWj : Below wo.heap.size wo wq := below_box HC.out
            have hzq : wo.heap.size + 1 ≤ wq.heap.size := by have := HC.out.size; simp at this; omega
            have HTq : Hid (IntsAt wq (w.heap.size + 1) (some ⟨N, 0, none⟩) (tysF d)) := HTo.out.keep (agree_of_below hWj _)
            have gq := (bcell hWj _ _ g1).trans g0
            have gqz : 5 < wq.heap.size := by omega
            by_cases hjl : j < x.insts.length
            · rcases M1.2 with hn | ⟨pb, po, rfl, hplo, hpb, hpc⟩
              · simp [hn] at hjl
              obtain ⟨i0, i1, i2, i3, i4, i5, ⟨iu, iq, i6, im⟩⟩ := hpc j hjl
              have HOPS : Hid (∀ id ∈ opsD (x.insts.getD j inst0), 0 ≤ id ∧ id < (cntF d : Int)) := HFB.out.ops _ (getD_mem inst0 x.insts j hjl)
              have INO : Hid (argB (typeF d) (x.insts.getD j inst0) = false → blkTB (typeF d) d.ret x = false) := fun h => by
                have := all_no (f := argB (typeF d)) inst0 x.insts j hjl (by rw [h]; decide)
                unfold blkTB; rw [this]; simp
              have IYS : Hid (argB (typeF d) (x.insts.getD j inst0) = true → ∀ q, q < j + 1 → argB (typeF d) (x.insts.getD q inst0) = true) := fun h q hq => by
                by_cases e : q = j
                · subst e; exact h
                · exact HJ.out q (by omega)
              generalize x.insts.getD j inst0 = p at i0 i1 i2 i3 i4 i5 i6 im HOPS INO IYS
              have f0 : wq.cell? ⟨pb, po + j * 7, none⟩ = some (.int .i64 p.op) := (bcell hWj _ _ hpb).trans i0
              have f1 : wq.cell? ⟨pb, po + j * 7 + 1, none⟩ = some (.int .i64 p.w) := (bcell hWj _ _ hpb).trans i1
              have f2 : wq.cell? ⟨pb, po + j * 7 + 2, none⟩ = some (.int .i64 p.a) := (bcell hWj _ _ hpb).trans i2
              have f3 : wq.cell? ⟨pb, po + j * 7 + 3, none⟩ = some (.int .i64 p.b) := (bcell hWj _ _ hpb).trans i3
              have f4 : wq.cell? ⟨pb, po + j * 7 + 4, none⟩ = some (.int .i64 p.c) := (bcell hWj _ _ hpb).trans i4
              have f5 : wq.cell? ⟨pb, po + j * 7 + 5, none⟩ = some (.int .i64 p.imm) := (bcell hWj _ _ hpb).trans i5
              have f6 : wq.cell? ⟨pb, po + j * 7 + 6, none⟩ = some (.slice iu p.args.length iq) := (bcell hWj _ _ hpb).trans i6
              have hcf : argB (fun i => (tysF d).getD i.toNat 0) p = argB (typeF d) p := argB_congr (fun id hid => tyL_at (HOPS.out id hid))
              have DD := oprI (w.heap.size + 1) (tysF d) (some ⟨N, 0, none⟩) (cntF d) p iu iq (wq.alloc (.cells #[.int .i64 p.op, .int .i64 p.w, .int .i64 p.a, .int .i64 p.b, .int .i64 p.c, .int .i64 p.imm, .slice iu p.args.length iq] 89)) (by rw [tys_len]; omega) (HTq.out.keep (agree_alloc _ _ _)) (fun id hid => by rw [tys_len]; exact HOPS.out id hid) (by rw [tys_len]; have := HCB.out; unfold cntB at this; unfold cntF; omega)
              rw [tys_len, hcf] at DD
              clear hpc i0 i1 i2 i3 i4 i5 i6 im hWj M1 HTq hcf HJ a1
              generalize hbv : argB (typeF d) p = bv at DD
              have HBV : Hid (argB (typeF d) p = bv) := hbv
              clear hbv
              cases bv with
              | true =>
                go_wp2_with (go_at_call 66; refine DD.mono ?_; rintro e w5 ⟨rfl, hb5⟩)
                go_roundw
                case rel => exact ⟨j + 1, by omega, by go_num, IYS.out HBV.out, (HC.out.alloc hzq _).trans (hb5.mono (by simp; omega))⟩
                case measure => simp [intOf]; omega
              | false =>
                have E : Hid (errV a = outV (typB d) (errV a)) := HNO.out (INO.out HBV.out)
                go_wp2_with (go_at_call 66; refine DD.mono ?_; rintro e w5 ⟨rfl, hb5⟩; have g5 := (bcell hb5 5 0 (by simp; omega)).trans (cell_new gqz gq))
                go_ret
                exact ⟨ret_out E.out, HWo.out.trans ((below_box ((HC.out.alloc hzq _).trans (hb5.mono (by simp; omega)))).mono HWo.out.size)⟩
            · have YES2 : Hid (x.insts.all (argB (typeF d)) = true) := all_yes inst0 x.insts (fun q hq => HJ.out q (by omega))
              obtain ⟨x0, x1, x2, x3, x4, x5⟩ := cells6c HC.out
              have a1' := (bcell hWj _ _ (by omega)).trans a1
              have hcf : trmB (fun i => (tysF d).getD i.toNat 0) x.term d.ret = trmB (typeF d) x.term d.ret := by
                unfold trmB
                by_cases e1 : x.term.kind = 1
                · rw [if_pos e1, if_pos e1]; show (tyL d x.term.a == d.ret) = _; rw [tyL_at (Form.term_a HFB.out (.inl e1))]
                · rw [if_neg e1, if_neg e1]
                  by_cases e3 : x.term.kind = 3
                  · rw [if_pos e3, if_pos e3]; show (tyL d x.term.a == 1) = _; rw [tyL_at (Form.term_a HFB.out (.inr e3))]
                  · rw [if_neg e3, if_neg e3]
              have DD := trmI (w.heap.size + 1) (tysF d) (some ⟨N, 0, none⟩) (cntF d) x.term d.ret wq HTq.out (fun h => by rw [tys_len]; exact Form.term_a HFB.out h)
              rw [tys_len, hcf] at DD
              generalize hbv : trmB (typeF d) x.term d.ret = bv at DD
              have HBV : Hid (trmB (typeF d) x.term d.ret = bv) := hbv
              clear hbv hcf HJ M1 hWj HTq a1
              cases bv with
              | true =>
                have YS : Hid (blkTB (typeF d) d.ret x = true) := by show _ = _; unfold blkTB; rw [YES.out, YES2.out, HBV.out]; rfl
                go_wp2_with (go_at_call 67; refine DD.mono ?_; rintro e w5 ⟨rfl, hb5⟩)
                go_roundw
                case rel => exact ⟨k + 1, by omega, by go_num, HYS.out YS.out, HW.out.trans ((below_box (HC.out.trans (hb5.mono hzq))).mono HW.out.size)⟩
                case measure => simp [intOf]; omega
              | false =>
                have E : Hid (errV a = outV (typB d) (errV a)) := HNO.out (by unfold blkTB; rw [HBV.out]; simp)
                go_wp2_with (go_at_call 67; refine DD.mono ?_; rintro e w5 ⟨rfl, hb5⟩; have g5 := (bcell hb5 5 0 gqz).trans gq)
                go_ret
                exact ⟨ret_out E.out, HWo.out.trans ((below_box (HC.out.trans (hb5.mono hzq))).mono HWo.out.size)⟩
    · have E : Hid (.nilIface = outV (typB d) (errV a)) := by
        have : typB d = true := all_yes block0 d.blocks (fun q hq => HD.out q (by omega))
        show _ = _
        rw [this]; rfl
      go_wp2_with fail
      go_ret
      exact ⟨ret_out E.out, HFo.out.below⟩
end Go.Proofs.YthcaagkkajopiaaGreatDoor
namespace Go.Proofs.YthcaagkkajopiaaGreatDoor
open Go.RowKit
set_option linter.unusedVariables false

/-- None, or one of two errors. -/
def OutC (b : Bool) (aW aC : Addr) (v : Value) : Prop := (b = true ∧ v = .nilIface) ∨ (b = false ∧ (v = errV aW ∨ v = errV aC))
theorem cals_no {t : Int → Int} {g : FuncD} {i : InstD} {k : Nat} (hk : k < i.args.length) (h : ¬ t (i.args.getD k 0) = g.params.getD k 0) : calB t g i = false := by
  have : ((List.range i.args.length).all fun k => t (i.args.getD k 0) == g.params.getD k 0) = false := all_no 0 (List.range i.args.length) k (by simp; exact hk) (by simp [hk] at h ⊢; exact h)
  unfold calB; rw [this]; simp
theorem cals_yes {t : Int → Int} {g : FuncD} {i : InstD} (h1 : i.w = g.ret) (h2 : i.args.length = g.params.length) (h : ∀ k, k < i.args.length → t (i.args.getD k 0) = g.params.getD k 0) : calB t g i = true := by
  have : ((List.range i.args.length).all fun k => t (i.args.getD k 0) == g.params.getD k 0) = true := by
    rw [List.all_eq_true]
    exact fun k hk => by rw [h k (List.mem_range.1 hk)]; simp
  unfold calB; rw [this, h2, h1]; simp
set_option maxHeartbeats 4000000 in
theorem callI (lo : Nat) (d g : FuncD) (i : InstD) (ut : Option Addr) (ct : Nat) (u : Option Addr) (q : Nat) (p0 : Option Addr) (q0 : Nat) (p2 : Option Addr) (q2 : Nat) (aW aC : Addr) (w : World)
    (hc60 : cntF d ≤ 60) (hT : IntsAt w lo ut (tysF d)) (hA : IntsAt w lo u i.args) (hP : IntsAt w lo p0 g.params) (hin : ∀ id ∈ i.args, 0 ≤ id ∧ id < (cntF d : Int)) (hl : i.args.length ≤ 1048576) (hgl : g.params.length ≤ 1048576) (hW : Gv w 5 (errV aW)) (hC : Gv w 4 (errV aC)) :
    Calls Tryz.prog 63 #[.slice ut (cntF d) ct, .agg #[.int .i64 i.imm, .slice u i.args.length q], .int .i64 i.w, .agg #[.slice p0 g.params.length q0, .int .i64 g.ret, .slice p2 g.blocks.length q2]] w fun e w' => (∃ v, e = .returned v ∧ OutC (calB (typeF d) g i) aW aC v) ∧ Below w.heap.size w w' := by
  have w0 := hW.cell
  have w1 := hW.lt
  have n0 := hC.cell
  have n1 := hC.lt
  unfold errV at w0 n0
  clear hW hC
  by_cases h1 : i.w = g.ret
  · by_cases h2 : i.args.length = g.params.length
    · have HIN : Hid (∀ id ∈ i.args, 0 ≤ id ∧ id < (cntF d : Int)) := hin
      have HTT : Hid (IntsAt w lo ut (tysF d)) := hT
      have HAA : Hid (IntsAt w lo u i.args) := hA
      have HPP : Hid (IntsAt w lo p0 g.params) := hP
      have H1 : Hid (i.w = g.ret) := h1
      have H2 : Hid (i.args.length = g.params.length) := h2
      rw [h1, h2]
      have hgl2 : g.params.length ≤ 1048576 := by omega
      clear hin hT hA hP h1 h2 hl
      go_enter Tryz.func63, Tryz.ntmps63
      go_wp2_with fail
      go_loopw [27] (fun x wr => ∃ k : Nat, k ≤ g.params.length ∧ x = .int .i64 k ∧ Hid (∀ j, j < k → typeF d (i.args.getD j 0) = g.params.getD j 0) ∧ Hid (Below (w.heap.size + 1 + 1) ((w.alloc (.cells #[.int .i64 i.imm, .slice u g.params.length q] 110)).alloc (.cells #[.slice p0 g.params.length q0, .int .i64 g.ret, .slice p2 g.blocks.length q2] 42)) wr)) (fun x _ => g.params.length - (intOf x).toNat)
      case atStart => exact ⟨0, by omega, rfl, fun j hj => by omega, Below.refl _ _⟩
      case round =>
        obtain ⟨k, hk, rfl, HD, HB⟩ := hrel
        obtain ⟨wo, hwo⟩ : ∃ wo, wo = wr := ⟨_, rfl⟩
        subst hwo
        have hB : Below w.heap.size w wo := (((Below.refl w.heap.size w).alloc (Nat.le_refl _) _).alloc (by simp) _).trans (HB.out.mono (by omega))
        have hz : w.heap.size + 1 + 1 ≤ wo.heap.size := by have := HB.out.size; simp at this; omega
        by_cases hlt : k < g.params.length
        · have hh := (HB.out.block (w.heap.size + 1) (by omega)).trans (show _ = some (Obj.cells #[.slice p0 g.params.length q0, .int .i64 g.ret, .slice p2 g.blocks.length q2] 42 (0, 0)) from heap_two _ _ _)
          have y0 : wo.cell? ⟨w.heap.size + 1, 0, none⟩ = some (.slice p0 g.params.length q0) := (cell_of_heap hh).trans rfl
          rcases HAA.out.2 with hn | ⟨ab, ao, rfl, halo, hab, hac⟩
          · have := H2.out; simp [hn] at this; omega
          rcases HPP.out.2 with hn | ⟨pb, po, rfl, hplo, hpb, hpc⟩
          · simp [hn] at hlt
          have z0 : wo.cell? ⟨ab, ao + k, none⟩ = some (.int .i64 (i.args.getD k 0)) := (bcell hB _ _ hab).trans (hac k (by have := H2.out; omega))
          have z1 : wo.cell? ⟨pb, po + k, none⟩ = some (.int .i64 (g.params.getD k 0)) := (bcell hB _ _ hpb).trans (hpc k hlt)
          have hid := HIN.out _ (getD_mem 0 i.args k (by have := H2.out; omega))
          have NO : Hid (¬ typeF d (i.args.getD k 0) = g.params.getD k 0 → calB (typeF d) g i = false) := fun h => cals_no (by have := H2.out; omega) h
          have YS : Hid (typeF d (i.args.getD k 0) = g.params.getD k 0 → ∀ j, j < k + 1 → typeF d (i.args.getD j 0) = g.params.getD j 0) := fun h j hj => by
            by_cases e : j = k
            · subst e; exact h
            · exact HD.out j (by omega)
          generalize g.params.getD k 0 = pv at z1 NO YS
          generalize i.args.getD k 0 = id at z0 hid NO YS
          obtain ⟨idn, rfl⟩ : ∃ n : Nat, id = n := ⟨id.toNat, by omega⟩
          have hidn : idn < cntF d := by omega
          rcases HTT.out.2 with hn | ⟨tb, tof, rfl, htlo, htb, htc⟩
          · have := tys_len d; simp [hn] at this; omega
          have z2 : wo.cell? ⟨tb, tof + idn, none⟩ = some (.int .i64 (typeF d idn)) := (bcell hB _ _ htb).trans ((htc idn (by rw [tys_len]; exact hidn)).trans (by rw [tys_at hidn]))
          have g0' := (bcell hB _ _ w1).trans w0
          have g1' : 5 < wo.heap.size := by omega
          generalize typeF d (idn : Int) = tv at z2 NO YS
          clear hac hpc htc hid hB hh w0 n0
          by_cases hq : tv = pv
          · subst hq
            go_wp2_with fail
            go_quiet (fail)
            go_wp2_with fail
            go_roundw
            case rel => exact ⟨k + 1, by omega, by go_num, YS.out (by simp), below_drewN HB.out _⟩
            case measure => simp [intOf]; omega
          · have E : Hid (OutC (calB (typeF d) g i) aW aC (errV aW)) := .inr ⟨NO.out hq, .inl rfl⟩
            go_wp2_with fail
            go_quiet (fail)
            go_wp2_with fail
            go_ret
            exact ⟨⟨_, rfl, E.out⟩, (((Below.refl w.heap.size w).alloc (Nat.le_refl _) _).alloc (by simp) _).trans ((below_drewN HB.out _).mono (by omega))⟩
        · have E : Hid (OutC (calB (typeF d) g i) aW aC .nilIface) := .inl ⟨cals_yes H1.out H2.out (fun j hj => HD.out j (by have := H2.out; omega)), rfl⟩
          have HB2 : Hid (Below w.heap.size w wo) := hB
          clear hB
          go_wp2_with fail
          go_ret
          exact ⟨⟨_, rfl, E.out⟩, HB2.out⟩
    · have h2i : ¬ (i.args.length : Int) = g.params.length := by omega
      have E : Hid (OutC (calB (typeF d) g i) aW aC (errV aC)) := .inr ⟨by unfold calB; simp [h2], .inr rfl⟩
      clear hT hA hP hin
      go_enter Tryz.func63, Tryz.ntmps63
      go_wp2_with fail
      go_ret
      exact ⟨⟨_, rfl, E.out⟩, ((Below.refl w.heap.size w).alloc (Nat.le_refl _) _).alloc (by simp) _⟩
  · have E : Hid (OutC (calB (typeF d) g i) aW aC (errV aW)) := .inr ⟨by unfold calB; simp [h1], .inl rfl⟩
    clear hT hA hP hin
    go_enter Tryz.func63, Tryz.ntmps63
    go_wp2_with fail
    go_ret
    exact ⟨⟨_, rfl, E.out⟩, ((Below.refl w.heap.size w).alloc (Nat.le_refl _) _).alloc (by simp) _⟩
end Go.Proofs.YthcaagkkajopiaaGreatDoor
namespace Go.Proofs.YthcaagkkajopiaaGreatDoor
open Go.RowKit


set_option maxHeartbeats 1000000 in
theorem szFuncS_any (lo : Nat) (a : Option Addr) (cap : Nat) (l : List FuncD) (x : Int) (w : World) (h0 : 0 ≤ x) (h1 : x ≤ 1048576) (hv : FuncsAt w lo a l) :
    Calls Tryz.prog 12 #[.slice a l.length cap, .int .i64 x] w fun e w' => e = .returned (.int .i64 (szS szFunc l x)) ∧ Below w.heap.size w w' := by
  obtain ⟨hn, h⟩ := hv
  by_cases hc : x - l.length < 0
  · have E : Hid (-1 = szS szFunc l x) := by show _ = _; rw [szS, if_pos hc]
    go_enter Tryz.func12, Tryz.ntmps12
    go_wp2_with fail
    go_ret
    exact ⟨ret_i E.out, Below.refl _ _⟩
  · have E : Hid (szL szFunc l (x - l.length) = szS szFunc l x) := by show _ = _; rw [szS, if_neg hc]
    go_enter Tryz.func12, Tryz.ntmps12
    go_wp2_with fail
    go_loopw [1, 5] (fun y i wr => ∃ (k : Nat) (z : Int), k ≤ l.length ∧ y = .int .i64 z ∧ i = .int .i64 k ∧ 0 ≤ z ∧ z ≤ 1048576 ∧ szL szFunc (l.drop k) z = szL szFunc l (x - l.length) ∧ Below w.heap.size w wr) (fun _ i _ => l.length - (intOf i).toNat)
    case atStart => exact ⟨0, x - l.length, by omega, rfl, rfl, by omega, by omega, by simp, Below.refl _ _⟩
    case round =>
      obtain ⟨k, z, hk, rfl, rfl, hz0, hz1, hq, hB⟩ := hrel
      by_cases hlt : k < l.length
      · rcases h with rfl | ⟨b, off, rfl, hlo, hb, hcell⟩
        · simp at hlt
        obtain ⟨⟨u0, c0, h0, k0⟩, h1, ⟨u2, c2, h2, k2⟩⟩ := hcell k hlt
        have hd := drop_get func0 l k hlt
        generalize l.getD k func0 = d at *
        have e0 : wr.cell? ⟨b, off + k * 3, none⟩ = some (.slice u0 d.params.length c0) := (cell_block (hB.block b hb)).trans h0
        have m0 := k0.keep (agree_of_below hB _)
        have e1 : wr.cell? ⟨b, off + k * 3 + 1, none⟩ = some (.int .i64 d.ret) := (cell_block (hB.block b hb)).trans h1
        have e2 : wr.cell? ⟨b, off + k * 3 + 2, none⟩ = some (.slice u2 d.blocks.length c2) := (cell_block (hB.block b hb)).trans h2
        have m2 := k2.keep (agree_of_below hB _)
        have HQ : Hid (szL szFunc (l.drop k) z = szL szFunc l (x - l.length)) := hq
        have HD : Hid (l.drop k = d :: l.drop (k + 1)) := hd
        have HB : Hid (Below w.heap.size w wr) := hB
        clear hcell h0 h1 h2 k0 k2 hd hq hB
        rcases szFunc_falls d z hz0 with hs | ⟨hs, hs'⟩
        · have hs2 : szFunc d z < 0 := by omega
          clear hs
          go_wp2_with (go_at_call 21; refine (szFunc_any lo d _ _ _ _ _ _ hz0 hz1 m0 m2).mono ?_; rintro e w1 ⟨rfl, hb1⟩)
          go_ret
          have hq := HQ.out
          rw [HD.out, szL, if_pos hs2] at hq
          exact ⟨ret_i (hq.trans E.out), HB.out.trans (hb1.mono HB.out.size)⟩
        · go_wp2_with (go_at_call 21; refine (szFunc_any lo d _ _ _ _ _ _ hz0 hz1 m0 m2).mono ?_; rintro e w1 ⟨rfl, hb1⟩)
          go_roundw
          case rel =>
            have hq := HQ.out
            rw [HD.out, szL, if_neg (by omega)] at hq
            exact ⟨k + 1, _, by omega, rfl, by go_num, hs, by omega, hq, HB.out.trans (hb1.mono HB.out.size)⟩
          case measure => simp [intOf]; omega
      · have hke : k = l.length := by omega
        have HQ : Hid (szL szFunc (l.drop k) z = szL szFunc l (x - l.length)) := hq
        clear hq
        go_wp2_with fail
        go_ret
        have hq := HQ.out
        rw [hke, List.drop_length, szL] at hq
        exact ⟨ret_i (hq.trans E.out), hB⟩

def SmMod (l : List FuncD) : Prop := l.length ≤ 1048576 ∧ ∀ d ∈ l, SmFunc d
theorem szMod_small {l : List FuncD} {x : Int} (hx : x ≤ 1048576) (h : 0 ≤ szS szFunc l x) : SmMod l := by
  obtain ⟨b1, b2⟩ := szS_each szFunc_falls h
  refine ⟨by omega, fun p hp => ?_⟩
  obtain ⟨y, _, y1, y2⟩ := b2 p hp
  exact szFunc_small (by omega) y2
set_option maxHeartbeats 1000000 in
theorem szModule_any (lo : Nat) (l : List FuncD) (u0 : Option Addr) (c0 : Nat) (x : Int) (w : World) (h0 : 0 ≤ x) (h1 : x ≤ 1048576) (k0 : FuncsAt w lo u0 l) :
    Calls Tryz.prog 5 #[.agg #[.slice u0 l.length c0], .int .i64 x] w fun e w' => e = .returned (.int .i64 (szS szFunc l x)) ∧ Below w.heap.size w w' := by
  rcases szS_falls szFunc_falls l x with hc | ⟨hc, _⟩
  · have E : Hid (-1 = szS szFunc l x) := hc.symm
    have hq : szS szFunc l x < 0 := by omega
    clear hc
    go_enter Tryz.func5, Tryz.ntmps5
    go_wp2_with (go_at_call 12; refine (szFuncS_any lo _ _ _ _ _ h0 h1 (k0.keep (agree_alloc _ _ _))).mono ?_; rintro e w1 ⟨rfl, hb1⟩)
    go_ret
    exact ⟨ret_i E.out, ((Below.refl _ _).alloc (Nat.le_refl _) _).trans (hb1.mono (by simp))⟩
  · go_enter Tryz.func5, Tryz.ntmps5
    go_wp2_with (go_at_call 12; refine (szFuncS_any lo _ _ _ _ _ h0 h1 (k0.keep (agree_alloc _ _ _))).mono ?_; rintro e w1 ⟨rfl, hb1⟩)
    go_ret
    exact ⟨ret_i (by rfl), ((Below.refl _ _).alloc (Nat.le_refl _) _).trans (hb1.mono (by simp))⟩
end Go.Proofs.YthcaagkkajopiaaGreatDoor
namespace Go.Proofs.YthcaagkkajopiaaGreatDoor
open Go.RowKit
set_option linter.unusedVariables false

theorem OutC.yes {b : Bool} {aW aC : Addr} {v : Value} (h : OutC b aW aC v) (hb : b = true) : v = .nilIface := by
  rcases h with h | h
  · exact h.2
  · rw [hb] at h; cases h.1
theorem OutC.no {b : Bool} {aW aC : Addr} {v : Value} (h : OutC b aW aC v) (hb : b = false) : ∃ x, v = .iface 212 (.pointer (some x)) ∧ (x = aW ∨ x = aC) := by
  rcases h with h | h
  · rw [hb] at h; cases h.1
  · rcases h.2 with h | h
    · exact ⟨aW, h, .inl rfl⟩
    · exact ⟨aC, h, .inr rfl⟩
theorem cls_no {l : List FuncD} {d : FuncD} {k j : Nat} (hk : k < d.blocks.length) (hj : j < (d.blocks.getD k block0).insts.length) (h : cllB l (typeF d) ((d.blocks.getD k block0).insts.getD j inst0) = false) : clsB l d = false :=
  all_no block0 d.blocks k hk (by rw [all_no (f := cllB l (typeF d)) inst0 (d.blocks.getD k block0).insts j hj (by rw [h]; decide)]; decide)
set_option maxHeartbeats 8000000 in
set_option maxRecDepth 100000 in
theorem callsI (lo : Nat) (l : List FuncD) (d : FuncD) (um : Option Addr) (cm : Nat) (u0 : Option Addr) (c0 : Nat) (u2 : Option Addr) (c2 : Nat) (aW aC : Addr) (w : World) (hsl : SmMod l) (hs : SmFunc d) (kM : FuncsAt w lo um l) (k0 : IntsAt w lo u0 d.params) (k2 : BlocksAt w lo u2 d.blocks) (hF : Form l.length d) (hvW : Gv w 5 (errV aW)) (hvC : Gv w 4 (errV aC)) :
    Calls Tryz.prog 33 #[.agg #[.slice um l.length cm], .agg #[.slice u0 d.params.length c0, .int .i64 d.ret, .slice u2 d.blocks.length c2]] w fun e w' => (∃ v, e = .returned v ∧ OutC (clsB l d) aW aC v) ∧ Below w.heap.size w w' := by
  have hb1 := hF.b1
  have hb10 := hF.b10
  have hc60 := hF.c60
  have HS : Hid (SmFunc d) := hs
  have HSL : Hid (SmMod l) := hsl
  have HF : Hid (Form l.length d) := hF
  have hBM : Below w.heap.size w (w.alloc (.cells #[.slice um l.length cm] 29)) := (Below.refl _ _).alloc (Nat.le_refl _) _
  have F0 := FBox.start (d := d) (u0 := u0) (u2 := u2) (c0 := c0) (c2 := c2) (w := w.alloc (.cells #[.slice um l.length cm] 29)) (T := 42)
  have hB0 : Below w.heap.size w ((w.alloc (.cells #[.slice um l.length cm] 29)).alloc (.cells #[.slice u0 d.params.length c0, .int .i64 d.ret, .slice u2 d.blocks.length c2] 42)) := hBM.trans (F0.below.mono (by simp))
  have X0 : ((w.alloc (.cells #[.slice um l.length cm] 29)).alloc (.cells #[.slice u0 d.params.length c0, .int .i64 d.ret, .slice u2 d.blocks.length c2] 42)).cell? ⟨w.heap.size, 0, none⟩ = some (.slice um l.length cm) := cell_new (by simp) ((cell_of_heap (heap_alloc_last _ _)).trans rfl)
  have D := typesI lo d u0 c0 u2 c2 _ hs (k0.keep (agree_of_below hB0 lo)) (k2.keep (agree_of_below hB0 lo)) hc60
  have HKM : Hid (FuncsAt w lo um l) := kM
  have HVW : Hid (Gv w 5 (errV aW)) := hvW
  have HVC : Hid (Gv w 4 (errV aC)) := hvC
  have hlo1 : 5 < w.heap.size := hvW.lt
  clear hs hF k0 hsl kM hvW hvC
  go_enter Tryz.func33, Tryz.ntmps33
  go_wp2_with (go_at_call 61; refine D.mono ?_; rintro e w1 ⟨⟨N, rfl, hT⟩, hb1'⟩; have HT : Hid (IntsAt w1 w.heap.size (some ⟨N, 0, none⟩) (tysF d)) := hT.low (by simp; omega); have HF1 : Hid _ := F0.keep hb1'; have HX1 : Hid (w1.cell? ⟨w.heap.size, 0, none⟩ = some (.slice um l.length cm)) := (bcell hb1' _ _ (by simp; omega)).trans X0; have HB1 : Hid (Below w.heap.size w w1) := hB0.trans (hb1'.mono (by simp; omega)); have a2 : w1.cell? ⟨w.heap.size + 1, 2, none⟩ = some (.slice u2 d.blocks.length c2) := (by have := HF1.out.a2; simpa using this); have hz1 : w.heap.size + 1 + 1 ≤ w1.heap.size := (by have := HF1.out.size; simp at this; omega); clear hb1' hT F0 D X0 hB0 hBM)
  go_loopw [18] (fun i wr => ∃ k : Nat, k ≤ d.blocks.length ∧ i = .int .i64 k ∧ Hid (∀ j, j < k → ((d.blocks.getD j block0).insts.all (cllB l (typeF d))) = true) ∧ Hid (Below w1.heap.size w1 wr)) (fun i _ => d.blocks.length - (intOf i).toNat)
  case atStart => exact ⟨0, by omega, rfl, fun j hj => by omega, Below.refl _ _⟩
  case round =>
    obtain ⟨k, hk, rfl, HD, HW⟩ := hrel
    clear a2
    obtain ⟨wo, hwo⟩ : ∃ wo, wo = wr := ⟨_, rfl⟩
    subst hwo
    have HWo : Hid (Below w.heap.size w wo) := HB1.out.trans (HW.out.mono (by omega))
    have hzo : w1.heap.size ≤ wo.heap.size := HW.out.size
    by_cases hlt : k < d.blocks.length
    · have HTo : Hid (IntsAt wo w.heap.size (some ⟨N, 0, none⟩) (tysF d)) := HT.out.keep (agree_of_below HW.out _)
      have HXo : Hid (wo.cell? ⟨w.heap.size, 0, none⟩ = some (.slice um l.length cm)) := (bcell HW.out _ _ (by omega)).trans HX1.out
      have hW := HWo.out
      rcases k2.2 with hn | ⟨b, off, rfl, hlo, hb, hcell⟩
      · simp [hn] at hlt
      obtain ⟨⟨v0, q0, h0, m0⟩, ⟨v1, q1, h1, m1⟩, h2, h3, h4, h5⟩ := hcell k hlt
      have hfb := HF.out.at hlt
      have hsm := HS.out.2.2 _ (getD_mem block0 d.blocks k hlt)
      have HNO : Hid (∀ j, j < (d.blocks.getD k block0).insts.length → cllB l (typeF d) ((d.blocks.getD k block0).insts.getD j inst0) = false → clsB l d = false) := fun j hj h => cls_no hlt hj h
      have HYS : Hid ((d.blocks.getD k block0).insts.all (cllB l (typeF d)) = true → ∀ j, j < k + 1 → ((d.blocks.getD j block0).insts.all (cllB l (typeF d))) = true) := fun h j hj => by
        by_cases e : j = k
        · subst e; exact h
        · exact HD.out j (by omega)
      generalize d.blocks.getD k block0 = x at h0 h1 h2 h3 h4 h5 m0 m1 hsm HNO HYS hfb
      have HFB : Hid (FBlk (cntF d) d.blocks.length l.length x) := hfb
      have e0 : wo.cell? ⟨b, off + k * 6, none⟩ = some (.slice v0 x.phis.length q0) := (cell_block (hW.block b hb)).trans h0
      have e1 : wo.cell? ⟨b, off + k * 6 + 1, none⟩ = some (.slice v1 x.insts.length q1) := (cell_block (hW.block b hb)).trans h1
      have e2 : wo.cell? ⟨b, off + k * 6 + 2, none⟩ = some (.int .i64 x.term.kind) := (cell_block (hW.block b hb)).trans h2
      have e3 : wo.cell? ⟨b, off + k * 6 + 3, none⟩ = some (.int .i64 x.term.a) := (cell_block (hW.block b hb)).trans h3
      have e4 : wo.cell? ⟨b, off + k * 6 + 4, none⟩ = some (.int .i64 x.term.x) := (cell_block (hW.block b hb)).trans h4
      have e5 : wo.cell? ⟨b, off + k * 6 + 5, none⟩ = some (.int .i64 x.term.y) := (cell_block (hW.block b hb)).trans h5
      have M1 := m1.keep (agree_of_below hW lo)
      have s1 := hsm.2.1
      have SN : Hid (∀ p ∈ x.insts, SmInst p) := hsm.2.2
      clear hcell h0 h1 h2 h3 h4 h5 m0 m1 hsm hfb hW HD
      go_wp2_with fail
      clear e0 e1 e2 e3 e4 e5
      go_loopw [25] (fun i wr => ∃ j : Nat, j ≤ x.insts.length ∧ i = .int .i64 j ∧ Hid (∀ q, q < j → cllB l (typeF d) (x.insts.getD q inst0) = true) ∧ Hid (Below (wo.heap.size + 1) (wo.alloc (.cells #[.slice v0 x.phis.length q0, .slice v1 x.insts.length q1, .int .i64 x.term.kind, .int .i64 x.term.a, .int .i64 x.term.x, .int .i64 x.term.y] 61)) wr)) (fun i _ => x.insts.length - (intOf i).toNat)
      case atStart => exact ⟨0, by omega, rfl, fun q hq => by omega, Below.refl _ _⟩
      case round =>
        obtain ⟨j, hj, rfl, HJ, HC⟩ := hrel
        obtain ⟨wq, hwq⟩ : ∃ wq, wq = wr := ⟨_, rfl⟩
        subst hwq
        have hWj : Below wo.heap.size wo wq := below_box HC.out
        have hzq : wo.heap.size + 1 ≤ wq.heap.size := by have := HC.out.size; simp at this; omega
        have HWq : Hid (Below w.heap.size w wq) := HWo.out.trans (hWj.mono (by omega))
        have HTq : Hid (IntsAt wq w.heap.size (some ⟨N, 0, none⟩) (tysF d)) := HTo.out.keep (agree_of_below hWj _)
        have HXq : Hid (wq.cell? ⟨w.heap.size, 0, none⟩ = some (.slice um l.length cm)) := (bcell hWj _ _ (by omega)).trans HXo.out
        by_cases hjl : j < x.insts.length
        · rcases M1.2 with hn | ⟨pb, po, rfl, hplo, hpb, hpc⟩
          · simp [hn] at hjl
          obtain ⟨i0, i1, i2, i3, i4, i5, ⟨iu, iq, i6, im⟩⟩ := hpc j hjl
          have HOPS : Hid (∀ id ∈ opsD (x.insts.getD j inst0), 0 ≤ id ∧ id < (cntF d : Int)) := HFB.out.ops _ (getD_mem inst0 x.insts j hjl)
          have HIMM : Hid ((x.insts.getD j inst0).op = 26 → 0 ≤ (x.insts.getD j inst0).imm ∧ (x.insts.getD j inst0).imm < (l.length : Int)) := HFB.out.imm _ (getD_mem inst0 x.insts j hjl)
          have INO : Hid (cllB l (typeF d) (x.insts.getD j inst0) = false → clsB l d = false) := fun h => HNO.out j hjl h
          have IYS : Hid (cllB l (typeF d) (x.insts.getD j inst0) = true → ∀ q, q < j + 1 → cllB l (typeF d) (x.insts.getD q inst0) = true) := fun h q hq => by
            by_cases e : q = j
            · subst e; exact h
            · exact HJ.out q (by omega)
          have hsmI : SmInst (x.insts.getD j inst0) := SN.out _ (getD_mem inst0 x.insts j hjl)
          generalize x.insts.getD j inst0 = p at i0 i1 i2 i3 i4 i5 i6 im HOPS INO IYS HIMM hsmI
          have hsmA : p.args.length ≤ 1048576 := hsmI
          have f0 : wq.cell? ⟨pb, po + j * 7, none⟩ = some (.int .i64 p.op) := (bcell hWj _ _ hpb).trans i0
          have f1 : wq.cell? ⟨pb, po + j * 7 + 1, none⟩ = some (.int .i64 p.w) := (bcell hWj _ _ hpb).trans i1
          have f2 : wq.cell? ⟨pb, po + j * 7 + 2, none⟩ = some (.int .i64 p.a) := (bcell hWj _ _ hpb).trans i2
          have f3 : wq.cell? ⟨pb, po + j * 7 + 3, none⟩ = some (.int .i64 p.b) := (bcell hWj _ _ hpb).trans i3
          have f4 : wq.cell? ⟨pb, po + j * 7 + 4, none⟩ = some (.int .i64 p.c) := (bcell hWj _ _ hpb).trans i4
          have f5 : wq.cell? ⟨pb, po + j * 7 + 5, none⟩ = some (.int .i64 p.imm) := (bcell hWj _ _ hpb).trans i5
          have f6 : wq.cell? ⟨pb, po + j * 7 + 6, none⟩ = some (.slice iu p.args.length iq) := (bcell hWj _ _ hpb).trans i6
          have HIM : Hid (IntsAt wq lo iu p.args) := im.keep (agree_of_below hWj lo)
          have K := kind_any p iu iq (wq.alloc (.cells #[.int .i64 p.op, .int .i64 p.w, .int .i64 p.a, .int .i64 p.b, .int .i64 p.c, .int .i64 p.imm, .slice iu p.args.length iq] 89))
          clear hpc i0 i1 i2 i3 i4 i5 i6 im hWj M1 HJ hsmI
          by_cases ho : p.op = 26
          · rw [kv_26 ho] at K
            have AA := as_callKind_callKind
            have HOA : Hid (opsD p = p.args) := by show _ = _; simp [opsD, ho, show opB 26 = false by decide]
            obtain ⟨m, hm, hml⟩ := nat_of (HIMM.out ho)
            have CE : Hid (cllB l (typeF d) p = calB (typeF d) (l.getD m func0) p) := by show _ = _; unfold cllB; simp [ho, hm]
            rcases HKM.out.2 with hn | ⟨fb, fo, hume, hflo, hfb', hfc⟩
            · simp [hn] at hml
            subst hume
            obtain ⟨⟨p0, pq0, n0, nm0⟩, n1, ⟨p2, pq2, n2, nm2⟩⟩ := hfc m hml
            have hgs : (l.getD m func0).params.length ≤ 1048576 := (HSL.out.2 _ (getD_mem func0 l m hml)).1
            generalize l.getD m func0 = g at n0 nm0 n1 n2 nm2 hgs CE
            have HM : Hid (p.imm = m) := hm
            have hmi : (m : Int) < l.length := by omega
            rw [hm] at f5 K
            have HN0 : Hid (IntsAt w lo p0 g.params) := nm0
            have HCa : Hid (_ ∧ _ ∧ _) := ⟨n0, n1, n2⟩
            have hsl3 := HSL.out.1
            clear hfc n0 n1 n2 nm0 nm2 hm ho
            go_wp2_with (go_at_call 62; refine K.mono ?_; rintro e w5 ⟨rfl, hb5⟩)
            have hz5 : wq.heap.size + 1 ≤ w5.heap.size := by have := hb5.size; simp at this; omega
            have hB5 : Below wq.heap.size wq w5 := ((Below.refl wq.heap.size wq).alloc (Nat.le_refl _) _).trans (hb5.mono (by simp))
            have hB6 : Below wq.heap.size wq (w5.alloc (.cells #[.int .i64 (m : Int), .slice iu p.args.length iq] 110)) := hB5.alloc (by omega) _
            have y0 : (w5.alloc (.cells #[.int .i64 (m : Int), .slice iu p.args.length iq] 110)).cell? ⟨w5.heap.size, 0, none⟩ = some (.int .i64 (m : Int)) := (cell_of_heap (heap_alloc_last _ _)).trans rfl
            have y1 : (w5.alloc (.cells #[.int .i64 (m : Int), .slice iu p.args.length iq] 110)).cell? ⟨w5.heap.size, 1, none⟩ = some (.slice iu p.args.length iq) := (cell_of_heap (heap_alloc_last _ _)).trans rfl
            have r1 : (w5.alloc (.cells #[.int .i64 (m : Int), .slice iu p.args.length iq] 110)).cell? ⟨wq.heap.size, 1, none⟩ = some (.int .i64 p.w) := cell_new (by omega) ((cell_block (hb5.block wq.heap.size (by simp))).trans ((cell_of_heap (heap_alloc_last _ _)).trans rfl))
            have hy : w5.heap.size < (w5.alloc (.cells #[.int .i64 (m : Int), .slice iu p.args.length iq] 110)).heap.size := by simp
            generalize w5.alloc (.cells #[.int .i64 (m : Int), .slice iu p.args.length iq] 110) = w6 at hB6 y0 y1 r1 hy ⊢
            have hBw : Below w.heap.size w w6 := HWq.out.trans (hB6.mono HWq.out.size)
            have r0 : w6.cell? ⟨w.heap.size, 0, none⟩ = some (.slice (some ⟨fb, fo, none⟩) l.length cm) := (bcell hB6 _ _ (by omega)).trans HXq.out
            have t0 : w6.cell? ⟨fb, fo + m * 3, none⟩ = some (.slice p0 g.params.length pq0) := (bcell hBw _ _ hfb').trans HCa.out.1
            have t1 : w6.cell? ⟨fb, fo + m * 3 + 1, none⟩ = some (.int .i64 g.ret) := (bcell hBw _ _ hfb').trans HCa.out.2.1
            have t2 : w6.cell? ⟨fb, fo + m * 3 + 2, none⟩ = some (.slice p2 g.blocks.length pq2) := (bcell hBw _ _ hfb').trans HCa.out.2.2
            have hy2 : wq.heap.size < w6.heap.size := by omega
            have hy3 : w.heap.size < w6.heap.size := by omega
            have hy4 : fb < w6.heap.size := by omega
            have hzz : min lo w.heap.size ≤ lo := Nat.min_le_left _ _
            have hz3 : min lo w.heap.size ≤ w.heap.size := Nat.min_le_right _ _
            have B := callI (min lo w.heap.size) d g p (some ⟨N, 0, none⟩) (cntF d) iu iq p0 pq0 p2 pq2 aW aC w6.drew hc60 ((HTq.out.keep (agree_of_below hB6.drew _)).low hz3) ((HIM.out.keep (agree_of_below hB6.drew _)).low hzz) ((HN0.out.keep (agree_of_below hBw.drew _)).low hzz) (fun id hid => HOPS.out id (by rw [HOA.out]; exact hid)) hsmA hgs (HVW.out.keep hBw.drew) (HVC.out.keep hBw.drew)
            rw [HM.out] at B
            have HB6 : Hid (Below wq.heap.size wq w6) := hB6
            have HBw : Hid (Below w.heap.size w w6) := hBw
            clear hBw hB6 hB5 hb5 f0 f1 f2 f3 f4 f5 f6 K
            have y0d : w6.drew.cell? ⟨w5.heap.size, 0, none⟩ = some (.int .i64 (m : Int)) := y0
            have y1d : w6.drew.cell? ⟨w5.heap.size, 1, none⟩ = some (.slice iu p.args.length iq) := y1
            have r1d : w6.drew.cell? ⟨wq.heap.size, 1, none⟩ = some (.int .i64 p.w) := r1
            have r0d : w6.drew.cell? ⟨w.heap.size, 0, none⟩ = some (.slice (some ⟨fb, fo, none⟩) l.length cm) := r0
            have t0d : w6.drew.cell? ⟨fb, fo + m * 3, none⟩ = some (.slice p0 g.params.length pq0) := t0
            have t1d : w6.drew.cell? ⟨fb, fo + m * 3 + 1, none⟩ = some (.int .i64 g.ret) := t1
            have t2d : w6.drew.cell? ⟨fb, fo + m * 3 + 2, none⟩ = some (.slice p2 g.blocks.length pq2) := t2
            cases hcb : calB (typeF d) g p with
            | true =>
              have YS : Hid (cllB l (typeF d) p = true) := CE.out.trans hcb
              have BB : ∀ wz : World, wz = w6.drew → Calls Tryz.prog 63 #[.slice (some ⟨N, 0, none⟩) (cntF d) (cntF d), .agg #[.int .i64 (m : Int), .slice iu p.args.length iq], .int .i64 p.w, .agg #[.slice p0 g.params.length pq0, .int .i64 g.ret, .slice p2 g.blocks.length pq2]] wz fun e w' => e = .returned .nilIface ∧ Below wz.heap.size wz w' := fun wz e => by
                subst e
                refine B.mono ?_
                rintro e w' ⟨⟨v, rfl, ho⟩, hb⟩
                exact ⟨by rw [ho.yes hcb], hb⟩
              clear B hcb
              go_region_held2 (fun w' => w'.cell? ⟨w5.heap.size, 0, none⟩ = some (.int .i64 (m : Int)) ∧ w'.cell? ⟨w5.heap.size, 1, none⟩ = some (.slice iu p.args.length iq) ∧ w'.cell? ⟨wq.heap.size, 1, none⟩ = some (.int .i64 p.w) ∧ w'.cell? ⟨w.heap.size, 0, none⟩ = some (.slice (some ⟨fb, fo, none⟩) l.length cm) ∧ w'.cell? ⟨fb, fo + m * 3, none⟩ = some (.slice p0 g.params.length pq0) ∧ w'.cell? ⟨fb, fo + m * 3 + 1, none⟩ = some (.int .i64 g.ret) ∧ w'.cell? ⟨fb, fo + m * 3 + 2, none⟩ = some (.slice p2 g.blocks.length pq2)) (first | with_reducible exact ⟨y0d, y1d, r1d, r0d, t0d, t1d, t2d⟩ | with_reducible exact ⟨d0, d1, d2, d3, d4, d5, d6⟩) ((go_at_call 63; refine (BB w6.drew rfl).mono ?_; rintro e w8 ⟨rfl, hb8⟩; have hb9 := drop_drew hb8; have d0 := (bcell hb8 _ _ (by exact hy)).trans y0d; have d1 := (bcell hb8 _ _ (by exact hy)).trans y1d; have d2 := (bcell hb8 _ _ (by exact hy2)).trans r1d; have d3 := (bcell hb8 _ _ (by exact hy3)).trans r0d; have d4 := (bcell hb8 _ _ (by exact hy4)).trans t0d; have d5 := (bcell hb8 _ _ (by exact hy4)).trans t1d; have d6 := (bcell hb8 _ _ (by exact hy4)).trans t2d))
              all_goals
                clear d0 d1 d2 d3 d4 d5 d6
                go_wp2_with fail
                go_roundw
                case rel => exact ⟨j + 1, by omega, by go_num, IYS.out YS.out, HC.out.trans ((HB6.out.trans (hb9.mono (by omega))).mono (by omega))⟩
                case measure => simp [intOf]; omega
            | false =>
              have NS : Hid (clsB l d = false) := INO.out (CE.out.trans hcb)
              have BB : ∀ wz : World, wz = w6.drew → Calls Tryz.prog 63 #[.slice (some ⟨N, 0, none⟩) (cntF d) (cntF d), .agg #[.int .i64 (m : Int), .slice iu p.args.length iq], .int .i64 p.w, .agg #[.slice p0 g.params.length pq0, .int .i64 g.ret, .slice p2 g.blocks.length pq2]] wz fun e w' => (∃ x, e = .returned (.iface 212 (.pointer (some x))) ∧ (x = aW ∨ x = aC)) ∧ Below wz.heap.size wz w' := fun wz e => by
                subst e
                refine B.mono ?_
                rintro e w' ⟨⟨v, rfl, ho⟩, hb⟩
                obtain ⟨x, hx, hx2⟩ := ho.no hcb
                exact ⟨⟨x, by rw [hx], hx2⟩, hb⟩
              clear B hcb
              go_region_held2 (fun w' => w'.cell? ⟨w5.heap.size, 0, none⟩ = some (.int .i64 (m : Int)) ∧ w'.cell? ⟨w5.heap.size, 1, none⟩ = some (.slice iu p.args.length iq) ∧ w'.cell? ⟨wq.heap.size, 1, none⟩ = some (.int .i64 p.w) ∧ w'.cell? ⟨w.heap.size, 0, none⟩ = some (.slice (some ⟨fb, fo, none⟩) l.length cm) ∧ w'.cell? ⟨fb, fo + m * 3, none⟩ = some (.slice p0 g.params.length pq0) ∧ w'.cell? ⟨fb, fo + m * 3 + 1, none⟩ = some (.int .i64 g.ret) ∧ w'.cell? ⟨fb, fo + m * 3 + 2, none⟩ = some (.slice p2 g.blocks.length pq2)) (first | with_reducible exact ⟨y0d, y1d, r1d, r0d, t0d, t1d, t2d⟩ | with_reducible exact ⟨d0, d1, d2, d3, d4, d5, d6⟩) ((go_at_call 63; refine (BB w6.drew rfl).mono ?_; rintro e w8 ⟨⟨xx, rfl, hxx⟩, hb8⟩; have hb9 := drop_drew hb8; have d0 := (bcell hb8 _ _ (by exact hy)).trans y0d; have d1 := (bcell hb8 _ _ (by exact hy)).trans y1d; have d2 := (bcell hb8 _ _ (by exact hy2)).trans r1d; have d3 := (bcell hb8 _ _ (by exact hy3)).trans r0d; have d4 := (bcell hb8 _ _ (by exact hy4)).trans t0d; have d5 := (bcell hb8 _ _ (by exact hy4)).trans t1d; have d6 := (bcell hb8 _ _ (by exact hy4)).trans t2d))
              all_goals
                clear d0 d1 d2 d3 d4 d5 d6
                go_wp2_with fail
                go_ret
                exact ⟨⟨_, rfl, .inr ⟨NS.out, by rcases hxx with rfl | rfl <;> simp [errV]⟩⟩, HBw.out.trans (hb9.mono HBw.out.size)⟩
          · obtain ⟨T, v, f, DD⟩ := disp p iu iq
            rw [DD.kv] at K
            have AA := DD.as_call ho
            have YS : Hid (cllB l (typeF d) p = true) := by show _ = _; unfold cllB; simp [ho]
            clear DD
            go_wp2_with (go_at_call 62; refine K.mono ?_; rintro e w5 ⟨rfl, hb5⟩)
            go_roundw
            case rel => exact ⟨j + 1, by omega, by go_num, IYS.out YS.out, ((HC.out.alloc hzq _).trans (hb5.mono (by simp; omega))).alloc (by have := hb5.size; simp at this; omega) _⟩
            case measure => simp [intOf]; omega
        · have YES : Hid (x.insts.all (cllB l (typeF d)) = true) := all_yes inst0 x.insts (fun q hq => HJ.out q (by omega))
          clear hWj M1 HJ
          go_wp2_with fail
          go_roundw
          case rel => exact ⟨k + 1, by omega, by go_num, HYS.out YES.out, HW.out.trans ((below_box HC.out).mono HW.out.size)⟩
          case measure => simp [intOf]; omega
    · have E : Hid (OutC (clsB l d) aW aC .nilIface) := .inl ⟨all_yes (f := fun b : BlockD => b.insts.all (cllB l (typeF d))) block0 d.blocks (fun q hq => HD.out q (by omega)), rfl⟩
      go_wp2_with fail
      go_ret
      exact ⟨⟨_, rfl, E.out⟩, HWo.out⟩
set_option maxHeartbeats 2000000 in
theorem closI (lo : Nat) (l : List FuncD) (d : FuncD) (M : Nat) (um : Option Addr) (cm : Nat) (u0 : Option Addr) (c0 : Nat) (u2 : Option Addr) (c2 : Nat) (aW aC : Addr) (w : World) (hsl : SmMod l) (hs : SmFunc d) (kM : FuncsAt w lo um l) (k0 : IntsAt w lo u0 d.params) (k2 : BlocksAt w lo u2 d.blocks) (hF : Form l.length d) (hvW : Gv w 5 (errV aW)) (hvC : Gv w 4 (errV aC)) (hM : w.cell? ⟨M, 0, none⟩ = some (.slice um l.length cm)) (hMl : M < w.heap.size) :
    Calls Tryz.prog 32 #[.agg #[.slice u0 d.params.length c0, .int .i64 d.ret, .slice u2 d.blocks.length c2], .pointer (some ⟨M, 0, none⟩)] w fun e w' => (∃ v, e = .returned v ∧ OutC (clsB l d) aW aC v) ∧ Below w.heap.size w w' := by
  have hB : Below w.heap.size w (w.alloc (.cells #[.slice u0 d.params.length c0, .int .i64 d.ret, .slice u2 d.blocks.length c2] 42)) := (Below.refl _ _).alloc (Nat.le_refl _) _
  have D := callsI lo l d um cm u0 c0 u2 c2 aW aC _ hsl hs (kM.keep (agree_of_below hB lo)) (k0.keep (agree_of_below hB lo)) (k2.keep (agree_of_below hB lo)) hF (hvW.keep hB) (hvC.keep hB)
  clear kM k0 k2 hsl hs hF hvW hvC
  go_enter Tryz.func32, Tryz.ntmps32
  go_wp2_with (go_at_call 33; refine D.mono ?_; rintro e w1 ⟨⟨v, rfl, ho⟩, hb1⟩; have HO : Hid (OutC (clsB l d) aW aC v) := ho; clear ho)
  go_ret
  exact ⟨⟨_, rfl, HO.out⟩, hB.trans (hb1.mono (by simp))⟩
end Go.Proofs.YthcaagkkajopiaaGreatDoor
