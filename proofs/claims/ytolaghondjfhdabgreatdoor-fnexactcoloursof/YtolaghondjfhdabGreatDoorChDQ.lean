/- As many as lead to it: phisWrong. -/
import Derived.Test.YtolaghondjfhdabGreatDoorChBQ
import Derived.Test.YtolaghondjfhdabGreatDoorLxAQ
import Derived.Test.YtolaghondjfhdabGreatDoorGrpQ
namespace Go.Proofs.YtolaghondjfhdabGreatDoor
open Go.RowKit
set_option linter.unusedVariables false

theorem ret_out {v : Value} {b : Bool} {x : Value} (h : v = outV b x) : Ending.returned v = .returned (outV b x) := by rw [h]
set_option maxHeartbeats 4000000 in
theorem phisI (lo : Nat) (d : FuncD) (u0 : Option Addr) (c0 : Nat) (u2 : Option Addr) (c2 : Nat) (a : Addr) (w : World) (hs : SmFunc d) (k2 : BlocksAt w lo u2 d.blocks) (hR : RightL d.blocks) (hv : Gv w 0 (errV a)) :
    Calls Tryz.prog 36 #[.agg #[.slice u0 d.params.length c0, .int .i64 d.ret, .slice u2 d.blocks.length c2]] w fun e w' => e = .returned (outV (phsB d) (errV a)) ∧ Below w.heap.size w w' := by
  have hb1 := hR.1
  have hb10 := hR.2.1
  have HS : Hid (SmFunc d) := hs
  have HR : Hid (RightL d.blocks) := hR
  have F0 := FBox.start (d := d) (u0 := u0) (u2 := u2) (c0 := c0) (c2 := c2) (w := w) (T := 30)
  have D := graphI lo d u0 c0 u2 c2 _ hs (k2.keep (agree_of_below F0.below lo))
  clear hs hR
  go_enter Tryz.func36, Tryz.ntmps36
  go_wp2_with (go_at_call 64; refine D.mono ?_; rintro e w1 ⟨hb1', h1⟩; obtain ⟨N, hN, rfl, hG⟩ := (h1.resolve_left (fun h => h.1 HR.out)).2; have HG : Hid (Graph w1 N d.blocks.length (succN d.blocks)) := hG; have HF1 : Hid (FBox d u0 c0 u2 c2 w w1) := F0.keep hb1'; have hN' : w.heap.size < N := (by simp at hN; omega); clear hb1' h1 hG hN F0 D)
  go_loopw [10] (fun i wr => ∃ k : Nat, k ≤ d.blocks.length ∧ i = .int .i64 k ∧ Hid (∀ j, j < k → phaB d j = true) ∧ Hid (FBox d u0 c0 u2 c2 w wr) ∧ Hid (Graph wr N d.blocks.length (succN d.blocks))) (fun i _ => d.blocks.length - (intOf i).toNat)
  case atStart => exact ⟨0, by omega, rfl, fun j hj => by omega, HF1.out, HG.out⟩
  case round =>
    obtain ⟨k, hk, rfl, HD, HF, HGr⟩ := hrel
    clear HG HF1
    obtain ⟨wo, hwo⟩ : ∃ wo, wo = wr := ⟨_, rfl⟩
    subst hwo
    by_cases hlt : k < d.blocks.length
    · have a2 := HF.out.a2
      have hW := HF.out.below
      have hzo := HF.out.size
      obtain ⟨sa, sc, pa, pc, hh, _, _⟩ := HGr.out.node k hlt
      have c0' := HGr.out.head k hlt
      unfold ptrV at c0'
      have c1 : wo.cell? ⟨N + 1 + k, 0, none⟩ = some (.int .i64 k) := (cell_of_heap hh).trans rfl
      have c3 : wo.cell? ⟨N + 1 + k, 2, none⟩ = some (.slice pa (predN (succN d.blocks) d.blocks.length k).length pc) := (cell_of_heap hh).trans rfl
      have hNk : N + 1 + k < wo.heap.size := (Array.getElem?_eq_some_iff.1 hh).1
      rcases k2.2 with hn | ⟨b, off, rfl, hlo, hb, hcell⟩
      · simp [hn] at hlt
      obtain ⟨⟨v0, q0, h0, m0⟩, _⟩ := hcell k hlt
      have PB : Hid (phaB d k = (d.blocks.getD k block0).phis.all fun p => decide (p.ins.length = (predN (succN d.blocks) d.blocks.length k).length)) := (by show _ = _; rfl)
      have hsm := (HS.out.2.2 _ (getD_mem block0 d.blocks k hlt)).1
      have hpl := pred_len (S := succN d.blocks) (n := d.blocks.length) (x := k)
      generalize hpn : (predN (succN d.blocks) d.blocks.length k).length = pn at c3 PB hpl
      generalize d.blocks.getD k block0 = x at h0 m0 PB hsm
      have e0 : wo.cell? ⟨b, off + k * 6, none⟩ = some (.slice v0 x.phis.length q0) := (cell_block (hW.block b hb)).trans h0
      have M0 := m0.keep (agree_of_below hW lo)
      have s0 := hsm.1
      have SP : Hid (∀ p ∈ x.phis, SmPhi p) := hsm.2
      have g0 := (hv.keep hW).cell
      have g1 := (hv.keep hW).lt
      have hbo : b < wo.heap.size := Nat.lt_of_lt_of_le hb hW.size
      unfold errV at g0
      clear hcell h0 m0 hsm hpn hh hW
      go_wp2_with fail
      go_quiet (fail)
      go_wp2_with fail
      clear c0' c1 e0
      go_loopw [24] (fun i wr => ∃ j : Nat, j ≤ x.phis.length ∧ i = .int .i64 j ∧ Hid (∀ q, q < j → (x.phis.getD q phi0).ins.length = pn) ∧ Hid (Below wo.heap.size wo wr)) (fun i _ => x.phis.length - (intOf i).toNat)
      case atStart => exact ⟨0, by omega, rfl, fun q hq => by omega, below_drewN (Below.refl _ _) _⟩
      case round =>
        obtain ⟨j, hj, rfl, HJ, HB⟩ := hrel
        obtain ⟨wp, hwp⟩ : ∃ wp, wp = wr := ⟨_, rfl⟩
        subst hwp
        have hB := HB.out
        have hzp := hB.size
        have c3' := (bcell hB _ _ hNk).trans c3
        have g0' := (bcell hB _ _ g1).trans g0
        by_cases hjl : j < x.phis.length
        · rcases M0.2 with hn | ⟨pb, po, rfl, hplo, hpb, hpc⟩
          · simp [hn] at hjl
          obtain ⟨hi0, ⟨iu, iq, hi1, im⟩⟩ := hpc j hjl
          have hil := im.1
          generalize hp : x.phis.getD j phi0 = p at hi0 hi1 im hil
          have HP : Hid (x.phis.getD j phi0 = p) := hp
          have f0 : wp.cell? ⟨pb, po + j * 2, none⟩ = some (.int .i64 p.w) := (bcell hB _ _ hpb).trans hi0
          have f1 : wp.cell? ⟨pb, po + j * 2 + 1, none⟩ = some (.slice iu p.ins.length iq) := (bcell hB _ _ hpb).trans hi1
          have zp : N + 1 + k < wp.heap.size := by omega
          have zg : 0 < wp.heap.size := by omega
          clear hpc hi0 hi1 im hp M0 c3 g0 hB a2
          by_cases hq : p.ins.length = pn
          · have hq2 : (p.ins.length : Int) = pn := by omega
            have HQ : Hid (p.ins.length = pn) := hq
            clear hq
            go_wp2_with fail
            go_quiet (fail)
            go_wp2_with fail
            go_roundw
            case rel =>
              refine ⟨j + 1, by omega, by go_num, fun q hq => ?_, below_drewN (HB.out.alloc hzp _) _⟩
              by_cases e : q = j
              · subst e; rw [HP.out]; exact HQ.out
              · exact HJ.out q (by omega)
            case measure => simp [intOf]; omega
          · have hq2 : ¬ (p.ins.length : Int) = pn := by omega
            have E : Hid (errV a = outV (phsB d) (errV a)) := by
              have hno : phaB d k = false := by
                rw [PB.out]; exact all_no phi0 x.phis j hjl (by rw [HP.out]; simp [hq])
              have : phsB d = false := all_no 0 (List.range d.blocks.length) k (by simp; exact hlt) (by simp [hlt, hno])
              show _ = _
              rw [this]; rfl
            clear hq
            go_wp2_with fail
            go_quiet (fail)
            go_wp2_with fail
            go_ret
            exact ⟨ret_out E.out, HF.out.below.trans ((below_drewN (HB.out.alloc hzp _) _).mono HF.out.below.size)⟩
        · have YES : Hid (phaB d k = true) := by
            show _ = _
            rw [PB.out]; exact all_yes phi0 x.phis (fun q hq => decide_eq_true (HJ.out q (by omega)))
          clear c3' g0' hB M0
          go_wp2_with fail
          go_roundw
          case rel =>
            refine ⟨k + 1, by omega, by go_num, fun q hq => ?_, HF.out.keep HB.out, HGr.out.keep (agree_of_below HB.out _)⟩
            by_cases e : q = k
            · subst e; exact YES.out
            · exact HD.out q (by omega)
          case measure => simp [intOf]; omega
    · have E : Hid (.nilIface = outV (phsB d) (errV a)) := by
        have : phsB d = true := by
          unfold phsB
          rw [List.all_eq_true]
          exact fun q hq => HD.out q (by have := List.mem_range.1 hq; omega)
        show _ = _
        rw [this]; rfl
      go_wp2_with fail
      go_ret
      exact ⟨ret_out E.out, HF.out.below⟩
end Go.Proofs.YtolaghondjfhdabGreatDoor
namespace Go.Proofs.YtolaghondjfhdabGreatDoor
open Go.RowKit

theorem ops_four {ids funcs : Int} {i : InstD} (h : instB i ids funcs = true) : (opsD i).length ≤ 4 := by
  simp only [instB, Bool.and_eq_true] at h
  have k := h.1.2
  unfold opsD
  split
  · simp
  · split
    · simp
    · split
      · simp
      · split
        · rename_i ho
          unfold fB at k
          rw [if_pos ho] at k
          simp only [Bool.and_eq_true, decide_eq_true_eq] at k
          exact k.1.1.1
        · simp
theorem lvf_of {funcs : Int} {d : FuncD} (h : funcB funcs d = true) (hp : phsB d = true) : LvF d := by
  have F := form_of h
  refine ⟨F.right, F.c60, F.p4, fun b hb i hi => (F.at hb).ops i hi, fun b hb i hi => ?_, fun b hb p hq => ⟨(F.at hb).phi p hq, ?_⟩, fun b hb x hx => ?_⟩
  · have := F.blk _ (getD_mem block0 d.blocks b hb)
    simp only [blockB, Bool.and_eq_true, List.all_eq_true] at this
    exact ops_four (this.1.2 i hi)
  · unfold phsB at hp
    rw [List.all_eq_true] at hp
    have := hp b (List.mem_range.2 hb)
    unfold phaB at this
    rw [List.all_eq_true] at this
    have e := this p hq
    rw [decide_eq_true_eq] at e
    rw [e]
    unfold predL ints
    rw [List.length_map]
  · unfold termO at hx
    split at hx
    · rename_i k
      obtain rfl := List.mem_singleton.1 hx
      exact Form.term_a (F.at hb) k
    · cases hx
end Go.Proofs.YtolaghondjfhdabGreatDoor
namespace Go.Proofs.YtolaghondjfhdabGreatDoor
open Go.RowKit
set_option linter.unusedVariables false

/-- A routine while it is made: kf first ids, kp rows of blocks stand in it. -/
structure RoSt (w2 wr : World) (N : Nat) (d : FuncD) (v0 v1 v2 v3 : Value) (kf kp : Nat) : Prop where
  below : Below w2.heap.size w2 wr
  rn : w2.heap.size < N
  graph : Graph wr N d.blocks.length (succN d.blocks)
  cells : ∃ cur, wr.heap[w2.heap.size]? = some (.cells cur 86 (0, 0)) ∧ cur.size = 24 ∧ cur[0]? = some v0 ∧ cur[1]? = some v1 ∧ cur[2]? = some v2 ∧ cur[3]? = some v3 ∧ (∀ b, b < kf → cur[4 + b]? = some (.int .i64 (firstN d b : Nat))) ∧ (∀ b, b < kp → ∃ a c, cur[14 + b]? = some (.slice a (predL d b).length c) ∧ IntsAt wr (w2.heap.size + 1) a (predL d b))
theorem RoSt.lt {w2 wr : World} {N : Nat} {d : FuncD} {v0 v1 v2 v3 : Value} {kf kp : Nat} (h : RoSt w2 wr N d v0 v1 v2 v3 kf kp) : w2.heap.size < wr.heap.size := by
  obtain ⟨cur, h1, _⟩ := h.cells
  exact (Array.getElem?_eq_some_iff.1 h1).1
theorem RoSt.keep {w2 wr wr' : World} {N : Nat} {d : FuncD} {v0 v1 v2 v3 : Value} {kf kp : Nat} (h : RoSt w2 wr N d v0 v1 v2 v3 kf kp) (k : Below wr.heap.size wr wr') : RoSt w2 wr' N d v0 v1 v2 v3 kf kp := by
  have hl := h.lt
  refine ⟨h.below.trans (k.mono h.below.size), h.rn, h.graph.keep (agree_of_below k N), ?_⟩
  obtain ⟨cur, h1, h2, h3, h4, h5, h6, h7, h8⟩ := h.cells
  exact ⟨cur, (k.block _ hl).trans h1, h2, h3, h4, h5, h6, h7, fun b hb => by
    obtain ⟨a, c, h9, h10⟩ := h8 b hb
    exact ⟨a, c, h9, h10.keep (agree_of_below k _)⟩⟩
theorem RoSt.first {w2 wr : World} {N : Nat} {d : FuncD} {v0 v1 v2 v3 : Value} {kf kp : Nat} (h : RoSt w2 wr N d v0 v1 v2 v3 kf kp) (hk : kf < 10) : RoSt w2 (wr.setCell ⟨w2.heap.size, 4 + kf, none⟩ (.int .i64 (firstN d kf : Nat))) N d v0 v1 v2 v3 (kf + 1) kp := by
  have hrn := h.rn
  have hag := agree_setCell wr w2.heap.size (4 + kf) (w2.heap.size + 1) (.int .i64 (firstN d kf : Nat)) (by omega)
  have hagN := agree_setCell wr w2.heap.size (4 + kf) N (.int .i64 (firstN d kf : Nat)) (by omega)
  refine ⟨h.below.setCell (by dsimp only; omega) _, h.rn, h.graph.keep hagN, ?_⟩
  obtain ⟨cur, h1, h2, h3, h4, h5, h6, h7, h8⟩ := h.cells
  refine ⟨cur.setIfInBounds (4 + kf) _, heap_set h1, by simpa using h2, by rw [Array.getElem?_setIfInBounds_ne (by omega)]; exact h3, by rw [Array.getElem?_setIfInBounds_ne (by omega)]; exact h4, by rw [Array.getElem?_setIfInBounds_ne (by omega)]; exact h5, by rw [Array.getElem?_setIfInBounds_ne (by omega)]; exact h6, fun b hb => ?_, fun b hb => ?_⟩
  · by_cases e : b = kf
    · subst e; simp [h2, show 4 + b < 24 by omega]
    · rw [Array.getElem?_setIfInBounds_ne (by omega)]; exact h7 b (by omega)
  · obtain ⟨a, c, h9, h10⟩ := h8 b hb
    by_cases e : 14 + b < 24
    · exact ⟨a, c, by rw [Array.getElem?_setIfInBounds_ne (by omega)]; exact h9, h10.keep hag⟩
    · rw [Array.getElem?_eq_none (by omega)] at h9; cases h9
theorem RoSt.pred {w2 wr : World} {N : Nat} {d : FuncD} {v0 v1 v2 v3 : Value} {kf kp : Nat} (h : RoSt w2 wr N d v0 v1 v2 v3 kf kp) (hk : kp < 10) (hf : kf ≤ 10) {a : Option Addr} {c : Nat} (hi : IntsAt wr (w2.heap.size + 1) a (predL d kp)) : RoSt w2 (wr.setCell ⟨w2.heap.size, 14 + kp, none⟩ (.slice a (predL d kp).length c)) N d v0 v1 v2 v3 kf (kp + 1) := by
  have hrn := h.rn
  have hag := agree_setCell wr w2.heap.size (14 + kp) (w2.heap.size + 1) (.slice a (predL d kp).length c) (by omega)
  have hagN := agree_setCell wr w2.heap.size (14 + kp) N (.slice a (predL d kp).length c) (by omega)
  refine ⟨h.below.setCell (by dsimp only; omega) _, h.rn, h.graph.keep hagN, ?_⟩
  obtain ⟨cur, h1, h2, h3, h4, h5, h6, h7, h8⟩ := h.cells
  refine ⟨cur.setIfInBounds (14 + kp) _, heap_set h1, by simpa using h2, by rw [Array.getElem?_setIfInBounds_ne (by omega)]; exact h3, by rw [Array.getElem?_setIfInBounds_ne (by omega)]; exact h4, by rw [Array.getElem?_setIfInBounds_ne (by omega)]; exact h5, by rw [Array.getElem?_setIfInBounds_ne (by omega)]; exact h6, fun b hb => ?_, fun b hb => ?_⟩
  · rw [Array.getElem?_setIfInBounds_ne (by omega)]; exact h7 b hb
  · by_cases e : b = kp
    · subst e; exact ⟨a, c, by simp [h2, show 14 + b < 24 by omega], hi.keep hag⟩
    · obtain ⟨a', c', h9, h10⟩ := h8 b (by omega)
      exact ⟨a', c', by rw [Array.getElem?_setIfInBounds_ne (by omega)]; exact h9, h10.keep hag⟩
theorem RoSt.there {w2 wr : World} {N : Nat} {d : FuncD} {v0 v1 v2 v3 : Value} {kf kp : Nat} (h : RoSt w2 wr N d v0 v1 v2 v3 kf kp) {o : Nat} (ho : o < 24) : ∃ v, wr.cell? ⟨w2.heap.size, o, none⟩ = some v := by
  obtain ⟨cur, h1, h2, _⟩ := h.cells
  exact ⟨cur[o], (cell_of_heap h1).trans (Array.getElem?_eq_getElem (by omega))⟩
theorem RoSt.froz {w2 wr : World} {N : Nat} {d : FuncD} {v0 v1 v2 v3 : Value} {kf kp : Nat} (h : RoSt w2 wr N d v0 v1 v2 v3 kf kp) (o : Nat) : wr.frozen? ⟨w2.heap.size, o, none⟩ = false := by
  obtain ⟨cur, h1, _⟩ := h.cells
  exact froz_of_heap h1
set_option maxHeartbeats 1000000 in
theorem endZ (x : BlockD) (v0 : Option Addr) (q0 : Nat) (v1 : Option Addr) (q1 : Nat) (w : World) (h0 : x.phis.length ≤ 1048576) (h1 : x.insts.length ≤ 1048576) :
    Calls Tryz.prog 67 #[.agg #[.slice v0 x.phis.length q0, .slice v1 x.insts.length q1, .int .i64 x.term.kind, .int .i64 x.term.a, .int .i64 x.term.x, .int .i64 x.term.y]] w fun e w' => e = .returned (.int .i64 ((x.phis.length + x.insts.length : Nat) : Int)) ∧ Below w.heap.size w w' := by
  have E : Hid ((x.phis.length : Int) + x.insts.length = ((x.phis.length + x.insts.length : Nat) : Int)) := (by show _ = _; omega)
  go_enter Tryz.func67, Tryz.ntmps67
  go_wp2_with fail
  go_ret
  exact ⟨ret_i E.out, (Below.refl _ _).alloc (Nat.le_refl _) _⟩
/-- What routineOf leaves. -/
structure RtOut (w w' : World) (Rb lo : Nat) (d : FuncD) (u2 : Option Addr) (c2 : Nat) : Prop where
  ge : w.heap.size ≤ Rb
  rt : RtAt w' Rb lo (Rb + 1) d u2 c2
  ty : ∃ T, w'.cell? ⟨Rb, 3, none⟩ = some (.slice (some ⟨T, 0, none⟩) (cntF d) (cntF d)) ∧ IntsAt w' w.heap.size (some ⟨T, 0, none⟩) (tysF d)
  below : Below w.heap.size w w'
  two : ∃ u c, w'.cell? ⟨Rb, 0, none⟩ = some (.slice u d.params.length c) ∧ w'.cell? ⟨Rb, 1, none⟩ = some (.int .i64 d.ret)
theorem RoSt.out {w w2 wr : World} {N T lo : Nat} {d : FuncD} {u0 u2 : Option Addr} {c0 c2 : Nat} (h : RoSt w2 wr N d (.slice u0 d.params.length c0) (.int .i64 d.ret) (.slice u2 d.blocks.length c2) (.slice (some ⟨T, 0, none⟩) (cntF d) (cntF d)) d.blocks.length d.blocks.length) (F : FBox d u0 c0 u2 c2 w w2) (ty : IntsAt w2 w.heap.size (some ⟨T, 0, none⟩) (tysF d)) (k2 : BlocksAt w lo u2 d.blocks) : RtOut w wr w2.heap.size lo d u2 c2 := by
  have B : Below w.heap.size w wr := F.below.trans (h.below.mono F.below.size)
  have hl := h.lt
  obtain ⟨cur, h1, h2, h3, h4, h5, h6, h7, h8⟩ := h.cells
  refine ⟨F.below.size, ⟨hl, (cell_of_heap h1).trans h5, k2.keep (agree_of_below B lo), fun b hb => (cell_of_heap h1).trans (h7 b hb), fun b hb => ?_⟩, ⟨T, (cell_of_heap h1).trans h6, ty.keep (agree_of_below h.below _)⟩, B, ⟨u0, c0, (cell_of_heap h1).trans h3, (cell_of_heap h1).trans h4⟩⟩
  obtain ⟨a, c, h9, h10⟩ := h8 b hb
  exact ⟨a, c, (cell_of_heap h1).trans h9, h10⟩
end Go.Proofs.YtolaghondjfhdabGreatDoor
