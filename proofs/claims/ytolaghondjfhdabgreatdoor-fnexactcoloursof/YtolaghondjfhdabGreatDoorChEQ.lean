/- All operands of the widths that are wanted: typesWrong. -/
import Derived.Test.YtolaghondjfhdabGreatDoorChDQ
import Derived.Test.YtolaghondjfhdabGreatDoorFmAQ
namespace Go.Proofs.YtolaghondjfhdabGreatDoor
open Go.RowKit
set_option linter.unusedVariables false

theorem argB_congr {t t' : Int → Int} {i : InstD} (h : ∀ id ∈ opsD i, t id = t' id) : argB t i = argB t' i := by
  rcases op_split i.op with ho | ho | ho | ho | ho | ho | ho | ho | ho | ho | ho | ⟨ho, hk⟩
  · simp [opsD, ho] at h; simp [argB, ho, h]
  · simp [opsD, ho, show opB 18 = false by decide] at h; simp [argB, ho, h, show opB 18 = false by decide]
  · simp [opsD, ho, show opB 19 = false by decide] at h; simp [argB, ho, h, show opB 19 = false by decide]
  · simp [opsD, ho, show opB 20 = false by decide] at h; simp [argB, ho, h, show opB 20 = false by decide]
  · simp [argB, ho, show opB 21 = false by decide]
  · simp [opsD, ho, show opB 22 = false by decide] at h; simp [argB, ho, h, show opB 22 = false by decide]
  · simp [opsD, ho, show opB 23 = false by decide] at h; simp [argB, ho, h, show opB 23 = false by decide]
  · simp [opsD, ho, show opB 24 = false by decide] at h; simp [argB, ho, h, show opB 24 = false by decide]
  · simp [opsD, ho, show opB 25 = false by decide] at h; simp [argB, ho, h, show opB 25 = false by decide]
  · simp [argB, ho, show opB 26 = false by decide]
  · simp [opsD, ho, show opB 27 = false by decide] at h; simp [argB, ho, h, show opB 27 = false by decide]
  · have g1 : ¬ i.op = 18 := by omega
    have g2 : ¬ i.op = 19 := by omega
    have g3 : ¬ i.op = 20 := by omega
    have g4 : ¬ i.op = 22 := by omega
    have g5 : ¬ i.op = 23 := by omega
    have g6 : ¬ i.op = 24 := by omega
    have g7 : ¬ i.op = 25 := by omega
    have g8 : ¬ i.op = 27 := by omega
    simp [argB, ho, g1, g2, g3, g4, g5, g6, g7, g8]
def tyL (d : FuncD) : Int → Int := fun i => (tysF d).getD i.toNat 0
theorem tyL_at {d : FuncD} {id : Int} (h : 0 ≤ id ∧ id < cntF d) : tyL d id = typeF d id := by
  unfold tyL
  rw [tys_at (by omega)]
  congr 1; omega
theorem cells2 {w w' : World} {a : Int} {v : Value} {T : TypeId} (h : Below (w.heap.size + 1) (w.alloc (.cells #[.int .i64 a, v] T)) w') :
    w'.cell? ⟨w.heap.size, 0, none⟩ = some (.int .i64 a) ∧ w'.cell? ⟨w.heap.size, 1, none⟩ = some v := by
  have e : w'.heap[w.heap.size]? = some (.cells #[.int .i64 a, v] T (0, 0)) := (h.block _ (by omega)).trans (heap_alloc_last _ _)
  exact ⟨(cell_of_heap e).trans rfl, (cell_of_heap e).trans rfl⟩
theorem cells6c {w w' : World} {v0 v1 : Value} {t0 t1 t2 t3 : Int} {T : TypeId} (h : Below (w.heap.size + 1) (w.alloc (.cells #[v0, v1, .int .i64 t0, .int .i64 t1, .int .i64 t2, .int .i64 t3] T)) w') :
    w'.cell? ⟨w.heap.size, 0, none⟩ = some v0 ∧ w'.cell? ⟨w.heap.size, 1, none⟩ = some v1 ∧ w'.cell? ⟨w.heap.size, 2, none⟩ = some (.int .i64 t0) ∧ w'.cell? ⟨w.heap.size, 3, none⟩ = some (.int .i64 t1) ∧ w'.cell? ⟨w.heap.size, 4, none⟩ = some (.int .i64 t2) ∧ w'.cell? ⟨w.heap.size, 5, none⟩ = some (.int .i64 t3) := by
  have e : w'.heap[w.heap.size]? = some (.cells #[v0, v1, .int .i64 t0, .int .i64 t1, .int .i64 t2, .int .i64 t3] T (0, 0)) := (h.block _ (by omega)).trans (heap_alloc_last _ _)
  exact ⟨(cell_of_heap e).trans rfl, (cell_of_heap e).trans rfl, (cell_of_heap e).trans rfl, (cell_of_heap e).trans rfl, (cell_of_heap e).trans rfl, (cell_of_heap e).trans rfl⟩
theorem typ_no {d : FuncD} {k : Nat} (hk : k < d.blocks.length) (h : blkTB (typeF d) d.ret (d.blocks.getD k block0) = false) (a : Value) : a = outV (typB d) a := by
  have : typB d = false := all_no block0 d.blocks k hk (by rw [h]; decide)
  rw [this]; rfl
theorem cntB_le : ∀ (l : List BlockD) (b : BlockD), b ∈ l → cntB b ≤ cntL l
  | d :: r, b, h => by
    rcases List.mem_cons.1 h with rfl | h
    · simp [cntL]
    · have := cntB_le r b h; simp [cntL]; omega
end Go.Proofs.YtolaghondjfhdabGreatDoor
namespace Go.Proofs.YtolaghondjfhdabGreatDoor
open Go.RowKit
set_option linter.unusedVariables false
set_option linter.unusedSimpArgs false

set_option maxHeartbeats 4000000 in
theorem phsS (lo : Nat) (d : FuncD) (p0 : Option Addr) (c0 : Nat) (p2 : Option Addr) (c2 : Nat) (w : World) (hs : SmFunc d) (k2 : BlocksAt w lo p2 d.blocks) (hR : RightL d.blocks) :
    Calls Tryz.prog 27 #[.agg #[.slice p0 d.params.length c0, .int .i64 d.ret, .slice p2 d.blocks.length c2]] w fun e w' => e = .returned (.bool (phsB d)) ∧ Below w.heap.size w w' := by
  have hb1 := hR.1
  have hb10 := hR.2.1
  have HS : Hid (SmFunc d) := hs
  have HR : Hid (RightL d.blocks) := hR
  have HK : Hid (BlocksAt w lo p2 d.blocks) := k2
  have HF0 : Hid _ := FBox.start (d := d) (u0 := p0) (u2 := p2) (c0 := c0) (c2 := c2) (w := w) (T := 30)
  clear hs hR k2
  go_enter Tryz.func27, Tryz.ntmps27
  go_wp2_with fail
  go_loopw [3] (fun i wr => ∃ k : Nat, k ≤ d.blocks.length ∧ i = .int .i64 k ∧ Hid (∀ j, j < k → phaB d j = true) ∧ Hid (FBox d p0 c0 p2 c2 w wr)) (fun i _ => d.blocks.length - (intOf i).toNat)
  case atStart => exact ⟨0, by omega, rfl, fun j hj => by omega, HF0.out⟩
  case round =>
    obtain ⟨k, hk, rfl, HD, HF⟩ := hrel
    clear HF0
    obtain ⟨wo, hwo⟩ : ∃ wo, wo = wr := ⟨_, rfl⟩
    subst hwo
    have a0 := HF.out.a0
    have a1 := HF.out.a1
    have a2 := HF.out.a2
    have hW := HF.out.below
    have hzo := HF.out.size
    by_cases hlt : k < d.blocks.length
    · have D := l3predsS lo d p0 c0 p2 c2 k wo HR.out (HK.out.keep (agree_of_below hW lo))
      rcases HK.out.2 with hn | ⟨b, off, rfl, hlo, hb, hcell⟩
      · simp [hn] at hlt
      obtain ⟨⟨v0, q0, h0, m0⟩, _⟩ := hcell k hlt
      have PB : Hid (phaB d k = (d.blocks.getD k block0).phis.all fun p => decide (p.ins.length = (predN (succN d.blocks) d.blocks.length k).length)) := (by show _ = _; rfl)
      have hsm := (HS.out.2.2 _ (getD_mem block0 d.blocks k hlt)).1
      have hpl := pred_len (S := succN d.blocks) (n := d.blocks.length) (x := k)
      generalize predN (succN d.blocks) d.blocks.length k = P at D PB hpl
      generalize d.blocks.getD k block0 = x at h0 m0 PB hsm
      have s0 := hsm.1
      clear hcell hsm hW
      go_wp2_with (go_at_call 51; refine D.mono ?_; rintro e w1 ⟨v, rfl, ho, hb1'⟩; obtain ⟨vu, vc, rfl⟩ := own_slice ho; have HF1 : Hid (FBox d p0 c0 (some ⟨b, off, none⟩) c2 w w1) := HF.out.keep hb1'; clear ho hb1' D)
      clear a0 a1 a2
      go_loopw [5] (fun i wr => ∃ j : Nat, j ≤ x.phis.length ∧ i = .int .i64 j ∧ Hid (∀ q, q < j → (x.phis.getD q phi0).ins.length = P.length) ∧ wr = w1) (fun i _ => x.phis.length - (intOf i).toNat)
      case atStart => exact ⟨0, by omega, rfl, fun q hq => by omega, rfl⟩
      case round =>
        obtain ⟨j, hj, rfl, HJ, hwe⟩ := hrel
        subst hwe
        have b2 := HF1.out.a2
        have hW1 := HF1.out.below
        have e0 : wr.cell? ⟨b, off + k * 6, none⟩ = some (.slice v0 x.phis.length q0) := (bcell hW1 _ _ hb).trans h0
        by_cases hjl : j < x.phis.length
        · rcases m0.2 with hn | ⟨pb, po, rfl, hplo, hpb, hpc⟩
          · simp [hn] at hjl
          obtain ⟨hi0, ⟨iu, iq, hi1, im⟩⟩ := hpc j hjl
          have hil := im.1
          generalize hp : x.phis.getD j phi0 = p at hi0 hi1 im hil
          have HP : Hid (x.phis.getD j phi0 = p) := hp
          have f1 : wr.cell? ⟨pb, po + j * 2 + 1, none⟩ = some (.slice iu p.ins.length iq) := (bcell hW1 _ _ hpb).trans hi1
          clear hpc hi0 hi1 im hp hW1
          by_cases hq : p.ins.length = P.length
          · have hq2 : (p.ins.length : Int) = P.length := by omega
            have HQ : Hid (p.ins.length = P.length) := hq
            clear hq
            go_wp2_with fail
            go_roundw
            case rel =>
              refine ⟨j + 1, by omega, by go_num, fun q hq => ?_, (by first | rfl | trivial)⟩
              by_cases e : q = j
              · subst e; rw [HP.out]; exact HQ.out
              · exact HJ.out q (by omega)
            case measure => simp [intOf]; omega
          · have hq2 : ¬ (p.ins.length : Int) = P.length := by omega
            have E : Hid (false = phsB d) := by
              have hno : phaB d k = false := by
                rw [PB.out]; exact all_no phi0 x.phis j hjl (by rw [HP.out]; simp [hq])
              exact (all_no 0 (List.range d.blocks.length) k (by simp; exact hlt) (by simp [hlt, hno])).symm
            clear hq
            go_wp2_with fail
            go_ret
            exact ⟨ret_bool E.out, HF1.out.below⟩
        · have YES : Hid (phaB d k = true) := by
            show _ = _
            rw [PB.out]; exact all_yes phi0 x.phis (fun q hq => decide_eq_true (HJ.out q (by omega)))
          clear hW1
          go_wp2_with fail
          go_roundw
          case rel =>
            refine ⟨k + 1, by omega, by go_num, fun q hq => ?_, HF1.out⟩
            by_cases e : q = k
            · subst e; exact YES.out
            · exact HD.out q (by omega)
          case measure => simp [intOf]; omega
    · have E : Hid (true = phsB d) := by
        have : phsB d = true := by
          unfold phsB
          rw [List.all_eq_true]
          exact fun q hq => HD.out q (by have := List.mem_range.1 hq; omega)
        show _ = _
        rw [this]
      go_wp2_with fail
      go_ret
      exact ⟨ret_bool E.out, HF.out.below⟩
/-- The width of an id, in a class of worlds. -/
theorem typeAbv (lo : Nat) (d : FuncD) (p0 : Option Addr) (c0 : Nat) (p2 : Option Addr) (c2 : Nat) (id : Int) (w : World) (x : Abv (fun v => Below w.heap.size w v)) (hs : SmFunc d) (k0 : IntsAt w lo p0 d.params) (k2 : BlocksAt w lo p2 d.blocks) (hi : id ≤ 9223372036854775807) :
    Calls Tryz.prog 30 #[.agg #[.slice p0 d.params.length c0, .int .i64 d.ret, .slice p2 d.blocks.length c2], .int .i64 id] x.v fun e w'' => e = .returned (.int .i64 (typeF d id)) ∧ ∃ y : Abv (fun v => Below w.heap.size w v), w'' = y.v :=
  abv_call x (typeS_any lo d p0 c0 p2 c2 id x.v hs (k0.keep (agree_of_below x.ok _)) (k2.keep (agree_of_below x.ok _)) hi)
end Go.Proofs.YtolaghondjfhdabGreatDoor
