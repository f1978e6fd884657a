import Derived.Test.YtgojlnclpebdcaaGreatDoorChAR
import Derived.Test.YtgojlnclpebdcaaGreatDoorFmAR
import Derived.Test.YtgojlnclpebdcaaGreatDoorMd3rR
import Derived.Test.YtgojlnclpebdcaaGreatDoorChJR
namespace Go.Proofs.YtgojlnclpebdcaaGreatDoor
open Go.RowKit
set_option linter.unusedVariables false
set_option linter.unusedSimpArgs false
set_option maxHeartbeats 4000000 in
theorem phsS (lo : Nat) (d : FuncD) (p0 : Option Addr) (c0 : Nat) (p2 : Option Addr) (c2 : Nat) (w : World) (hs : SmFunc d) (k2 : BlocksAt w lo p2 d.blocks) (hR : RightL d.blocks) :
  Calls Tryz.prog 57 #[.agg #[.slice p0 d.params.length c0, .int .i64 d.ret, .slice p2 d.blocks.length c2]] w fun e w' => e = .returned (.bool (phsB d)) ∧ Below w.heap.size w w' := by
 have hb1 := hR.1
 have hb10 := hR.2.1
 have HS : Hid (SmFunc d) := hs
 have HR : Hid (RightL d.blocks) := hR
 have HK : Hid (BlocksAt w lo p2 d.blocks) := k2
 have HF0 : Hid _ := FBox.start (d := d) (u0 := p0) (u2 := p2) (c0 := c0) (c2 := c2) (w := w) (T := 36)
 clear hs hR k2
 go_enter Tryz.func57, Tryz.ntmps57
 go_wp2_with fail
 go_loopw [3] (fun i wr => ∃ k : Nat, k ≤ d.blocks.length ∧ i = .int .i64 k ∧ Hid (∀ j, j < k → phaB d j = true) ∧ Hid (FBox d p0 c0 p2 c2 w wr)) (fun i _ => d.blocks.length - (intOf i).toNat)
 case atStart => exact ⟨0, by omega, rfl, fun j hj => by omega, HF0.out⟩
 case round =>
  obtain ⟨k, hk, rfl, HD, HF⟩ := hrel
  clear HF0
  obtain ⟨wo, hwo⟩ : ∃ wo, wo = wr := ⟨_, rfl⟩
  subst hwo
  have a0 := HF.out.a0
  have a1 := HF.out.a1
  have a2 := HF.out.a2
  have hW := HF.out.below
  have hzo := HF.out.size
  by_cases hlt : k < d.blocks.length
  ·have D := l3predsS lo d p0 c0 p2 c2 k wo HR.out (HK.out.keep (agree_of_below hW lo))
   rcases HK.out.2 with hn | ⟨b, off, rfl, hlo, hb, hcell⟩
   ·simp [hn] at hlt
   obtain ⟨⟨v0, q0, h0, m0⟩, _⟩ := hcell k hlt
   have PB : Hid (phaB d k = (d.blocks.getD k block0).phis.all fun p => decide (p.ins.length = (predN (succN d.blocks) d.blocks.length k).length)) := (by show _ = _; rfl)
   have hsm := (HS.out.2.2 _ (getD_mem block0 d.blocks k hlt)).1
   have hpl := pred_len (S := succN d.blocks) (n := d.blocks.length) (x := k)
   generalize predN (succN d.blocks) d.blocks.length k = P at D PB hpl
   generalize d.blocks.getD k block0 = x at h0 m0 PB hsm
   have s0 := hsm.1
   clear hcell hsm hW
   go_wp2_with (go_at_call 56; refine D.mono ?_; rintro e w1 ⟨v, rfl, ho, hb1'⟩; obtain ⟨vu, vc, rfl⟩ := own_slice ho; have HF1 : Hid (FBox d p0 c0 (some ⟨b, off, none⟩) c2 w w1) := HF.out.keep hb1'; clear ho hb1' D)
   clear a0 a1 a2
   go_loopw [5] (fun i wr => ∃ j : Nat, j ≤ x.phis.length ∧ i = .int .i64 j ∧ Hid (∀ q, q < j → (x.phis.getD q phi0).ins.length = P.length) ∧ wr = w1) (fun i _ => x.phis.length - (intOf i).toNat)
   case atStart => exact ⟨0, by omega, rfl, fun q hq => by omega, rfl⟩
   case round =>
    obtain ⟨j, hj, rfl, HJ, hwe⟩ := hrel
    subst hwe
    have b2 := HF1.out.a2
    have hW1 := HF1.out.below
    have e0 : wr.cell? ⟨b, off + k * 6, none⟩ = some (.slice v0 x.phis.length q0) := (bcell hW1 _ _ hb).trans h0
    by_cases hjl : j < x.phis.length
    ·rcases m0.2 with hn | ⟨pb, po, rfl, hplo, hpb, hpc⟩
     ·simp [hn] at hjl
     obtain ⟨hi0, ⟨iu, iq, hi1, im⟩⟩ := hpc j hjl
     have hil := im.1
     generalize hp : x.phis.getD j phi0 = p at hi0 hi1 im hil
     have HP : Hid (x.phis.getD j phi0 = p) := hp
     have f1 : wr.cell? ⟨pb, po + j * 2 + 1, none⟩ = some (.slice iu p.ins.length iq) := (bcell hW1 _ _ hpb).trans hi1
     clear hpc hi0 hi1 im hp hW1
     by_cases hq : p.ins.length = P.length
     ·have hq2 : (p.ins.length : Int) = P.length := by omega
      have HQ : Hid (p.ins.length = P.length) := hq
      clear hq
      go_wp2_with fail
      go_roundw
      case rel =>
       refine ⟨j + 1, by omega, by go_num, fun q hq => ?_, (by first | rfl | trivial)⟩
       by_cases e : q = j
       ·subst e; rw [HP.out]; exact HQ.out
       ·exact HJ.out q (by omega)
      case measure => simp [intOf]; omega
     ·have hq2 : ¬ (p.ins.length : Int) = P.length := by omega
      have E : Hid (false = phsB d) := by
       have hno : phaB d k = false := by
        rw [PB.out]; exact all_no phi0 x.phis j hjl (by rw [HP.out]; simp [hq])
       exact (all_no 0 (List.range d.blocks.length) k (by simp; exact hlt) (by simp [hlt, hno])).symm
      clear hq
      go_wp2_with fail
      go_ret
      exact ⟨ret_bool E.out, HF1.out.below⟩
    ·have YES : Hid (phaB d k = true) := by
      show _ = _
      rw [PB.out]; exact all_yes phi0 x.phis (fun q hq => decide_eq_true (HJ.out q (by omega)))
     clear hW1
     go_wp2_with fail
     go_roundw
     case rel =>
      refine ⟨k + 1, by omega, by go_num, fun q hq => ?_, HF1.out⟩
      by_cases e : q = k
      ·subst e; exact YES.out
      ·exact HD.out q (by omega)
     case measure => simp [intOf]; omega
  ·have E : Hid (true = phsB d) := by
    have : phsB d = true := by
     unfold phsB
     rw [List.all_eq_true]
     exact fun q hq => HD.out q (by have := List.mem_range.1 hq; omega)
    show _ = _
    rw [this]
   go_wp2_with fail
   go_ret
   exact ⟨ret_bool E.out, HF.out.below⟩
theorem typeAbv (lo : Nat) (d : FuncD) (p0 : Option Addr) (c0 : Nat) (p2 : Option Addr) (c2 : Nat) (id : Int) (w : World) (x : Abv (fun v => Below w.heap.size w v)) (hs : SmFunc d) (k0 : IntsAt w lo p0 d.params) (k2 : BlocksAt w lo p2 d.blocks) (hi : id ≤ 9223372036854775807) :
  Calls Tryz.prog 95 #[.agg #[.slice p0 d.params.length c0, .int .i64 d.ret, .slice p2 d.blocks.length c2], .int .i64 id] x.v fun e w'' => e = .returned (.int .i64 (typeF d id)) ∧ ∃ y : Abv (fun v => Below w.heap.size w v), w'' = y.v :=
 abv_call x (typeS_any lo d p0 c0 p2 c2 id x.v hs (k0.keep (agree_of_below x.ok _)) (k2.keep (agree_of_below x.ok _)) hi)
set_option maxHeartbeats 4000000 in
set_option maxRecDepth 100000 in
theorem arg_a (lo : Nat) (d : FuncD) (p0 : Option Addr) (c0 : Nat) (p2 : Option Addr) (c2 : Nat) (op iw a b c imm : Int) (args : List Int) (u : Option Addr) (q : Nat) (w : World) (hs : SmFunc d) (k0 : IntsAt w lo p0 d.params) (k2 : BlocksAt w lo p2 d.blocks) (ha : a ≤ 9223372036854775807) (hg : 0 ≤ typeF d a) (ho : op = 18 ∨ op = 19 ∨ op = 25) :
  Calls Tryz.prog 96 #[.agg #[.slice p0 d.params.length c0, .int .i64 d.ret, .slice p2 d.blocks.length c2], .agg #[.int .i64 op, .int .i64 iw, .int .i64 a, .int .i64 b, .int .i64 c, .int .i64 imm, .slice u args.length q]] w fun e w' => e = .returned (.bool (argB (typeF d) ⟨op, iw, a, b, c, imm, args⟩)) ∧ Below w.heap.size w w' := by
 have HS : Hid (SmFunc d) := hs
 have hB2 : Below w.heap.size w ((w.alloc (.cells #[.slice p0 d.params.length c0, .int .i64 d.ret, .slice p2 d.blocks.length c2] 36)).alloc (.cells #[.int .i64 op, .int .i64 iw, .int .i64 a, .int .i64 b, .int .i64 c, .int .i64 imm, .slice u args.length q] 54)) := ((Below.refl _ _).alloc (Nat.le_refl _) _).alloc (by simp) _
 have DA := typeS_any lo d p0 c0 p2 c2 a _ hs (k0.keep (agree_of_below hB2 lo)) (k2.keep (agree_of_below hB2 lo)) ha
 generalize hta : typeF d a = ta at DA hg
 clear hs
 have IN : (decide ((1 : Int) ≤ op) && decide (op ≤ 17)) = false := by rcases ho with rfl | rfl | rfl <;> decide
 rcases ho with rfl | rfl | rfl
 all_goals
  by_cases hz : 0 < ta
  all_goals
   go_enter Tryz.func96, Tryz.ntmps96
   go_wp2_with (first | (go_at_call 95; refine DA.mono ?_; rintro e w1 ⟨rfl, hb1⟩; have HB1 : Hid (Below w.heap.size w w1) := hB2.trans (hb1.mono (by simp <;> omega)); have hf := (hb1.block w.heap.size (by simp <;> omega)).trans ((Below.heap_alloc _ _ _ (by simp)).trans (heap_alloc_last _ _)); have hi := (hb1.block (w.heap.size + 1) (by simp)).trans (heap_two _ _ _); have f0 := (cell_of_heap (o := 0) hf).trans rfl; have f1 := (cell_of_heap (o := 1) hf).trans rfl; have f2 := (cell_of_heap (o := 2) hf).trans rfl; have i0 := (cell_of_heap (o := 0) hi).trans rfl; have i1 := (cell_of_heap (o := 1) hi).trans rfl; have i3 := (cell_of_heap (o := 3) hi).trans rfl; have i4 := (cell_of_heap (o := 4) hi).trans rfl; clear hb1) | (go_at_call 32; refine (inS _ _ _ _).mono ?_; rw [IN]; rintro e w9 ⟨rfl, hw9⟩; rw [hw9]; clear hw9))
   go_ret
   exact ⟨ret_bool (by have e : (ta != 0) = decide (0 < ta) := (by by_cases h : 0 < ta <;> simp [h] <;> omega); simp [argB, opB, hta, e, hz] <;> omega), HB1.out⟩
set_option maxHeartbeats 4000000 in
set_option maxRecDepth 100000 in
theorem arg_b (lo : Nat) (d : FuncD) (p0 : Option Addr) (c0 : Nat) (p2 : Option Addr) (c2 : Nat) (op iw a b c imm : Int) (args : List Int) (u : Option Addr) (q : Nat) (w : World) (hs : SmFunc d) (k0 : IntsAt w lo p0 d.params) (k2 : BlocksAt w lo p2 d.blocks) (ha : a ≤ 9223372036854775807) (ho : op = 20 ∨ op = 21 ∨ op = 23 ∨ op = 26 ∨ op = 27) :
  Calls Tryz.prog 96 #[.agg #[.slice p0 d.params.length c0, .int .i64 d.ret, .slice p2 d.blocks.length c2], .agg #[.int .i64 op, .int .i64 iw, .int .i64 a, .int .i64 b, .int .i64 c, .int .i64 imm, .slice u args.length q]] w fun e w' => e = .returned (.bool (argB (typeF d) ⟨op, iw, a, b, c, imm, args⟩)) ∧ Below w.heap.size w w' := by
 have HS : Hid (SmFunc d) := hs
 have hB2 : Below w.heap.size w ((w.alloc (.cells #[.slice p0 d.params.length c0, .int .i64 d.ret, .slice p2 d.blocks.length c2] 36)).alloc (.cells #[.int .i64 op, .int .i64 iw, .int .i64 a, .int .i64 b, .int .i64 c, .int .i64 imm, .slice u args.length q] 54)) := ((Below.refl _ _).alloc (Nat.le_refl _) _).alloc (by simp) _
 have DA := typeS_any lo d p0 c0 p2 c2 a _ hs (k0.keep (agree_of_below hB2 lo)) (k2.keep (agree_of_below hB2 lo)) ha
 generalize hta : typeF d a = ta at DA
 clear hs
 have IN : (decide ((1 : Int) ≤ op) && decide (op ≤ 17)) = false := by rcases ho with rfl | rfl | rfl | rfl | rfl <;> decide
 rcases ho with rfl | rfl | rfl | rfl | rfl
 all_goals
  go_enter Tryz.func96, Tryz.ntmps96
  go_wp2_with (first | (go_at_call 95; refine DA.mono ?_; rintro e w1 ⟨rfl, hb1⟩; have HB1 : Hid (Below w.heap.size w w1) := hB2.trans (hb1.mono (by simp <;> omega)); have hf := (hb1.block w.heap.size (by simp <;> omega)).trans ((Below.heap_alloc _ _ _ (by simp)).trans (heap_alloc_last _ _)); have hi := (hb1.block (w.heap.size + 1) (by simp)).trans (heap_two _ _ _); have f0 := (cell_of_heap (o := 0) hf).trans rfl; have f1 := (cell_of_heap (o := 1) hf).trans rfl; have f2 := (cell_of_heap (o := 2) hf).trans rfl; have i0 := (cell_of_heap (o := 0) hi).trans rfl; have i1 := (cell_of_heap (o := 1) hi).trans rfl; have i3 := (cell_of_heap (o := 3) hi).trans rfl; have i4 := (cell_of_heap (o := 4) hi).trans rfl; clear hb1) | (go_at_call 32; refine (inS _ _ _ _).mono ?_; rw [IN]; rintro e w9 ⟨rfl, hw9⟩; rw [hw9]; clear hw9))
  go_ret
  exact ⟨ret_bool (by simp [argB, opB, hta]), HB1.out⟩
set_option maxHeartbeats 4000000 in
set_option maxRecDepth 100000 in
theorem arg_no (lo : Nat) (d : FuncD) (p0 : Option Addr) (c0 : Nat) (p2 : Option Addr) (c2 : Nat) (op iw a b c imm : Int) (args : List Int) (u : Option Addr) (q : Nat) (w : World) (hs : SmFunc d) (k0 : IntsAt w lo p0 d.params) (k2 : BlocksAt w lo p2 d.blocks) (ha : a ≤ 9223372036854775807) (ho : opB op = false) (h : op < 1 ∨ 27 < op) :
  Calls Tryz.prog 96 #[.agg #[.slice p0 d.params.length c0, .int .i64 d.ret, .slice p2 d.blocks.length c2], .agg #[.int .i64 op, .int .i64 iw, .int .i64 a, .int .i64 b, .int .i64 c, .int .i64 imm, .slice u args.length q]] w fun e w' => e = .returned (.bool (argB (typeF d) ⟨op, iw, a, b, c, imm, args⟩)) ∧ Below w.heap.size w w' := by
 have HS : Hid (SmFunc d) := hs
 have hB2 : Below w.heap.size w ((w.alloc (.cells #[.slice p0 d.params.length c0, .int .i64 d.ret, .slice p2 d.blocks.length c2] 36)).alloc (.cells #[.int .i64 op, .int .i64 iw, .int .i64 a, .int .i64 b, .int .i64 c, .int .i64 imm, .slice u args.length q] 54)) := ((Below.refl _ _).alloc (Nat.le_refl _) _).alloc (by simp) _
 have DA := typeS_any lo d p0 c0 p2 c2 a _ hs (k0.keep (agree_of_below hB2 lo)) (k2.keep (agree_of_below hB2 lo)) ha
 generalize hta : typeF d a = ta at DA
 have E : Hid (true = argB (typeF d) ⟨op, iw, a, b, c, imm, args⟩) := by show _ = _; (have g1 : ¬ op = 18 := (by omega); have g2 : ¬ op = 19 := (by omega); have g3 : ¬ op = 20 := (by omega); have g4 : ¬ op = 22 := (by omega); have g5 : ¬ op = 23 := (by omega); have g6 : ¬ op = 24 := (by omega); have g7 : ¬ op = 25 := (by omega); have g8 : ¬ op = 27 := (by omega); simp [argB, ho, g1, g2, g3, g4, g5, g6, g7, g8])
 clear hs
 have IN : (decide ((1 : Int) ≤ op) && decide (op ≤ 17)) = false := ho
 have g1 : ¬ op = 18 := (by omega)
 have g2 : ¬ op = 19 := (by omega)
 have g3 : ¬ op = 20 := (by omega)
 have g4 : ¬ op = 22 := (by omega)
 have g5 : ¬ op = 23 := (by omega)
 have g6 : ¬ op = 24 := (by omega)
 have g7 : ¬ op = 25 := (by omega)
 have g8 : ¬ op = 27 := (by omega)
 have d1 : (op == 18) = false := (by simp [g1])
 have d2 : (op == 19) = false := (by simp [g2])
 have d3 : decide (op = 18) = false := (by simp [g1])
 have d4 : decide (op = 19) = false := (by simp [g2])
 go_enter Tryz.func96, Tryz.ntmps96
 go_wp2_with (first | (go_at_call 95; refine DA.mono ?_; rintro e w1 ⟨rfl, hb1⟩; have HB1 : Hid (Below w.heap.size w w1) := hB2.trans (hb1.mono (by simp <;> omega)); have hf := (hb1.block w.heap.size (by simp <;> omega)).trans ((Below.heap_alloc _ _ _ (by simp)).trans (heap_alloc_last _ _)); have hi := (hb1.block (w.heap.size + 1) (by simp)).trans (heap_two _ _ _); have f0 := (cell_of_heap (o := 0) hf).trans rfl; have f1 := (cell_of_heap (o := 1) hf).trans rfl; have f2 := (cell_of_heap (o := 2) hf).trans rfl; have i0 := (cell_of_heap (o := 0) hi).trans rfl; have i1 := (cell_of_heap (o := 1) hi).trans rfl; have i3 := (cell_of_heap (o := 3) hi).trans rfl; have i4 := (cell_of_heap (o := 4) hi).trans rfl; clear hb1) | (go_at_call 32; refine (inS _ _ _ _).mono ?_; rw [IN]; rintro e w9 ⟨rfl, hw9⟩; rw [hw9]; clear hw9))
 go_ret
 exact ⟨ret_bool E.out, HB1.out⟩
set_option maxHeartbeats 4000000 in
set_option maxRecDepth 100000 in
theorem arg_24 (lo : Nat) (d : FuncD) (p0 : Option Addr) (c0 : Nat) (p2 : Option Addr) (c2 : Nat) (iw a b c imm : Int) (args : List Int) (u : Option Addr) (q : Nat) (w : World) (hs : SmFunc d) (k0 : IntsAt w lo p0 d.params) (k2 : BlocksAt w lo p2 d.blocks) (ha : a ≤ 9223372036854775807) (hb : b ≤ 9223372036854775807) :
  Calls Tryz.prog 96 #[.agg #[.slice p0 d.params.length c0, .int .i64 d.ret, .slice p2 d.blocks.length c2], .agg #[.int .i64 24, .int .i64 iw, .int .i64 a, .int .i64 b, .int .i64 c, .int .i64 imm, .slice u args.length q]] w fun e w' => e = .returned (.bool (argB (typeF d) ⟨24, iw, a, b, c, imm, args⟩)) ∧ Below w.heap.size w w' := by
 have HS : Hid (SmFunc d) := hs
 have hB2 : Below w.heap.size w ((w.alloc (.cells #[.slice p0 d.params.length c0, .int .i64 d.ret, .slice p2 d.blocks.length c2] 36)).alloc (.cells #[.int .i64 24, .int .i64 iw, .int .i64 a, .int .i64 b, .int .i64 c, .int .i64 imm, .slice u args.length q] 54)) := ((Below.refl _ _).alloc (Nat.le_refl _) _).alloc (by simp) _
 have DA := typeS_any lo d p0 c0 p2 c2 a _ hs (k0.keep (agree_of_below hB2 lo)) (k2.keep (agree_of_below hB2 lo)) ha
 generalize hta : typeF d a = ta at DA
 have E : Hid ((ta == 32 && typeF d b == 8) = argB (typeF d) ⟨24, iw, a, b, c, imm, args⟩) := by show _ = _; simp [argB, hta, show opB 24 = false by decide]
 generalize htb : typeF d b = tb at E
 have HTb : Hid (typeF d b = tb) := htb
 clear htb
 clear hs
 have IN : (decide ((1 : Int) ≤ 24) && decide ((24 : Int) ≤ 17)) = false := by decide
 have DB : ∀ w1 : World, Below w.heap.size w w1 → Calls Tryz.prog 95 #[.agg #[.slice p0 d.params.length c0, .int .i64 d.ret, .slice p2 d.blocks.length c2], .int .i64 b] w1 fun e w' => e = .returned (.int .i64 tb) ∧ Below w1.heap.size w1 w' := fun w1 h1 => by
  rw [← HTb.out]; exact typeS_any lo d p0 c0 p2 c2 b w1 HS.out (k0.keep (agree_of_below h1 lo)) (k2.keep (agree_of_below h1 lo)) hb
 by_cases hz : ta = 32
 ·have hd : (ta == 32) = true := by simp [hz]
  go_enter Tryz.func96, Tryz.ntmps96
  go_wp2_with (first | (go_at_call 95; refine (DB _ HB1.out).mono ?_; rintro e w2 ⟨rfl, hb2⟩; have HB2 : Hid (Below w.heap.size w w2) := HB1.out.trans (hb2.mono HB1.out.size)) | (go_at_call 95; refine DA.mono ?_; rintro e w1 ⟨rfl, hb1⟩; have HB1 : Hid (Below w.heap.size w w1) := hB2.trans (hb1.mono (by simp <;> omega)); have hf := (hb1.block w.heap.size (by simp <;> omega)).trans ((Below.heap_alloc _ _ _ (by simp)).trans (heap_alloc_last _ _)); have hi := (hb1.block (w.heap.size + 1) (by simp)).trans (heap_two _ _ _); have f0 := (cell_of_heap (o := 0) hf).trans rfl; have f1 := (cell_of_heap (o := 1) hf).trans rfl; have f2 := (cell_of_heap (o := 2) hf).trans rfl; have i0 := (cell_of_heap (o := 0) hi).trans rfl; have i1 := (cell_of_heap (o := 1) hi).trans rfl; have i3 := (cell_of_heap (o := 3) hi).trans rfl; have i4 := (cell_of_heap (o := 4) hi).trans rfl; clear hb1) | (go_at_call 32; refine (inS _ _ _ _).mono ?_; rw [IN]; rintro e w9 ⟨rfl, hw9⟩; rw [hw9]; clear hw9))
  go_ret
  exact ⟨ret_bool (Eq.trans (by simp [hz]) E.out), HB2.out⟩
 ·have hd : (ta == 32) = false := by simp [hz]
  have hd2 : decide (ta = 32) = false := by simp [hz]
  go_enter Tryz.func96, Tryz.ntmps96
  go_wp2_with (first | (go_at_call 95; refine DA.mono ?_; rintro e w1 ⟨rfl, hb1⟩; have HB1 : Hid (Below w.heap.size w w1) := hB2.trans (hb1.mono (by simp <;> omega)); have hf := (hb1.block w.heap.size (by simp <;> omega)).trans ((Below.heap_alloc _ _ _ (by simp)).trans (heap_alloc_last _ _)); have hi := (hb1.block (w.heap.size + 1) (by simp)).trans (heap_two _ _ _); have f0 := (cell_of_heap (o := 0) hf).trans rfl; have f1 := (cell_of_heap (o := 1) hf).trans rfl; have f2 := (cell_of_heap (o := 2) hf).trans rfl; have i0 := (cell_of_heap (o := 0) hi).trans rfl; have i1 := (cell_of_heap (o := 1) hi).trans rfl; have i3 := (cell_of_heap (o := 3) hi).trans rfl; have i4 := (cell_of_heap (o := 4) hi).trans rfl; clear hb1) | (go_at_call 32; refine (inS _ _ _ _).mono ?_; rw [IN]; rintro e w9 ⟨rfl, hw9⟩; rw [hw9]; clear hw9))
  go_ret
  exact ⟨ret_bool (Eq.trans (by simp [hz]) E.out), HB1.out⟩
set_option maxHeartbeats 4000000 in
set_option maxRecDepth 100000 in
theorem arg_bin (lo : Nat) (d : FuncD) (p0 : Option Addr) (c0 : Nat) (p2 : Option Addr) (c2 : Nat) (op iw a b c imm : Int) (args : List Int) (u : Option Addr) (q : Nat) (w : World) (hs : SmFunc d) (k0 : IntsAt w lo p0 d.params) (k2 : BlocksAt w lo p2 d.blocks) (ha : a ≤ 9223372036854775807) (hb : b ≤ 9223372036854775807) (ho : opB op = true) :
  Calls Tryz.prog 96 #[.agg #[.slice p0 d.params.length c0, .int .i64 d.ret, .slice p2 d.blocks.length c2], .agg #[.int .i64 op, .int .i64 iw, .int .i64 a, .int .i64 b, .int .i64 c, .int .i64 imm, .slice u args.length q]] w fun e w' => e = .returned (.bool (argB (typeF d) ⟨op, iw, a, b, c, imm, args⟩)) ∧ Below w.heap.size w w' := by
 have HS : Hid (SmFunc d) := hs
 have hB2 : Below w.heap.size w ((w.alloc (.cells #[.slice p0 d.params.length c0, .int .i64 d.ret, .slice p2 d.blocks.length c2] 36)).alloc (.cells #[.int .i64 op, .int .i64 iw, .int .i64 a, .int .i64 b, .int .i64 c, .int .i64 imm, .slice u args.length q] 54)) := ((Below.refl _ _).alloc (Nat.le_refl _) _).alloc (by simp) _
 have DA := typeS_any lo d p0 c0 p2 c2 a _ hs (k0.keep (agree_of_below hB2 lo)) (k2.keep (agree_of_below hB2 lo)) ha
 generalize hta : typeF d a = ta at DA
 have E : Hid ((ta == iw && typeF d b == iw) = argB (typeF d) ⟨op, iw, a, b, c, imm, args⟩) := by show _ = _; simp [argB, hta, ho]
 generalize htb : typeF d b = tb at E
 have HTb : Hid (typeF d b = tb) := htb
 clear htb
 clear hs
 have IN : (decide ((1 : Int) ≤ op) && decide (op ≤ 17)) = true := ho
 go_enter Tryz.func96, Tryz.ntmps96
 go_wp2_with (first | (go_at_call 95; refine DA.mono ?_; rintro e w1 ⟨rfl, hb1⟩; have HB1 : Hid (Below w.heap.size w w1) := hB2.trans (hb1.mono (by simp <;> omega)); have hf := (hb1.block w.heap.size (by simp <;> omega)).trans ((Below.heap_alloc _ _ _ (by simp)).trans (heap_alloc_last _ _)); have hi := (hb1.block (w.heap.size + 1) (by simp)).trans (heap_two _ _ _); have f0 := (cell_of_heap (o := 0) hf).trans rfl; have f1 := (cell_of_heap (o := 1) hf).trans rfl; have f2 := (cell_of_heap (o := 2) hf).trans rfl; have i0 := (cell_of_heap (o := 0) hi).trans rfl; have i1 := (cell_of_heap (o := 1) hi).trans rfl; have i3 := (cell_of_heap (o := 3) hi).trans rfl; have i4 := (cell_of_heap (o := 4) hi).trans rfl; clear hb1) | (go_at_call 32; refine (inS _ _ _ _).mono ?_; rw [IN]; rintro e w9 ⟨rfl, hw9⟩; rw [hw9]; clear hw9))
 have hne : Nonempty (Abv (fun v => Below w1.heap.size w1 v)) := abv_ne (Below.refl _ _)
 have F : ∀ x : Abv (fun v => Below w1.heap.size w1 v), x.v.heap[w.heap.size]? = some (.cells #[.slice p0 d.params.length c0, .int .i64 d.ret, .slice p2 d.blocks.length c2] 36 (0, 0)) := fun x => (x.ok.block _ (Array.getElem?_eq_some_iff.1 hf).1).trans hf
 have G : ∀ x : Abv (fun v => Below w1.heap.size w1 v), x.v.heap[w.heap.size + 1]? = some (.cells #[.int .i64 op, .int .i64 iw, .int .i64 a, .int .i64 b, .int .i64 c, .int .i64 imm, .slice u args.length q] 54 (0, 0)) := fun x => (x.ok.block _ (Array.getElem?_eq_some_iff.1 hi).1).trans hi
 have x0 := fun x => (cell_of_heap (o := 0) (F x)).trans rfl
 have x1 := fun x => (cell_of_heap (o := 1) (F x)).trans rfl
 have x2 := fun x => (cell_of_heap (o := 2) (F x)).trans rfl
 have y1 := fun x => (cell_of_heap (o := 1) (G x)).trans rfl
 have y3 := fun x => (cell_of_heap (o := 3) (G x)).trans rfl
 have y4 := fun x => (cell_of_heap (o := 4) (G x)).trans rfl
 have K0 : Hid (IntsAt w1 lo p0 d.params) := k0.keep (agree_of_below HB1.out _)
 have K2 : Hid (BlocksAt w1 lo p2 d.blocks) := k2.keep (agree_of_below HB1.out _)
 clear F G f0 f1 f2 i0 i1 i3 i4 hf hi k0 k2
 by_cases h1 : ta = iw
 ·have hd : (ta == iw) = true := by simp [h1]
  have Tb : ∀ x : Abv (fun v => Below w1.heap.size w1 v), Calls Tryz.prog 95 #[.agg #[.slice p0 d.params.length c0, .int .i64 d.ret, .slice p2 d.blocks.length c2], .int .i64 b] x.v fun e w'' => e = .returned (.int .i64 tb) ∧ ∃ y : Abv (fun v => Below w1.heap.size w1 v), w'' = y.v := fun x => by rw [← HTb.out]; exact typeAbv lo d p0 c0 p2 c2 b w1 x HS.out K0.out K2.out hb
  refine wp_region_abv (fun v => Below w1.heap.size w1 v) (by kernel_rfl) (by kernel_rfl) (drew_below (Below.refl _ _)) ?_
  repeat (go_big_quiet_step (first | (go_at_call 95; with_reducible exact Tb _)))
  refine wpQuiet_nil ?_
  rintro w9 ⟨⟨w9, h9⟩, rfl⟩
  have H9 : Hid (Below w1.heap.size w1 w9) := h9
  clear h9 x0 x1 x2 y1 y3 y4
  go_wp2_with fail
  go_ret
  exact ⟨ret_bool (Eq.trans (by simp [h1]) E.out), HB1.out.trans (H9.out.mono HB1.out.size)⟩
 ·have hd : (ta == iw) = false := by simp [h1]
  have hd2 : decide (ta = iw) = false := by simp [h1]
  have Tb : ∀ x : Abv (fun v => Below w1.heap.size w1 v), Calls Tryz.prog 95 #[.agg #[.slice p0 d.params.length c0, .int .i64 d.ret, .slice p2 d.blocks.length c2], .int .i64 b] x.v fun e w'' => e = .returned (.int .i64 tb) ∧ ∃ y : Abv (fun v => Below w1.heap.size w1 v), w'' = y.v := fun x => by rw [← HTb.out]; exact typeAbv lo d p0 c0 p2 c2 b w1 x HS.out K0.out K2.out hb
  refine wp_region_abv (fun v => Below w1.heap.size w1 v) (by kernel_rfl) (by kernel_rfl) (drew_below (Below.refl _ _)) ?_
  repeat (go_big_quiet_step (first | (go_at_call 95; with_reducible exact Tb _)))
  refine wpQuiet_nil ?_
  rintro w9 ⟨⟨w9, h9⟩, rfl⟩
  have H9 : Hid (Below w1.heap.size w1 w9) := h9
  clear h9 x0 x1 x2 y1 y3 y4
  go_wp2_with fail
  go_ret
  exact ⟨ret_bool (Eq.trans (by simp [h1]) E.out), HB1.out.trans (H9.out.mono HB1.out.size)⟩
set_option maxHeartbeats 4000000 in
set_option maxRecDepth 100000 in
theorem arg_22 (lo : Nat) (d : FuncD) (p0 : Option Addr) (c0 : Nat) (p2 : Option Addr) (c2 : Nat) (iw a b c imm : Int) (args : List Int) (u : Option Addr) (q : Nat) (w : World) (hs : SmFunc d) (k0 : IntsAt w lo p0 d.params) (k2 : BlocksAt w lo p2 d.blocks) (ha : a ≤ 9223372036854775807) (hb : b ≤ 9223372036854775807) (hc : c ≤ 9223372036854775807) :
  Calls Tryz.prog 96 #[.agg #[.slice p0 d.params.length c0, .int .i64 d.ret, .slice p2 d.blocks.length c2], .agg #[.int .i64 22, .int .i64 iw, .int .i64 a, .int .i64 b, .int .i64 c, .int .i64 imm, .slice u args.length q]] w fun e w' => e = .returned (.bool (argB (typeF d) ⟨22, iw, a, b, c, imm, args⟩)) ∧ Below w.heap.size w w' := by
 have HS : Hid (SmFunc d) := hs
 have hB2 : Below w.heap.size w ((w.alloc (.cells #[.slice p0 d.params.length c0, .int .i64 d.ret, .slice p2 d.blocks.length c2] 36)).alloc (.cells #[.int .i64 22, .int .i64 iw, .int .i64 a, .int .i64 b, .int .i64 c, .int .i64 imm, .slice u args.length q] 54)) := ((Below.refl _ _).alloc (Nat.le_refl _) _).alloc (by simp) _
 have DA := typeS_any lo d p0 c0 p2 c2 a _ hs (k0.keep (agree_of_below hB2 lo)) (k2.keep (agree_of_below hB2 lo)) ha
 generalize hta : typeF d a = ta at DA
 have E : Hid ((ta == 1 && typeF d b == iw && typeF d c == iw) = argB (typeF d) ⟨22, iw, a, b, c, imm, args⟩) := by show _ = _; simp [argB, hta, show opB 22 = false by decide]
 generalize htb : typeF d b = tb at E
 have HTb : Hid (typeF d b = tb) := htb
 clear htb
 generalize htc : typeF d c = tc at E
 have HTc : Hid (typeF d c = tc) := htc
 clear htc
 clear hs
 have IN : (decide ((1 : Int) ≤ 22) && decide ((22 : Int) ≤ 17)) = false := by decide
 go_enter Tryz.func96, Tryz.ntmps96
 go_wp2_with (first | (go_at_call 95; refine DA.mono ?_; rintro e w1 ⟨rfl, hb1⟩; have HB1 : Hid (Below w.heap.size w w1) := hB2.trans (hb1.mono (by simp <;> omega)); have hf := (hb1.block w.heap.size (by simp <;> omega)).trans ((Below.heap_alloc _ _ _ (by simp)).trans (heap_alloc_last _ _)); have hi := (hb1.block (w.heap.size + 1) (by simp)).trans (heap_two _ _ _); have f0 := (cell_of_heap (o := 0) hf).trans rfl; have f1 := (cell_of_heap (o := 1) hf).trans rfl; have f2 := (cell_of_heap (o := 2) hf).trans rfl; have i0 := (cell_of_heap (o := 0) hi).trans rfl; have i1 := (cell_of_heap (o := 1) hi).trans rfl; have i3 := (cell_of_heap (o := 3) hi).trans rfl; have i4 := (cell_of_heap (o := 4) hi).trans rfl; clear hb1) | (go_at_call 32; refine (inS _ _ _ _).mono ?_; rw [IN]; rintro e w9 ⟨rfl, hw9⟩; rw [hw9]; clear hw9))
 have hne : Nonempty (Abv (fun v => Below w1.heap.size w1 v)) := abv_ne (Below.refl _ _)
 have F : ∀ x : Abv (fun v => Below w1.heap.size w1 v), x.v.heap[w.heap.size]? = some (.cells #[.slice p0 d.params.length c0, .int .i64 d.ret, .slice p2 d.blocks.length c2] 36 (0, 0)) := fun x => (x.ok.block _ (Array.getElem?_eq_some_iff.1 hf).1).trans hf
 have G : ∀ x : Abv (fun v => Below w1.heap.size w1 v), x.v.heap[w.heap.size + 1]? = some (.cells #[.int .i64 22, .int .i64 iw, .int .i64 a, .int .i64 b, .int .i64 c, .int .i64 imm, .slice u args.length q] 54 (0, 0)) := fun x => (x.ok.block _ (Array.getElem?_eq_some_iff.1 hi).1).trans hi
 have x0 := fun x => (cell_of_heap (o := 0) (F x)).trans rfl
 have x1 := fun x => (cell_of_heap (o := 1) (F x)).trans rfl
 have x2 := fun x => (cell_of_heap (o := 2) (F x)).trans rfl
 have y1 := fun x => (cell_of_heap (o := 1) (G x)).trans rfl
 have y3 := fun x => (cell_of_heap (o := 3) (G x)).trans rfl
 have y4 := fun x => (cell_of_heap (o := 4) (G x)).trans rfl
 have K0 : Hid (IntsAt w1 lo p0 d.params) := k0.keep (agree_of_below HB1.out _)
 have K2 : Hid (BlocksAt w1 lo p2 d.blocks) := k2.keep (agree_of_below HB1.out _)
 clear F G f0 f1 f2 i0 i1 i3 i4 hf hi k0 k2
 by_cases h1 : ta = 1
 ·have hd : (ta == 1) = true := by simp [h1]
  by_cases h2 : tb = iw
  ·have hd3 : (tb == iw) = true := by simp [h2]
   have Tb : ∀ x : Abv (fun v => Below w1.heap.size w1 v), Calls Tryz.prog 95 #[.agg #[.slice p0 d.params.length c0, .int .i64 d.ret, .slice p2 d.blocks.length c2], .int .i64 b] x.v fun e w'' => e = .returned (.int .i64 tb) ∧ ∃ y : Abv (fun v => Below w1.heap.size w1 v), w'' = y.v := fun x => by rw [← HTb.out]; exact typeAbv lo d p0 c0 p2 c2 b w1 x HS.out K0.out K2.out hb
   have Tc : ∀ x : Abv (fun v => Below w1.heap.size w1 v), Calls Tryz.prog 95 #[.agg #[.slice p0 d.params.length c0, .int .i64 d.ret, .slice p2 d.blocks.length c2], .int .i64 c] x.v fun e w'' => e = .returned (.int .i64 tc) ∧ ∃ y : Abv (fun v => Below w1.heap.size w1 v), w'' = y.v := fun x => by rw [← HTc.out]; exact typeAbv lo d p0 c0 p2 c2 c w1 x HS.out K0.out K2.out hc
   refine wp_region_abv (fun v => Below w1.heap.size w1 v) (by kernel_rfl) (by kernel_rfl) (drew_below (Below.refl _ _)) ?_
   repeat (go_big_quiet_step (first | (go_at_call 95; with_reducible exact Tb _) | (go_at_call 95; with_reducible exact Tc _)))
   refine wpQuiet_nil ?_
   rintro w9 ⟨⟨w9, h9⟩, rfl⟩
   have H9 : Hid (Below w1.heap.size w1 w9) := h9
   clear h9 x0 x1 x2 y1 y3 y4
   go_wp2_with fail
   go_ret
   exact ⟨ret_bool (Eq.trans (by simp [h1, h2]) E.out), HB1.out.trans (H9.out.mono HB1.out.size)⟩
  ·have hd3 : (tb == iw) = false := by simp [h2]
   have hd4 : decide (tb = iw) = false := by simp [h2]
   have Tb : ∀ x : Abv (fun v => Below w1.heap.size w1 v), Calls Tryz.prog 95 #[.agg #[.slice p0 d.params.length c0, .int .i64 d.ret, .slice p2 d.blocks.length c2], .int .i64 b] x.v fun e w'' => e = .returned (.int .i64 tb) ∧ ∃ y : Abv (fun v => Below w1.heap.size w1 v), w'' = y.v := fun x => by rw [← HTb.out]; exact typeAbv lo d p0 c0 p2 c2 b w1 x HS.out K0.out K2.out hb
   have Tc : ∀ x : Abv (fun v => Below w1.heap.size w1 v), Calls Tryz.prog 95 #[.agg #[.slice p0 d.params.length c0, .int .i64 d.ret, .slice p2 d.blocks.length c2], .int .i64 c] x.v fun e w'' => e = .returned (.int .i64 tc) ∧ ∃ y : Abv (fun v => Below w1.heap.size w1 v), w'' = y.v := fun x => by rw [← HTc.out]; exact typeAbv lo d p0 c0 p2 c2 c w1 x HS.out K0.out K2.out hc
   refine wp_region_abv (fun v => Below w1.heap.size w1 v) (by kernel_rfl) (by kernel_rfl) (drew_below (Below.refl _ _)) ?_
   repeat (go_big_quiet_step (first | (go_at_call 95; with_reducible exact Tb _) | (go_at_call 95; with_reducible exact Tc _)))
   refine wpQuiet_nil ?_
   rintro w9 ⟨⟨w9, h9⟩, rfl⟩
   have H9 : Hid (Below w1.heap.size w1 w9) := h9
   clear h9 x0 x1 x2 y1 y3 y4
   go_wp2_with fail
   go_ret
   exact ⟨ret_bool (Eq.trans (by simp [h1, h2]) E.out), HB1.out.trans (H9.out.mono HB1.out.size)⟩
 ·have hd : (ta == 1) = false := by simp [h1]
  have hd2 : decide (ta = 1) = false := by simp [h1]
  have Tb : ∀ x : Abv (fun v => Below w1.heap.size w1 v), Calls Tryz.prog 95 #[.agg #[.slice p0 d.params.length c0, .int .i64 d.ret, .slice p2 d.blocks.length c2], .int .i64 b] x.v fun e w'' => e = .returned (.int .i64 tb) ∧ ∃ y : Abv (fun v => Below w1.heap.size w1 v), w'' = y.v := fun x => by rw [← HTb.out]; exact typeAbv lo d p0 c0 p2 c2 b w1 x HS.out K0.out K2.out hb
  have Tc : ∀ x : Abv (fun v => Below w1.heap.size w1 v), Calls Tryz.prog 95 #[.agg #[.slice p0 d.params.length c0, .int .i64 d.ret, .slice p2 d.blocks.length c2], .int .i64 c] x.v fun e w'' => e = .returned (.int .i64 tc) ∧ ∃ y : Abv (fun v => Below w1.heap.size w1 v), w'' = y.v := fun x => by rw [← HTc.out]; exact typeAbv lo d p0 c0 p2 c2 c w1 x HS.out K0.out K2.out hc
  refine wp_region_abv (fun v => Below w1.heap.size w1 v) (by kernel_rfl) (by kernel_rfl) (drew_below (Below.refl _ _)) ?_
  repeat (go_big_quiet_step (first | (go_at_call 95; with_reducible exact Tb _) | (go_at_call 95; with_reducible exact Tc _)))
  refine wpQuiet_nil ?_
  rintro w9 ⟨⟨w9, h9⟩, rfl⟩
  have H9 : Hid (Below w1.heap.size w1 w9) := h9
  clear h9 x0 x1 x2 y1 y3 y4
  go_wp2_with fail
  go_ret
  exact ⟨ret_bool (Eq.trans (by simp [h1]) E.out), HB1.out.trans (H9.out.mono HB1.out.size)⟩
theorem argS (lo : Nat) (d : FuncD) (p0 : Option Addr) (c0 : Nat) (p2 : Option Addr) (c2 : Nat) (i : InstD) (u : Option Addr) (q : Nat) (w : World) (hs : SmFunc d) (k0 : IntsAt w lo p0 d.params) (k2 : BlocksAt w lo p2 d.blocks) (ha : i.a ≤ 9223372036854775807) (hin : ∀ id ∈ opsD i, id ≤ 9223372036854775807 ∧ 0 ≤ typeF d id) :
  Calls Tryz.prog 96 #[.agg #[.slice p0 d.params.length c0, .int .i64 d.ret, .slice p2 d.blocks.length c2], .agg #[.int .i64 i.op, .int .i64 i.w, .int .i64 i.a, .int .i64 i.b, .int .i64 i.c, .int .i64 i.imm, .slice u i.args.length q]] w fun e w' => e = .returned (.bool (argB (typeF d) i)) ∧ Below w.heap.size w w' := by
 obtain ⟨op, iw, a, b, c, imm, args⟩ := i
 rcases op_split op with ho | rfl | rfl | rfl | rfl | rfl | rfl | rfl | rfl | rfl | rfl | ⟨ho, hk⟩
 ·simp [opsD, ho] at hin
  exact arg_bin lo d p0 c0 p2 c2 op iw a b c imm args u q w hs k0 k2 ha hin.2.1 ho
 ·simp [opsD, show opB 18 = false by decide] at hin
  exact arg_a lo d p0 c0 p2 c2 _ iw a b c imm args u q w hs k0 k2 ha hin.2 (by simp)
 ·simp [opsD, show opB 19 = false by decide] at hin
  exact arg_a lo d p0 c0 p2 c2 _ iw a b c imm args u q w hs k0 k2 ha hin.2 (by simp)
 ·exact arg_b lo d p0 c0 p2 c2 _ iw a b c imm args u q w hs k0 k2 ha (by simp)
 ·exact arg_b lo d p0 c0 p2 c2 _ iw a b c imm args u q w hs k0 k2 ha (by simp)
 ·simp [opsD, show opB 22 = false by decide] at hin
  exact arg_22 lo d p0 c0 p2 c2 iw a b c imm args u q w hs k0 k2 ha hin.2.1.1 hin.2.2.1
 ·exact arg_b lo d p0 c0 p2 c2 _ iw a b c imm args u q w hs k0 k2 ha (by simp)
 ·simp [opsD, show opB 24 = false by decide] at hin
  exact arg_24 lo d p0 c0 p2 c2 iw a b c imm args u q w hs k0 k2 ha hin.2.1
 ·simp [opsD, show opB 25 = false by decide] at hin
  exact arg_a lo d p0 c0 p2 c2 _ iw a b c imm args u q w hs k0 k2 ha hin.2 (by simp)
 ·exact arg_b lo d p0 c0 p2 c2 _ iw a b c imm args u q w hs k0 k2 ha (by simp)
 ·exact arg_b lo d p0 c0 p2 c2 _ iw a b c imm args u q w hs k0 k2 ha (by simp)
 ·exact arg_no lo d p0 c0 p2 c2 op iw a b c imm args u q w hs k0 k2 ha ho hk
end Go.Proofs.YtgojlnclpebdcaaGreatDoor
namespace Go.Proofs.YtgojlnclpebdcaaGreatDoor
open Go.RowKit
set_option linter.unusedVariables false
set_option linter.unusedSimpArgs false
def PhiM (d : FuncD) (O : List Nat) (b : Nat) : Prop := ∀ p ∈ (d.blocks.getD b block0).phis, ∀ j, j < (predN (succN d.blocks) d.blocks.length b).length → (predN (succN d.blocks) d.blocks.length b).getD j 0 ∈ O → Sees d (p.ins.getD j 0) ((predN (succN d.blocks) d.blocks.length b).getD j 0) (endN (d.blocks.getD ((predN (succN d.blocks) d.blocks.length b).getD j 0) block0))
theorem doms_iff {d : FuncD} {O : List Nat} (hO : ∀ x, x ∈ O ↔ Rch (succN d.blocks) none x) : (∀ b ∈ O, PhiM d O b ∧ SeesIn d b) ↔ DomsP d := by
 constructor
 ·intro h n hn
  refine ⟨(h n ((hO n).2 hn)).2, fun x hx j hj e p hp => ?_⟩
  have hxr : Rch (succN d.blocks) none x := hn.step hx (by simp)
  have := (h x ((hO x).2 hxr)).1 p hp j hj (by rw [e]; exact (hO n).2 hn)
  rw [e] at this
  exact this
 ·intro h b hb
  refine ⟨fun p hp j hj hin => ?_, (h b ((hO b).1 hb)).1⟩
  have hm : (predN (succN d.blocks) d.blocks.length b).getD j 0 ∈ predN (succN d.blocks) d.blocks.length b := getD_mem 0 _ j hj
  have hs : b ∈ succN d.blocks ((predN (succN d.blocks) d.blocks.length b).getD j 0) := by
   have := (List.mem_filter.1 hm).2
   simpa using this
  exact (h _ ((hO _).1 hin)).2 b hs j hj rfl p hp
theorem bool_one {a b : Bool} {P : Prop} (h : a = true ↔ P) (k : b = true ↔ P) : a = b := Bool.eq_iff_iff.2 (h.trans k.symm)
set_option maxHeartbeats 4000000 in
set_option maxRecDepth 100000 in
theorem seesS (lo : Nat) (d : FuncD) (p0 : Option Addr) (c0 : Nat) (p2 : Option Addr) (c2 : Nat) (id : Int) (b : Nat) (at' : Int) (v : Bool) (w : World) (hs : SmFunc d) (k2 : BlocksAt w lo p2 d.blocks) (hR : RightL d.blocks) (hi : id ≤ 9223372036854775807) (hv : v = true ↔ Sees d id b at') :
  Calls Tryz.prog 98 #[.agg #[.slice p0 d.params.length c0, .int .i64 d.ret, .slice p2 d.blocks.length c2], .int .i64 id, .int .i64 (b : Int), .int .i64 at'] w fun e w' => e = .returned (.bool v) ∧ Below w.heap.size w w' := by
 have F0 := FBox.start (d := d) (u0 := p0) (u2 := p2) (c0 := c0) (c2 := c2) (w := w) (T := 36)
 have D := placeS_any lo d p0 c0 p2 c2 id _ hs (k2.keep (agree_of_below F0.below lo)) hi
 have HK : Hid (BlocksAt w lo p2 d.blocks) := k2
 have HR : Hid (RightL d.blocks) := hR
 have HV : Hid (v = true ↔ Sees d id b at') := hv
 clear hs k2 hR hi hv
 rcases place_cases d id with h | ⟨j, hj, h⟩ | ⟨k, j, hk, hj, h⟩
 ·rw [h] at D
  have E : Hid (false = v) := by
   refine bool_one (P := Sees d id b at') ?_ HV.out
   constructor
   ·intro h; cases h
   ·unfold Sees; rw [h]
    rintro (h1 | h1 | h1)
    ·simp at h1
    ·exact absurd h1.1 (by show ¬ ((-2 : Int) = b); omega)
    ·exact absurd h1.1 (by decide)
  have hne : ¬ (-2 : Int) = b := by omega
  go_enter Tryz.func98, Tryz.ntmps98
  go_wp2_with (go_at_call 129; refine D.mono ?_; rintro e w1 ⟨rfl, hb1⟩)
  go_ret
  exact ⟨ret_bool E.out, (F0.keep hb1).below⟩
 ·rw [h] at D
  have E : Hid (true = v) := by
   refine bool_one (P := Sees d id b at') ?_ HV.out
   simp only [true_iff]
   unfold Sees; rw [h]; exact .inl rfl
  go_enter Tryz.func98, Tryz.ntmps98
  go_wp2_with (go_at_call 129; refine D.mono ?_; rintro e w1 ⟨rfl, hb1⟩)
  go_ret
  exact ⟨ret_bool E.out, (F0.keep hb1).below⟩
 ·rw [h] at D
  simp only at D
  have hk1 : ¬ (k : Int) = -1 := by omega
  by_cases hkb : k = b
  ·subst hkb
   have E : Hid (decide ((j : Int) < at') = v) := by
    refine bool_one (P := Sees d id k at') ?_ HV.out
    unfold Sees; rw [h]
    rw [decide_eq_true_eq]
    constructor
    ·exact fun h => .inr (.inl ⟨rfl, h⟩)
    ·rintro (h1 | h1 | h1)
     ·omega
     ·exact h1.2
     ·exact absurd rfl h1.2.1
   go_enter Tryz.func98, Tryz.ntmps98
   go_wp2_with (go_at_call 129; refine D.mono ?_; rintro e w1 ⟨rfl, hb1⟩)
   go_ret
   exact ⟨ret_bool E.out, (F0.keep hb1).below⟩
  ·have hkbi : ¬ (k : Int) = b := by omega
   have E : Hid (∀ x : Bool, (x = true ↔ Dom (succN d.blocks) k b) → x = v) := fun x hx => by
    refine bool_one hx (HV.out.trans ?_)
    unfold Sees; rw [h]
    simp only [Int.toNat_natCast]
    constructor
    ·rintro (h1 | h1 | h1)
     ·omega
     ·exact absurd h1.1 hkbi
     ·exact h1.2.2
    ·exact fun h => .inr (.inr ⟨by omega, hkbi, h⟩)
   go_enter Tryz.func98, Tryz.ntmps98
   go_wp2_with (first | (go_at_call 129; refine D.mono ?_; rintro e w1 ⟨rfl, hb1⟩; have F1 := F0.keep hb1; have a0 := F1.a0; have a1 := F1.a1; have a2 := F1.a2; have HB1 : Hid (Below w.heap.size w w1) := F1.below) | (go_at_call 133; refine (domS lo d p0 c0 p2 c2 k b _ HR.out (HK.out.keep (agree_of_below HB1.out _))).mono ?_; rintro e w2 ⟨⟨x, rfl, hx⟩, hb2⟩; have HE : Hid (x = v) := E.out x hx; have HB2 : Hid (Below w.heap.size w w2) := HB1.out.trans (hb2.mono HB1.out.size); clear hx hb2))
   go_ret
   exact ⟨ret_bool HE.out, HB2.out⟩
end Go.Proofs.YtgojlnclpebdcaaGreatDoor
