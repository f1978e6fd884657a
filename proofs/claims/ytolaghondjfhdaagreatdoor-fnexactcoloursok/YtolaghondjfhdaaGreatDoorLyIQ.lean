/- Colours: the program's ColoursOk. -/
import Derived.Test.YtolaghondjfhdaaGreatDoorLyHQ
namespace Go.Proofs.YtolaghondjfhdaaGreatDoor
open Go.RowKit
set_option linter.unusedVariables false

theorem pal_of {l : List Int} (hl : l.length ≤ 60) : Pal (splice (List.replicate 60 (Value.int .i64 0)) 0 (l.map (Value.int .i64))).toArray l := by
  unfold splice Pal
  refine ⟨by simp; omega, fun i hi => ?_⟩
  simp only [List.getElem?_toArray, List.take_zero, List.nil_append, List.length_map, Nat.zero_add]
  by_cases h : i < l.length
  · rw [List.getElem?_append_left (by simpa using h)]
    simp [h]
  · rw [List.getElem?_append_right (by simp; omega)]
    simp only [List.length_map, List.getElem?_drop]
    rw [show l.length + (i - l.length) = i by omega, List.getElem?_replicate, if_pos hi]
    simp [List.getD, h]
theorem src_of {w w2 : World} {la : Nat} {ul : Option Addr} {l : List Int} {o : Obj} (kl : IntsAt w la ul l) (hB : Below w.heap.size w w2) : 0 < (l.map (Value.int .i64)).length → ∃ ad, ul = some ad ∧ ∀ j v, (l.map (Value.int .i64))[j]? = some v → (w2.alloc o).cell? (ad.add j) = some v := fun hp => by
  rcases kl.2 with hn | ⟨g, off, rfl, _, hg, hcl⟩
  · rw [hn] at hp; simp at hp
  · refine ⟨_, rfl, fun j v hj => ?_⟩
    rw [List.getElem?_map] at hj
    have hjl : j < l.length := by
      rcases Nat.lt_or_ge j l.length with h | h
      · exact h
      · rw [List.getElem?_eq_none h] at hj; cases hj
    have hadd : (⟨g, off, none⟩ : Addr).add j = ⟨g, off + j, none⟩ := by unfold Addr.add; split <;> simp_all
    rw [hadd]
    refine (cell_block (((Below.refl w2.heap.size w2).alloc (Nat.le_refl _) o).block g (Nat.lt_of_lt_of_le hg hB.size))).trans ((cell_block (hB.block g hg)).trans ((hcl j hjl).trans ?_))
    rw [← hj]
    simp [List.getD, hjl]
set_option maxRecDepth 100000 in
theorem run_copy_pal {w w2 : World} {la cl : Nat} {ul : Option Addr} {l : List Int} (kl : IntsAt w la ul l) (hB : Below w.heap.size w w2) (hl : l.length ≤ 60) :
    ∃ w3, (Builtin.copy_ #[22, 22] 3 #[.slice (some ⟨w2.heap.size, 0, none⟩) 60 60, .slice ul l.length cl]).run Tryz.prog (w2.alloc (.cells (List.replicate 60 (Value.int .i64 0)).toArray 69)) = .ok (goInt l.length) w3 ∧
      Hid (w3.heap[w2.heap.size]? = some (.cells (splice (List.replicate 60 (Value.int .i64 0)) 0 (l.map (Value.int .i64))).toArray 69 (0, 0))) ∧ Below w2.heap.size w2 w3 := by
  have hg := heap_alloc_last w2 (.cells (List.replicate 60 (Value.int .i64 0)).toArray 69)
  have b1 : Below w2.heap.size w2 (w2.alloc (.cells (List.replicate 60 (Value.int .i64 0)).toArray 69)) := (Below.refl _ _).alloc (Nat.le_refl _) _
  by_cases h0 : l.length = 0
  · have hn : l = [] := List.length_eq_zero_iff.1 h0
    subst hn
    refine ⟨_, run_copy_none _ _ _ _ 2 _ _ _ _ _ _ Tryz.underlying22 size64 (by simp), ?_, b1⟩
    show _ = _
    rw [hg]
    rfl
  · obtain ⟨ad, rfl, hs⟩ := src_of (w2 := w2) (o := .cells (List.replicate 60 (Value.int .i64 0)).toArray 69) kl hB (by simp; omega)
    have hr := run_copy_row (P := Tryz.prog) _ 22 22 3 2 w2.heap.size 0 60 60 ad l.length cl _ _ (l.map (Value.int .i64)) Tryz.underlying22 size64 hg (by simp only [List.length_map, Nat.min_def]; split <;> omega) hs (by simp; omega) (by intro v hv; obtain ⟨x, _, rfl⟩ := List.mem_map.1 hv; rfl)
    rw [List.length_map] at hr
    refine ⟨_, hr, ?_, b1.trans ⟨rfl, rfl, rfl, by simp, fun b hb => setRow_other _ _ _ _ (by omega)⟩⟩
    have h2 := setRow_heap _ w2.heap.size _ ((List.replicate 60 (Value.int .i64 0)).toArray.toList.take 0 ++ l.map (Value.int .i64) ++ (List.replicate 60 (Value.int .i64 0)).toArray.toList.drop (0 + l.length)).toArray 69 (0, 0) hg
    show _ = _
    rw [h2]
    congr 2
    simp [splice]
set_option maxHeartbeats 8000000 in
set_option maxRecDepth 100000 in
theorem coloursTI (lo la : Nat) (d : FuncD) (u0 : Option Addr) (c0 : Nat) (u2 : Option Addr) (c2 : Nat) (l : List Int) (ul : Option Addr) (cl : Nat) (a : Addr) (w : World) (hs : SmFunc d) (k0 : IntsAt w lo u0 d.params) (k2 : BlocksAt w lo u2 d.blocks) (kl : IntsAt w la ul l) (hll : l.length ≤ 1048576) (hv : Gv w 0 (errV a)) :
    Calls Tryz.prog 28 #[.agg #[.slice u0 d.params.length c0, .int .i64 d.ret, .slice u2 d.blocks.length c2], .slice ul l.length cl] w fun e w' => ∃ v, e = .returned (.bool v) ∧ ColR d l v ∧ Below w.heap.size w w' := by
  have F0 := FBox.start (d := d) (u0 := u0) (u2 := u2) (c0 := c0) (c2 := c2) (w := w) (T := 30)
  have a0 := F0.a0
  have a1 := F0.a1
  have a2 := F0.a2
  have HF0 : Hid (FBox d u0 c0 u2 c2 w _) := F0
  by_cases hok : funcB 3 d = true ∧ phsB d = true
  · have hF := lvf_of hok.1 hok.2
    have P := livesI_ok lo d u0 c0 u2 c2 a _ hs (k0.keep (agree_of_below F0.below lo)) (k2.keep (agree_of_below F0.below lo)) (hv.keep F0.below) hok.1 hok.2
    have C := fun W (k : Below w.heap.size w W) => countI_any lo d u0 c0 u2 c2 W hs (k2.keep (agree_of_below k lo))
    have hO : okB d = true := by simp [okB, hok.1, hok.2]
    have hc : cntF d ≤ 60 := hF.cnt
    have HF : Hid (LvF d) := hF
    have HS : Hid (SmFunc d) := hs
    have HKL : Hid (IntsAt w la ul l) := kl
    clear hs k0 k2 hv F0 hF kl
    go_enter Tryz.func28, Tryz.ntmps28
    go_wp2_with fail
    refine P.mono ?_
    rintro e w1 ⟨M, rfl, Rb, I, F, HO⟩
    have HF1 : Hid (FBox d u0 c0 u2 c2 w w1) := HF0.out.keep HO.below
    have HFX : Hid (Fix d I) := HO.fix
    have HL1 : Hid (Lvs w1 M Rb lo d u2 c2 I) := HO.lvs HF.out
    have z0 := HF1.out.a0
    have z1 := HF1.out.a1
    have z2 := HF1.out.a2
    clear HO P a0 a1 a2 HF0
    go_wp2_with fail
    refine (C _ HF1.out.below).mono ?_
    rintro e w2 ⟨rfl, b2⟩
    have HF2 : Hid (FBox d u0 c0 u2 c2 w w2) := HF1.out.keep b2
    have HL2 : Hid (Lvs w2 M Rb lo d u2 c2 I) := HL1.out.below b2
    clear z0 z1 z2 b2 HL1
    by_cases hl : l.length = cntF d
    · have HLN : Hid (l.length = cntF d) := hl
      have HE : Hid ((okB d && decide (l.length = cntF d)) = true) := by show _ = _; rw [hO, hl]; simp
      have qe : ((l.length : Int) != (cntF d : Int)) = false := by rw [bne_eq_false_iff_eq]; omega
      have hl60 : l.length ≤ 60 := by omega
      clear hl
      have HB2 : Hid (Below w.heap.size w w2) := HF2.out.below
      go_wp2_with fail
      obtain ⟨w3, hcp, HC3, b3⟩ := run_copy_pal (w2 := w2) (cl := cl) HKL.out HB2.out hl60
      have e60 : (List.replicate 60 (Value.int .i64 0)).toArray = #[.int .i64 0, .int .i64 0, .int .i64 0, .int .i64 0, .int .i64 0, .int .i64 0, .int .i64 0, .int .i64 0, .int .i64 0, .int .i64 0, .int .i64 0, .int .i64 0, .int .i64 0, .int .i64 0, .int .i64 0, .int .i64 0, .int .i64 0, .int .i64 0, .int .i64 0, .int .i64 0, .int .i64 0, .int .i64 0, .int .i64 0, .int .i64 0, .int .i64 0, .int .i64 0, .int .i64 0, .int .i64 0, .int .i64 0, .int .i64 0, .int .i64 0, .int .i64 0, .int .i64 0, .int .i64 0, .int .i64 0, .int .i64 0, .int .i64 0, .int .i64 0, .int .i64 0, .int .i64 0, .int .i64 0, .int .i64 0, .int .i64 0, .int .i64 0, .int .i64 0, .int .i64 0, .int .i64 0, .int .i64 0, .int .i64 0, .int .i64 0, .int .i64 0, .int .i64 0, .int .i64 0, .int .i64 0, .int .i64 0, .int .i64 0, .int .i64 0, .int .i64 0, .int .i64 0, .int .i64 0] := rfl
      rw [e60] at hcp
      rw [hcp]
      clear hcp e60
      --CUT1
      have HP3 : Hid (Pal (splice (List.replicate 60 (Value.int .i64 0)) 0 (l.map (Value.int .i64))).toArray l) := pal_of hl60
      generalize (splice (List.replicate 60 (Value.int .i64 0)) 0 (l.map (Value.int .i64))).toArray = PA at *
      have HF3 : Hid (FBox d u0 c0 u2 c2 w w3) := HF2.out.keep b3
      have HL3 : Hid (Lvs w3 M Rb lo d u2 c2 I) := HL2.out.below b3
      have z0 := HF3.out.a0
      have z1 := HF3.out.a1
      have z2 := HF3.out.a2
      clear b3 HL2
      go_wp2_with fail
      refine (C _ HF3.out.below).mono ?_
      rintro e w4 ⟨rfl, b4⟩
      have hgl : w2.heap.size < w3.heap.size := (Array.getElem?_eq_some_iff.1 HC3.out).1
      have HC4 : Hid (w4.heap[w2.heap.size]? = some (.cells PA 69 (0, 0))) := (b4.block _ hgl).trans HC3.out
      have hg4 : w2.heap.size < w4.heap.size := Nat.lt_of_lt_of_le hgl b4.size
      have HF4 : Hid (FBox d u0 c0 u2 c2 w w4) := HF3.out.keep b4
      have HL4 : Hid (Lvs w4 M Rb lo d u2 c2 I) := HL3.out.below b4
      have HIP : Hid ((Tryz.prog.info? 69).map (·.size) = some PA.size) := by show _ = _; rw [infoPal, HP3.out.1]
      clear z0 z1 z2 b4 HL3 HC3 hgl
      go_wp2_with fail
      --CUT2
      go_loopw [28] (fun i wr => ∃ k : Nat, k ≤ cntF d ∧ i = .int .i64 k ∧ Hid (colB d I l k = true) ∧ Hid (Below w4.heap.size w4 wr)) (fun i _ => cntF d - (intOf i).toNat)
      case atStart => exact ⟨0, by omega, rfl, rfl, Below.refl _ _⟩
      case round =>
        obtain ⟨k, hk, rfl, HCB, HBr⟩ := hrel
        obtain ⟨wo, hwo⟩ : ∃ wo, wo = wr := ⟨_, rfl⟩
        subst hwo
        have HFr : Hid (FBox d u0 c0 u2 c2 w wo) := HF4.out.keep HBr.out
        by_cases hlt : k < cntF d
        · have L := mayI M Rb lo d u2 c2 I l PA k wo HS.out HF.out (HFX.out.grows HF.out) (HL4.out.below HBr.out) hlt HP3.out (fun b hb hm => col_rng HCB.out hb (meet_ty hm))
          have hltI : (k : Int) < cntF d := by omega
          have HCr : Hid (wo.heap[w2.heap.size]? = some (.cells PA 69 (0, 0))) := (HBr.out.block _ hg4).trans HC4.out
          go_wp2_with (first | (refine wpList_load_row rfl 69 _ rfl w2.heap.size rfl 69 PA (0, 0) _ HCr.out Tryz.underlying69 rfl HIP.out ?_) | fail)
          refine L.mono ?_
          rintro e w5 ⟨rfl, b5⟩
          have HB5 : Hid (Below w4.heap.size w4 w5) := HBr.out.trans (b5.mono HBr.out.size)
          have HF5 : Hid (FBox d u0 c0 u2 c2 w w5) := HFr.out.keep b5
          cases hm : mayB d I l k with
          | true =>
            go_wp2_with fail
            go_roundw
            case rel => exact ⟨k + 1, by omega, by go_num, by show _ = _; rw [col_step, HCB.out, hm]; rfl, HB5⟩
            case measure => simp [intOf]; omega
          | false =>
            have E : Hid (false = colB d I l (cntF d)) := (col_mono (k := k + 1) (by rw [col_step, hm, Bool.and_false]) (by omega)).symm
            go_wp2_with fail
            go_ret
            exact ⟨_, rfl, .inr ⟨HE.out, I, HFX.out, E.out⟩, HF5.out.below⟩
        · have e : k = cntF d := by omega
          subst e
          go_wp2_with fail
          go_ret
          exact ⟨_, rfl, .inr ⟨HE.out, I, HFX.out, HCB.out.symm⟩, HFr.out.below⟩
    · have HE : Hid ((okB d && decide (l.length = cntF d)) = false) := by show _ = _; rw [hO]; simp [hl]
      have hlI : ¬ ((l.length : Int) = cntF d) := by omega
      have qe : ((l.length : Int) != (cntF d : Int)) = true := by rw [bne_iff_ne]; omega
      clear hl
      go_wp2_with fail
      go_ret
      exact ⟨_, rfl, .inl ⟨HE.out, rfl⟩, HF2.out.below⟩
  · have P := livesI_no lo d u0 c0 u2 c2 a _ hs (k0.keep (agree_of_below F0.below lo)) (k2.keep (agree_of_below F0.below lo)) (hv.keep F0.below) hok
    have hO : okB d = false := by
      cases h1 : funcB 3 d <;> cases h2 : phsB d <;> simp [okB, h1, h2] at hok ⊢
    clear hs k0 k2 hv F0 hok
    go_enter Tryz.func28, Tryz.ntmps28
    go_wp2_with fail
    refine P.mono ?_
    rintro e w2 ⟨rfl, b2⟩
    have HF2 : Hid (FBox d u0 c0 u2 c2 w w2) := HF0.out.keep b2
    go_wp2_with fail
    go_ret
    exact ⟨_, rfl, .inl ⟨by rw [hO]; rfl, rfl⟩, HF2.out.below⟩
end Go.Proofs.YtolaghondjfhdaaGreatDoor
