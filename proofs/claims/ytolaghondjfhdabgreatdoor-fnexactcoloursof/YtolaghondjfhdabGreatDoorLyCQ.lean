/- What is alive behind an id: the model. -/
import Derived.Test.YtolaghondjfhdabGreatDoorLyAQ
import Derived.Test.YtolaghondjfhdabGreatDoorLxKQ
namespace Go.Proofs.YtolaghondjfhdabGreatDoor
open Go.RowKit
set_option linter.unusedVariables false

theorem backY (lo lz : Nat) (d : FuncD) (u0 : Option Addr) (c0 : Nat) (u2 : Option Addr) (c2 : Nat) (b fr : Nat) (fi : Int) (v : Value) (s : List Int) (w : World) (hfi : fi = (fr : Int)) (hs : SmFunc d) (hF : LvF d) (hb : b < d.blocks.length) (hfr : fr ≤ (blkN d b).insts.length) (hlz : lz ≤ w.heap.size) (hv : SlAt w lz v s) (hsf : Fine (cntF d) s) (k2 : BlocksAt w lo u2 d.blocks) :
    Calls Tryz.prog 52 #[.agg #[.slice u0 d.params.length c0, .int .i64 d.ret, .slice u2 d.blocks.length c2], .int .i64 b, .int .i64 fi, v] w fun e w' => ∃ v', e = .returned v' ∧ SlAt w' lz v' (backL d b s ((blkN d b).insts.length - fr)) ∧ Below w.heap.size w w' := by
  subst hfi
  exact backZ lo lz d u0 c0 u2 c2 b fr v s w hs hF hb hfr hlz hv hsf k2
set_option maxHeartbeats 8000000 in
set_option maxRecDepth 100000 in
theorem aftZ (lo : Nat) (d : FuncD) (u0 : Option Addr) (c0 : Nat) (u2 : Option Addr) (c2 : Nat) (n gi li ci : Nat) (I : Alive) (w : World) (hs : SmFunc d) (hF : LvF d) (hG : Grows d I) (hn : n < cntF d) (hI : InsAt w gi li d.blocks.length I) (k2 : BlocksAt w lo u2 d.blocks) :
    Calls Tryz.prog 59 #[.agg #[.slice u0 d.params.length c0, .int .i64 d.ret, .slice u2 d.blocks.length c2], .int .i64 n, .slice (some ⟨gi, 0, none⟩) d.blocks.length ci] w fun e w' => ∃ v, e = .returned v ∧ SlAt w' w.heap.size v (aftL d I n) ∧ Below w.heap.size w w' := by
  have F0 := FBox.start (d := d) (u0 := u0) (u2 := u2) (c0 := c0) (c2 := c2) (w := w) (T := 30)
  have hcn := hF.cnt
  have hb1 : 1 ≤ d.blocks.length := hF.right.1
  have hb10 : d.blocks.length ≤ 10 := hF.right.2.1
  have P := placeS_any lo d u0 c0 u2 c2 n _ hs (k2.keep (agree_of_below F0.below lo)) (by omega)
  have a0 := F0.a0
  have a1 := F0.a1
  have a2 := F0.a2
  have HF0 : Hid (FBox d u0 c0 u2 c2 w _) := F0
  have HI : Hid (InsAt w gi li d.blocks.length I) := hI
  have K2 : Hid (BlocksAt w lo u2 d.blocks) := k2
  have HS : Hid (SmFunc d) := hs
  have HF : Hid (LvF d) := hF
  have HG : Hid (Grows d I) := hG
  clear hs hF hG k2 F0 hI
  go_enter Tryz.func59, Tryz.ntmps59
  go_wp2_with fail
  refine P.mono ?_
  rintro e w1 ⟨rfl, b1⟩
  have HF1 : Hid (FBox d u0 c0 u2 c2 w w1) := HF0.out.keep b1
  have HI1 : Hid (InsAt w1 gi li d.blocks.length I) := HI.out.below HF1.out.below
  have z2 := HF1.out.a2
  clear P b1 a0 a1 a2 HF0
  --CUT0
  rcases place_at hn with ⟨h1, h2⟩ | ⟨b, k, h1, h2, h3, h4⟩
  · have HA : Hid (aftL d I n = I 0) := aft_par h1
    have hlen : (I 0).length ≤ 60 := Nat.le_trans (HG.out.fine 0).len hcn
    obtain ⟨xa, xc, xe, xi⟩ := HI1.out.2 0 hb1
    have L := copyZ li xa xc (I 0) w1 (by omega) xi
    simp only [h2]
    clear h2 h1 hn
    go_wp2_with fail
    refine L.mono ?_
    rintro e w2 ⟨v2, rfl, s2, b2⟩
    go_wp2_with fail
    go_ret
    exact ⟨v2, rfl, by rw [HA.out]; exact s2.low HF1.out.below.size, HF1.out.below.trans (b2.mono HF1.out.below.size)⟩
  · have HA : Hid (aftL d I n = backL d b (outL d b I) ((blkN d b).insts.length - fromN d b k)) := aft_blk (by rw [h3]; exact par_le) h4
    have hfr : fromN d b k ≤ (blkN d b).insts.length := by unfold fromN; split <;> omega
    have hof := HF.out.out h1 HG.out.fine
    have O0 := fun W (q : Below w.heap.size w W) hI => outZ lo d u0 c0 u2 c2 b gi li ci I W HS.out HF.out h1 hI HG.out.fine (K2.out.keep (agree_of_below q lo))
    have hsb := HS.out.2.2 _ (getD_mem block0 d.blocks b h1)
    have hpl : (blkN d b).phis.length ≤ 1048576 := hsb.1.1
    have hbI : (b : Int) < d.blocks.length := by omega
    have hnb : ¬ ((b : Int) = -1) := by omega
    obtain ⟨gb, off, hu2, hlo, hbb, ⟨v0, r0, e0, _⟩, _⟩ := blk_cell (K2.out.keep (agree_of_below HF1.out.below lo)) h1
    rw [hu2] at z2
    simp only [h4]
    clear h4 hsb hu2
    by_cases hk : k < (blkN d b).phis.length
    · have B0 := fun v W (q : Below w.heap.size w W) hz hv => backY lo w.heap.size d u0 c0 u2 c2 b (fromN d b k) 0 v (outL d b I) W (by unfold fromN; rw [if_pos hk]; rfl) HS.out HF.out h1 hfr hz hv hof (K2.out.keep (agree_of_below q lo))
      have hkI : ¬ (((blkN d b).phis.length : Int) ≤ k) := by omega
      clear h3 hn hof hfr h2
      go_wp2_with fail
      --CUT1
      refine wp_region_held_drew (S := fun w' => Below w1.heap.size w1 w') (by kernel_rfl) ((Below.refl _ _).drew) (fun hHeld => ?_)
      refine wpAnyH_take (i := 0) (v := ?_) rfl (by kernel_rfl) (by kernel_rfl) (by kernel_rfl) (fun _ _ _ h => h) (Or.inl ⟨by rfl, ?_⟩) hHeld ?_
      rotate_left
      · intro w9 hS9
        have g0 := (HF1.out.keep hS9).a0
        have g1 := (HF1.out.keep hS9).a1
        have g2 := (HF1.out.keep hS9).a2
        go_simp
        try with_reducible rfl
      show wpAnyH _ _ _ _ _ _ _ (Act.put _ (some _) _) _
      simp only [Act.put, List.setIfInBounds_toArray, List.set_cons_zero, List.set_cons_succ]
      refine wpAnyH_take (i := 1) (v := ?_) rfl (by kernel_rfl) (by kernel_rfl) (by kernel_rfl) (fun _ _ _ h => h) (Or.inl ⟨by rfl, ?_⟩) hHeld ?_
      rotate_left
      · intro w9 hS9
        go_simp
        try with_reducible rfl
      show wpAnyH _ _ _ _ _ _ _ (Act.put _ (some _) _) _
      simp only [Act.put, List.setIfInBounds_toArray, List.set_cons_zero, List.set_cons_succ]
      refine wpAnyH_take (i := 2) (v := ?_) rfl (by kernel_rfl) (by kernel_rfl) (by kernel_rfl) (fun _ _ _ h => h) (Or.inl ⟨by rfl, ?_⟩) hHeld ?_
      rotate_left
      · intro w9 hS9
        go_simp
        try with_reducible rfl
      show wpAnyH _ _ _ _ _ _ _ (Act.put _ (some _) _) _
      simp only [Act.put, List.setIfInBounds_toArray, List.set_cons_zero, List.set_cons_succ]
      refine wpAnyH_take (i := 3) (v := ?_) rfl (by kernel_rfl) (by kernel_rfl) (by kernel_rfl) (fun _ _ _ h => h) (Or.inl ⟨by rfl, ?_⟩) hHeld ?_
      rotate_left
      · intro w9 hS9
        have g0 := (HF1.out.keep hS9).a0
        have g1 := (HF1.out.keep hS9).a1
        have g2 := (HF1.out.keep hS9).a2
        go_simp
        try with_reducible rfl
      show wpAnyH _ _ _ _ _ _ _ (Act.put _ (some _) _) _
      simp only [Act.put, List.setIfInBounds_toArray, List.set_cons_zero, List.set_cons_succ]
      refine wpAnyH_take (i := 4) (v := ?_) rfl (by kernel_rfl) (by kernel_rfl) (by kernel_rfl) (fun _ _ _ h => h) (Or.inl ⟨by rfl, ?_⟩) hHeld ?_
      rotate_left
      · intro w9 hS9
        go_simp
        try with_reducible rfl
      show wpAnyH _ _ _ _ _ _ _ (Act.put _ (some _) _) _
      simp only [Act.put, List.setIfInBounds_toArray, List.set_cons_zero, List.set_cons_succ]
      refine wpAnyH_take (i := 5) (v := ?_) rfl (by kernel_rfl) (by kernel_rfl) (by kernel_rfl) (fun _ _ _ h => h) (Or.inl ⟨by rfl, ?_⟩) hHeld ?_
      rotate_left
      · intro w9 hS9
        go_simp
        try with_reducible rfl
      show wpAnyH _ _ _ _ _ _ _ (Act.put _ (some _) _) _
      simp only [Act.put, List.setIfInBounds_toArray, List.set_cons_zero, List.set_cons_succ]
      refine wpAnyH_ready (rs := [6]) (by kernel_rfl) (by simp) ?_
      refine AllReadyH.cons rfl (fun K hK => ?_) AllReadyH.nil
      go_simp
      go_wp2_with (go_at_call 53; refine (O0 _ (HF1.out.keep hHeld).below (HI1.out.below hHeld)).mono ?_; rintro e w2 ⟨v2, rfl, s2, bb⟩; have bc := hHeld.trans (bb.mono hHeld.size))
      refine hK.out _ _ ?_ (fun hHeld2 => ?_)
      · exact bc
      clear hK K
      have hPrev := hHeld
      clear hHeld
      have hHeld := hHeld2
      clear hHeld2 bc
      try simp only [Act.put, List.setIfInBounds_toArray, List.set_cons_zero, List.set_cons_succ]
      have HF2 : Hid (FBox d u0 c0 u2 c2 w w2) := HF1.out.keep hHeld
      have hz2 : w.heap.size ≤ w2.heap.size := HF2.out.below.size
      have s2' : SlAt w2 w.heap.size v2 (outL d b I) := s2.low HF1.out.below.size
      have L := B0 v2 w2 HF2.out.below hz2 s2'
      refine wpAnyH_ready (rs := [7]) (by kernel_rfl) (by simp) ?_
      refine AllReadyH.cons rfl (fun K hK => ?_) AllReadyH.nil
      go_simp
      go_wp2_with (go_at_call 52; refine (L).mono ?_; rintro e w3 ⟨v3, rfl, s3, bb⟩; have bc := hHeld.trans (bb.mono hHeld.size))
      refine hK.out _ _ ?_ (fun hHeld2 => ?_)
      · exact bc
      clear hK K
      have hPrev := hHeld
      clear hHeld
      have hHeld := hHeld2
      clear hHeld2 bc
      try simp only [Act.put, List.setIfInBounds_toArray, List.set_cons_zero, List.set_cons_succ]
      refine wpAnyH_take (i := 8) (v := ?_) rfl (by kernel_rfl) (by kernel_rfl) (by kernel_rfl) (fun _ _ _ h => h) (Or.inl ⟨by rfl, ?_⟩) hHeld ?_
      rotate_left
      · intro w9 hS9
        go_simp
        try with_reducible rfl
      show wpAnyH _ _ _ _ _ _ _ (Act.put _ (some _) _) _
      simp only [Act.put, List.setIfInBounds_toArray, List.set_cons_zero, List.set_cons_succ]
      refine wpAnyH_done (by kernel_rfl) ?_ _
      have HF3 : Hid (FBox d u0 c0 u2 c2 w w3) := HF1.out.keep hHeld
      go_wp2_with fail
      go_ret
      exact ⟨v3, rfl, by rw [HA.out]; exact s3, HF3.out.below⟩
    · have B0 := fun v W (q : Below w.heap.size w W) hz hv => backY lo w.heap.size d u0 c0 u2 c2 b (fromN d b k) ((k : Int) - (blkN d b).phis.length + 1) v (outL d b I) W (by unfold fromN; rw [if_neg hk]; omega) HS.out HF.out h1 hfr hz hv hof (K2.out.keep (agree_of_below q lo))
      have hkI : ((blkN d b).phis.length : Int) ≤ k := by omega
      have hk60 : (k : Int) ≤ 60 := by have := first_le HF.out (b := b) (by omega); omega
      clear h3 hn hof hfr h2
      go_wp2_with fail
      --CUT2
      refine wp_region_held_drew (S := fun w' => Below w1.heap.size w1 w') (by kernel_rfl) ((Below.refl _ _).drew) (fun hHeld => ?_)
      refine wpAnyH_take (i := 0) (v := ?_) rfl (by kernel_rfl) (by kernel_rfl) (by kernel_rfl) (fun _ _ _ h => h) (Or.inl ⟨by rfl, ?_⟩) hHeld ?_
      rotate_left
      · intro w9 hS9
        have g0 := (HF1.out.keep hS9).a0
        have g1 := (HF1.out.keep hS9).a1
        have g2 := (HF1.out.keep hS9).a2
        go_simp
        try with_reducible rfl
      show wpAnyH _ _ _ _ _ _ _ (Act.put _ (some _) _) _
      simp only [Act.put, List.setIfInBounds_toArray, List.set_cons_zero, List.set_cons_succ]
      refine wpAnyH_take (i := 1) (v := ?_) rfl (by kernel_rfl) (by kernel_rfl) (by kernel_rfl) (fun _ _ _ h => h) (Or.inl ⟨by rfl, ?_⟩) hHeld ?_
      rotate_left
      · intro w9 hS9
        go_simp
        try with_reducible rfl
      show wpAnyH _ _ _ _ _ _ _ (Act.put _ (some _) _) _
      simp only [Act.put, List.setIfInBounds_toArray, List.set_cons_zero, List.set_cons_succ]
      refine wpAnyH_take (i := 2) (v := ?_) rfl (by kernel_rfl) (by kernel_rfl) (by kernel_rfl) (fun _ _ _ h => h) (Or.inl ⟨by rfl, ?_⟩) hHeld ?_
      rotate_left
      · intro w9 hS9
        go_simp
        try with_reducible rfl
      show wpAnyH _ _ _ _ _ _ _ (Act.put _ (some _) _) _
      simp only [Act.put, List.setIfInBounds_toArray, List.set_cons_zero, List.set_cons_succ]
      refine wpAnyH_take (i := 3) (v := ?_) rfl (by kernel_rfl) (by kernel_rfl) (by kernel_rfl) (fun _ _ _ h => h) (Or.inl ⟨by rfl, ?_⟩) hHeld ?_
      rotate_left
      · intro w9 hS9
        have g0 := (HF1.out.keep hS9).a0
        have g1 := (HF1.out.keep hS9).a1
        have g2 := (HF1.out.keep hS9).a2
        go_simp
        try with_reducible rfl
      show wpAnyH _ _ _ _ _ _ _ (Act.put _ (some _) _) _
      simp only [Act.put, List.setIfInBounds_toArray, List.set_cons_zero, List.set_cons_succ]
      refine wpAnyH_take (i := 4) (v := ?_) rfl (by kernel_rfl) (by kernel_rfl) (by kernel_rfl) (fun _ _ _ h => h) (Or.inl ⟨by rfl, ?_⟩) hHeld ?_
      rotate_left
      · intro w9 hS9
        go_simp
        try with_reducible rfl
      show wpAnyH _ _ _ _ _ _ _ (Act.put _ (some _) _) _
      simp only [Act.put, List.setIfInBounds_toArray, List.set_cons_zero, List.set_cons_succ]
      refine wpAnyH_take (i := 5) (v := ?_) rfl (by kernel_rfl) (by kernel_rfl) (by kernel_rfl) (fun _ _ _ h => h) (Or.inl ⟨by rfl, ?_⟩) hHeld ?_
      rotate_left
      · intro w9 hS9
        go_simp
        try with_reducible rfl
      show wpAnyH _ _ _ _ _ _ _ (Act.put _ (some _) _) _
      simp only [Act.put, List.setIfInBounds_toArray, List.set_cons_zero, List.set_cons_succ]
      refine wpAnyH_ready (rs := [6]) (by kernel_rfl) (by simp) ?_
      refine AllReadyH.cons rfl (fun K hK => ?_) AllReadyH.nil
      go_simp
      go_wp2_with (go_at_call 53; refine (O0 _ (HF1.out.keep hHeld).below (HI1.out.below hHeld)).mono ?_; rintro e w2 ⟨v2, rfl, s2, bb⟩; have bc := hHeld.trans (bb.mono hHeld.size))
      refine hK.out _ _ ?_ (fun hHeld2 => ?_)
      · exact bc
      clear hK K
      have hPrev := hHeld
      clear hHeld
      have hHeld := hHeld2
      clear hHeld2 bc
      try simp only [Act.put, List.setIfInBounds_toArray, List.set_cons_zero, List.set_cons_succ]
      have HF2 : Hid (FBox d u0 c0 u2 c2 w w2) := HF1.out.keep hHeld
      have hz2 : w.heap.size ≤ w2.heap.size := HF2.out.below.size
      have s2' : SlAt w2 w.heap.size v2 (outL d b I) := s2.low HF1.out.below.size
      have L := B0 v2 w2 HF2.out.below hz2 s2'
      refine wpAnyH_ready (rs := [7]) (by kernel_rfl) (by simp) ?_
      refine AllReadyH.cons rfl (fun K hK => ?_) AllReadyH.nil
      go_simp
      go_wp2_with (go_at_call 52; refine (L).mono ?_; rintro e w3 ⟨v3, rfl, s3, bb⟩; have bc := hHeld.trans (bb.mono hHeld.size))
      refine hK.out _ _ ?_ (fun hHeld2 => ?_)
      · exact bc
      clear hK K
      have hPrev := hHeld
      clear hHeld
      have hHeld := hHeld2
      clear hHeld2 bc
      try simp only [Act.put, List.setIfInBounds_toArray, List.set_cons_zero, List.set_cons_succ]
      refine wpAnyH_take (i := 8) (v := ?_) rfl (by kernel_rfl) (by kernel_rfl) (by kernel_rfl) (fun _ _ _ h => h) (Or.inl ⟨by rfl, ?_⟩) hHeld ?_
      rotate_left
      · intro w9 hS9
        go_simp
        try with_reducible rfl
      show wpAnyH _ _ _ _ _ _ _ (Act.put _ (some _) _) _
      simp only [Act.put, List.setIfInBounds_toArray, List.set_cons_zero, List.set_cons_succ]
      refine wpAnyH_done (by kernel_rfl) ?_ _
      have HF3 : Hid (FBox d u0 c0 u2 c2 w w3) := HF1.out.keep hHeld
      go_wp2_with fail
      go_ret
      exact ⟨v3, rfl, by rw [HA.out]; exact s3, HF3.out.below⟩
end Go.Proofs.YtolaghondjfhdabGreatDoor
