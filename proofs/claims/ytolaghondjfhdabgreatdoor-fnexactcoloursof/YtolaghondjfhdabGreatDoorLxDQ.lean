/- The program's routineOf: the walk. -/
import Derived.Test.YtolaghondjfhdabGreatDoorChDQ
namespace Go.Proofs.YtolaghondjfhdabGreatDoor
open Go.RowKit
set_option linter.unusedVariables false

set_option maxHeartbeats 8000000 in
set_option maxRecDepth 100000 in
theorem routineI (lo : Nat) (d : FuncD) (u0 : Option Addr) (c0 : Nat) (u2 : Option Addr) (c2 : Nat) (w : World) (hs : SmFunc d) (k0 : IntsAt w lo u0 d.params) (k2 : BlocksAt w lo u2 d.blocks) (hR : RightL d.blocks) (hc : cntF d ≤ 60) :
    Calls Tryz.prog 37 #[.agg #[.slice u0 d.params.length c0, .int .i64 d.ret, .slice u2 d.blocks.length c2]] w fun e w' => ∃ Rb, e = .returned (.pointer (some ⟨Rb, 0, none⟩)) ∧ RtOut w w' Rb lo d u2 c2 := by
  have hb1 := hR.1
  have hb10 := hR.2.1
  have hpl := k0.1
  have HS : Hid (SmFunc d) := hs
  have HR : Hid (RightL d.blocks) := hR
  have HK0 : Hid (IntsAt w lo u0 d.params) := k0
  have HK2 : Hid (BlocksAt w lo u2 d.blocks) := k2
  have F0 := FBox.start (d := d) (u0 := u0) (u2 := u2) (c0 := c0) (c2 := c2) (w := w) (T := 30)
  clear hs hR k0 k2
  go_enter Tryz.func37, Tryz.ntmps37
  go_wp2_with fail
  generalize (w.alloc (.cells #[.slice u0 d.params.length c0, .int .i64 d.ret, .slice u2 d.blocks.length c2] 30)) = w1 at F0 ⊢
  have HF1 : Hid (FBox d u0 c0 u2 c2 w w1) := F0
  clear F0
  refine wp_region_held_drew (S := fun w' => Below w1.heap.size w1 w') (by kernel_rfl) ((Below.refl _ _).drew) (fun hHeld => ?_)
  refine wpAnyH_take (i := 0) (v := ?_) rfl (by kernel_rfl) (by kernel_rfl) (by kernel_rfl) (fun _ _ _ h => h) (Or.inl ⟨by rfl, ?_⟩) hHeld ?_
  rotate_left
  · intro w9 hS9
    have g0 := (HF1.out.keep hS9).a0
    have g1 := (HF1.out.keep hS9).a1
    have g2 := (HF1.out.keep hS9).a2
    go_simp
    try with_reducible rfl
  show wpAnyH _ _ _ _ _ _ _ (Act.put _ (some _) _) _
  simp only [Act.put, List.setIfInBounds_toArray, List.set_cons_zero, List.set_cons_succ]
  refine wpAnyH_take (i := 1) (v := ?_) rfl (by kernel_rfl) (by kernel_rfl) (by kernel_rfl) (fun _ _ _ h => h) (Or.inl ⟨by rfl, ?_⟩) hHeld ?_
  rotate_left
  · intro w9 hS9
    have g0 := (HF1.out.keep hS9).a0
    have g1 := (HF1.out.keep hS9).a1
    have g2 := (HF1.out.keep hS9).a2
    go_simp
    try with_reducible rfl
  show wpAnyH _ _ _ _ _ _ _ (Act.put _ (some _) _) _
  simp only [Act.put, List.setIfInBounds_toArray, List.set_cons_zero, List.set_cons_succ]
  --CUT1
  refine wpAnyH_ready (rs := [2]) (by kernel_rfl) (by simp) ?_
  refine AllReadyH.cons rfl (fun K hK => ?_) AllReadyH.nil
  go_simp
  go_wp2_with (go_at_call 65; refine (typesI lo d u0 c0 u2 c2 _ HS.out (HK0.out.keep (agree_of_below (HF1.out.below.trans (hHeld.mono HF1.out.below.size)) _)) (HK2.out.keep (agree_of_below (HF1.out.below.trans (hHeld.mono HF1.out.below.size)) _)) hc).mono ?_; rintro e w2 ⟨⟨T, rfl, tyI⟩, bb⟩; have bc := hHeld.trans (bb.mono hHeld.size))
  refine hK.out _ _ ?_ (fun hHeld2 => ?_)
  · exact bc
  clear hK K
  have hPrev := hHeld
  clear hHeld
  have hHeld := hHeld2
  clear hHeld2 bc; have hPrev2 := hHeld
  try simp only [Act.put, List.setIfInBounds_toArray, List.set_cons_zero, List.set_cons_succ]
  --CUT2
  refine wpAnyH_take (i := 3) (v := ?_) rfl (by kernel_rfl) (by kernel_rfl) (by kernel_rfl) (fun _ _ _ h => h) (Or.inl ⟨by rfl, ?_⟩) hHeld ?_
  rotate_left
  · intro w9 hS9
    go_simp
    try with_reducible rfl
  show wpAnyH _ _ _ _ _ _ _ (Act.put _ (some _) _) _
  simp only [Act.put, List.setIfInBounds_toArray, List.set_cons_zero, List.set_cons_succ]
  refine wpAnyH_ready (rs := [4]) (by kernel_rfl) (by simp) ?_
  refine AllReadyH.cons rfl (fun K hK => ?_) AllReadyH.nil
  go_simp
  go_wp2_with fail
  refine hK.out _ _ ?_ (fun hHeld2 => ?_)
  · exact hHeld.alloc hHeld.size _
  clear hK K hHeld
  have hHeld := hHeld2
  clear hHeld2
  try simp only [Act.put, List.setIfInBounds_toArray, List.set_cons_zero, List.set_cons_succ]
  refine wpAnyH_take (i := 5) (v := ?_) rfl (by kernel_rfl) (by kernel_rfl) (by kernel_rfl) (fun _ _ _ h => h) (Or.inl ⟨by rfl, ?_⟩) hHeld ?_
  rotate_left
  · intro w9 hS9
    go_simp
    try with_reducible rfl
  show wpAnyH _ _ _ _ _ _ _ (Act.put _ (some _) _) _
  simp only [Act.put, List.setIfInBounds_toArray, List.set_cons_zero, List.set_cons_succ]
  refine wpAnyH_done (by kernel_rfl) ?_ _
  --CUT3
  have HF2 : Hid (FBox d u0 c0 u2 c2 w w2) := HF1.out.keep hPrev2
  have HTY : Hid (IntsAt w2 w.heap.size (some ⟨T, 0, none⟩) (tysF d)) := tyI.low (show w.heap.size ≤ w1.heap.size by have := HF1.out.size; omega)
  clear tyI hHeld
  have A3 : At (w2.alloc (.cells #[(.slice u0 d.params.length c0), (.int .i64 d.ret), (.slice u2 d.blocks.length c2), (.slice (some ⟨T, 0, none⟩) (cntF d) (cntF d)), .int .i64 0, .int .i64 0, .int .i64 0, .int .i64 0, .int .i64 0, .int .i64 0, .int .i64 0, .int .i64 0, .int .i64 0, .int .i64 0, .slice none 0 0, .slice none 0 0, .slice none 0 0, .slice none 0 0, .slice none 0 0, .slice none 0 0, .slice none 0 0, .slice none 0 0, .slice none 0 0, .slice none 0 0] 86)) w2.heap.size #[(.slice u0 d.params.length c0), (.int .i64 d.ret), (.slice u2 d.blocks.length c2), (.slice (some ⟨T, 0, none⟩) (cntF d) (cntF d)), .int .i64 0, .int .i64 0, .int .i64 0, .int .i64 0, .int .i64 0, .int .i64 0, .int .i64 0, .int .i64 0, .int .i64 0, .int .i64 0, .slice none 0 0, .slice none 0 0, .slice none 0 0, .slice none 0 0, .slice none 0 0, .slice none 0 0, .slice none 0 0, .slice none 0 0, .slice none 0 0, .slice none 0 0] 86 := At.new w2 _ _
  have B3 : Below w2.heap.size w2 (w2.alloc (.cells #[(.slice u0 d.params.length c0), (.int .i64 d.ret), (.slice u2 d.blocks.length c2), (.slice (some ⟨T, 0, none⟩) (cntF d) (cntF d)), .int .i64 0, .int .i64 0, .int .i64 0, .int .i64 0, .int .i64 0, .int .i64 0, .int .i64 0, .int .i64 0, .int .i64 0, .int .i64 0, .slice none 0 0, .slice none 0 0, .slice none 0 0, .slice none 0 0, .slice none 0 0, .slice none 0 0, .slice none 0 0, .slice none 0 0, .slice none 0 0, .slice none 0 0] 86)) := (Below.refl _ _).alloc (Nat.le_refl _) _
  have z3 : (w2.alloc (.cells #[(.slice u0 d.params.length c0), (.int .i64 d.ret), (.slice u2 d.blocks.length c2), (.slice (some ⟨T, 0, none⟩) (cntF d) (cntF d)), .int .i64 0, .int .i64 0, .int .i64 0, .int .i64 0, .int .i64 0, .int .i64 0, .int .i64 0, .int .i64 0, .int .i64 0, .int .i64 0, .slice none 0 0, .slice none 0 0, .slice none 0 0, .slice none 0 0, .slice none 0 0, .slice none 0 0, .slice none 0 0, .slice none 0 0, .slice none 0 0, .slice none 0 0] 86)).heap.size = w2.heap.size + 1 := by simp
  generalize (w2.alloc (.cells #[(.slice u0 d.params.length c0), (.int .i64 d.ret), (.slice u2 d.blocks.length c2), (.slice (some ⟨T, 0, none⟩) (cntF d) (cntF d)), .int .i64 0, .int .i64 0, .int .i64 0, .int .i64 0, .int .i64 0, .int .i64 0, .int .i64 0, .int .i64 0, .int .i64 0, .int .i64 0, .slice none 0 0, .slice none 0 0, .slice none 0 0, .slice none 0 0, .slice none 0 0, .slice none 0 0, .slice none 0 0, .slice none 0 0, .slice none 0 0, .slice none 0 0] 86)) = w3 at A3 B3 z3 ⊢
  have HF3 : Hid (FBox d u0 c0 u2 c2 w w3) := HF2.out.keep B3
  have a0 := HF3.out.a0
  have a1 := HF3.out.a1
  have a2 := HF3.out.a2
  have D := graphI lo d u0 c0 u2 c2 w3 HS.out (HK2.out.keep (agree_of_below HF3.out.below lo))
  --CUT4
  go_wp2_with (go_at_call 64; refine D.mono ?_; rintro e w4 ⟨hb4, h4⟩; obtain ⟨N, hN, rfl, hG⟩ := (h4.resolve_left (fun h => h.1 HR.out)).2)
  have HT0 : Hid (RoSt w2 w4 N d (.slice u0 d.params.length c0) (.int .i64 d.ret) (.slice u2 d.blocks.length c2) (.slice (some ⟨T, 0, none⟩) (cntF d) (cntF d)) 0 0) := ⟨B3.trans (hb4.mono (by omega)), by omega, hG, #[(.slice u0 d.params.length c0), (.int .i64 d.ret), (.slice u2 d.blocks.length c2), (.slice (some ⟨T, 0, none⟩) (cntF d) (cntF d)), .int .i64 0, .int .i64 0, .int .i64 0, .int .i64 0, .int .i64 0, .int .i64 0, .int .i64 0, .int .i64 0, .int .i64 0, .int .i64 0, .slice none 0 0, .slice none 0 0, .slice none 0 0, .slice none 0 0, .slice none 0 0, .slice none 0 0, .slice none 0 0, .slice none 0 0, .slice none 0 0, .slice none 0 0], A3.below hb4, rfl, rfl, rfl, rfl, rfl, fun b hb => absurd hb (Nat.not_lt_zero b), fun b hb => absurd hb (Nat.not_lt_zero b)⟩
  clear hb4 h4 hG D a0 a1 a2 A3 B3 z3 hN HF3
  --CUT5
  go_loopw [4, 18] (fun f i wr => ∃ k : Nat, k ≤ d.blocks.length ∧ f = .int .i64 (firstN d k : Nat) ∧ i = .int .i64 k ∧ Hid (RoSt w2 wr N d (.slice u0 d.params.length c0) (.int .i64 d.ret) (.slice u2 d.blocks.length c2) (.slice (some ⟨T, 0, none⟩) (cntF d) (cntF d)) k k)) (fun _ i _ => d.blocks.length - (intOf i).toNat)
  case atStart => exact ⟨0, by omega, by simp [firstN, cntL], rfl, HT0.out⟩
  case round =>
    obtain ⟨k, hk, rfl, rfl, HT⟩ := hrel
    clear HT0
    obtain ⟨wo, hwo⟩ : ∃ wo, wo = wr := ⟨_, rfl⟩
    subst hwo
    by_cases hlt : k < d.blocks.length
    · obtain ⟨sa, sc, pa, pc, hh, _, hpp⟩ := HT.out.graph.node k hlt
      have c0' := HT.out.graph.head k hlt
      unfold ptrV at c0'
      have AN : At wo (N + 1 + k) #[.int .i64 k, .slice sa (succN d.blocks k).length sc, .slice pa (predN (succN d.blocks) d.blocks.length k).length pc] 118 := hh
      have hNk : w2.heap.size ≠ N + 1 + k := by have := HT.out.rn; omega
      have HPP : Hid (PtrsAt wo N N pa (predN (succN d.blocks) d.blocks.length k)) := hpp
      clear hh hpp
      --CUT6
      go_wp2_with fail
      --CUT7
      have HT1 : Hid (RoSt w2 wo.drew N d (.slice u0 d.params.length c0) (.int .i64 d.ret) (.slice u2 d.blocks.length c2) (.slice (some ⟨T, 0, none⟩) (cntF d) (cntF d)) k k) := HT.out.keep ((Below.refl _ _).drew)
      obtain ⟨zv, ze⟩ := HT1.out.there (o := 4 + k) (by omega)
      have zf := HT1.out.froz (4 + k)
      clear c0'
      refine wp_region_held_drew (S := fun w' => At w' (N + 1 + k) #[.int .i64 k, .slice sa (succN d.blocks k).length sc, .slice pa (predN (succN d.blocks) d.blocks.length k).length pc] 118) (by kernel_rfl) (show At wo.drew _ _ _ from AN) (fun hHeld => ?_)
      refine wpAnyH_take (i := 0) (v := ?_) rfl (by kernel_rfl) (by kernel_rfl) (by kernel_rfl) (fun _ _ _ h => h) (Or.inl ⟨by rfl, ?_⟩) hHeld ?_
      rotate_left
      · intro w9 hS9
        go_simp
        try with_reducible rfl
      show wpAnyH _ _ _ _ _ _ _ (Act.put _ (some _) _) _
      simp only [Act.put, List.setIfInBounds_toArray, List.set_cons_zero, List.set_cons_succ]
      refine wpAnyH_take (i := 1) (v := ?_) rfl (by kernel_rfl) (by kernel_rfl) (by kernel_rfl) (fun _ _ _ h => h) (Or.inl ⟨by rfl, ?_⟩) hHeld ?_
      rotate_left
      · intro w9 hS9
        go_simp
        try with_reducible rfl
      show wpAnyH _ _ _ _ _ _ _ (Act.put _ (some _) _) _
      simp only [Act.put, List.setIfInBounds_toArray, List.set_cons_zero, List.set_cons_succ]
      refine wpAnyH_take (i := 2) (v := ?_) rfl (by kernel_rfl) (by kernel_rfl) (by kernel_rfl) (fun _ _ _ h => h) (Or.inl ⟨by rfl, ?_⟩) hHeld ?_
      rotate_left
      · intro w9 hS9
        go_simp
        try with_reducible rfl
      show wpAnyH _ _ _ _ _ _ _ (Act.put _ (some _) _) _
      simp only [Act.put, List.setIfInBounds_toArray, List.set_cons_zero, List.set_cons_succ]
      refine wpAnyH_take (i := 3) (v := ?_) rfl (by kernel_rfl) (by kernel_rfl) (by kernel_rfl) (fun _ _ _ h => h) (Or.inl ⟨by rfl, ?_⟩) hHeld ?_
      rotate_left
      · intro w9 hS9
        go_simp
        try with_reducible rfl
      show wpAnyH _ _ _ _ _ _ _ (Act.put _ (some _) _) _
      simp only [Act.put, List.setIfInBounds_toArray, List.set_cons_zero, List.set_cons_succ]
      refine wpAnyH_take (i := 4) (v := ?_) rfl (by kernel_rfl) (by kernel_rfl) (by kernel_rfl) (fun _ _ _ h => h) (Or.inl ⟨by rfl, ?_⟩) hHeld ?_
      rotate_left
      · intro w9 hS9
        have g0 := (show w9.cell? ⟨N + 1 + k, 0, none⟩ = some (.int .i64 k) from (hS9.cell 0).trans rfl)
        go_simp
        try with_reducible rfl
      show wpAnyH _ _ _ _ _ _ _ (Act.put _ (some _) _) _
      simp only [Act.put, List.setIfInBounds_toArray, List.set_cons_zero, List.set_cons_succ]
      refine wpAnyH_take (i := 5) (v := ?_) rfl (by kernel_rfl) (by kernel_rfl) (by kernel_rfl) (fun _ _ _ h => h) (Or.inl ⟨by rfl, ?_⟩) hHeld ?_
      rotate_left
      · intro w9 hS9
        go_simp
        try with_reducible rfl
      show wpAnyH _ _ _ _ _ _ _ (Act.put _ (some _) _) _
      simp only [Act.put, List.setIfInBounds_toArray, List.set_cons_zero, List.set_cons_succ]
      refine wpAnyH_take (i := 6) (v := ?_) rfl (by kernel_rfl) (by kernel_rfl) (by kernel_rfl) (fun _ _ _ h => h) (Or.inl ⟨by rfl, ?_⟩) hHeld ?_
      rotate_left
      · intro w9 hS9
        go_simp
        try with_reducible rfl
      show wpAnyH _ _ _ _ _ _ _ (Act.put _ (some _) _) _
      simp only [Act.put, List.setIfInBounds_toArray, List.set_cons_zero, List.set_cons_succ]
      refine wpAnyH_take (i := 7) (v := ?_) rfl (by kernel_rfl) (by kernel_rfl) (by kernel_rfl) (fun _ _ _ h => h) (Or.inl ⟨by rfl, ?_⟩) hHeld ?_
      rotate_left
      · intro w9 hS9
        go_simp
        try with_reducible rfl
      show wpAnyH _ _ _ _ _ _ _ (Act.put _ (some _) _) _
      simp only [Act.put, List.setIfInBounds_toArray, List.set_cons_zero, List.set_cons_succ]
      refine wpAnyH_take (i := 8) (v := ?_) rfl (by kernel_rfl) (by kernel_rfl) (by kernel_rfl) (fun _ _ _ h => h) (Or.inl ⟨by rfl, ?_⟩) hHeld ?_
      rotate_left
      · intro w9 hS9
        go_simp
        rw [if_pos (by omega)]
        try with_reducible rfl
      show wpAnyH _ _ _ _ _ _ _ (Act.put _ (some _) _) _
      simp only [Act.put, List.setIfInBounds_toArray, List.set_cons_zero, List.set_cons_succ]
      --CUT8
      refine wpAnyH_ready (rs := [9]) (by kernel_rfl) (by simp) ?_
      refine AllReadyH.cons rfl (fun K hK => ?_) AllReadyH.nil
      go_simp
      go_wp2_with fail
      refine hK.out _ _ ?_ (fun hHeld2 => ?_)
      · exact hHeld.setOther (Ne.symm hNk)
      clear hK K hHeld
      have hHeld := hHeld2
      clear hHeld2
      try simp only [Act.put, List.setIfInBounds_toArray, List.set_cons_zero, List.set_cons_succ]
      refine wpAnyH_done (by kernel_rfl) ?_ _
      --CUT9
      have HT2 : Hid (RoSt w2 (wo.setCell ⟨w2.heap.size, 4 + k, none⟩ (.int .i64 (firstN d k : Nat))).drew N d (.slice u0 d.params.length c0) (.int .i64 d.ret) (.slice u2 d.blocks.length c2) (.slice (some ⟨T, 0, none⟩) (cntF d) (cntF d)) (k + 1) k) := (HT.out.first (by omega)).keep ((Below.refl _ _).drew)
      generalize (wo.setCell ⟨w2.heap.size, 4 + k, none⟩ (.int .i64 (firstN d k : Nat))).drew = wp at HT2 hHeld ⊢
      have AN2 : At wp (N + 1 + k) #[.int .i64 k, .slice sa (succN d.blocks k).length sc, .slice pa (predN (succN d.blocks) d.blocks.length k).length pc] 118 := hHeld
      have HPP2 : Hid (PtrsAt wp.drew N N pa (predN (succN d.blocks) d.blocks.length k)) := by
        obtain ⟨sa', sc', pa', pc', hh', _, hpp'⟩ := (HT2.out.keep ((Below.refl _ _).drew)).graph.node k hlt
        have e : At wp.drew (N + 1 + k) #[.int .i64 k, .slice sa (succN d.blocks k).length sc, .slice pa (predN (succN d.blocks) d.blocks.length k).length pc] 118 := AN2
        have e2 := e.symm.trans hh'
        simp only [Option.some.injEq, Obj.cells.injEq, Array.mk.injEq, List.cons.injEq, Value.slice.injEq, and_true, true_and] at e2
        rw [e2.2.1]
        exact hpp'
      clear hHeld ze zf HT1 HT AN HPP
      have hpn := pred_len (S := succN d.blocks) (n := d.blocks.length) (x := k)
      have PL := placesI N N d.blocks.length (succN d.blocks) pa pc (predN (succN d.blocks) d.blocks.length k) wp.drew HPP2.out (HT2.out.keep ((Below.refl _ _).drew)).graph pred_lt (by omega)
      --CUTA
      go_wp2_with fail
      refine wp_region_held_drew (S := fun w' => At w' (N + 1 + k) #[.int .i64 k, .slice sa (succN d.blocks k).length sc, .slice pa (predN (succN d.blocks) d.blocks.length k).length pc] 118) (by kernel_rfl) (show At wp.drew _ _ _ from AN2) (fun hHeld => ?_)
      refine wpAnyH_take (i := 0) (v := ?_) rfl (by kernel_rfl) (by kernel_rfl) (by kernel_rfl) (fun _ _ _ h => h) (Or.inl ⟨by rfl, ?_⟩) hHeld ?_
      rotate_left
      · intro w9 hS9
        go_simp
        try with_reducible rfl
      show wpAnyH _ _ _ _ _ _ _ (Act.put _ (some _) _) _
      simp only [Act.put, List.setIfInBounds_toArray, List.set_cons_zero, List.set_cons_succ]
      refine wpAnyH_take (i := 1) (v := ?_) rfl (by kernel_rfl) (by kernel_rfl) (by kernel_rfl) (fun _ _ _ h => h) (Or.inl ⟨by rfl, ?_⟩) hHeld ?_
      rotate_left
      · intro w9 hS9
        go_simp
        try with_reducible rfl
      show wpAnyH _ _ _ _ _ _ _ (Act.put _ (some _) _) _
      simp only [Act.put, List.setIfInBounds_toArray, List.set_cons_zero, List.set_cons_succ]
      refine wpAnyH_take (i := 2) (v := ?_) rfl (by kernel_rfl) (by kernel_rfl) (by kernel_rfl) (fun _ _ _ h => h) (Or.inl ⟨by rfl, ?_⟩) hHeld ?_
      rotate_left
      · intro w9 hS9
        go_simp
        try with_reducible rfl
      show wpAnyH _ _ _ _ _ _ _ (Act.put _ (some _) _) _
      simp only [Act.put, List.setIfInBounds_toArray, List.set_cons_zero, List.set_cons_succ]
      refine wpAnyH_take (i := 3) (v := ?_) rfl (by kernel_rfl) (by kernel_rfl) (by kernel_rfl) (fun _ _ _ h => h) (Or.inl ⟨by rfl, ?_⟩) hHeld ?_
      rotate_left
      · intro w9 hS9
        go_simp
        try with_reducible rfl
      show wpAnyH _ _ _ _ _ _ _ (Act.put _ (some _) _) _
      simp only [Act.put, List.setIfInBounds_toArray, List.set_cons_zero, List.set_cons_succ]
      refine wpAnyH_take (i := 4) (v := ?_) rfl (by kernel_rfl) (by kernel_rfl) (by kernel_rfl) (fun _ _ _ h => h) (Or.inl ⟨by rfl, ?_⟩) hHeld ?_
      rotate_left
      · intro w9 hS9
        have g0 := (show w9.cell? ⟨N + 1 + k, 0, none⟩ = some (.int .i64 k) from (hS9.cell 0).trans rfl)
        go_simp
        try with_reducible rfl
      show wpAnyH _ _ _ _ _ _ _ (Act.put _ (some _) _) _
      simp only [Act.put, List.setIfInBounds_toArray, List.set_cons_zero, List.set_cons_succ]
      refine wpAnyH_take (i := 5) (v := ?_) rfl (by kernel_rfl) (by kernel_rfl) (by kernel_rfl) (fun _ _ _ h => h) (Or.inl ⟨by rfl, ?_⟩) hHeld ?_
      rotate_left
      · intro w9 hS9
        go_simp
        try with_reducible rfl
      show wpAnyH _ _ _ _ _ _ _ (Act.put _ (some _) _) _
      simp only [Act.put, List.setIfInBounds_toArray, List.set_cons_zero, List.set_cons_succ]
      refine wpAnyH_take (i := 6) (v := ?_) rfl (by kernel_rfl) (by kernel_rfl) (by kernel_rfl) (fun _ _ _ h => h) (Or.inl ⟨by rfl, ?_⟩) hHeld ?_
      rotate_left
      · intro w9 hS9
        go_simp
        try with_reducible rfl
      show wpAnyH _ _ _ _ _ _ _ (Act.put _ (some _) _) _
      simp only [Act.put, List.setIfInBounds_toArray, List.set_cons_zero, List.set_cons_succ]
      refine wpAnyH_take (i := 7) (v := ?_) rfl (by kernel_rfl) (by kernel_rfl) (by kernel_rfl) (fun _ _ _ h => h) (Or.inl ⟨by rfl, ?_⟩) hHeld ?_
      rotate_left
      · intro w9 hS9
        go_simp
        try with_reducible rfl
      show wpAnyH _ _ _ _ _ _ _ (Act.put _ (some _) _) _
      simp only [Act.put, List.setIfInBounds_toArray, List.set_cons_zero, List.set_cons_succ]
      refine wpAnyH_take (i := 8) (v := ?_) rfl (by kernel_rfl) (by kernel_rfl) (by kernel_rfl) (fun _ _ _ h => h) (Or.inl ⟨by rfl, ?_⟩) hHeld ?_
      rotate_left
      · intro w9 hS9
        have g0 := (show w9.cell? ⟨N + 1 + k, 2, none⟩ = some (.slice pa (predN (succN d.blocks) d.blocks.length k).length pc) from (hS9.cell 2).trans rfl)
        go_simp
        try with_reducible rfl
      show wpAnyH _ _ _ _ _ _ _ (Act.put _ (some _) _) _
      simp only [Act.put, List.setIfInBounds_toArray, List.set_cons_zero, List.set_cons_succ]
      refine wpAnyH_take (i := 10) (v := ?_) rfl (by kernel_rfl) (by kernel_rfl) (by kernel_rfl) (fun _ _ _ h => h) (Or.inl ⟨by rfl, ?_⟩) hHeld ?_
      rotate_left
      · intro w9 hS9
        go_simp
        try with_reducible rfl
      show wpAnyH _ _ _ _ _ _ _ (Act.put _ (some _) _) _
      simp only [Act.put, List.setIfInBounds_toArray, List.set_cons_zero, List.set_cons_succ]
      refine wpAnyH_take (i := 11) (v := ?_) rfl (by kernel_rfl) (by kernel_rfl) (by kernel_rfl) (fun _ _ _ h => h) (Or.inl ⟨by rfl, ?_⟩) hHeld ?_
      rotate_left
      · intro w9 hS9
        go_simp
        try with_reducible rfl
      show wpAnyH _ _ _ _ _ _ _ (Act.put _ (some _) _) _
      simp only [Act.put, List.setIfInBounds_toArray, List.set_cons_zero, List.set_cons_succ]
      refine wpAnyH_ready (rs := [9]) (by kernel_rfl) (by simp) ?_
      refine AllReadyH.cons rfl (fun K hK => ?_) AllReadyH.nil
      go_simp
      go_wp2_with (go_at_call 66; refine (PL).mono ?_; rintro e wq ⟨vq, rfl, rq, bq⟩)
      refine hK.out _ _ ?_ (fun hHeld2 => ?_)
      · exact hHeld.below bq
      clear hK K hHeld
      have hHeld := hHeld2
      clear hHeld2
      try simp only [Act.put, List.setIfInBounds_toArray, List.set_cons_zero, List.set_cons_succ]
      --CUTB
      have RQ : Row wq wp.drew.heap.size vq (predL d k) := by
        unfold Row predL
        rw [ints_len]
        exact rq
      obtain ⟨qu, qc, hvq, qi⟩ := RQ.ints (by unfold predL; rw [ints_len]; omega)
      subst hvq
      have HT3 : Hid (RoSt w2 wq N d (.slice u0 d.params.length c0) (.int .i64 d.ret) (.slice u2 d.blocks.length c2) (.slice (some ⟨T, 0, none⟩) (cntF d) (cntF d)) (k + 1) k) := (HT2.out.keep ((Below.refl _ _).drew)).keep bq
      have HQI : Hid (IntsAt wq (w2.heap.size + 1) qu (predL d k)) := qi.low (show w2.heap.size + 1 ≤ wp.heap.size from HT2.out.lt)
      obtain ⟨yv, ye⟩ := HT3.out.there (o := 14 + k) (by omega)
      have yf := HT3.out.froz (14 + k)
      clear RQ rq bq qi PL HT2 HPP2 AN2
      refine wpAnyH_take (i := 12) (v := ?_) rfl (by kernel_rfl) (by kernel_rfl) (by kernel_rfl) (fun _ _ _ h => h) (Or.inl ⟨by rfl, ?_⟩) hHeld ?_
      rotate_left
      · intro w9 hS9
        go_simp
        rw [if_pos (by omega)]
        try with_reducible rfl
      show wpAnyH _ _ _ _ _ _ _ (Act.put _ (some _) _) _
      simp only [Act.put, List.setIfInBounds_toArray, List.set_cons_zero, List.set_cons_succ]
      refine wpAnyH_ready (rs := [13]) (by kernel_rfl) (by simp) ?_
      refine AllReadyH.cons rfl (fun K hK => ?_) AllReadyH.nil
      go_simp
      go_wp2_with fail
      refine hK.out _ _ ?_ (fun hHeld2 => ?_)
      · exact hHeld.setOther (Ne.symm hNk)
      clear hK K hHeld
      have hHeld := hHeld2
      clear hHeld2
      try simp only [Act.put, List.setIfInBounds_toArray, List.set_cons_zero, List.set_cons_succ]
      refine wpAnyH_done (by kernel_rfl) ?_ _
      have HT4 : Hid (RoSt w2 (wq.setCell ⟨w2.heap.size, 14 + k, none⟩ (.slice qu (predL d k).length qc)) N d (.slice u0 d.params.length c0) (.int .i64 d.ret) (.slice u2 d.blocks.length c2) (.slice (some ⟨T, 0, none⟩) (cntF d) (cntF d)) (k + 1) (k + 1)) := HT3.out.pred (by omega) (by omega) HQI.out
      generalize (wq.setCell ⟨w2.heap.size, 14 + k, none⟩ (.slice qu (predL d k).length qc)) = ws at HT4 hHeld ⊢
      have AN3 : At ws (N + 1 + k) #[.int .i64 k, .slice sa (succN d.blocks k).length sc, .slice pa (predN (succN d.blocks) d.blocks.length k).length pc] 118 := hHeld
      clear hHeld ye yf HT3 HQI
      have HFs : Hid (FBox d u0 c0 u2 c2 w ws) := HF2.out.keep HT4.out.below
      obtain ⟨gB, o2, hu2, hl2, hg20, ⟨v0, r0, e00, q0⟩, ⟨v1, r1, e10, q1⟩, e20, e30, e40, e50⟩ := blk_cell HK2.out hlt
      have hu2' : u2 = some ⟨gB, o2, none⟩ := hu2
      subst hu2'
      have HBs := HFs.out.below
      have hg2 : gB < ws.heap.size := Nat.lt_of_lt_of_le hg20 HBs.size
      have e0 := (cell_block (HBs.block gB hg20)).trans e00
      have e1 := (cell_block (HBs.block gB hg20)).trans e10
      have e2 := (cell_block (HBs.block gB hg20)).trans e20
      have e3 := (cell_block (HBs.block gB hg20)).trans e30
      have e4 := (cell_block (HBs.block gB hg20)).trans e40
      have e5 := (cell_block (HBs.block gB hg20)).trans e50
      clear e00 e10 e20 e30 e40 e50 q0 q1 hu2 HBs
      have hsb := HS.out.2.2 _ (getD_mem block0 d.blocks k hlt)
      have hil : (blkN d k).insts.length ≤ 1048576 := hsb.2.1
      have hphl : (blkN d k).phis.length ≤ 1048576 := hsb.1.1
      clear hsb
      have hf1 : firstN d (k + 1) ≤ 60 := by
        have := cntL_take_le d.blocks (k + 1)
        unfold firstN cntF at *
        omega
      have hfn := first_next hlt
      have HFN : Hid (firstN d (k + 1) = firstN d k + ((blkN d k).phis.length + (blkN d k).insts.length)) := hfn
      have hfs : firstN d k + ((blkN d k).phis.length + (blkN d k).insts.length) ≤ 60 := by omega
      clear hfn hf1
      have PE := fun V => endZ (blkN d k) v0 r0 v1 r1 V hphl hil
      --CUTC
      go_wp2_with fail
      refine wp_region_held_drew (S := fun w' => Below ws.heap.size ws w') (by kernel_rfl) ((Below.refl _ _).drew) (fun hHeld => ?_)
      refine wpAnyH_take (i := 0) (v := ?_) rfl (by kernel_rfl) (by kernel_rfl) (by kernel_rfl) (fun _ _ _ h => h) (Or.inl ⟨by rfl, ?_⟩) hHeld ?_
      rotate_left
      · intro w9 hS9
        go_simp
        try with_reducible rfl
      show wpAnyH _ _ _ _ _ _ _ (Act.put _ (some _) _) _
      simp only [Act.put, List.setIfInBounds_toArray, List.set_cons_zero, List.set_cons_succ]
      refine wpAnyH_take (i := 1) (v := ?_) rfl (by kernel_rfl) (by kernel_rfl) (by kernel_rfl) (fun _ _ _ h => h) (Or.inl ⟨by rfl, ?_⟩) hHeld ?_
      rotate_left
      · intro w9 hS9
        go_simp
        try with_reducible rfl
      show wpAnyH _ _ _ _ _ _ _ (Act.put _ (some _) _) _
      simp only [Act.put, List.setIfInBounds_toArray, List.set_cons_zero, List.set_cons_succ]
      refine wpAnyH_take (i := 2) (v := ?_) rfl (by kernel_rfl) (by kernel_rfl) (by kernel_rfl) (fun _ _ _ h => h) (Or.inl ⟨by rfl, ?_⟩) hHeld ?_
      rotate_left
      · intro w9 hS9
        have g0 := (HFs.out.keep hS9).a2
        go_simp
        try with_reducible rfl
      show wpAnyH _ _ _ _ _ _ _ (Act.put _ (some _) _) _
      simp only [Act.put, List.setIfInBounds_toArray, List.set_cons_zero, List.set_cons_succ]
      refine wpAnyH_take (i := 3) (v := ?_) rfl (by kernel_rfl) (by kernel_rfl) (by kernel_rfl) (fun _ _ _ h => h) (Or.inl ⟨by rfl, ?_⟩) hHeld ?_
      rotate_left
      · intro w9 hS9
        go_simp
        try with_reducible rfl
      show wpAnyH _ _ _ _ _ _ _ (Act.put _ (some _) _) _
      simp only [Act.put, List.setIfInBounds_toArray, List.set_cons_zero, List.set_cons_succ]
      refine wpAnyH_take (i := 4) (v := ?_) rfl (by kernel_rfl) (by kernel_rfl) (by kernel_rfl) (fun _ _ _ h => h) (Or.inl ⟨by rfl, ?_⟩) hHeld ?_
      rotate_left
      · intro w9 hS9
        go_simp
        try with_reducible rfl
      show wpAnyH _ _ _ _ _ _ _ (Act.put _ (some _) _) _
      simp only [Act.put, List.setIfInBounds_toArray, List.set_cons_zero, List.set_cons_succ]
      refine wpAnyH_take (i := 5) (v := ?_) rfl (by kernel_rfl) (by kernel_rfl) (by kernel_rfl) (fun _ _ _ h => h) (Or.inl ⟨by rfl, ?_⟩) hHeld ?_
      rotate_left
      · intro w9 hS9
        go_simp
        try with_reducible rfl
      show wpAnyH _ _ _ _ _ _ _ (Act.put _ (some _) _) _
      simp only [Act.put, List.setIfInBounds_toArray, List.set_cons_zero, List.set_cons_succ]
      refine wpAnyH_take (i := 6) (v := ?_) rfl (by kernel_rfl) (by kernel_rfl) (by kernel_rfl) (fun _ _ _ h => h) (Or.inl ⟨by rfl, ?_⟩) hHeld ?_
      rotate_left
      · intro w9 hS9
        have g0 := (show w9.cell? ⟨N + 1 + k, 0, none⟩ = some (.int .i64 k) from ((AN3.below hS9).cell 0).trans rfl)
        go_simp
        try with_reducible rfl
      show wpAnyH _ _ _ _ _ _ _ (Act.put _ (some _) _) _
      simp only [Act.put, List.setIfInBounds_toArray, List.set_cons_zero, List.set_cons_succ]
      refine wpAnyH_take (i := 7) (v := ?_) rfl (by kernel_rfl) (by kernel_rfl) (by kernel_rfl) (fun _ _ _ h => h) (Or.inl ⟨by rfl, ?_⟩) hHeld ?_
      rotate_left
      · intro w9 hS9
        go_simp
        try with_reducible rfl
      show wpAnyH _ _ _ _ _ _ _ (Act.put _ (some _) _) _
      simp only [Act.put, List.setIfInBounds_toArray, List.set_cons_zero, List.set_cons_succ]
      refine wpAnyH_take (i := 8) (v := ?_) rfl (by kernel_rfl) (by kernel_rfl) (by kernel_rfl) (fun _ _ _ h => h) (Or.inl ⟨by rfl, ?_⟩) hHeld ?_
      rotate_left
      · intro w9 hS9
        have g0 := (cell_block (hS9.block gB hg2)).trans e0
        have g1 := (cell_block (hS9.block gB hg2)).trans e1
        have g2 := (cell_block (hS9.block gB hg2)).trans e2
        have g3 := (cell_block (hS9.block gB hg2)).trans e3
        have g4 := (cell_block (hS9.block gB hg2)).trans e4
        have g5 := (cell_block (hS9.block gB hg2)).trans e5
        go_simp
        try with_reducible rfl
      show wpAnyH _ _ _ _ _ _ _ (Act.put _ (some _) _) _
      simp only [Act.put, List.setIfInBounds_toArray, List.set_cons_zero, List.set_cons_succ]
      --CUTD
      refine wpAnyH_ready (rs := [9]) (by kernel_rfl) (by simp) ?_
      refine AllReadyH.cons rfl (fun K hK => ?_) AllReadyH.nil
      go_simp
      go_wp2_with (go_at_call 67; refine (PE _).mono ?_; rintro e wt ⟨rfl, bb⟩; have bc := hHeld.trans (bb.mono hHeld.size))
      refine hK.out _ _ ?_ (fun hHeld2 => ?_)
      · exact bc
      clear hK K
      have hPrev := hHeld
      clear hHeld
      have hHeld := hHeld2
      clear hHeld2 bc
      try simp only [Act.put, List.setIfInBounds_toArray, List.set_cons_zero, List.set_cons_succ]
      --CUTE
      refine wpAnyH_take (i := 10) (v := ?_) rfl (by kernel_rfl) (by kernel_rfl) (by kernel_rfl) (fun _ _ _ h => h) (Or.inl ⟨by rfl, ?_⟩) hHeld ?_
      rotate_left
      · intro w9 hS9
        go_simp
        try with_reducible rfl
      show wpAnyH _ _ _ _ _ _ _ (Act.put _ (some _) _) _
      simp only [Act.put, List.setIfInBounds_toArray, List.set_cons_zero, List.set_cons_succ]
      refine wpAnyH_take (i := 11) (v := ?_) rfl (by kernel_rfl) (by kernel_rfl) (by kernel_rfl) (fun _ _ _ h => h) (Or.inl ⟨by rfl, ?_⟩) hHeld ?_
      rotate_left
      · intro w9 hS9
        go_simp
        try with_reducible rfl
      show wpAnyH _ _ _ _ _ _ _ (Act.put _ (some _) _) _
      simp only [Act.put, List.setIfInBounds_toArray, List.set_cons_zero, List.set_cons_succ]
      refine wpAnyH_done (by kernel_rfl) ?_ _
      --CUTF
      go_wp2_with fail
      go_roundw
      case rel =>
        refine ⟨k + 1, by omega, ?_, by go_num, HT4.out.keep hHeld⟩
        rw [HFN.out]
        have hwr : IntKind.i64.wrap ((firstN d k : Int) + (((blkN d k).phis.length : Int) + (blkN d k).insts.length)) = ((firstN d k + ((blkN d k).phis.length + (blkN d k).insts.length) : Nat) : Int) := by rw [IntKind.wrap_i64]; omega
        rw [hwr]
      case measure => simp [intOf]; omega
    · have e : k = d.blocks.length := by omega
      subst e
      go_wp2_with fail
      go_ret
      exact ⟨w2.heap.size, rfl, HT.out.out HF2.out HTY.out HK2.out⟩
--END
end Go.Proofs.YtolaghondjfhdabGreatDoor
