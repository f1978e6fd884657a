/- What is alive: the model's LiveOut. -/
import Derived.Test.YtolaghondjfhdaaGreatDoorLxJQ
namespace Go.Proofs.YtolaghondjfhdaaGreatDoor
open Go.RowKit
set_option linter.unusedVariables false

set_option maxHeartbeats 4000000 in
set_option maxRecDepth 100000 in
theorem liveOutS (lo : Nat) (d : FuncD) (u0 : Option Addr) (c0 : Nat) (u2 : Option Addr) (c2 : Nat) (b : Int) (w : World) (hs : SmFunc d) (k0 : IntsAt w lo u0 d.params) (k2 : BlocksAt w lo u2 d.blocks) :
    Calls Tryz.prog 18 #[.agg #[.slice u0 d.params.length c0, .int .i64 d.ret, .slice u2 d.blocks.length c2], .int .i64 b] w fun e w' => ∃ v, e = .returned v ∧ ∃ l, LiveOutR d b l ∧ SlAt w' w.heap.size v l ∧ Below w.heap.size w w' := by
  have F0 := FBox.start (d := d) (u0 := u0) (u2 := u2) (c0 := c0) (c2 := c2) (w := w) (T := 30)
  have P := okS lo d u0 c0 u2 c2 _ hs (k0.keep (agree_of_below F0.below lo)) (k2.keep (agree_of_below F0.below lo))
  have a0 := F0.a0
  have a1 := F0.a1
  have a2 := F0.a2
  have HF0 : Hid (FBox d u0 c0 u2 c2 w _) := F0
  have hb10 := hs.2.1
  have B := inB b d.blocks.length
  cases hO : okB d with
  | false =>
    rw [hO] at P
    have HO : Hid (okB d = false) := hO
    clear hs k0 k2 F0 hO B
    go_enter Tryz.func18, Tryz.ntmps18
    go_wp2_with (first | (go_at_call 31; refine P.mono ?_; rintro e w2 ⟨rfl, b2⟩; have HF2 : Hid (FBox d u0 c0 u2 c2 w w2) := HF0.out.keep b2; have z2 := HF2.out.a2; have hz := HF2.out.below.size))
    go_ret
    exact ⟨_, rfl, [], .inl ⟨by rw [HO.out]; rfl, rfl⟩, sl_none _ _ _ (by omega), HF2.out.below.alloc hz _⟩
  | true =>
    rw [hO] at P
    have HO : Hid (okB d = true) := hO
    have hF : LvF d := by
      simp only [okB, Bool.and_eq_true] at hO
      exact lvf_of hO.1 hO.2
    have hbl : d.blocks.length ≤ 10 := hF.right.2.1
    have HF : Hid (LvF d) := hF
    have I0 := fun W (k : Below w.heap.size w W) => insZ lo d u0 c0 u2 c2 W hs hF (k2.keep (agree_of_below k lo))
    have O0 := fun n gi I W (k : Below w.heap.size w W) hn hI hIf => outZ lo d u0 c0 u2 c2 n gi (gi + 1) d.blocks.length I W hs hF hn hI hIf (k2.keep (agree_of_below k lo))
    clear hs k0 k2 F0 hO hF
    by_cases hb : 0 ≤ b ∧ b < d.blocks.length
    · have hbB : belowB b d.blocks.length = true := by simp [belowB, hb.1, hb.2]
      obtain ⟨n, rfl⟩ : ∃ n : Nat, b = n := ⟨b.toNat, by omega⟩
      have hn : n < d.blocks.length := by omega
      rw [hbB] at B
      clear hb
      go_enter Tryz.func18, Tryz.ntmps18
      go_wp2_with (first | (go_at_call 31; refine P.mono ?_; rintro e w2 ⟨rfl, b2⟩; have HF2 : Hid (FBox d u0 c0 u2 c2 w w2) := HF0.out.keep b2; have z0 := HF2.out.a0; have z1 := HF2.out.a1; have z2 := HF2.out.a2) | (go_at_call 32; refine (B _).mono ?_; rintro e w3 ⟨rfl, rfl⟩))
      refine wp_region_held_drew (S := fun w' => Below w3.heap.size w3 w') (by kernel_rfl) ((Below.refl _ _).drew) (fun hHeld => ?_)
      refine wpAnyH_take (i := 0) (v := ?_) rfl (by kernel_rfl) (by kernel_rfl) (by kernel_rfl) (fun _ _ _ h => h) (Or.inl ⟨by rfl, ?_⟩) hHeld ?_
      rotate_left
      · intro w9 hS9
        have g0 := (HF2.out.keep hS9).a0
        have g1 := (HF2.out.keep hS9).a1
        have g2 := (HF2.out.keep hS9).a2
        go_simp
        try with_reducible rfl
      show wpAnyH _ _ _ _ _ _ _ (Act.put _ (some _) _) _
      simp only [Act.put, List.setIfInBounds_toArray, List.set_cons_zero, List.set_cons_succ]
      refine wpAnyH_take (i := 1) (v := ?_) rfl (by kernel_rfl) (by kernel_rfl) (by kernel_rfl) (fun _ _ _ h => h) (Or.inl ⟨by rfl, ?_⟩) hHeld ?_
      rotate_left
      · intro w9 hS9
        go_simp
        try with_reducible rfl
      show wpAnyH _ _ _ _ _ _ _ (Act.put _ (some _) _) _
      simp only [Act.put, List.setIfInBounds_toArray, List.set_cons_zero, List.set_cons_succ]
      refine wpAnyH_take (i := 2) (v := ?_) rfl (by kernel_rfl) (by kernel_rfl) (by kernel_rfl) (fun _ _ _ h => h) (Or.inl ⟨by rfl, ?_⟩) hHeld ?_
      rotate_left
      · intro w9 hS9
        have g0 := (HF2.out.keep hS9).a0
        have g1 := (HF2.out.keep hS9).a1
        have g2 := (HF2.out.keep hS9).a2
        go_simp
        try with_reducible rfl
      show wpAnyH _ _ _ _ _ _ _ (Act.put _ (some _) _) _
      simp only [Act.put, List.setIfInBounds_toArray, List.set_cons_zero, List.set_cons_succ]
      refine wpAnyH_ready (rs := [3]) (by kernel_rfl) (by simp) ?_
      refine AllReadyH.cons rfl (fun K hK => ?_) AllReadyH.nil
      go_simp
      go_wp2_with (go_at_call 34; refine (I0 _ (HF2.out.keep hHeld).below).mono ?_; rintro e w4 ⟨gi, rfl, I, hfx, hgr, hgi, hin, bb⟩; have bc := hHeld.trans (bb.mono hHeld.size))
      refine hK.out _ _ ?_ (fun hHeld2 => ?_)
      · exact bc
      clear hK K
      have hPrev := hHeld
      clear hHeld
      have hHeld := hHeld2
      clear hHeld2 bc
      try simp only [Act.put, List.setIfInBounds_toArray, List.set_cons_zero, List.set_cons_succ]
      have HFX : Hid (Fix d I) := hfx
      have HF4 : Hid (FBox d u0 c0 u2 c2 w w4) := HF2.out.keep hHeld
      have L := O0 n gi I w4 HF4.out.below hn hin.at hgr.fine
      clear hfx hgr hin bb
      refine wpAnyH_ready (rs := [4]) (by kernel_rfl) (by simp) ?_
      refine AllReadyH.cons rfl (fun K hK => ?_) AllReadyH.nil
      go_simp
      go_wp2_with (go_at_call 41; refine (L).mono ?_; rintro e w5 ⟨v5, rfl, s5, bb⟩; have bc := hHeld.trans (bb.mono hHeld.size))
      refine hK.out _ _ ?_ (fun hHeld2 => ?_)
      · exact bc
      clear hK K
      have hPrev := hHeld
      clear hHeld
      have hHeld := hHeld2
      clear hHeld2 bc
      try simp only [Act.put, List.setIfInBounds_toArray, List.set_cons_zero, List.set_cons_succ]
      refine wpAnyH_take (i := 5) (v := ?_) rfl (by kernel_rfl) (by kernel_rfl) (by kernel_rfl) (fun _ _ _ h => h) (Or.inl ⟨by rfl, ?_⟩) hHeld ?_
      rotate_left
      · intro w9 hS9
        go_simp
        try with_reducible rfl
      show wpAnyH _ _ _ _ _ _ _ (Act.put _ (some _) _) _
      simp only [Act.put, List.setIfInBounds_toArray, List.set_cons_zero, List.set_cons_succ]
      refine wpAnyH_done (by kernel_rfl) ?_ _
      have HF5 : Hid (FBox d u0 c0 u2 c2 w w5) := HF2.out.keep hHeld
      go_wp2_with fail
      go_ret
      exact ⟨v5, rfl, _, .inr ⟨by rw [HO.out, hbB]; rfl, I, HFX.out, rfl⟩, s5.low HF4.out.below.size, HF5.out.below⟩
    · have hbB : belowB b d.blocks.length = false := by simp [belowB]; omega
      rw [hbB] at B
      clear hb I0
      go_enter Tryz.func18, Tryz.ntmps18
      go_wp2_with (first | (go_at_call 31; refine P.mono ?_; rintro e w2 ⟨rfl, b2⟩; have HF2 : Hid (FBox d u0 c0 u2 c2 w w2) := HF0.out.keep b2; have z2 := HF2.out.a2; have hz := HF2.out.below.size) | (go_at_call 32; refine (B _).mono ?_; rintro e w3 ⟨rfl, rfl⟩))
      go_ret
      exact ⟨_, rfl, [], .inl ⟨by rw [HO.out, hbB]; rfl, rfl⟩, sl_none _ _ _ (by omega), HF2.out.below.alloc hz _⟩
end Go.Proofs.YtolaghondjfhdaaGreatDoor
