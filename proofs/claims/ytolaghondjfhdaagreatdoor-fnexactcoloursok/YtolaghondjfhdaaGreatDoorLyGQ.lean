/- Who meets whom: the program's Meet. -/
import Derived.Test.YtolaghondjfhdaaGreatDoorLyDQ
namespace Go.Proofs.YtolaghondjfhdaaGreatDoor
open Go.RowKit
set_option linter.unusedVariables false

set_option maxHeartbeats 8000000 in
set_option maxRecDepth 100000 in
theorem meetTI (lo : Nat) (d : FuncD) (u0 : Option Addr) (c0 : Nat) (u2 : Option Addr) (c2 : Nat) (x y : Int) (a : Addr) (w : World) (hs : SmFunc d) (k0 : IntsAt w lo u0 d.params) (k2 : BlocksAt w lo u2 d.blocks) (hv : Gv w 0 (errV a)) :
    Calls Tryz.prog 25 #[.agg #[.slice u0 d.params.length c0, .int .i64 d.ret, .slice u2 d.blocks.length c2], .int .i64 x, .int .i64 y] w fun e w' => ∃ v, e = .returned (.bool v) ∧ MeetR d x y v ∧ Below w.heap.size w w' := by
  have F0 := FBox.start (d := d) (u0 := u0) (u2 := u2) (c0 := c0) (c2 := c2) (w := w) (T := 30)
  have a0 := F0.a0
  have a1 := F0.a1
  have a2 := F0.a2
  have HF0 : Hid (FBox d u0 c0 u2 c2 w _) := F0
  by_cases hok : funcB 3 d = true ∧ phsB d = true
  · have hF := lvf_of hok.1 hok.2
    have P := livesI_ok lo d u0 c0 u2 c2 a _ hs (k0.keep (agree_of_below F0.below lo)) (k2.keep (agree_of_below F0.below lo)) (hv.keep F0.below) hok.1 hok.2
    have C := fun W (k : Below w.heap.size w W) => countI_any lo d u0 c0 u2 c2 W hs (k2.keep (agree_of_below k lo))
    have hO : okB d = true := by simp [okB, hok.1, hok.2]
    have HF : Hid (LvF d) := hF
    have HS : Hid (SmFunc d) := hs
    clear hs k0 k2 hv F0 hF
    go_enter Tryz.func25, Tryz.ntmps25
    go_wp2_with fail
    refine P.mono ?_
    rintro e w1 ⟨M, rfl, Rb, I, F, HO⟩
    have HF1 : Hid (FBox d u0 c0 u2 c2 w w1) := HF0.out.keep HO.below
    have HFX : Hid (Fix d I) := HO.fix
    have HL1 : Hid (Lvs w1 M Rb lo d u2 c2 I) := HO.lvs HF.out
    have z0 := HF1.out.a0
    have z1 := HF1.out.a1
    have z2 := HF1.out.a2
    clear HO P a0 a1 a2 HF0
    go_wp2_with fail
    refine (C _ HF1.out.below).mono ?_
    rintro e w2 ⟨rfl, b2⟩
    have HF2 : Hid (FBox d u0 c0 u2 c2 w w2) := HF1.out.keep b2
    have HL2 : Hid (Lvs w2 M Rb lo d u2 c2 I) := HL1.out.below b2
    clear z0 z1 z2 b2 HL1
    have z0 := HF2.out.a0
    have z1 := HF2.out.a1
    have z2 := HF2.out.a2
    go_wp2_with fail
    refine (belowI x (cntF d) _).mono ?_
    rintro e w3 ⟨rfl, hw⟩
    rw [hw]
    clear hw
    cases hx : decide (0 ≤ x) && decide (x < cntF d) with
    | false =>
      have HE : Hid ((okB d && belowB x (cntF d) && belowB y (cntF d)) = false) := by show _ = _; rw [hO, belowB, hx]; rfl
      clear hx
      go_wp2_with fail
      go_ret
      exact ⟨false, rfl, .inl ⟨HE.out, rfl⟩, HF2.out.below⟩
    | true =>
      go_wp2_with fail
      refine (C _ HF2.out.below).mono ?_
      rintro e w4 ⟨rfl, b4⟩
      have HF4 : Hid (FBox d u0 c0 u2 c2 w w4) := HF2.out.keep b4
      have HL4 : Hid (Lvs w4 M Rb lo d u2 c2 I) := HL2.out.below b4
      clear z0 z1 z2 b4 HL2
      go_wp2_with fail
      refine (belowI y (cntF d) _).mono ?_
      rintro e w5 ⟨rfl, hw⟩
      rw [hw]
      clear hw
      cases hy : decide (0 ≤ y) && decide (y < cntF d) with
      | false =>
        have HE : Hid ((okB d && belowB x (cntF d) && belowB y (cntF d)) = false) := by show _ = _; rw [hO, belowB, hx, belowB, hy]; rfl
        clear hx hy
        go_wp2_with fail
        go_ret
        exact ⟨false, rfl, .inl ⟨HE.out, rfl⟩, HF4.out.below⟩
      | true =>
        have HE : Hid ((okB d && belowB x (cntF d) && belowB y (cntF d)) = true) := by show _ = _; rw [hO, belowB, hx, belowB, hy]; rfl
        obtain ⟨n, rfl⟩ : ∃ n : Nat, x = n := ⟨x.toNat, by simp at hx; omega⟩
        obtain ⟨m, rfl⟩ : ∃ m : Nat, y = m := ⟨y.toNat, by simp at hy; omega⟩
        have hn : n < cntF d := by simp at hx; omega
        have hm : m < cntF d := by simp at hy; omega
        have L := meetI M Rb lo d u2 c2 I n m w4 HS.out HF.out (HFX.out.grows HF.out) HL4.out hn hm
        clear hx hy
        go_wp2_with fail
        refine L.mono ?_
        rintro e w6 ⟨rfl, b6⟩
        have HF6 : Hid (FBox d u0 c0 u2 c2 w w6) := HF4.out.keep b6
        go_wp2_with fail
        go_ret
        exact ⟨_, rfl, .inr ⟨HE.out, I, HFX.out, rfl⟩, HF6.out.below⟩
  · have P := livesI_no lo d u0 c0 u2 c2 a _ hs (k0.keep (agree_of_below F0.below lo)) (k2.keep (agree_of_below F0.below lo)) (hv.keep F0.below) hok
    have hO : okB d = false := by
      cases h1 : funcB 3 d <;> cases h2 : phsB d <;> simp [okB, h1, h2] at hok ⊢
    clear hs k0 k2 hv F0 hok
    go_enter Tryz.func25, Tryz.ntmps25
    go_wp2_with fail
    refine P.mono ?_
    rintro e w2 ⟨rfl, b2⟩
    have HF2 : Hid (FBox d u0 c0 u2 c2 w w2) := HF0.out.keep b2
    go_wp2_with fail
    go_ret
    exact ⟨_, rfl, .inl ⟨by rw [hO]; rfl, rfl⟩, HF2.out.below⟩
end Go.Proofs.YtolaghondjfhdaaGreatDoor
