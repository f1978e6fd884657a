/- What is alive: the program's LiveAfter. -/
import Derived.Test.YtolaghondjfhdaaGreatDoorLyMQ
namespace Go.Proofs.YtolaghondjfhdaaGreatDoor
open Go.RowKit
set_option linter.unusedVariables false

set_option maxHeartbeats 4000000 in
set_option maxRecDepth 100000 in
theorem liveAftI (lo : Nat) (d : FuncD) (u0 : Option Addr) (c0 : Nat) (u2 : Option Addr) (c2 : Nat) (b : Int) (a : Addr) (w : World) (hs : SmFunc d) (k0 : IntsAt w lo u0 d.params) (k2 : BlocksAt w lo u2 d.blocks) (hv : Gv w 0 (errV a)) :
    Calls Tryz.prog 21 #[.agg #[.slice u0 d.params.length c0, .int .i64 d.ret, .slice u2 d.blocks.length c2], .int .i64 b] w fun e w' => ∃ v, e = .returned v ∧ ∃ l, LiveAftR d b l ∧ Row w' w.heap.size v l ∧ Below w.heap.size w w' := by
  have F0 := FBox.start (d := d) (u0 := u0) (u2 := u2) (c0 := c0) (c2 := c2) (w := w) (T := 30)
  have a0 := F0.a0
  have a1 := F0.a1
  have a2 := F0.a2
  have HF0 : Hid (FBox d u0 c0 u2 c2 w _) := F0
  have hb10 := hs.2.1
  by_cases hok : funcB 3 d = true ∧ phsB d = true
  · have hF := lvf_of hok.1 hok.2
    have P := livesI_ok lo d u0 c0 u2 c2 a _ hs (k0.keep (agree_of_below F0.below lo)) (k2.keep (agree_of_below F0.below lo)) (hv.keep F0.below) hok.1 hok.2
    have C := fun W (k : Below w.heap.size w W) => countI_any lo d u0 c0 u2 c2 W hs (k2.keep (agree_of_below k lo))
    have hO : okB d = true := by simp [okB, hok.1, hok.2]
    have hcn : cntF d ≤ 60 := hF.cnt
    have HF : Hid (LvF d) := hF
    clear hs k0 k2 hv F0 hF
    by_cases hb : 0 ≤ b ∧ b < cntF d
    · have hbB : belowB b (cntF d) = true := by simp [belowB, hb.1, hb.2]
      obtain ⟨n, rfl⟩ : ∃ n : Nat, b = n := ⟨b.toNat, by omega⟩
      have hn : n < cntF d := by omega
      have hd : (decide ((0 : Int) ≤ n) && decide ((n : Int) < cntF d)) = true := by simpa using hn
      have B := belowI (n : Int) (cntF d)
      rw [hd] at B
      clear hb hd
      go_enter Tryz.func21, Tryz.ntmps21
      go_wp2_with (first | (go_at_call 36; refine P.mono ?_; rintro e w2 ⟨M, rfl, Rb, I, F, HO⟩; have HF2 : Hid (FBox d u0 c0 u2 c2 w w2) := HF0.out.keep HO.below; have z0 := HF2.out.a0; have z1 := HF2.out.a1; have z2 := HF2.out.a2; have HFX : Hid (Fix d I) := HO.fix; have HL2 : Hid (Lvs w2 M Rb lo d u2 c2 I) := HO.lvs HF.out; have hlen : (aftL d I n).length ≤ 60 := (by have h := (aft_fine HF.out (HO.fix.grows HF.out) hn).len; exact Nat.le_trans h HF.out.cnt); clear HO) | (go_at_call 44; refine (C _ HF2.out.below).mono ?_; rintro e w3 ⟨rfl, b3⟩; have HF3 : Hid (FBox d u0 c0 u2 c2 w w3) := HF2.out.keep b3; obtain ⟨xa, xc, xe, xi⟩ := (HL2.out.below b3).aft n hn; have L := listI (M + 1) xa xc (aftL d I n) w3 (by omega) xi) | (go_at_call 37; refine (B _).mono ?_; rintro e w4 ⟨rfl, rfl⟩) | (go_at_call 38; refine L.mono ?_; rintro e w5 ⟨v5, rfl, r5, b5⟩))
      go_ret
      exact ⟨v5, rfl, _, .inr ⟨by rw [hO, hbB]; rfl, I, HFX.out, rfl⟩, r5.low HF3.out.below.size, HF3.out.below.trans (b5.mono HF3.out.below.size)⟩
    · have hbB : belowB b (cntF d) = false := by simp [belowB]; omega
      have hd : (decide (0 ≤ b) && decide (b < cntF d)) = false := by simp; omega
      have B := belowI b (cntF d)
      rw [hd] at B
      clear hb hd
      go_enter Tryz.func21, Tryz.ntmps21
      go_wp2_with (first | (go_at_call 36; refine P.mono ?_; rintro e w2 ⟨M, rfl, Rb, I, F, HO⟩; have HF2 : Hid (FBox d u0 c0 u2 c2 w w2) := HF0.out.keep HO.below; have z0 := HF2.out.a0; have z1 := HF2.out.a1; have z2 := HF2.out.a2; clear HO) | (go_at_call 44; refine (C _ HF2.out.below).mono ?_; rintro e w3 ⟨rfl, b3⟩; have HF3 : Hid (FBox d u0 c0 u2 c2 w w3) := HF2.out.keep b3) | (go_at_call 37; refine (B _).mono ?_; rintro e w4 ⟨rfl, rfl⟩))
      go_ret
      exact ⟨_, rfl, [], .inl ⟨by rw [hO, hbB]; rfl, rfl⟩, Row.nil _ _, HF3.out.below⟩
  · have P := livesI_no lo d u0 c0 u2 c2 a _ hs (k0.keep (agree_of_below F0.below lo)) (k2.keep (agree_of_below F0.below lo)) (hv.keep F0.below) hok
    have hO : okB d = false := by
      cases h1 : funcB 3 d <;> cases h2 : phsB d <;> simp [okB, h1, h2] at hok ⊢
    clear hs k0 k2 hv F0 hok
    go_enter Tryz.func21, Tryz.ntmps21
    go_wp2_with (first | (go_at_call 36; refine P.mono ?_; rintro e w2 ⟨rfl, b2⟩; have HF2 : Hid (FBox d u0 c0 u2 c2 w w2) := HF0.out.keep b2))
    go_ret
    exact ⟨_, rfl, [], .inl ⟨by rw [hO]; rfl, rfl⟩, Row.nil _ _, HF2.out.below⟩
end Go.Proofs.YtolaghondjfhdaaGreatDoor
