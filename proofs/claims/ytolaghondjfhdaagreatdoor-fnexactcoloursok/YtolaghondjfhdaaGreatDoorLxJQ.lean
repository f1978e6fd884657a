/- What is alive: the model's LiveIn. -/
import Derived.Test.YtolaghondjfhdaaGreatDoorLxIQ
namespace Go.Proofs.YtolaghondjfhdaaGreatDoor
open Go.RowKit
set_option linter.unusedVariables false

theorem sl_none (w : World) (g : Nat) (lo : Nat) (h : lo ≤ g) : SlAt w lo (.slice (some ⟨g, 0, none⟩) 0 0) [] := ⟨g, 0, 0, rfl, by simp, h, by simp, .inl rfl⟩
set_option maxHeartbeats 4000000 in
set_option maxRecDepth 100000 in
theorem liveInS (lo : Nat) (d : FuncD) (u0 : Option Addr) (c0 : Nat) (u2 : Option Addr) (c2 : Nat) (b : Int) (w : World) (hs : SmFunc d) (k0 : IntsAt w lo u0 d.params) (k2 : BlocksAt w lo u2 d.blocks) :
    Calls Tryz.prog 10 #[.agg #[.slice u0 d.params.length c0, .int .i64 d.ret, .slice u2 d.blocks.length c2], .int .i64 b] w fun e w' => ∃ v, e = .returned v ∧ ∃ l, LiveInR d b l ∧ SlAt w' w.heap.size v l ∧ Below w.heap.size w w' := by
  have F0 := FBox.start (d := d) (u0 := u0) (u2 := u2) (c0 := c0) (c2 := c2) (w := w) (T := 30)
  have P := okS lo d u0 c0 u2 c2 _ hs (k0.keep (agree_of_below F0.below lo)) (k2.keep (agree_of_below F0.below lo))
  have a0 := F0.a0
  have a1 := F0.a1
  have a2 := F0.a2
  have HF0 : Hid (FBox d u0 c0 u2 c2 w _) := F0
  have hb10 := hs.2.1
  have B := inB b d.blocks.length
  cases hO : okB d with
  | false =>
    rw [hO] at P
    have HO : Hid (okB d = false) := hO
    clear hs k0 k2 F0 hO B
    go_enter Tryz.func10, Tryz.ntmps10
    go_wp2_with (first | (go_at_call 31; refine P.mono ?_; rintro e w2 ⟨rfl, b2⟩; have HF2 : Hid (FBox d u0 c0 u2 c2 w w2) := HF0.out.keep b2; have z2 := HF2.out.a2; have hz := HF2.out.below.size))
    go_ret
    exact ⟨_, rfl, [], .inl ⟨by rw [HO.out]; rfl, rfl⟩, sl_none _ _ _ (by omega), HF2.out.below.alloc hz _⟩
  | true =>
    rw [hO] at P
    have HO : Hid (okB d = true) := hO
    have hF : LvF d := by
      simp only [okB, Bool.and_eq_true] at hO
      exact lvf_of hO.1 hO.2
    have hbl : d.blocks.length ≤ 10 := hF.right.2.1
    have HF : Hid (LvF d) := hF
    have I0 := fun W (k : Below w.heap.size w W) => insZ lo d u0 c0 u2 c2 W hs hF (k2.keep (agree_of_below k lo))
    clear hs k0 k2 F0 hO hF
    by_cases hb : 0 ≤ b ∧ b < d.blocks.length
    · have hbB : belowB b d.blocks.length = true := by simp [belowB, hb.1, hb.2]
      obtain ⟨n, rfl⟩ : ∃ n : Nat, b = n := ⟨b.toNat, by omega⟩
      have hn : n < d.blocks.length := by omega
      rw [hbB] at B
      clear hb
      go_enter Tryz.func10, Tryz.ntmps10
      go_wp2_with (first | (go_at_call 31; refine P.mono ?_; rintro e w2 ⟨rfl, b2⟩; have HF2 : Hid (FBox d u0 c0 u2 c2 w w2) := HF0.out.keep b2; have z0 := HF2.out.a0; have z1 := HF2.out.a1; have z2 := HF2.out.a2) | (go_at_call 32; refine (B _).mono ?_; rintro e w3 ⟨rfl, rfl⟩) | (go_at_call 34; refine (I0 _ HF2.out.below).mono ?_; rintro e w4 ⟨gi, rfl, I, hfx, hgr, hgi, hin, b4⟩; have HFX : Hid (Fix d I) := hfx; have HF4 : Hid (FBox d u0 c0 u2 c2 w w4) := HF2.out.keep b4; obtain ⟨xa, xc, xe, xi⟩ := hin.at.2 n hn; have hlen : (I n).length ≤ 60 := (by have h := (hgr.fine n).len; exact Nat.le_trans h HF.out.cnt); have L := copyZ (gi + 1) xa xc (I n) w4 (by omega) xi; clear hfx hgr hin) | (go_at_call 33; refine L.mono ?_; rintro e w5 ⟨v5, rfl, s5, b5⟩))
      go_ret
      exact ⟨v5, rfl, _, .inr ⟨by rw [HO.out, hbB]; rfl, I, HFX.out, rfl⟩, s5.low HF4.out.below.size, HF4.out.below.trans (b5.mono HF4.out.below.size)⟩
    · have hbB : belowB b d.blocks.length = false := by simp [belowB]; omega
      rw [hbB] at B
      clear hb I0
      go_enter Tryz.func10, Tryz.ntmps10
      go_wp2_with (first | (go_at_call 31; refine P.mono ?_; rintro e w2 ⟨rfl, b2⟩; have HF2 : Hid (FBox d u0 c0 u2 c2 w w2) := HF0.out.keep b2; have z2 := HF2.out.a2; have hz := HF2.out.below.size) | (go_at_call 32; refine (B _).mono ?_; rintro e w3 ⟨rfl, rfl⟩))
      go_ret
      exact ⟨_, rfl, [], .inl ⟨by rw [HO.out, hbB]; rfl, rfl⟩, sl_none _ _ _ (by omega), HF2.out.below.alloc hz _⟩
end Go.Proofs.YtolaghondjfhdaaGreatDoor
