/- What is alive: the program's LiveIn and LiveOut. -/
import Derived.Test.YtolaghondjfhdaaGreatDoorLxEQ
namespace Go.Proofs.YtolaghondjfhdaaGreatDoor
open Go.RowKit
set_option linter.unusedVariables false

/-- It is asked of a function in its form, its phis as long as they should be. -/
def okB (d : FuncD) : Bool := funcB 3 d && phsB d
/-- What is told at the beginning of a block, and at its end. -/
def LiveInR (d : FuncD) (b : Int) (l : List Int) : Prop := ((okB d && belowB b d.blocks.length) = false ∧ l = []) ∨ ((okB d && belowB b d.blocks.length) = true ∧ ∃ I, Fix d I ∧ l = I b.toNat)
def LiveOutR (d : FuncD) (b : Int) (l : List Int) : Prop := ((okB d && belowB b d.blocks.length) = false ∧ l = []) ∨ ((okB d && belowB b d.blocks.length) = true ∧ ∃ I, Fix d I ∧ l = outL d b.toNat I)
theorem LiveInR.one {d : FuncD} {b : Int} {l m : List Int} (h : LiveInR d b l) (k : LiveInR d b m) : l = m := by
  rcases h with ⟨h1, rfl⟩ | ⟨h1, I, h2, rfl⟩ <;> rcases k with ⟨k1, rfl⟩ | ⟨k1, J, k2, rfl⟩
  · rfl
  · rw [h1] at k1; cases k1
  · rw [h1] at k1; cases k1
  · rw [h2.one k2]
theorem LiveOutR.one {d : FuncD} {b : Int} {l m : List Int} (h : LiveOutR d b l) (k : LiveOutR d b m) : l = m := by
  rcases h with ⟨h1, rfl⟩ | ⟨h1, I, h2, rfl⟩ <;> rcases k with ⟨k1, rfl⟩ | ⟨k1, J, k2, rfl⟩
  · rfl
  · rw [h1] at k1; cases k1
  · rw [h1] at k1; cases k1
  · rw [h2.one k2]
set_option maxHeartbeats 4000000 in
set_option maxRecDepth 100000 in
theorem liveInI (lo : Nat) (d : FuncD) (u0 : Option Addr) (c0 : Nat) (u2 : Option Addr) (c2 : Nat) (b : Int) (a : Addr) (w : World) (hs : SmFunc d) (k0 : IntsAt w lo u0 d.params) (k2 : BlocksAt w lo u2 d.blocks) (hv : Gv w 0 (errV a)) :
    Calls Tryz.prog 12 #[.agg #[.slice u0 d.params.length c0, .int .i64 d.ret, .slice u2 d.blocks.length c2], .int .i64 b] w fun e w' => ∃ v, e = .returned v ∧ ∃ l, LiveInR d b l ∧ Row w' w.heap.size v l ∧ Below w.heap.size w w' := by
  have F0 := FBox.start (d := d) (u0 := u0) (u2 := u2) (c0 := c0) (c2 := c2) (w := w) (T := 30)
  have a0 := F0.a0
  have a1 := F0.a1
  have a2 := F0.a2
  have HF0 : Hid (FBox d u0 c0 u2 c2 w _) := F0
  have hb10 := hs.2.1
  by_cases hok : funcB 3 d = true ∧ phsB d = true
  · have hF := lvf_of hok.1 hok.2
    have P := livesI_ok lo d u0 c0 u2 c2 a _ hs (k0.keep (agree_of_below F0.below lo)) (k2.keep (agree_of_below F0.below lo)) (hv.keep F0.below) hok.1 hok.2
    have hO : okB d = true := by simp [okB, hok.1, hok.2]
    have hbl : d.blocks.length ≤ 10 := hF.right.2.1
    have HF : Hid (LvF d) := hF
    clear hs k0 k2 hv F0 hF
    by_cases hb : 0 ≤ b ∧ b < d.blocks.length
    · have hbB : belowB b d.blocks.length = true := by simp [belowB, hb.1, hb.2]
      obtain ⟨n, rfl⟩ : ∃ n : Nat, b = n := ⟨b.toNat, by omega⟩
      have hn : n < d.blocks.length := by omega
      have hd : (decide ((0 : Int) ≤ n) && decide ((n : Int) < d.blocks.length)) = true := by simpa using hn
      have B := belowI (n : Int) d.blocks.length
      rw [hd] at B
      clear hb hd
      go_enter Tryz.func12, Tryz.ntmps12
      go_wp2_with (first | (go_at_call 36; refine P.mono ?_; rintro e w2 ⟨M, rfl, Rb, I, F, HO⟩; have HF2 : Hid (FBox d u0 c0 u2 c2 w w2) := HF0.out.keep HO.below; have z2 := HF2.out.a2; obtain ⟨xa, xc, xe, xi, _⟩ := HO.lv.cell (j := 1 + n) (by omega) (by omega); have HV : Hid (parF F (I 0) d.params.length (1 + n) = I n) := (by show _ = _; rw [par_other (by omega)]; exact HO.ins n hn); rw [HV.out] at xe xi; have hlen : (I n).length ≤ 60 := (by have h := (HO.fine (1 + n)).len; rw [← HV.out, par_other (by omega)]; exact Nat.le_trans h HF.out.cnt); have L := listI (M + 1) xa xc (I n) w2 (by omega) xi; have HFX : Hid (Fix d I) := HO.fix; clear HO) | (go_at_call 37; refine (B _).mono ?_; rintro e w3 ⟨rfl, rfl⟩) | (go_at_call 38; refine L.mono ?_; rintro e w4 ⟨v4, rfl, r4, b4⟩))
      go_ret
      exact ⟨v4, rfl, _, .inr ⟨by rw [hO, hbB]; rfl, I, HFX.out, rfl⟩, r4.low HF2.out.below.size, HF2.out.below.trans (b4.mono HF2.out.below.size)⟩
    · have hbB : belowB b d.blocks.length = false := by simp [belowB]; omega
      have hd : (decide (0 ≤ b) && decide (b < d.blocks.length)) = false := by simp; omega
      have B := belowI b d.blocks.length
      rw [hd] at B
      clear hb hd
      go_enter Tryz.func12, Tryz.ntmps12
      go_wp2_with (first | (go_at_call 36; refine P.mono ?_; rintro e w2 ⟨M, rfl, Rb, I, F, HO⟩; have HF2 : Hid (FBox d u0 c0 u2 c2 w w2) := HF0.out.keep HO.below; have z2 := HF2.out.a2; clear HO) | (go_at_call 37; refine (B _).mono ?_; rintro e w3 ⟨rfl, rfl⟩))
      go_ret
      exact ⟨_, rfl, [], .inl ⟨by rw [hO, hbB]; rfl, rfl⟩, Row.nil _ _, HF2.out.below⟩
  · have P := livesI_no lo d u0 c0 u2 c2 a _ hs (k0.keep (agree_of_below F0.below lo)) (k2.keep (agree_of_below F0.below lo)) (hv.keep F0.below) hok
    have hO : okB d = false := by
      cases h1 : funcB 3 d <;> cases h2 : phsB d <;> simp [okB, h1, h2] at hok ⊢
    clear hs k0 k2 hv F0 hok
    go_enter Tryz.func12, Tryz.ntmps12
    go_wp2_with (first | (go_at_call 36; refine P.mono ?_; rintro e w2 ⟨rfl, b2⟩; have HF2 : Hid (FBox d u0 c0 u2 c2 w w2) := HF0.out.keep b2))
    go_ret
    exact ⟨_, rfl, [], .inl ⟨by rw [hO]; rfl, rfl⟩, Row.nil _ _, HF2.out.below⟩
set_option maxHeartbeats 4000000 in
set_option maxRecDepth 100000 in
theorem liveOutI (lo : Nat) (d : FuncD) (u0 : Option Addr) (c0 : Nat) (u2 : Option Addr) (c2 : Nat) (b : Int) (a : Addr) (w : World) (hs : SmFunc d) (k0 : IntsAt w lo u0 d.params) (k2 : BlocksAt w lo u2 d.blocks) (hv : Gv w 0 (errV a)) :
    Calls Tryz.prog 19 #[.agg #[.slice u0 d.params.length c0, .int .i64 d.ret, .slice u2 d.blocks.length c2], .int .i64 b] w fun e w' => ∃ v, e = .returned v ∧ ∃ l, LiveOutR d b l ∧ Row w' w.heap.size v l ∧ Below w.heap.size w w' := by
  have F0 := FBox.start (d := d) (u0 := u0) (u2 := u2) (c0 := c0) (c2 := c2) (w := w) (T := 30)
  have a0 := F0.a0
  have a1 := F0.a1
  have a2 := F0.a2
  have HF0 : Hid (FBox d u0 c0 u2 c2 w _) := F0
  have hb10 := hs.2.1
  by_cases hok : funcB 3 d = true ∧ phsB d = true
  · have hF := lvf_of hok.1 hok.2
    have P := livesI_ok lo d u0 c0 u2 c2 a _ hs (k0.keep (agree_of_below F0.below lo)) (k2.keep (agree_of_below F0.below lo)) (hv.keep F0.below) hok.1 hok.2
    have hO : okB d = true := by simp [okB, hok.1, hok.2]
    have hbl : d.blocks.length ≤ 10 := hF.right.2.1
    have HF : Hid (LvF d) := hF
    clear hs k0 k2 hv F0 hF
    by_cases hb : 0 ≤ b ∧ b < d.blocks.length
    · have hbB : belowB b d.blocks.length = true := by simp [belowB, hb.1, hb.2]
      obtain ⟨n, rfl⟩ : ∃ n : Nat, b = n := ⟨b.toNat, by omega⟩
      have hn : n < d.blocks.length := by omega
      have hd : (decide ((0 : Int) ≤ n) && decide ((n : Int) < d.blocks.length)) = true := by simpa using hn
      have B := belowI (n : Int) d.blocks.length
      rw [hd] at B
      clear hb hd
      go_enter Tryz.func19, Tryz.ntmps19
      go_wp2_with (first | (go_at_call 36; refine P.mono ?_; rintro e w2 ⟨M, rfl, Rb, I, F, HO⟩; have HF2 : Hid (FBox d u0 c0 u2 c2 w w2) := HF0.out.keep HO.below; have z2 := HF2.out.a2; obtain ⟨xa, xc, xe, xi, _⟩ := HO.lv.cell (j := 11 + n) (by omega) (by omega); have HV : Hid (parF F (I 0) d.params.length (11 + n) = outL d n I) := (by show _ = _; rw [par_other (by omega)]; exact (HO.told n hn).out); rw [HV.out] at xe xi; have hlen : (outL d n I).length ≤ 60 := (by have h := (HO.fine (11 + n)).len; rw [← HV.out, par_other (by omega)]; exact Nat.le_trans h HF.out.cnt); have L := listI (M + 1) xa xc (outL d n I) w2 (by omega) xi; have HFX : Hid (Fix d I) := HO.fix; clear HO) | (go_at_call 37; refine (B _).mono ?_; rintro e w3 ⟨rfl, rfl⟩) | (go_at_call 38; refine L.mono ?_; rintro e w4 ⟨v4, rfl, r4, b4⟩))
      go_ret
      exact ⟨v4, rfl, _, .inr ⟨by rw [hO, hbB]; rfl, I, HFX.out, rfl⟩, r4.low HF2.out.below.size, HF2.out.below.trans (b4.mono HF2.out.below.size)⟩
    · have hbB : belowB b d.blocks.length = false := by simp [belowB]; omega
      have hd : (decide (0 ≤ b) && decide (b < d.blocks.length)) = false := by simp; omega
      have B := belowI b d.blocks.length
      rw [hd] at B
      clear hb hd
      go_enter Tryz.func19, Tryz.ntmps19
      go_wp2_with (first | (go_at_call 36; refine P.mono ?_; rintro e w2 ⟨M, rfl, Rb, I, F, HO⟩; have HF2 : Hid (FBox d u0 c0 u2 c2 w w2) := HF0.out.keep HO.below; have z2 := HF2.out.a2; clear HO) | (go_at_call 37; refine (B _).mono ?_; rintro e w3 ⟨rfl, rfl⟩))
      go_ret
      exact ⟨_, rfl, [], .inl ⟨by rw [hO, hbB]; rfl, rfl⟩, Row.nil _ _, HF2.out.below⟩
  · have P := livesI_no lo d u0 c0 u2 c2 a _ hs (k0.keep (agree_of_below F0.below lo)) (k2.keep (agree_of_below F0.below lo)) (hv.keep F0.below) hok
    have hO : okB d = false := by
      cases h1 : funcB 3 d <;> cases h2 : phsB d <;> simp [okB, h1, h2] at hok ⊢
    clear hs k0 k2 hv F0 hok
    go_enter Tryz.func19, Tryz.ntmps19
    go_wp2_with (first | (go_at_call 36; refine P.mono ?_; rintro e w2 ⟨rfl, b2⟩; have HF2 : Hid (FBox d u0 c0 u2 c2 w w2) := HF0.out.keep b2))
    go_ret
    exact ⟨_, rfl, [], .inl ⟨by rw [hO]; rfl, rfl⟩, Row.nil _ _, HF2.out.below⟩
end Go.Proofs.YtolaghondjfhdaaGreatDoor
