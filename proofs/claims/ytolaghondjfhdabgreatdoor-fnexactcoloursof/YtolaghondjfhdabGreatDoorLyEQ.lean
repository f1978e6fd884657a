/- Who meets whom: the model. -/
import Derived.Test.YtolaghondjfhdabGreatDoorLyDQ
import Derived.Test.YtolaghondjfhdabGreatDoorLyCQ
namespace Go.Proofs.YtolaghondjfhdabGreatDoor
open Go.RowKit
set_option linter.unusedVariables false

set_option maxHeartbeats 4000000 in
set_option maxRecDepth 100000 in
theorem grpZ (lo : Nat) (d : FuncD) (u0 : Option Addr) (c0 : Nat) (u2 : Option Addr) (c2 : Nat) (a b : Nat) (w : World) (hs : SmFunc d) (hc : cntF d ≤ 60) (k2 : BlocksAt w lo u2 d.blocks) (ha : a < cntF d) (hb : b < cntF d) :
    Calls Tryz.prog 58 #[.agg #[.slice u0 d.params.length c0, .int .i64 d.ret, .slice u2 d.blocks.length c2], .int .i64 a, .int .i64 b] w fun e w' => e = .returned (.bool (grpB d a b)) ∧ Below w.heap.size w w' := by
  have F0 := FBox.start (d := d) (u0 := u0) (u2 := u2) (c0 := c0) (c2 := c2) (w := w) (T := 30)
  have P1 := placeS_any lo d u0 c0 u2 c2 a _ hs (k2.keep (agree_of_below F0.below lo)) (by omega)
  have P2 := fun W (k : Below w.heap.size w W) => placeS_any lo d u0 c0 u2 c2 b W hs (k2.keep (agree_of_below k lo)) (by omega)
  have a0 := F0.a0
  have a1 := F0.a1
  have a2 := F0.a2
  have HF0 : Hid (FBox d u0 c0 u2 c2 w _) := F0
  have HK : Hid (BlocksAt w lo u2 d.blocks) := k2
  clear k2 hs F0
  go_enter Tryz.func58, Tryz.ntmps58
  go_wp2_with fail
  refine P1.mono ?_
  rintro e w1 ⟨rfl, b1⟩
  have HF1 : Hid (FBox d u0 c0 u2 c2 w w1) := HF0.out.keep b1
  have z0 := HF1.out.a0
  have z1 := HF1.out.a1
  have z2 := HF1.out.a2
  have P3 := P2 w1 HF1.out.below
  clear P1 P2 b1 a0 a1 a2 HF0
  go_wp2_with fail
  refine P3.mono ?_
  rintro e w2 ⟨rfl, b2⟩
  have HF2 : Hid (FBox d u0 c0 u2 c2 w w2) := HF1.out.keep b2
  have y2 := HF2.out.a2
  have HK2 : Hid (BlocksAt w2 lo u2 d.blocks) := HK.out.keep (agree_of_below HF2.out.below lo)
  clear P3 b2 z0 z1 z2
  rcases place_at ha with ⟨_, h2⟩ | ⟨x, i, x1, x2, x3, x4⟩
  · rcases place_at hb with ⟨_, h3⟩ | ⟨y, j, y1, y2', y3, y4⟩
    · have E : Hid (true = grpB d a b) := (grp_par (by rw [h2]) (by rw [h3])).symm
      simp only [h2, h3]
      clear h2 h3
      go_wp2_with fail
      go_ret
      exact ⟨ret_bool (E.out), HF2.out.below⟩
    · have hne : ¬ ((-1 : Int) = y) := by omega
      have E : Hid (false = grpB d a b) := (grp_far (x := -1) (y := (y : Int)) (by rw [h2]) (by rw [y4]) hne).symm
      simp only [h2, y4]
      clear h2 y4 y3
      go_wp2_with fail
      go_ret
      exact ⟨ret_bool (E.out), HF2.out.below⟩
  · rcases place_at hb with ⟨_, h3⟩ | ⟨y, j, y1, y2', y3, y4⟩
    · have hne : ¬ ((x : Int) = -1) := by omega
      have E : Hid (false = grpB d a b) := (grp_far (x := (x : Int)) (y := -1) (by rw [x4]) (by rw [h3]) hne).symm
      simp only [x4, h3]
      clear x4 h3 x3
      go_wp2_with fail
      go_ret
      exact ⟨ret_bool (E.out), HF2.out.below⟩
    · by_cases hxy : x = y
      · subst hxy
        have hn1 : ¬ ((x : Int) = -1) := by omega
        have hx10 : (x : Int) < d.blocks.length := by omega
        have E0 := grp_blk x4 y4
        obtain ⟨gb, off, hu2, _, _, ⟨v0, r0, e0, _⟩, _⟩ := blk_cell HK2.out x1
        rw [hu2] at y2
        simp only [x4, y4]
        clear x4 y4 hu2 x3 y3
        have qx : ((x : Int) == -1) = false := by simp
        by_cases hi : (i : Int) < (blkN d x).phis.length
        · have E : Hid (decide ((j : Int) < (blkN d x).phis.length) = grpB d a b) := by show _ = _; rw [E0, decide_eq_true hi, Bool.true_and]
          clear E0
          go_wp2_with fail
          go_ret
          exact ⟨ret_bool (by rw [← E.out]; simp), HF2.out.below⟩
        · have E : Hid (false = grpB d a b) := by show _ = _; rw [E0, decide_eq_false hi, Bool.false_and]
          clear E0
          go_wp2_with fail
          go_ret
          exact ⟨ret_bool (E.out), HF2.out.below⟩
      · have hne : ¬ ((x : Int) = (y : Int)) := by omega
        have E : Hid (false = grpB d a b) := (grp_far (by rw [x4]) (by rw [y4]) hne).symm
        simp only [x4, y4]
        clear x4 y4 hxy x3 y3
        go_wp2_with fail
        go_ret
        exact ⟨ret_bool (E.out), HF2.out.below⟩
theorem hasV (lo : Nat) (v : Value) (l : List Int) (n : Int) (w : World) (hl : l.length ≤ 400) (hv : SlAt w lo v l) : Calls Tryz.prog 33 #[v, .int .i64 n] w fun e w' => e = .returned (.bool (decide (n ∈ l))) ∧ Below w.heap.size w w' := by
  obtain ⟨g, o, c, rfl, _, _, hk⟩ := hv
  exact hasS lo _ c l n w (by omega) hk
/-- Neither gives nothing, and they are two. -/
def twoB (d : FuncD) (a b : Nat) : Bool := !decide (a = b) && !decide (typeF d a = 0) && !decide (typeF d b = 0)
theorem meet_two (d : FuncD) (I : Alive) (a b : Nat) : meetB d I a b = (twoB d a b && (grpB d a b || decide ((b : Int) ∈ aftL d I a) || decide ((a : Int) ∈ aftL d I b))) := rfl
set_option maxHeartbeats 8000000 in
set_option maxRecDepth 100000 in
theorem meetZ (lo : Nat) (d : FuncD) (u0 : Option Addr) (c0 : Nat) (u2 : Option Addr) (c2 : Nat) (a b gi li ci : Nat) (I : Alive) (w : World) (hs : SmFunc d) (hf : funcB 3 d = true) (hF : LvF d) (hG : Grows d I) (hI : InsAt w gi li d.blocks.length I) (k0 : IntsAt w lo u0 d.params) (k2 : BlocksAt w lo u2 d.blocks) (ha : a < cntF d) (hb : b < cntF d) :
    Calls Tryz.prog 31 #[.agg #[.slice u0 d.params.length c0, .int .i64 d.ret, .slice u2 d.blocks.length c2], .int .i64 a, .int .i64 b, .slice (some ⟨gi, 0, none⟩) d.blocks.length ci] w fun e w' => e = .returned (.bool (meetB d I a b)) ∧ Below w.heap.size w w' := by
  have F0 := FBox.start (d := d) (u0 := u0) (u2 := u2) (c0 := c0) (c2 := c2) (w := w) (T := 30)
  have hc := hF.cnt
  have ta := (form_of hf).type_ge (id := (a : Int)) (by omega) (by omega)
  have tb := (form_of hf).type_ge (id := (b : Int)) (by omega) (by omega)
  have T := fun (n : Nat) W (k : Below w.heap.size w W) (hn : n < cntF d) => typeS_any lo d u0 c0 u2 c2 n W hs (k0.keep (agree_of_below k lo)) (k2.keep (agree_of_below k lo)) (by omega)
  have G := fun W (k : Below w.heap.size w W) => grpZ lo d u0 c0 u2 c2 a b W hs hc (k2.keep (agree_of_below k lo)) ha hb
  have A := fun (n : Nat) W (k : Below w.heap.size w W) (hn : n < cntF d) => aftZ lo d u0 c0 u2 c2 n gi li ci I W hs hF hG hn (hI.below k) (k2.keep (agree_of_below k lo))
  have la : (aftL d I a).length ≤ 60 := Nat.le_trans (aft_fine hF hG ha).len hc
  have lb : (aftL d I b).length ≤ 60 := Nat.le_trans (aft_fine hF hG hb).len hc
  have a0 := F0.a0
  have a1 := F0.a1
  have a2 := F0.a2
  have HF0 : Hid (FBox d u0 c0 u2 c2 w _) := F0
  have E0 := meet_two d I a b
  have Ta := T a
  have Tb := T b
  have Aa := A a
  have Ab := A b
  clear hs hf hF hG hI k0 k2 F0 T A
  by_cases hab : a = b
  · have E : Hid (false = meetB d I a b) := by show _ = _; rw [E0]; simp [twoB, hab]
    subst hab
    clear E0 G Ta Tb Aa Ab
    go_enter Tryz.func31, Tryz.ntmps31
    go_wp2_with fail
    go_ret
    exact ⟨ret_bool (E.out), HF0.out.below⟩
  · have hab' : ¬ ((a : Int) = (b : Int)) := by omega
    have qa : ((a : Int) == (b : Int)) = false := by simpa using hab'
    go_enter Tryz.func31, Tryz.ntmps31
    go_wp2_with fail
    refine (Ta _ HF0.out.below ha).mono ?_
    rintro e w1 ⟨rfl, b1⟩
    have HF1 : Hid (FBox d u0 c0 u2 c2 w w1) := HF0.out.keep b1
    have z0a := HF1.out.a0
    have z1a := HF1.out.a1
    have z2a := HF1.out.a2
    clear a0 a1 a2 b1 Ta
    by_cases h1 : typeF d a = 0
    · have E : Hid (false = meetB d I a b) := by show _ = _; rw [E0]; simp [twoB, h1]
      rw [h1]
      clear E0 G Tb Aa Ab h1
      go_wp2_with fail
      go_ret
      exact ⟨ret_bool (E.out), HF1.out.below⟩
    · have h1' : ¬ typeF d a < 1 := by omega
      go_wp2_with fail
      refine (Tb _ HF1.out.below hb).mono ?_
      rintro e w2 ⟨rfl, b2⟩
      have HF2 : Hid (FBox d u0 c0 u2 c2 w w2) := HF1.out.keep b2
      have z0b := HF2.out.a0
      have z1b := HF2.out.a1
      have z2b := HF2.out.a2
      clear z0a z1a z2a b2 Tb
      by_cases h2 : typeF d b = 0
      · have E : Hid (false = meetB d I a b) := by show _ = _; rw [E0]; simp [twoB, h2]
        rw [h2]
        clear E0 G Aa Ab h2
        go_wp2_with fail
        go_ret
        exact ⟨ret_bool (E.out), HF2.out.below⟩
      · have h2' : ¬ typeF d b < 1 := by omega
        have E1 : meetB d I a b = (grpB d a b || decide ((b : Int) ∈ aftL d I a) || decide ((a : Int) ∈ aftL d I b)) := by rw [E0]; simp [twoB, h1, h2, hab]
        clear E0 h1 h2 ta tb
        have HE1 : Hid _ := E1
        clear E1
        go_wp2_with fail
        refine (G _ HF2.out.below).mono ?_
        rintro e w3 ⟨rfl, b3⟩
        have HF3 : Hid (FBox d u0 c0 u2 c2 w w3) := HF2.out.keep b3
        have z0c := HF3.out.a0
        have z1c := HF3.out.a1
        have z2c := HF3.out.a2
        clear z0b z1b z2b b3 G
        cases hg : grpB d a b with
        | true =>
          have E : Hid (true = meetB d I a b) := by show _ = _; rw [HE1.out, hg]; rfl
          clear hg Aa Ab
          go_wp2_with fail
          go_ret
          exact ⟨ret_bool (E.out), HF3.out.below⟩
        | false =>
          go_wp2_with fail
          refine (Aa _ HF3.out.below ha).mono ?_
          rintro e w4 ⟨v4, rfl, s4, b4⟩
          have HF4 : Hid (FBox d u0 c0 u2 c2 w w4) := HF3.out.keep b4
          have z0d := HF4.out.a0
          have z1d := HF4.out.a1
          have z2d := HF4.out.a2
          have H4 := hasV w3.heap.size v4 _ (b : Int) w4 (by omega) s4
          clear z0c z1c z2c b4 Aa s4
          go_wp2_with fail
          refine (H4).mono ?_
          rintro e w5 ⟨rfl, b5⟩
          have HF5 : Hid (FBox d u0 c0 u2 c2 w w5) := HF4.out.keep b5
          have z0e := HF5.out.a0
          have z1e := HF5.out.a1
          have z2e := HF5.out.a2
          clear z0d z1d z2d b5 H4
          by_cases hm : (b : Int) ∈ aftL d I a
          · have E : Hid (true = meetB d I a b) := by show _ = _; rw [HE1.out]; simp [hm]
            have hD : decide ((b : Int) ∈ aftL d I a) = true := by simpa using hm
            rw [hD]
            clear hD hm Ab hg
            go_wp2_with fail
            go_ret
            exact ⟨ret_bool (E.out), HF5.out.below⟩
          · have E : Hid (decide ((a : Int) ∈ aftL d I b) = meetB d I a b) := by show _ = _; rw [HE1.out, hg]; simp [hm]
            have hD : decide ((b : Int) ∈ aftL d I a) = false := by simpa using hm
            rw [hD]
            clear hD hm hg
            go_wp2_with fail
            refine (Ab _ HF5.out.below hb).mono ?_
            rintro e w6 ⟨v6, rfl, s6, b6⟩
            have HF6 : Hid (FBox d u0 c0 u2 c2 w w6) := HF5.out.keep b6
            have z0f := HF6.out.a0
            have z1f := HF6.out.a1
            have z2f := HF6.out.a2
            have H6 := hasV w5.heap.size v6 _ (a : Int) w6 (by omega) s6
            clear z0e z1e z2e b6 Ab s6
            go_wp2_with fail
            refine (H6).mono ?_
            rintro e w7 ⟨rfl, b7⟩
            have HF7 : Hid (FBox d u0 c0 u2 c2 w w7) := HF6.out.keep b7
            have z0g := HF7.out.a0
            have z1g := HF7.out.a1
            have z2g := HF7.out.a2
            go_wp2_with fail
            go_ret
            exact ⟨ret_bool (E.out), HF7.out.below⟩
end Go.Proofs.YtolaghondjfhdabGreatDoor
