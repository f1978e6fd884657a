/- Who meets whom: the model. -/
import Derived.Test.YtolaghondjfhdaaGreatDoorLyDQ
import Derived.Test.YtolaghondjfhdaaGreatDoorLyCQ
namespace Go.Proofs.YtolaghondjfhdaaGreatDoor
open Go.RowKit
set_option linter.unusedVariables false

set_option maxHeartbeats 4000000 in
set_option maxRecDepth 100000 in
theorem grpZ (lo : Nat) (d : FuncD) (u0 : Option Addr) (c0 : Nat) (u2 : Option Addr) (c2 : Nat) (a b : Nat) (w : World) (hs : SmFunc d) (hc : cntF d ≤ 60) (k2 : BlocksAt w lo u2 d.blocks) (ha : a < cntF d) (hb : b < cntF d) :
    Calls Tryz.prog 72 #[.agg #[.slice u0 d.params.length c0, .int .i64 d.ret, .slice u2 d.blocks.length c2], .int .i64 a, .int .i64 b] w fun e w' => e = .returned (.bool (grpB d a b)) ∧ Below w.heap.size w w' := by
  have F0 := FBox.start (d := d) (u0 := u0) (u2 := u2) (c0 := c0) (c2 := c2) (w := w) (T := 30)
  have P1 := placeS_any lo d u0 c0 u2 c2 a _ hs (k2.keep (agree_of_below F0.below lo)) (by omega)
  have P2 := fun W (k : Below w.heap.size w W) => placeS_any lo d u0 c0 u2 c2 b W hs (k2.keep (agree_of_below k lo)) (by omega)
  have a0 := F0.a0
  have a1 := F0.a1
  have a2 := F0.a2
  have HF0 : Hid (FBox d u0 c0 u2 c2 w _) := F0
  have HK : Hid (BlocksAt w lo u2 d.blocks) := k2
  clear k2 hs F0
  go_enter Tryz.func72, Tryz.ntmps72
  go_wp2_with fail
  refine P1.mono ?_
  rintro e w1 ⟨rfl, b1⟩
  have HF1 : Hid (FBox d u0 c0 u2 c2 w w1) := HF0.out.keep b1
  have z0 := HF1.out.a0
  have z1 := HF1.out.a1
  have z2 := HF1.out.a2
  have P3 := P2 w1 HF1.out.below
  clear P1 P2 b1 a0 a1 a2 HF0
  go_wp2_with fail
  refine P3.mono ?_
  rintro e w2 ⟨rfl, b2⟩
  have HF2 : Hid (FBox d u0 c0 u2 c2 w w2) := HF1.out.keep b2
  have y2 := HF2.out.a2
  have HK2 : Hid (BlocksAt w2 lo u2 d.blocks) := HK.out.keep (agree_of_below HF2.out.below lo)
  clear P3 b2 z0 z1 z2
  rcases place_at ha with ⟨_, h2⟩ | ⟨x, i, x1, x2, x3, x4⟩
  · rcases place_at hb with ⟨_, h3⟩ | ⟨y, j, y1, y2', y3, y4⟩
    · have E : Hid (true = grpB d a b) := (grp_par (by rw [h2]) (by rw [h3])).symm
      simp only [h2, h3]
      clear h2 h3
      go_wp2_with fail
      go_ret
      exact ⟨ret_bool (E.out), HF2.out.below⟩
    · have hne : ¬ ((-1 : Int) = y) := by omega
      have E : Hid (false = grpB d a b) := (grp_far (x := -1) (y := (y : Int)) (by rw [h2]) (by rw [y4]) hne).symm
      simp only [h2, y4]
      clear h2 y4 y3
      go_wp2_with fail
      go_ret
      exact ⟨ret_bool (E.out), HF2.out.below⟩
  · rcases place_at hb with ⟨_, h3⟩ | ⟨y, j, y1, y2', y3, y4⟩
    · have hne : ¬ ((x : Int) = -1) := by omega
      have E : Hid (false = grpB d a b) := (grp_far (x := (x : Int)) (y := -1) (by rw [x4]) (by rw [h3]) hne).symm
      simp only [x4, h3]
      clear x4 h3 x3
      go_wp2_with fail
      go_ret
      exact ⟨ret_bool (E.out), HF2.out.below⟩
    · by_cases hxy : x = y
      · subst hxy
        have hn1 : ¬ ((x : Int) = -1) := by omega
        have hx10 : (x : Int) < d.blocks.length := by omega
        have E0 := grp_blk x4 y4
        obtain ⟨gb, off, hu2, _, _, ⟨v0, r0, e0, _⟩, _⟩ := blk_cell HK2.out x1
        rw [hu2] at y2
        simp only [x4, y4]
        clear x4 y4 hu2 x3 y3
        have qx : ((x : Int) == -1) = false := by simp
        by_cases hi : (i : Int) < (blkN d x).phis.length
        · have E : Hid (decide ((j : Int) < (blkN d x).phis.length) = grpB d a b) := by show _ = _; rw [E0, decide_eq_true hi, Bool.true_and]
          clear E0
          go_wp2_with fail
          go_ret
          exact ⟨ret_bool (by rw [← E.out]; simp), HF2.out.below⟩
        · have E : Hid (false = grpB d a b) := by show _ = _; rw [E0, decide_eq_false hi, Bool.false_and]
          clear E0
          go_wp2_with fail
          go_ret
          exact ⟨ret_bool (E.out), HF2.out.below⟩
      · have hne : ¬ ((x : Int) = (y : Int)) := by omega
        have E : Hid (false = grpB d a b) := (grp_far (by rw [x4]) (by rw [y4]) hne).symm
        simp only [x4, y4]
        clear x4 y4 hxy x3 y3
        go_wp2_with fail
        go_ret
        exact ⟨ret_bool (E.out), HF2.out.below⟩
theorem hasV (lo : Nat) (v : Value) (l : List Int) (n : Int) (w : World) (hl : l.length ≤ 400) (hv : SlAt w lo v l) : Calls Tryz.prog 73 #[v, .int .i64 n] w fun e w' => e = .returned (.bool (decide (n ∈ l))) ∧ Below w.heap.size w w' := by
  obtain ⟨g, o, c, rfl, _, _, hk⟩ := hv
  exact hasS lo _ c l n w (by omega) hk
/-- Neither gives nothing, and they are two. -/
def twoB (d : FuncD) (a b : Nat) : Bool := !decide (a = b) && !decide (typeF d a = 0) && !decide (typeF d b = 0)
theorem meet_two (d : FuncD) (I : Alive) (a b : Nat) : meetB d I a b = (twoB d a b && (grpB d a b || decide ((b : Int) ∈ aftL d I a) || decide ((a : Int) ∈ aftL d I b))) := rfl
set_option maxHeartbeats 8000000 in
set_option maxRecDepth 100000 in
theorem meetZ (lo : Nat) (d : FuncD) (u0 : Option Addr) (c0 : Nat) (u2 : Option Addr) (c2 : Nat) (a b gi li ci : Nat) (I : Alive) (w : World) (hs : SmFunc d) (hf : funcB 3 d = true) (hF : LvF d) (hG : Grows d I) (hI : InsAt w gi li d.blocks.length I) (k0 : IntsAt w lo u0 d.params) (k2 : BlocksAt w lo u2 d.blocks) (ha : a < cntF d) (hb : b < cntF d) :
    Calls Tryz.prog 46 #[.agg #[.slice u0 d.params.length c0, .int .i64 d.ret, .slice u2 d.blocks.length c2], .int .i64 a, .int .i64 b, .slice (some ⟨gi, 0, none⟩) d.blocks.length ci] w fun e w' => e = .returned (.bool (meetB d I a b)) ∧ Below w.heap.size w w' := by
  have F0 := FBox.start (d := d) (u0 := u0) (u2 := u2) (c0 := c0) (c2 := c2) (w := w) (T := 30)
  have hc := hF.cnt
  have ta := (form_of hf).type_ge (id := (a : Int)) (by omega) (by omega)
  have tb := (form_of hf).type_ge (id := (b : Int)) (by omega) (by omega)
  have T := fun (n : Nat) W (k : Below w.heap.size w W) (hn : n < cntF d) => typeS_any lo d u0 c0 u2 c2 n W hs (k0.keep (agree_of_below k lo)) (k2.keep (agree_of_below k lo)) (by omega)
  have G := fun W (k : Below w.heap.size w W) => grpZ lo d u0 c0 u2 c2 a b W hs hc (k2.keep (agree_of_below k lo)) ha hb
  have A := fun (n : Nat) W (k : Below w.heap.size w W) (hn : n < cntF d) => aftZ lo d u0 c0 u2 c2 n gi li ci I W hs hF hG hn (hI.below k) (k2.keep (agree_of_below k lo))
  have la : (aftL d I a).length ≤ 60 := Nat.le_trans (aft_fine hF hG ha).len hc
  have lb : (aftL d I b).length ≤ 60 := Nat.le_trans (aft_fine hF hG hb).len hc
  have a0 := F0.a0
  have a1 := F0.a1
  have a2 := F0.a2
  have HF0 : Hid (FBox d u0 c0 u2 c2 w _) := F0
  have E0 := meet_two d I a b
  have Ta := T a
  have Tb := T b
  have Aa := A a
  have Ab := A b
  clear hs hf hF hG hI k0 k2 F0 T A
  by_cases hab : a = b
  · have E : Hid (false = meetB d I a b) := by show _ = _; rw [E0]; simp [twoB, hab]
    subst hab
    clear E0 G Ta Tb Aa Ab
    go_enter Tryz.func46, Tryz.ntmps46
    go_wp2_with fail
    go_ret
    exact ⟨ret_bool (E.out), HF0.out.below⟩
  · have hab' : ¬ ((a : Int) = (b : Int)) := by omega
    have qa : ((a : Int) == (b : Int)) = false := by simpa using hab'
    go_enter Tryz.func46, Tryz.ntmps46
    go_wp2_with fail
    refine (Ta _ HF0.out.below ha).mono ?_
    rintro e w1 ⟨rfl, b1⟩
    have HF1 : Hid (FBox d u0 c0 u2 c2 w w1) := HF0.out.keep b1
    have z0a := HF1.out.a0
    have z1a := HF1.out.a1
    have z2a := HF1.out.a2
    clear a0 a1 a2 b1 Ta
    by_cases h1 : typeF d a = 0
    · have E : Hid (false = meetB d I a b) := by show _ = _; rw [E0]; simp [twoB, h1]
      rw [h1]
      clear E0 G Tb Aa Ab h1
      go_wp2_with fail
      go_ret
      exact ⟨ret_bool (E.out), HF1.out.below⟩
    · have h1' : ¬ typeF d a < 1 := by omega
      go_wp2_with fail
      refine (Tb _ HF1.out.below hb).mono ?_
      rintro e w2 ⟨rfl, b2⟩
      have HF2 : Hid (FBox d u0 c0 u2 c2 w w2) := HF1.out.keep b2
      have z0b := HF2.out.a0
      have z1b := HF2.out.a1
      have z2b := HF2.out.a2
      clear z0a z1a z2a b2 Tb
      by_cases h2 : typeF d b = 0
      · have E : Hid (false = meetB d I a b) := by show _ = _; rw [E0]; simp [twoB, h2]
        rw [h2]
        clear E0 G Aa Ab h2
        go_wp2_with fail
        go_ret
        exact ⟨ret_bool (E.out), HF2.out.below⟩
      · have h2' : ¬ typeF d b < 1 := by omega
        have E1 : meetB d I a b = (grpB d a b || decide ((b : Int) ∈ aftL d I a) || decide ((a : Int) ∈ aftL d I b)) := by rw [E0]; simp [twoB, h1, h2, hab]
        clear E0 h1 h2 ta tb
        have HE1 : Hid _ := E1
        clear E1
        go_wp2_with fail
        refine (G _ HF2.out.below).mono ?_
        rintro e w3 ⟨rfl, b3⟩
        have HF3 : Hid (FBox d u0 c0 u2 c2 w w3) := HF2.out.keep b3
        have z0c := HF3.out.a0
        have z1c := HF3.out.a1
        have z2c := HF3.out.a2
        clear z0b z1b z2b b3 G
        cases hg : grpB d a b with
        | true =>
          have E : Hid (true = meetB d I a b) := by show _ = _; rw [HE1.out, hg]; rfl
          clear hg Aa Ab
          go_wp2_with fail
          go_ret
          exact ⟨ret_bool (E.out), HF3.out.below⟩
        | false =>
          go_wp2_with fail
          refine (Aa _ HF3.out.below ha).mono ?_
          rintro e w4 ⟨v4, rfl, s4, b4⟩
          have HF4 : Hid (FBox d u0 c0 u2 c2 w w4) := HF3.out.keep b4
          have z0d := HF4.out.a0
          have z1d := HF4.out.a1
          have z2d := HF4.out.a2
          have H4 := hasV w3.heap.size v4 _ (b : Int) w4 (by omega) s4
          clear z0c z1c z2c b4 Aa s4
          go_wp2_with fail
          refine (H4).mono ?_
          rintro e w5 ⟨rfl, b5⟩
          have HF5 : Hid (FBox d u0 c0 u2 c2 w w5) := HF4.out.keep b5
          have z0e := HF5.out.a0
          have z1e := HF5.out.a1
          have z2e := HF5.out.a2
          clear z0d z1d z2d b5 H4
          by_cases hm : (b : Int) ∈ aftL d I a
          · have E : Hid (true = meetB d I a b) := by show _ = _; rw [HE1.out]; simp [hm]
            have hD : decide ((b : Int) ∈ aftL d I a) = true := by simpa using hm
            rw [hD]
            clear hD hm Ab hg
            go_wp2_with fail
            go_ret
            exact ⟨ret_bool (E.out), HF5.out.below⟩
          · have E : Hid (decide ((a : Int) ∈ aftL d I b) = meetB d I a b) := by show _ = _; rw [HE1.out, hg]; simp [hm]
            have hD : decide ((b : Int) ∈ aftL d I a) = false := by simpa using hm
            rw [hD]
            clear hD hm hg
            go_wp2_with fail
            refine (Ab _ HF5.out.below hb).mono ?_
            rintro e w6 ⟨v6, rfl, s6, b6⟩
            have HF6 : Hid (FBox d u0 c0 u2 c2 w w6) := HF5.out.keep b6
            have z0f := HF6.out.a0
            have z1f := HF6.out.a1
            have z2f := HF6.out.a2
            have H6 := hasV w5.heap.size v6 _ (a : Int) w6 (by omega) s6
            clear z0e z1e z2e b6 Ab s6
            go_wp2_with fail
            refine (H6).mono ?_
            rintro e w7 ⟨rfl, b7⟩
            have HF7 : Hid (FBox d u0 c0 u2 c2 w w7) := HF6.out.keep b7
            have z0g := HF7.out.a0
            have z1g := HF7.out.a1
            have z2g := HF7.out.a2
            go_wp2_with fail
            go_ret
            exact ⟨ret_bool (E.out), HF7.out.below⟩
set_option maxHeartbeats 8000000 in
set_option maxRecDepth 100000 in
theorem meetS (lo : Nat) (d : FuncD) (u0 : Option Addr) (c0 : Nat) (u2 : Option Addr) (c2 : Nat) (a b : Int) (w : World) (hs : SmFunc d) (k0 : IntsAt w lo u0 d.params) (k2 : BlocksAt w lo u2 d.blocks) :
    Calls Tryz.prog 24 #[.agg #[.slice u0 d.params.length c0, .int .i64 d.ret, .slice u2 d.blocks.length c2], .int .i64 a, .int .i64 b] w fun e w' => ∃ v, e = .returned (.bool v) ∧ MeetR d a b v ∧ Below w.heap.size w w' := by
  have F0 := FBox.start (d := d) (u0 := u0) (u2 := u2) (c0 := c0) (c2 := c2) (w := w) (T := 30)
  have hcl := cntF_le hs
  have C := countS_any lo d u0 c0 u2 c2 _ hs (k2.keep (agree_of_below F0.below lo))
  have P := fun W (k : Below w.heap.size w W) => okS lo d u0 c0 u2 c2 W hs (k0.keep (agree_of_below k lo)) (k2.keep (agree_of_below k lo))
  have a0 := F0.a0
  have a1 := F0.a1
  have a2 := F0.a2
  have HF0 : Hid (FBox d u0 c0 u2 c2 w _) := F0
  have B1 := inB a (cntF d)
  have B2 := inB b (cntF d)
  cases hO : okB d with
  | false =>
    rw [hO] at P
    have HO : Hid ((okB d && belowB a (cntF d) && belowB b (cntF d)) = false) := by show _ = _; rw [hO]; rfl
    clear hs k0 k2 F0 hO B1 B2
    go_enter Tryz.func24, Tryz.ntmps24
    go_wp2_with (first | (go_at_call 42; refine C.mono ?_; rintro e w1 ⟨rfl, b1⟩; have HF1 : Hid (FBox d u0 c0 u2 c2 w w1) := HF0.out.keep b1; have z0a := HF1.out.a0; have z1a := HF1.out.a1; have z2a := HF1.out.a2) | (go_at_call 31; refine (P _ HF1.out.below).mono ?_; rintro e w2 ⟨rfl, b2⟩; have HF2 : Hid (FBox d u0 c0 u2 c2 w w2) := HF1.out.keep b2; have z0b := HF2.out.a0; have z1b := HF2.out.a1; have z2b := HF2.out.a2) | fail)
    go_ret
    exact ⟨false, rfl, .inl ⟨HO.out, rfl⟩, HF2.out.below⟩
  | true =>
    rw [hO] at P
    have hF : LvF d := ok_lvf hO
    have hf : funcB 3 d = true := by simp only [okB, Bool.and_eq_true] at hO; exact hO.1
    cases hA : belowB a (cntF d) with
    | false =>
      rw [hA] at B1
      have HO : Hid ((okB d && belowB a (cntF d) && belowB b (cntF d)) = false) := by show _ = _; rw [hO, hA]; rfl
      clear hs k0 k2 F0 hO hF hf hA B2
      go_enter Tryz.func24, Tryz.ntmps24
      go_wp2_with (first | (go_at_call 42; refine C.mono ?_; rintro e w1 ⟨rfl, b1⟩; have HF1 : Hid (FBox d u0 c0 u2 c2 w w1) := HF0.out.keep b1; have z0a := HF1.out.a0; have z1a := HF1.out.a1; have z2a := HF1.out.a2) | (go_at_call 31; refine (P _ HF1.out.below).mono ?_; rintro e w2 ⟨rfl, b2⟩; have HF2 : Hid (FBox d u0 c0 u2 c2 w w2) := HF1.out.keep b2; have z0b := HF2.out.a0; have z1b := HF2.out.a1; have z2b := HF2.out.a2) | (go_at_call 32; refine (B1 _).mono ?_; rintro e w3 ⟨rfl, rfl⟩; clear B1) | fail)
      go_ret
      exact ⟨false, rfl, .inl ⟨HO.out, rfl⟩, HF2.out.below⟩
    | true =>
      rw [hA] at B1
      cases hB : belowB b (cntF d) with
      | false =>
        rw [hB] at B2
        have HO : Hid ((okB d && belowB a (cntF d) && belowB b (cntF d)) = false) := by show _ = _; rw [hO, hA, hB]; rfl
        clear hs k0 k2 F0 hO hF hf hA hB
        go_enter Tryz.func24, Tryz.ntmps24
        go_wp2_with (first | (go_at_call 42; refine C.mono ?_; rintro e w1 ⟨rfl, b1⟩; have HF1 : Hid (FBox d u0 c0 u2 c2 w w1) := HF0.out.keep b1; have z0a := HF1.out.a0; have z1a := HF1.out.a1; have z2a := HF1.out.a2) | (go_at_call 31; refine (P _ HF1.out.below).mono ?_; rintro e w2 ⟨rfl, b2⟩; have HF2 : Hid (FBox d u0 c0 u2 c2 w w2) := HF1.out.keep b2; have z0b := HF2.out.a0; have z1b := HF2.out.a1; have z2b := HF2.out.a2) | (go_at_call 32; refine (B1 _).mono ?_; rintro e w3 ⟨rfl, rfl⟩; clear B1) | (go_at_call 32; refine (B2 _).mono ?_; rintro e w4 ⟨rfl, rfl⟩) | fail)
        go_ret
        exact ⟨false, rfl, .inl ⟨HO.out, rfl⟩, HF2.out.below⟩
      | true =>
        rw [hB] at B2
        have HO : Hid ((okB d && belowB a (cntF d) && belowB b (cntF d)) = true) := by show _ = _; rw [hO, hA, hB]; rfl
        obtain ⟨n, rfl⟩ : ∃ n : Nat, a = n := ⟨a.toNat, by have := below_yes hA; omega⟩
        obtain ⟨m, rfl⟩ : ∃ m : Nat, b = m := ⟨b.toNat, by have := below_yes hB; omega⟩
        have hn : n < cntF d := by have := below_yes hA; omega
        have hm : m < cntF d := by have := below_yes hB; omega
        have I0 := fun W (k : Below w.heap.size w W) => insZ lo d u0 c0 u2 c2 W hs hF (k2.keep (agree_of_below k lo))
        have M0 := fun gi I W (k : Below w.heap.size w W) hG hI => meetZ lo d u0 c0 u2 c2 n m gi (gi + 1) d.blocks.length I W hs hf hF hG hI (k0.keep (agree_of_below k lo)) (k2.keep (agree_of_below k lo)) hn hm
        clear hs k0 k2 F0 hO hF hf hA hB
        go_enter Tryz.func24, Tryz.ntmps24
        go_wp2_with (first | (go_at_call 42; refine C.mono ?_; rintro e w1 ⟨rfl, b1⟩; have HF1 : Hid (FBox d u0 c0 u2 c2 w w1) := HF0.out.keep b1; have z0a := HF1.out.a0; have z1a := HF1.out.a1; have z2a := HF1.out.a2) | (go_at_call 31; refine (P _ HF1.out.below).mono ?_; rintro e w2 ⟨rfl, b2⟩; have HF2 : Hid (FBox d u0 c0 u2 c2 w w2) := HF1.out.keep b2; have z0b := HF2.out.a0; have z1b := HF2.out.a1; have z2b := HF2.out.a2) | (go_at_call 32; refine (B1 _).mono ?_; rintro e w3 ⟨rfl, rfl⟩; clear B1) | (go_at_call 32; refine (B2 _).mono ?_; rintro e w4 ⟨rfl, rfl⟩) | fail)
        refine wp_region_held_drew (S := fun w' => Below w4.heap.size w4 w') (by kernel_rfl) ((Below.refl _ _).drew) (fun hHeld => ?_)
        refine wpAnyH_take (i := 0) (v := ?_) rfl (by kernel_rfl) (by kernel_rfl) (by kernel_rfl) (fun _ _ _ h => h) (Or.inl ⟨by rfl, ?_⟩) hHeld ?_
        rotate_left
        · intro w9 hS9
          have g0 := (HF2.out.keep hS9).a0
          have g1 := (HF2.out.keep hS9).a1
          have g2 := (HF2.out.keep hS9).a2
          go_simp
          try with_reducible rfl
        show wpAnyH _ _ _ _ _ _ _ (Act.put _ (some _) _) _
        simp only [Act.put, List.setIfInBounds_toArray, List.set_cons_zero, List.set_cons_succ]
        refine wpAnyH_take (i := 1) (v := ?_) rfl (by kernel_rfl) (by kernel_rfl) (by kernel_rfl) (fun _ _ _ h => h) (Or.inl ⟨by rfl, ?_⟩) hHeld ?_
        rotate_left
        · intro w9 hS9
          go_simp
          try with_reducible rfl
        show wpAnyH _ _ _ _ _ _ _ (Act.put _ (some _) _) _
        simp only [Act.put, List.setIfInBounds_toArray, List.set_cons_zero, List.set_cons_succ]
        refine wpAnyH_take (i := 2) (v := ?_) rfl (by kernel_rfl) (by kernel_rfl) (by kernel_rfl) (fun _ _ _ h => h) (Or.inl ⟨by rfl, ?_⟩) hHeld ?_
        rotate_left
        · intro w9 hS9
          go_simp
          try with_reducible rfl
        show wpAnyH _ _ _ _ _ _ _ (Act.put _ (some _) _) _
        simp only [Act.put, List.setIfInBounds_toArray, List.set_cons_zero, List.set_cons_succ]
        refine wpAnyH_take (i := 3) (v := ?_) rfl (by kernel_rfl) (by kernel_rfl) (by kernel_rfl) (fun _ _ _ h => h) (Or.inl ⟨by rfl, ?_⟩) hHeld ?_
        rotate_left
        · intro w9 hS9
          have g0 := (HF2.out.keep hS9).a0
          have g1 := (HF2.out.keep hS9).a1
          have g2 := (HF2.out.keep hS9).a2
          go_simp
          try with_reducible rfl
        show wpAnyH _ _ _ _ _ _ _ (Act.put _ (some _) _) _
        simp only [Act.put, List.setIfInBounds_toArray, List.set_cons_zero, List.set_cons_succ]
        refine wpAnyH_ready (rs := [4]) (by kernel_rfl) (by simp) ?_
        refine AllReadyH.cons rfl (fun K hK => ?_) AllReadyH.nil
        go_simp
        go_wp2_with (go_at_call 34; refine (I0 _ (HF2.out.keep hHeld).below).mono ?_; rintro e w5 ⟨gi, rfl, I, hfx, hgr, hgi, hin, bb⟩; have bc := hHeld.trans (bb.mono hHeld.size))
        refine hK.out _ _ ?_ (fun hHeld2 => ?_)
        · exact bc
        clear hK K
        have hPrev := hHeld
        clear hHeld
        have hHeld := hHeld2
        clear hHeld2 bc
        try simp only [Act.put, List.setIfInBounds_toArray, List.set_cons_zero, List.set_cons_succ]
        have HFX : Hid (Fix d I) := hfx
        have HF5 : Hid (FBox d u0 c0 u2 c2 w w5) := HF2.out.keep hHeld
        have L := M0 gi I w5 HF5.out.below hgr hin.at
        clear hfx hgr hin bb
        refine wpAnyH_ready (rs := [5]) (by kernel_rfl) (by simp) ?_
        refine AllReadyH.cons rfl (fun K hK => ?_) AllReadyH.nil
        go_simp
        go_wp2_with (go_at_call 46; refine (L).mono ?_; rintro e w6 ⟨rfl, bb⟩; have bc := hHeld.trans (bb.mono hHeld.size))
        refine hK.out _ _ ?_ (fun hHeld2 => ?_)
        · exact bc
        clear hK K
        have hPrev := hHeld
        clear hHeld
        have hHeld := hHeld2
        clear hHeld2 bc
        try simp only [Act.put, List.setIfInBounds_toArray, List.set_cons_zero, List.set_cons_succ]
        refine wpAnyH_take (i := 6) (v := ?_) rfl (by kernel_rfl) (by kernel_rfl) (by kernel_rfl) (fun _ _ _ h => h) (Or.inl ⟨by rfl, ?_⟩) hHeld ?_
        rotate_left
        · intro w9 hS9
          go_simp
          try with_reducible rfl
        show wpAnyH _ _ _ _ _ _ _ (Act.put _ (some _) _) _
        simp only [Act.put, List.setIfInBounds_toArray, List.set_cons_zero, List.set_cons_succ]
        refine wpAnyH_done (by kernel_rfl) ?_ _
        have HF6 : Hid (FBox d u0 c0 u2 c2 w w6) := HF2.out.keep hHeld
        go_wp2_with fail
        go_ret
        exact ⟨_, rfl, .inr ⟨HO.out, I, HFX.out, rfl⟩, HF6.out.below⟩
end Go.Proofs.YtolaghondjfhdaaGreatDoor
