/- Who meets whom: the program. -/
import Derived.Test.YtolaghondjfhdabGreatDoorLyMQ
namespace Go.Proofs.YtolaghondjfhdabGreatDoor
open Go.RowKit
set_option linter.unusedVariables false

theorem grp_far {d : FuncD} {a b : Nat} {x y : Int} (ha : (placeF d a).1 = x) (hb : (placeF d b).1 = y) (h : ¬ x = y) : grpB d a b = false := by
  unfold grpB
  rw [ha, hb, decide_eq_false h]
  rfl
theorem grp_par {d : FuncD} {a b : Nat} (ha : (placeF d a).1 = -1) (hb : (placeF d b).1 = -1) : grpB d a b = true := by
  unfold grpB
  rw [ha, hb]
  simp
theorem grp_blk {d : FuncD} {a b k i j : Nat} (ha : placeF d a = ((k : Int), (i : Int))) (hb : placeF d b = ((k : Int), (j : Int))) : grpB d a b = (decide ((i : Int) < (blkN d k).phis.length) && decide ((j : Int) < (blkN d k).phis.length)) := by
  unfold grpB
  have h : ¬ ((k : Int) = -1) := by omega
  rw [ha, hb]
  simp only [Int.toNat_natCast, decide_eq_false h, decide_true, Bool.true_and, Bool.false_or]
theorem grp_max (i j n : Int) : decide (max i j < n) = (decide (i < n) && decide (j < n)) := by
  rw [← Bool.decide_and, decide_eq_decide]
  omega
set_option maxHeartbeats 4000000 in
set_option maxRecDepth 100000 in
theorem grpI (M Rb lo : Nat) (d : FuncD) (u2 : Option Addr) (c2 : Nat) (I : Alive) (a b : Nat) (w : World) (hs : SmFunc d) (hc : cntF d ≤ 60) (h : Lvs w M Rb lo d u2 c2 I) (ha : a < cntF d) (hb : b < cntF d) :
    Calls Tryz.prog 98 #[.pointer (some ⟨M, 0, none⟩), .int .i64 a, .int .i64 b] w fun e w' => e = .returned (.bool (grpB d a b)) ∧ Below w.heap.size w w' := by
  obtain ⟨fu, fc, t0, t1⟩ := h.two
  have t2 := h.rt.f2
  have m0 := h.ptr
  have P1 := placeI_any lo d fu fc u2 c2 a w hs h.rt.blocks (by omega)
  have P2 := fun W (k : Below w.heap.size w W) => placeI_any lo d fu fc u2 c2 b W hs (h.rt.blocks.keep (agree_of_below k lo)) (by omega)
  have HL : Hid (Lvs w M Rb lo d u2 c2 I) := h
  have HR : Hid (Rb < w.heap.size) := h.rt.lt
  have HM : Hid (M < w.heap.size) := h.lt
  clear h hs
  go_enter Tryz.func98, Tryz.ntmps98
  go_wp2_with fail
  refine P1.mono ?_
  rintro e w1 ⟨rfl, b1⟩
  have HB1 : Hid (Below w.heap.size w w1) := b1
  have m0a := (cell_block (b1.block M HM.out)).trans m0
  have t0a := (cell_block (b1.block Rb HR.out)).trans t0
  have t1a := (cell_block (b1.block Rb HR.out)).trans t1
  have t2a := (cell_block (b1.block Rb HR.out)).trans t2
  have P3 := P2 w1 b1
  clear P1 P2 b1 m0 t0 t1 t2
  go_wp2_with fail
  refine P3.mono ?_
  rintro e w2 ⟨rfl, b2⟩
  have HB2 : Hid (Below w.heap.size w w2) := HB1.out.trans (b2.mono HB1.out.size)
  have HL2 : Hid (Lvs w2 M Rb lo d u2 c2 I) := HL.out.below HB2.out
  have m0b := HL2.out.ptr
  have t2b := HL2.out.rt.f2
  clear P3 b2 m0a t0a t1a t2a
  rcases place_at ha with ⟨_, h2⟩ | ⟨x, i, x1, x2, _, x4⟩
  · rcases place_at hb with ⟨_, k2⟩ | ⟨y, j, y1, y2, _, y4⟩
    · have E : Hid (true = grpB d a b) := (grp_par (by rw [h2]) (by rw [k2])).symm
      simp only [h2, k2]
      clear h2 k2
      go_wp2_with fail
      go_ret
      exact ⟨ret_bool (E.out), HB2.out⟩
    · have hne : ¬ ((-1 : Int) = y) := by omega
      have E : Hid (false = grpB d a b) := (grp_far (x := -1) (y := (y : Int)) (by rw [h2]) (by rw [y4]) hne).symm
      simp only [h2, y4]
      clear h2 y4
      go_wp2_with fail
      go_ret
      exact ⟨ret_bool (E.out), HB2.out⟩
  · rcases place_at hb with ⟨_, k2⟩ | ⟨y, j, y1, y2, _, y4⟩
    · have hne : ¬ ((x : Int) = -1) := by omega
      have E : Hid (false = grpB d a b) := (grp_far (x := (x : Int)) (y := -1) (by rw [x4]) (by rw [k2]) hne).symm
      simp only [k2, x4]
      clear k2 x4
      go_wp2_with fail
      go_ret
      exact ⟨ret_bool (E.out), HB2.out⟩
    · by_cases hxy : x = y
      · subst hxy
        have hn1 : ¬ ((x : Int) = -1) := by omega
        have E : Hid (grpB d a b = (decide ((i : Int) < (blkN d x).phis.length) && decide ((j : Int) < (blkN d x).phis.length))) := grp_blk x4 y4
        have hx10 : (x : Int) < d.blocks.length := by omega
        obtain ⟨gb, off, rfl, _, _, ⟨v0, r0, e0, _⟩, _⟩ := blk_cell HL2.out.rt.blocks x1
        simp only [x4, y4]
        clear x4 y4
        go_wp2_with fail
        go_ret
        exact ⟨ret_bool (by rw [E.out]; exact grp_max _ _ _), HB2.out⟩
      · have hne : ¬ ((x : Int) = (y : Int)) := by omega
        have E : Hid (false = grpB d a b) := (grp_far (by rw [x4]) (by rw [y4]) hne).symm
        simp only [x4, y4]
        clear x4 y4 hxy
        go_wp2_with fail
        go_ret
        exact ⟨ret_bool (E.out), HB2.out⟩
/-- Neither gives nothing, and they are two. -/
def twoI (d : FuncD) (a b : Nat) : Bool := !decide (a = b) && !decide (typeF d a = 0) && !decide (typeF d b = 0)
theorem meet_twoI (d : FuncD) (I : Alive) (a b : Nat) : meetB d I a b = (twoI d a b && (grpB d a b || decide ((b : Int) ∈ aftL d I a) || decide ((a : Int) ∈ aftL d I b))) := rfl
/-- What is told of two. -/
def MeetR (d : FuncD) (a b : Int) (v : Bool) : Prop := ((okB d && belowB a (cntF d) && belowB b (cntF d)) = false ∧ v = false) ∨ ((okB d && belowB a (cntF d) && belowB b (cntF d)) = true ∧ ∃ I, Fix d I ∧ v = meetB d I a.toNat b.toNat)
theorem MeetR.one {d : FuncD} {a b : Int} {l m : Bool} (h : MeetR d a b l) (k : MeetR d a b m) : l = m := by
  rcases h with ⟨h1, rfl⟩ | ⟨h1, I, h2, rfl⟩ <;> rcases k with ⟨k1, rfl⟩ | ⟨k1, J, k2, rfl⟩
  · rfl
  · rw [h1] at k1; cases k1
  · rw [h1] at k1; cases k1
  · rw [h2.one k2]
set_option maxHeartbeats 4000000 in
set_option maxRecDepth 100000 in
theorem meetI (M Rb lo : Nat) (d : FuncD) (u2 : Option Addr) (c2 : Nat) (I : Alive) (a b : Nat) (w : World) (hs : SmFunc d) (hF : LvF d) (hG : Grows d I) (h : Lvs w M Rb lo d u2 c2 I) (ha : a < cntF d) (hb : b < cntF d) :
    Calls Tryz.prog 71 #[.pointer (some ⟨M, 0, none⟩), .int .i64 a, .int .i64 b] w fun e w' => e = .returned (.bool (meetB d I a b)) ∧ Below w.heap.size w w' := by
  have hc := hF.cnt
  have fa := aft_fine hF hG ha
  have fb := aft_fine hF hG hb
  have la : (aftL d I a).length ≤ 60 := Nat.le_trans fa.len hc
  have lb : (aftL d I b).length ≤ 60 := Nat.le_trans fb.len hc
  obtain ⟨T, t3, tT⟩ := h.ty
  have m0 := h.ptr
  have ea := (tT a ha).2
  have eb := (tT b hb).2
  have hai : (a : Int) < cntF d := by omega
  have hbi : (b : Int) < cntF d := by omega
  have ha60 : (a : Int) < 60 := by omega
  have hb60 : (b : Int) < 60 := by omega
  have G := grpI M Rb lo d u2 c2 I a b w hs hc h ha hb
  have HL : Hid (Lvs w M Rb lo d u2 c2 I) := h
  have SA := fun (W : World) (la' : Nat) (u : Option Addr) (c : Nat) (hv : IntsAt W la' u (aftL d I a)) => setHasI la' u c (aftL d I a) (b : Int) W (by omega) fa.1 hv
  have SB := fun (W : World) (la' : Nat) (u : Option Addr) (c : Nat) (hv : IntsAt W la' u (aftL d I b)) => setHasI la' u c (aftL d I b) (a : Int) W (by omega) fb.1 hv
  have E0 := meet_twoI d I a b
  clear hs hF hG h tT
  by_cases hab : a = b
  · have E : Hid (false = meetB d I a b) := by show _ = _; rw [E0]; simp [twoI, hab]
    subst hab
    clear E0 G
    go_enter Tryz.func71, Tryz.ntmps71
    go_wp2_with fail
    go_ret
    exact ⟨ret_bool E.out, Below.refl _ _⟩
  · have hab' : ¬ ((a : Int) = (b : Int)) := by omega
    have qa : ((a : Int) == (b : Int)) = false := by simpa using hab'
    by_cases h1 : typeF d a = 0
    · have E : Hid (false = meetB d I a b) := by show _ = _; rw [E0]; simp [twoI, h1]
      rw [h1] at ea
      clear E0 G h1 hab
      go_enter Tryz.func71, Tryz.ntmps71
      go_wp2_with (first | fail)
      go_ret
      exact ⟨ret_bool E.out, Below.refl _ _⟩
    · by_cases h2 : typeF d b = 0
      · have E : Hid (false = meetB d I a b) := by show _ = _; rw [E0]; simp [twoI, h2]
        rw [h2] at eb
        have qb : (typeF d a == 0) = false := by simpa using h1
        clear E0 G h2 hab
        go_enter Tryz.func71, Tryz.ntmps71
        go_wp2_with (first | fail)
        go_ret
        exact ⟨ret_bool E.out, Below.refl _ _⟩
      · have E1 : meetB d I a b = (grpB d a b || decide ((b : Int) ∈ aftL d I a) || decide ((a : Int) ∈ aftL d I b)) := by rw [E0]; simp [twoI, h1, h2, hab]
        have qb : (typeF d a == 0) = false := by simpa using h1
        have qc : (typeF d b == 0) = false := by simpa using h2
        clear E0 hab
        cases hg : grpB d a b with
        | true =>
          have E : Hid (true = meetB d I a b) := by show _ = _; rw [E1, hg]; rfl
          rw [hg] at G
          clear E1 hg
          go_enter Tryz.func71, Tryz.ntmps71
          go_wp2_with (first | (go_at_call 98; refine G.mono ?_; rintro e w1 ⟨rfl, b1⟩; have HB1 : Hid (Below w.heap.size w w1) := b1; obtain ⟨ua, xa, e1, i1⟩ := (HL.out.below b1).aft a ha; have H1 := SA w1 _ _ xa i1) | fail)
          go_ret
          exact ⟨ret_bool E.out, HB1.out⟩
        | false =>
          rw [hg] at G E1
          clear hg
          by_cases hm : (b : Int) ∈ aftL d I a
          · have E : Hid (true = meetB d I a b) := by show _ = _; rw [E1]; simp [hm]
            have hD : decide ((b : Int) ∈ aftL d I a) = true := by simpa using hm
            clear E1
            go_enter Tryz.func71, Tryz.ntmps71
            go_wp2_with (first | (go_at_call 98; refine G.mono ?_; rintro e w1 ⟨rfl, b1⟩; have HB1 : Hid (Below w.heap.size w w1) := b1; obtain ⟨ua, xa, e1, i1⟩ := (HL.out.below b1).aft a ha; have H1 := SA w1 _ _ xa i1; rw [hD] at H1) | (go_at_call 99; refine H1.mono ?_; rintro e w2 ⟨rfl, b2⟩; have HB2 : Hid (Below w.heap.size w w2) := HB1.out.trans (b2.mono HB1.out.size); obtain ⟨ub, xb, e2, i2⟩ := (HL.out.below HB2.out).aft b hb; have H2 := SB w2 _ _ xb i2; clear H1) | fail)
            go_ret
            exact ⟨ret_bool E.out, HB2.out⟩
          · have E : Hid (decide ((a : Int) ∈ aftL d I b) = meetB d I a b) := by show _ = _; rw [E1]; simp [hm]
            have hD : decide ((b : Int) ∈ aftL d I a) = false := by simpa using hm
            clear E1
            go_enter Tryz.func71, Tryz.ntmps71
            go_wp2_with (first | (go_at_call 98; refine G.mono ?_; rintro e w1 ⟨rfl, b1⟩; have HB1 : Hid (Below w.heap.size w w1) := b1; obtain ⟨ua, xa, e1, i1⟩ := (HL.out.below b1).aft a ha; have H1 := SA w1 _ _ xa i1; rw [hD] at H1) | (go_at_call 99; refine H1.mono ?_; rintro e w2 ⟨rfl, b2⟩; have HB2 : Hid (Below w.heap.size w w2) := HB1.out.trans (b2.mono HB1.out.size); obtain ⟨ub, xb, e2, i2⟩ := (HL.out.below HB2.out).aft b hb; have H2 := SB w2 _ _ xb i2; clear H1) | (go_at_call 99; have h2 := H2; refine H2.mono ?_; rintro e w3 ⟨rfl, b3⟩; have HB3 : Hid (Below w.heap.size w w3) := HB2.out.trans (b3.mono HB2.out.size)) | fail)
            go_ret
            exact ⟨ret_bool E.out, HB3.out⟩
end Go.Proofs.YtolaghondjfhdabGreatDoor
