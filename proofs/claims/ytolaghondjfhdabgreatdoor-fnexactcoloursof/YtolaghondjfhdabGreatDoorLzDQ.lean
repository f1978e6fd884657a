/- Colours told: the model. -/
import Derived.Test.YtolaghondjfhdabGreatDoorLzAQ
import Derived.Test.YtolaghondjfhdabGreatDoorLyEQ
namespace Go.Proofs.YtolaghondjfhdabGreatDoor
open Go.RowKit
set_option linter.unusedVariables false

theorem held_no {d : FuncD} {I : Alive} {l : List Int} {n k : Nat} (h : meetB d I n k = false) : heldL d I l n (k + 1) = heldL d I l n k := by
  show (if meetB d I n k = true then _ else _) = _
  rw [h]; rfl
theorem held_yes {d : FuncD} {I : Alive} {l : List Int} {n k : Nat} (h : meetB d I n k = true) : heldL d I l n (k + 1) = ins (heldL d I l n k) (l.getD k 0) := by
  show (if meetB d I n k = true then _ else _) = _
  rw [h]; rfl
set_option maxHeartbeats 16000000 in
set_option maxRecDepth 100000 in
theorem coloursZ (lo : Nat) (d : FuncD) (u0 : Option Addr) (c0 : Nat) (u2 : Option Addr) (c2 : Nat) (w : World) (hs : SmFunc d) (hO : okB d = true) (k0 : IntsAt w lo u0 d.params) (k2 : BlocksAt w lo u2 d.blocks) :
    Calls Tryz.prog 16 #[.agg #[.slice u0 d.params.length c0, .int .i64 d.ret, .slice u2 d.blocks.length c2]] w fun e w' => ∃ v, e = .returned v ∧ ∃ l, ColsR d l ∧ SlAt w' w.heap.size v l ∧ Below w.heap.size w w' := by
  have F0 := FBox.start (d := d) (u0 := u0) (u2 := u2) (c0 := c0) (c2 := c2) (w := w) (T := 30)
  have hF : LvF d := ok_lvf hO
  have hf : funcB 3 d = true := by simp only [okB, Bool.and_eq_true] at hO; exact hO.1
  have hc : cntF d ≤ 60 := hF.cnt
  have HO : Hid (okB d = true) := hO
  have HT : Hid (∀ n : Nat, n < cntF d → 0 ≤ typeF d n) := fun n hn => (form_of hf).type_ge (id := (n : Int)) (by omega) (by omega)
  have I0 := insZ lo d u0 c0 u2 c2 _ hs hF (k2.keep (agree_of_below F0.below lo))
  have C := fun W (k : Below w.heap.size w W) => countS_any lo d u0 c0 u2 c2 W hs (k2.keep (agree_of_below k lo))
  have T0 := fun (n : Nat) W (k : Below w.heap.size w W) (hn : n < cntF d) => typeS_any lo d u0 c0 u2 c2 n W hs (k0.keep (agree_of_below k lo)) (k2.keep (agree_of_below k lo)) (by omega)
  have M0 := fun (n m : Nat) gi I W (k : Below w.heap.size w W) hG hI (hn : n < cntF d) (hm : m < cntF d) => meetZ lo d u0 c0 u2 c2 n m gi (gi + 1) d.blocks.length I W hs hf hF hG hI (k0.keep (agree_of_below k lo)) (k2.keep (agree_of_below k lo)) hn hm
  have a0 := F0.a0
  have a1 := F0.a1
  have a2 := F0.a2
  have HF0 : Hid (FBox d u0 c0 u2 c2 w _) := F0
  clear hs k0 k2 F0 hF hf hO
  go_enter Tryz.func16, Tryz.ntmps16
  go_wp2_with fail
  refine I0.mono ?_
  rintro e w4 ⟨gi, rfl, I, hfx, hgr, hgi, hin, b4⟩
  have HFX : Hid (Fix d I) := hfx
  have HG : Hid (Grows d I) := hgr
  have HIN : Hid (InsAt w4 gi (gi + 1) d.blocks.length I) := hin.at
  have HF4 : Hid (FBox d u0 c0 u2 c2 w w4) := HF0.out.keep b4
  clear hfx hgr hin b4 I0 a0 a1 a2 HF0
  go_wp2_with fail
  --CUT1
  go_loopw [4, 5] (fun st i wr => ∃ (k g c : Nat) (l : List Int), k ≤ cntF d ∧ i = .int .i64 k ∧ st = .slice (some ⟨g, 0, none⟩) l.length c ∧ Hid (Row wr w4.heap.size (.slice (some ⟨g, 0, none⟩) l.length c) l) ∧ Hid (Cols d I l k) ∧ Hid (Below w4.heap.size w4 wr)) (fun _ i _ => cntF d - (intOf i).toNat)
  case atStart => exact ⟨0, w4.heap.size, 0, [], by omega, rfl, rfl, Row.lit w4 w4.heap.size (Nat.le_refl _), Cols.start d I, (Below.refl _ _).alloc (Nat.le_refl _) _⟩
  case round =>
    obtain ⟨k, g, c, l, hk, rfl, rfl, HX, HCO, HB⟩ := hrel
    obtain ⟨wo, hwo⟩ : ∃ wo, wo = wr := ⟨_, rfl⟩
    subst hwo
    have HFr : Hid (FBox d u0 c0 u2 c2 w wo) := HF4.out.keep HB.out
    have z0 := HFr.out.a0
    have z1 := HFr.out.a1
    have z2 := HFr.out.a2
    have HLL : Hid (l.length = k) := HCO.out.1
    have hl60 : l.length ≤ 60 := by have := HLL.out; omega
    go_wp2_with fail
    refine (C _ HFr.out.below).mono ?_
    rintro e w5 ⟨rfl, b5⟩
    have HB5 : Hid (Below w4.heap.size w4 w5) := HB.out.trans (b5.mono HB.out.size)
    have HF5 : Hid (FBox d u0 c0 u2 c2 w w5) := HFr.out.keep b5
    have HX5 : Hid (Row w5 w4.heap.size (.slice (some ⟨g, 0, none⟩) l.length c) l) := HX.out.keep b5
    clear z0 z1 z2 b5 HX HB
    by_cases hlt : k < cntF d
    · have hltI : (k : Int) < cntF d := by omega
      have z0 := HF5.out.a0
      have z1 := HF5.out.a1
      have z2 := HF5.out.a2
      go_wp2_with fail
      refine (T0 k _ HF5.out.below hlt).mono ?_
      rintro e w6 ⟨rfl, b6⟩
      have HB6 : Hid (Below w4.heap.size w4 w6) := HB5.out.trans (b6.mono HB5.out.size)
      have HF6 : Hid (FBox d u0 c0 u2 c2 w w6) := HF5.out.keep b6
      have HX6 : Hid (Row w6 w4.heap.size (.slice (some ⟨g, 0, none⟩) l.length c) l) := HX5.out.keep b6
      have hz6 := HB6.out.size
      clear z0 z1 z2 b6 HX5 HB5 HF5
      have ht := HT.out k hlt
      by_cases h0 : typeF d k = 0
      · have HN : Hid (OneC d I l k (-1)) := .inl ⟨h0, rfl⟩
        rw [h0]
        clear h0 ht
        go_wp2_with (at_builtin; refine push_at rfl _ _ rfl w4.heap.size (.slice (some ⟨g, 0, none⟩) l.length c) l rfl (HX6.out.alloc _) (-1) _ 1 rfl (by exact one_cell_at (by simp)) (by omega) (by simp; omega) _ rfl ?_; intro g3 c3 w7 ho7 hg7 _ _)
        have HX7 : Hid (Row w7 w4.heap.size (.slice (some ⟨g3, 0, none⟩) (l ++ [-1]).length c3) (l ++ [-1])) := by show Row _ _ _ _; rw [List.length_append]; exact ho7
        have HB7 : Hid (Below w4.heap.size w4 w7) := (HB6.out.alloc hz6 _).grown hg7 (by simp; omega) (fun q hq => (HX6.out.ge hq).1)
        clear ho7 hg7
        go_wp2_with fail
        go_roundw
        case rel => exact ⟨k + 1, g3, c3, l ++ [-1], by omega, by go_num, by rw [List.length_append]; rfl, HX7, HCO.out.next HN.out, HB7⟩
        case measure => simp [intOf]; omega
      · have hn1 : ¬ typeF d k < 1 := by omega
        have HTY : Hid (¬ typeF d k = 0) := h0
        clear h0 ht
        go_wp2_with fail
        --CUT2
        generalize hW : w6.alloc _ = W
        have hW2 : w6.alloc (.cells #[] 2) = W := hW
        have HBW : Hid (Below w4.heap.size w4 W) := by show Below _ _ _; rw [← hW2]; exact HB6.out.alloc hz6 _
        have HXW : Hid (Row W w4.heap.size (.slice (some ⟨g, 0, none⟩) l.length c) l) := by show Row _ _ _ _; rw [← hW2]; exact HX6.out.alloc _
        clear hW hW2
        go_loopw [6, 7] (fun hd i wr => ∃ (j : Nat), j ≤ k ∧ i = .int .i64 j ∧ Hid (SlAt wr w4.heap.size hd (heldL d I l k j)) ∧ Hid (Row wr w4.heap.size (.slice (some ⟨g, 0, none⟩) l.length c) l) ∧ Hid (Below w4.heap.size w4 wr)) (fun _ i _ => k - (intOf i).toNat)
        case atStart => exact ⟨0, by omega, rfl, sl_none _ _ _ hz6, HXW, HBW⟩
        case round =>
          obtain ⟨j, hj, rfl, HHD, HXr, HBr⟩ := hrel
          obtain ⟨wq, hwq⟩ : ∃ wq, wq = wr := ⟨_, rfl⟩
          subst hwq
          clear HBW HXW
          have HFq : Hid (FBox d u0 c0 u2 c2 w wq) := HF4.out.keep HBr.out
          have hhl := held_len d I l k j
          by_cases hjk : j < k
          · have hjkI : (j : Int) < k := by omega
            have z0 := HFq.out.a0
            have z1 := HFq.out.a1
            have z2 := HFq.out.a2
            have ML := M0 k j gi I wq HFq.out.below HG.out (HIN.out.below HBr.out) hlt (by omega)
            go_wp2_with fail
            refine ML.mono ?_
            rintro e w8 ⟨rfl, b8⟩
            have HB8 : Hid (Below w4.heap.size w4 w8) := HBr.out.trans (b8.mono HBr.out.size)
            have HX8 : Hid (Row w8 w4.heap.size (.slice (some ⟨g, 0, none⟩) l.length c) l) := HXr.out.keep b8
            have HH8 : Hid (SlAt w8 w4.heap.size u6 (heldL d I l k j)) := HHD.out.below b8
            clear z0 z1 z2 b8 ML HBr HXr HHD
            cases hm : meetB d I k j with
            | false =>
              go_wp2_with fail
              go_roundw
              case rel => exact ⟨j + 1, by omega, by go_num, by rw [held_no hm]; exact HH8, HX8, HB8⟩
              case measure => simp [intOf]; omega
            | true =>
              have hjlI : (j : Int) < l.length := by have := HLL.out; omega
              obtain ⟨ux, cx, hxv, hxi⟩ := HX8.out.ints (by omega)
              have ej : w8.cell? ⟨g, j, none⟩ = some (.int .i64 (l.getD j 0)) := by
                injection hxv with e1 e2 e3
                subst e1
                rcases hxi.2 with h | ⟨g', off, h, _, _, hcl⟩
                · rw [h] at hjlI; simp at hjlI; omega
                · injection h with h
                  injection h with q1 q2 _
                  subst q1
                  have := hcl j (by omega)
                  rw [← q2, Nat.zero_add] at this
                  exact this
              clear hxi hxv
              have PL := putZ w4.heap.size u6 (heldL d I l k j) (l.getD j 0) w8 HB8.out.size (by omega) HH8.out
              generalize hxe : l.getD j 0 = x at ej PL
              have HXE : Hid (l.getD j 0 = x) := hxe
              clear hxe
              go_wp2_with fail
              refine PL.mono ?_
              rintro e w9 ⟨v9, rfl, s9, b9⟩
              have HB9 : Hid (Below w4.heap.size w4 w9) := HB8.out.trans (b9.mono HB8.out.size)
              have HX9 : Hid (Row w9 w4.heap.size (.slice (some ⟨g, 0, none⟩) l.length c) l) := HX8.out.keep b9
              have HH9 : Hid (SlAt w9 w4.heap.size v9 (heldL d I l k (j + 1))) := by show SlAt _ _ _ _; rw [held_yes hm, HXE.out]; exact s9
              clear s9 b9 PL
              go_wp2_with fail
              go_roundw
              case rel => exact ⟨j + 1, by omega, by go_num, HH9, HX9, HB9⟩
              case measure => simp [intOf]; omega
          · have e : j = k := by omega
            subst e
            go_wp2_with fail
            --CUT3
            go_loopw [8] (fun i wr => ∃ (x : Nat), x ≤ j ∧ i = .int .i64 x ∧ Hid (∀ y, y < x → takB d I l j j y = true) ∧ Hid (SlAt wr w4.heap.size u6 (heldL d I l j j)) ∧ Hid (Row wr w4.heap.size (.slice (some ⟨g, 0, none⟩) l.length c) l) ∧ Hid (Below w4.heap.size w4 wr)) (fun i _ => j + 1 - (intOf i).toNat)
            case atStart => exact ⟨0, by omega, rfl, fun y hy => by omega, HHD, HXr, HBr⟩
            case round =>
              obtain ⟨x, hx, rfl, HTK, HHq, HXq, HBq⟩ := hrel
              obtain ⟨wp, hwp⟩ : ∃ wp, wp = wr := ⟨_, rfl⟩
              subst hwp
              have HL := hasV w4.heap.size u6 (heldL d I l j j) (x : Int) wp (by omega) HHq.out
              go_wp2_with fail
              refine HL.mono ?_
              rintro e w8 ⟨rfl, b8⟩
              have HB8 : Hid (Below w4.heap.size w4 w8) := HBq.out.trans (b8.mono HBq.out.size)
              have HX8 : Hid (Row w8 w4.heap.size (.slice (some ⟨g, 0, none⟩) l.length c) l) := HXq.out.keep b8
              have HH8 : Hid (SlAt w8 w4.heap.size u6 (heldL d I l j j)) := HHq.out.below b8
              have hz8 := HB8.out.size
              clear HL b8
              by_cases hm : (x : Int) ∈ heldL d I l j j
              · have htk := (held_mem d I l j x j).1 hm
                have HT2 : Hid (∀ y, y < x + 1 → takB d I l j j y = true) := fun y hy => by
                  by_cases e : y = x
                  · subst e; exact htk
                  · exact HTK.out y (by omega)
                have hxj := upto_le HT2.out
                rw [decide_eq_true hm]
                clear hm htk
                go_wp2_with fail
                go_roundw
                case rel => exact ⟨x + 1, by omega, by go_num, HT2, HH8, HX8, HB8⟩
                case measure => simp [intOf]; omega
              · have htk : takB d I l j j x = false := by
                  cases e : takB d I l j j x with
                  | false => rfl
                  | true => exact absurd ((held_mem d I l j x j).2 e) hm
                have HN : Hid (OneC d I l j (x : Int)) := .inr ⟨HTY.out, x, rfl, HTK.out, htk⟩
                rw [decide_eq_false hm]
                clear hm htk
                go_wp2_with (at_builtin; refine push_at rfl _ _ rfl w4.heap.size (.slice (some ⟨g, 0, none⟩) l.length c) l rfl (HX8.out.alloc _) (x : Int) _ 1 rfl (by exact one_cell_at (by simp)) (by omega) (by simp; omega) _ rfl ?_; intro g3 c3 w7 ho7 hg7 _ _)
                have HX7 : Hid (Row w7 w4.heap.size (.slice (some ⟨g3, 0, none⟩) (l ++ [(x : Int)]).length c3) (l ++ [(x : Int)])) := by show Row _ _ _ _; rw [List.length_append]; exact ho7
                have HB7 : Hid (Below w4.heap.size w4 w7) := (HB8.out.alloc hz8 _).grown hg7 (by simp; omega) (fun q hq => (HX8.out.ge hq).1)
                clear ho7 hg7
                go_wp2_with fail
                go_roundw
                case rel => exact ⟨j + 1, g3, c3, l ++ [(x : Int)], by omega, by go_num, by rw [List.length_append]; rfl, HX7, HCO.out.next HN.out, HB7⟩
                case measure => simp [intOf]; omega
    · have e : k = cntF d := by omega
      subst e
      have HX2 : Hid (SlAt w5 w4.heap.size (.slice (some ⟨g, 0, none⟩) l.length c) l) := row_sl (by omega) HX5.out
      go_wp2_with fail
      go_ret
      exact ⟨_, rfl, l, .inr ⟨HO.out, I, HFX.out, HCO.out⟩, HX2.out.low HF4.out.below.size, HF5.out.below⟩
set_option maxHeartbeats 4000000 in
set_option maxRecDepth 100000 in
theorem coloursOfS (lo : Nat) (d : FuncD) (u0 : Option Addr) (c0 : Nat) (u2 : Option Addr) (c2 : Nat) (w : World) (hs : SmFunc d) (k0 : IntsAt w lo u0 d.params) (k2 : BlocksAt w lo u2 d.blocks) :
    Calls Tryz.prog 5 #[.agg #[.slice u0 d.params.length c0, .int .i64 d.ret, .slice u2 d.blocks.length c2]] w fun e w' => ∃ v, e = .returned v ∧ ∃ l, ColsR d l ∧ SlAt w' w.heap.size v l ∧ Below w.heap.size w w' := by
  have F0 := FBox.start (d := d) (u0 := u0) (u2 := u2) (c0 := c0) (c2 := c2) (w := w) (T := 30)
  have P := okS lo d u0 c0 u2 c2 _ hs (k0.keep (agree_of_below F0.below lo)) (k2.keep (agree_of_below F0.below lo))
  have Z := fun W (k : Below w.heap.size w W) (hO : okB d = true) => coloursZ lo d u0 c0 u2 c2 W hs hO (k0.keep (agree_of_below k lo)) (k2.keep (agree_of_below k lo))
  have a0 := F0.a0
  have a1 := F0.a1
  have a2 := F0.a2
  have HF0 : Hid (FBox d u0 c0 u2 c2 w _) := F0
  clear hs k0 k2 F0
  cases hO : okB d with
  | false =>
    rw [hO] at P
    have HO : Hid (okB d = false) := hO
    clear hO Z
    go_enter Tryz.func5, Tryz.ntmps5
    go_wp2_with fail
    refine P.mono ?_
    rintro e w2 ⟨rfl, b2⟩
    have HF2 : Hid (FBox d u0 c0 u2 c2 w w2) := HF0.out.keep b2
    have hz := HF2.out.below.size
    go_wp2_with fail
    go_ret
    exact ⟨_, rfl, [], .inl ⟨HO.out, rfl⟩, sl_none _ _ _ (by omega), HF2.out.below.alloc hz _⟩
  | true =>
    rw [hO] at P
    have HO : Hid (okB d = true) := hO
    clear hO
    go_enter Tryz.func5, Tryz.ntmps5
    go_wp2_with fail
    refine P.mono ?_
    rintro e w2 ⟨rfl, b2⟩
    have HF2 : Hid (FBox d u0 c0 u2 c2 w w2) := HF0.out.keep b2
    have z0 := HF2.out.a0
    have z1 := HF2.out.a1
    have z2 := HF2.out.a2
    go_wp2_with fail
    refine (Z _ HF2.out.below HO.out).mono ?_
    rintro e w3 ⟨v3, rfl, l, hl, s3, b3⟩
    have HL : Hid (ColsR d l) := hl
    go_wp2_with fail
    go_ret
    exact ⟨v3, rfl, l, HL.out, s3.low HF2.out.below.size, (HF2.out.keep b3).below⟩
end Go.Proofs.YtolaghondjfhdabGreatDoor
