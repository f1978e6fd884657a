/- Modules as texts: ModuleText of the program. -/
import Derived.Test.YtjpiiemhklphlaaGreatDoorMtS
import Derived.Test.YtjpiiemhklphlaaGreatDoorMtW
import Derived.Test.YtjpiiemhklphlaaGreatDoorTxK
import Derived.Test.YtjpiiemhklphlaaGreatDoorMtC
namespace Go.Proofs.YtjpiiemhklphlaaGreatDoor
open Go.RowKit
set_option linter.unusedVariables false
set_option linter.unusedSimpArgs false

def modText (l : List FuncD) : ByteArray := if modB l = true then bs (xMod l) else ⟨#[]⟩
theorem byte_app (a b : List UInt8) : Lib.byteCells a ++ Lib.strCells (bs b) = Lib.byteCells (a ++ b) := by unfold bs; rw [Lib.strCells_toArray]; unfold Lib.byteCells; rw [List.map_append]
theorem ints_moved {w w' : World} {lo b B : Nat} {a : Option Addr} {l : List Int} (h : IntsAt w lo a l) (hb : b < lo) (hw : w.heap.size ≤ B) (k : BxB b B w w') : IntsAt w' lo a l := by
  refine ⟨h.1, ?_⟩
  rcases h.2 with he | ⟨c, off, ha, hlo, hlt, hc⟩
  · exact .inl he
  · exact .inr ⟨c, off, ha, hlo, by have := k.size; omega, fun i hi => (cell_block (k.block c (by omega) (by omega))).trans (hc i hi)⟩
set_option maxHeartbeats 1000000 in
theorem modText_no (lo : Nat) (l : List FuncD) (u : Option Addr) (c : Nat) (w : World) (hs : SmMod l) (k0 : FuncsAt w lo u l) (hm : modB l = false) :
    Calls Tryz.prog 7 #[.agg #[.slice u l.length c]] w fun e w' => e = .returned (.string ⟨#[]⟩) ∧ Below w.heap.size w w' := by
  have P1 := modShI lo l u c (w.alloc (.cells #[.slice u l.length c] 29)) hs (k0.keep (agree_alloc _ _ _))
  rw [hm] at P1
  have B0 : Below w.heap.size w (w.alloc (.cells #[.slice u l.length c] 29)) := (Below.refl _ w).alloc (Nat.le_refl _) _
  go_enter Tryz.func7, Tryz.ntmps7
  go_wp2_with fail
  refine P1.mono ?_
  rintro e w1 ⟨rfl, b1⟩
  go_wp2_with fail
  go_ret
  exact ⟨rfl, B0.trans (b1.mono B0.size)⟩
set_option maxHeartbeats 8000000 in
set_option maxRecDepth 100000 in
theorem modText_yes (lo : Nat) (l : List FuncD) (u : Option Addr) (c : Nat) (w : World) (hs : SmMod l) (k0 : FuncsAt w lo u l) (hm : modB l = true) (hO : OpsAt w) (hT : TmsAt w) (hP : PowAt w) :
    Calls Tryz.prog 7 #[.agg #[.slice u l.length c]] w fun e w' => e = .returned (.string (bs (xMod l))) ∧ Below w.heap.size w w' := by
  have P1 := modShI lo l u c (w.alloc (.cells #[.slice u l.length c] 29)) hs (k0.keep (agree_alloc _ _ _))
  rw [hm] at P1
  have hlen := xMod_len hm
  have hLl := modL_len hm
  have hLk : Hid (∀ x ∈ modL l, LnOk x) := mod_lnok hm
  have hLe : Hid ((modL l).flatMap lnT = xMod l) := mod_lines l
  have P2 := fun W (k : Below w.heap.size w W) => moduleLinesI lo l u c W hs hm (k0.keep (agree_of_below k lo)) (hO.keep k) (hT.keep k)
  have HP : Hid (PowAt w) := hP
  have A0 := At.new w #[.slice u l.length c] 29
  have B0 : Below w.heap.size w (w.alloc (.cells #[.slice u l.length c] 29)) := (Below.refl _ w).alloc (Nat.le_refl _) _
  have hmp : 0 < (modL l).length := by
    have hpos : 1 ≤ l.length := by simp only [modB, Bool.and_eq_true, decide_eq_true_eq] at hm; exact hm.1.1
    obtain ⟨f, r, rfl⟩ : ∃ f r, l = f :: r := by cases l with | nil => simp at hpos | cons f r => exact ⟨f, r, rfl⟩
    unfold modL funL
    simp
  clear hO hT hP hs k0 hm
  go_enter Tryz.func7, Tryz.ntmps7
  go_wp2_with fail
  refine P1.mono ?_
  rintro e w1 ⟨rfl, b1⟩
  have A1 := A0.below b1
  have B1 := B0.trans (b1.mono B0.size)
  have bx : Below w1.heap.size w1 (w1.alloc (.cells #[.pointer none, .slice none 0 0] 39)) := (Below.refl _ _).alloc (Nat.le_refl _) _
  have AB := At.new w1 #[.pointer none, .slice none 0 0] 39
  have ex : (w1.alloc (.cells #[.pointer none, .slice none 0 0] 39)).heap.size = w1.heap.size + 1 := by simp
  have A2 := A1.below bx
  have B2 := B1.trans (bx.mono B1.size)
  have y0 : (w1.alloc (.cells #[.pointer none, .slice none 0 0] 39)).cell? ⟨w.heap.size, 0, none⟩ = some (.slice u l.length c) := A2.cell 0
  have y1 : w1.cell? ⟨w.heap.size, 0, none⟩ = some (.slice u l.length c) := A1.cell 0
  have z1 : w.heap.size < w1.heap.size := A1.lt
  clear P1 A0 B0
  go_wp2_with fail
  have P3 := P2 _ B2
  generalize (w1.alloc (.cells #[.pointer none, .slice none 0 0] 39)) = W2 at P3 AB ex A2 B2 y0 bx ⊢
  clear y0 y1 P2 A1 b1 A2
  refine P3.mono ?_
  rintro e w3 ⟨⟨g, c3, xs, rfl, hL⟩, b3⟩
  have HB3 : Hid (Below w.heap.size w w3) := B2.trans (b3.mono B2.size)
  have HA : Hid (At w3 w1.heap.size #[.pointer none, .slice none 0 0] 39) := AB.below b3
  have HL : Hid (Lns w3 W2.heap.size (.slice (some ⟨g, 0, none⟩) (modL l).length c3) (modL l) xs) := hL
  have z3 : W2.heap.size ≤ w3.heap.size := b3.size
  have hg := (hL.row.lt g rfl)
  have hBl : BlA w3 w3.heap.size w1.heap.size (Lib.byteCells (([] : List Ln).flatMap lnT)) := .inr ⟨rfl, ⟨HA.out, World.ownsRow_nil _ _ _ _, by simp [Value.ownBlock]⟩⟩
  have HBl : Hid (BlA w3 w3.heap.size w1.heap.size (Lib.byteCells (([] : List Ln).flatMap lnT))) := hBl
  generalize modL l = L at hLl hLk hLe HL hmp ⊢
  generalize hXe : xMod l = X at hlen hLe
  have HXe : Hid (xMod l = X) := hXe
  clear hXe
  clear hL b3 P3 AB B1 B2 hBl HA bx
  go_wp2_with fail
  go_loopw [12] (fun i wr => ∃ (j : Nat), j ≤ L.length ∧ i = .int .i64 j ∧ Hid (BlA wr w3.heap.size w1.heap.size (Lib.byteCells ((L.take j).flatMap lnT))) ∧ Hid (BxB w1.heap.size w3.heap.size w3 wr)) (fun i _ => L.length - (intOf i).toNat)
  case atStart => exact ⟨0, by omega, rfl, HBl, BxB.refl _ _ _⟩
  case round =>
    obtain ⟨j, hj, rfl, HBl, HX⟩ := hrel
    obtain ⟨wo, hwo⟩ : ∃ wo, wo = wr := ⟨_, rfl⟩
    subst hwo
    by_cases hlt : j < L.length
    · obtain ⟨a, cc, h1, h2, h3⟩ := HL.out.cells j hlt
      have hok := hLk.out _ (getD_mem ln0 L j hlt)
      have hfs := flat_snocX (z := ln0) lnT hlt
      have hfl := flat_leX L lnT (j + 1)
      rw [hfs, List.length_append] at hfl
      have HN : Hid ((L.take (j + 1)).flatMap lnT = (L.take j).flatMap lnT ++ lnT (L.getD j ln0)) := hfs
      have hXl : (L.flatMap lnT).length ≤ 51000 := by rw [hLe.out]; exact hlen
      generalize (L.take j).flatMap lnT = P at hfl HN HBl
      generalize L.getD j ln0 = x at h1 h2 h3 hok HN hfl
      have e1 : wo.cell? ⟨g, j * 2, none⟩ = some (.string (bs x.1)) := (cell_block (HX.out.block g hg.2 (by omega))).trans ((congrArg w3.cell? (by simp [Addr.add])).trans (HL.out.row.cells (g := g) rfl (j * 2) _ h1))
      have e2 : wo.cell? ⟨g, j * 2 + 1, none⟩ = some (.slice a x.2.length cc) := (cell_block (HX.out.block g hg.2 (by omega))).trans ((congrArg w3.cell? (by simp [Addr.add])).trans (HL.out.row.cells (g := g) rfl (j * 2 + 1) _ h2))
      have hI : IntsAt wo W2.heap.size a x.2 := ints_moved h3.ints (by omega) (Nat.le_refl _) HX.out
      have bx : Below wo.heap.size wo (wo.alloc (.cells #[.string (bs x.1), .slice a x.2.length cc] 44)) := (Below.refl _ _).alloc (Nat.le_refl _) _
      have hBw : Below w.heap.size w wo := HB3.out.trans ⟨HX.out.os, HX.out.tape, HX.out.output, HX.out.size, fun i hi => HX.out.block i (by have := HB3.out.size; omega) (by omega)⟩
      have P4 := textI W2.heap.size a cc (bs x.1) x.2 _ (hI.keep (agree_of_below bx _)) hok.n hok.s (by rw [bs_size]; exact hok.w) (HP.out.keep (hBw.trans (bx.mono hBw.size)))
      have hxl : (lnT x).length = x.1.length + (numsL x.2).length + 1 := by unfold lnT; simp only [List.length_append, List.length_cons, List.length_nil]
      have HY : Hid (lnT x = (x.1 ++ numsL x.2) ++ [10]) := by show _ = _; unfold lnT; rfl
      rw [bs_append] at P4
      have hts : (x.1 ++ numsL x.2).length ≤ 51000 := by rw [List.length_append]; omega
      have hPt : P.length + (x.1 ++ numsL x.2).length ≤ 51000 := by rw [List.length_append]; omega
      generalize x.1 ++ numsL x.2 = t at P4 HY hts hPt
      have zo : w3.heap.size ≤ wo.heap.size := HX.out.size
      have HBx : Hid (BlA (wo.alloc (.cells #[.string (bs x.1), .slice a x.2.length cc] 44)) w3.heap.size w1.heap.size (Lib.byteCells P)) := HBl.out.keep bx
      have HXx : Hid (BxB w1.heap.size w3.heap.size w3 (wo.alloc (.cells #[.string (bs x.1), .slice a x.2.length cc] 44))) := HX.out.below bx zo
      have ex2 : (wo.alloc (.cells #[.string (bs x.1), .slice a x.2.length cc] 44)).heap.size = wo.heap.size + 1 := by simp
      clear h1 h2 h3 hok hfs hI bx hBw HBl HX
      go_wp2_with fail
      generalize (wo.alloc (.cells #[.string (bs x.1), .slice a x.2.length cc] 44)) = wx at P4 HBx HXx ex2 ⊢
      clear e1 e2
      refine P4.mono ?_
      rintro e w4 ⟨rfl, b4⟩
      have z4 : w3.heap.size ≤ w4.heap.size := by have := b4.size; omega
      have P5 := writeA w4 w3.heap.size w1.heap.size (Lib.byteCells P) (bs t) (HBx.out.keep b4) (by rw [Lib.byteCells_length, bs_size]; omega) z4
      have HX4 : Hid (BxB w1.heap.size w3.heap.size w3 w4) := HXx.out.below b4 (by omega)
      rw [byte_app] at P5
      clear b4 HBx HXx P4
      generalize hbt : bs t = tb at P5 ⊢
      have hbz : tb.size ≤ 51000 := by rw [← hbt, bs_size]; exact hts
      clear hbt
      go_wp2_with fail
      refine P5.mono ?_
      rintro e w5 ⟨rfl, hv5, hx5⟩
      have HX5 : Hid (BxB w1.heap.size w3.heap.size w3 w5) := HX4.out.trans hx5
      have z5 : w3.heap.size ≤ w5.heap.size := by have := hx5.size; omega
      have P6 := writeA w5 w3.heap.size w1.heap.size (Lib.byteCells (P ++ t)) (bs [10]) (.inl hv5) (by rw [Lib.byteCells_length, bs_size, List.length_append]; show P.length + t.length + 1 ≤ _; omega) z5
      rw [byte_app, List.append_assoc, ← HY.out, ← HN.out] at P6
      clear hv5 hx5 P5 HX4
      go_wp2_with fail
      refine P6.mono ?_
      rintro e w6 ⟨rfl, hv6, hx6⟩
      have HX6 : Hid (BxB w1.heap.size w3.heap.size w3 w6) := HX5.out.trans hx6
      have HB6 : Hid (BlA w6 w3.heap.size w1.heap.size (Lib.byteCells ((L.take (j + 1)).flatMap lnT))) := .inl hv6
      clear hv6 hx6 P6 HX5
      go_wp2_with fail
      go_roundw
      case rel => exact ⟨j + 1, by omega, by go_num, HB6, HX6⟩
      case measure => simp [intOf]; omega
    · have hE : (L.take j).flatMap lnT = X := by rw [flat_allX L lnT hlt]; exact hLe.out
      have hB := HBl.out
      rw [hE] at hB
      have hX0 : X ≠ [] := by
        intro h0
        have h1 := hLe.out
        rw [h0] at h1
        cases L with
        | nil => simp at hmp
        | cons y r => rw [List.flatMap_cons] at h1; unfold lnT at h1; simp at h1
      obtain ⟨v, hv⟩ : ∃ v, Bl2 wo w3.heap.size w1.heap.size (.pointer (some ⟨w1.heap.size, 0, none⟩)) v (Lib.byteCells X) := by
        rcases hB with h | ⟨h, _⟩
        · exact h
        · exact absurd (by simpa [Lib.byteCells] using h) hX0
      have P7 := stringU wo w3.heap.size w1.heap.size _ v X hv hX0
      have HBw : Hid (Below w.heap.size w wo) := HB3.out.trans ⟨HX.out.os, HX.out.tape, HX.out.output, HX.out.size, fun i hi => HX.out.block i (by have := HB3.out.size; omega) (by omega)⟩
      have hown := fun k (e : v.ownBlock = some k) => (hv.row.lt k e).1
      clear hE hB hv HBl HX
      go_wp2_with fail
      refine P7.mono ?_
      rintro e w8 ⟨rfl, g8, hg8, h8⟩
      have hB8 : Below w.heap.size w (wo.drew.freeze ⟨g8, 0, none⟩ X.length) := Lib.below_freeze (Below.drew HBw.out) (p := ⟨g8, 0, none⟩) (by have := hown g8 hg8; have := HB3.out.size; show w.heap.size ≤ g8; omega) _
      rw [← h8] at hB8
      clear h8 hown hg8 P7
      go_wp2_with fail
      go_ret
      exact ⟨by rw [HXe.out]; rfl, hB8⟩
theorem modTextI (lo : Nat) (l : List FuncD) (u : Option Addr) (c : Nat) (w : World) (hs : SmMod l) (k0 : FuncsAt w lo u l) (hO : OpsAt w) (hT : TmsAt w) (hP : PowAt w) :
    Calls Tryz.prog 7 #[.agg #[.slice u l.length c]] w fun e w' => e = .returned (.string (modText l)) ∧ Below w.heap.size w w' := by
  unfold modText
  by_cases hm : modB l = true
  · rw [if_pos hm]; exact modText_yes lo l u c w hs k0 hm hO hT hP
  · rw [if_neg hm]; exact modText_no lo l u c w hs k0 (by simpa using hm)
end Go.Proofs.YtjpiiemhklphlaaGreatDoor
namespace Go.Proofs.YtjpiiemhklphlaaGreatDoor
open Go.RowKit
set_option linter.unusedVariables false

set_option maxHeartbeats 2000000 in
theorem modTextS (lo : Nat) (l : List FuncD) (u : Option Addr) (c : Nat) (w : World) (hs : SmMod l) (k0 : FuncsAt w lo u l) :
    Calls Tryz.prog 5 #[.agg #[.slice u l.length c]] w fun e w' => e = .returned (.string (modText l)) ∧ Below w.heap.size w w' := by
  have P1 := modShS lo l u c (w.alloc (.cells #[.slice u l.length c] 29)) hs (k0.keep (agree_alloc _ _ _))
  have A0 := At.new w #[.slice u l.length c] 29
  have B0 : Below w.heap.size w (w.alloc (.cells #[.slice u l.length c] 29)) := (Below.refl _ w).alloc (Nat.le_refl _) _
  unfold modText
  by_cases hm : modB l = true
  · rw [if_pos hm]
    have P2 := fun W (k : Below w.heap.size w W) => l5TextS lo l u c W hs hm (k0.keep (agree_of_below k lo))
    rw [hm] at P1
    clear hm
    generalize bs (xMod l) = X at P2 ⊢
    go_enter Tryz.func5, Tryz.ntmps5
    go_wp2_with fail
    refine P1.mono ?_
    rintro e w1 ⟨rfl, b1⟩
    have B1 := B0.trans (b1.mono B0.size)
    have y0 : w1.cell? ⟨w.heap.size, 0, none⟩ = some (.slice u l.length c) := (A0.below b1).cell 0
    go_wp2_with fail
    refine (P2 _ B1).mono ?_
    rintro e w2 ⟨rfl, b2⟩
    go_wp2_with fail
    go_ret
    exact ⟨rfl, B1.trans (b2.mono B1.size)⟩
  · rw [if_neg hm]
    have hm' : modB l = false := by simpa using hm
    rw [hm'] at P1
    clear hm hm'
    go_enter Tryz.func5, Tryz.ntmps5
    go_wp2_with fail
    refine P1.mono ?_
    rintro e w1 ⟨rfl, b1⟩
    go_wp2_with fail
    go_ret
    exact ⟨rfl, B0.trans (b1.mono B0.size)⟩
end Go.Proofs.YtjpiiemhklphlaaGreatDoor
namespace Go.Proofs.YtjpiiemhklphlaaGreatDoor
open Go.RowKit
set_option linter.unusedVariables false

set_option maxHeartbeats 4000000 in
theorem fnExactModuleText_core (lo : Nat) (l : List FuncD) (u : Option Addr) (c : Nat) (w : World) (k : FuncsAt w lo u l) (hO : OpsAt w) (hT : TmsAt w) (hP : PowAt w) :
    Calls Tryz.prog 3 #[.agg #[.slice u l.length c]] w fun e w' => e = .returned (.bool true) ∧ Below w.heap.size w w' := by
  have X1 := Box1.new w l.length u c 24
  have B1 : Below w.heap.size w (w.alloc (.cells #[.slice u l.length c] 24)) := (Below.refl _ w).alloc (Nat.le_refl _) _
  go_enter Tryz.func3, Tryz.ntmps3
  go_wp2_with fail
  refine (szModule_any lo l u c _ _ (by omega) (by omega) (k.keep (agree_alloc _ _ _))).mono ?_
  rintro e w1 ⟨rfl, hb1⟩
  have Y1 := X1.below hb1
  have C1 := B1.trans (hb1.mono (by simp))
  clear X1 B1 hb1
  have y0 := Y1.2
  rcases szS_falls szFunc_falls l 1048576 with hz | ⟨hz, _⟩
  · have hz2 : szS szFunc l 1048576 < 0 := by omega
    clear hz
    go_wp2_with fail
    go_ret
    exact ⟨rfl, C1⟩
  · have hs := szMod_small (by omega) hz
    have hz3 : ¬ szS szFunc l 1048576 < 0 := by omega
    go_wp2_with fail
    refine (toModule_any lo l u c _ hs (k.keep (agree_of_below C1 lo))).mono ?_
    rintro e w2 ⟨v2, q2, rfl, n2, hb2⟩
    have C2 := C1.trans (hb2.mono C1.size)
    have Y2 := Y1.below hb2
    clear y0
    go_wp2_with fail
    refine (modTextS _ l v2 q2 _ hs n2).mono ?_
    rintro e w3 ⟨rfl, hb3⟩
    have C3 := C2.trans (hb3.mono C2.size)
    have Y3 := Y2.below hb3
    clear Y1 Y2 C1 C2 hb2 hb3 n2
    have y0 := Y3.2
    go_wp2_with fail
    refine (toModule_any lo l u c _ hs (k.keep (agree_of_below C3 lo))).mono ?_
    rintro e w4 ⟨v4, q4, rfl, n4, hb4⟩
    have C4 := C3.trans (hb4.mono C3.size)
    have Y4 := Y3.below hb4
    have C4' := C4.alloc C4.size (.cells #[.slice v4 l.length q4] 29)
    have Y4' := Y4.alloc (.cells #[.slice v4 l.length q4] 29)
    have X4' := Box1.new w4 l.length v4 q4 29
    have n4' := n4.keep (agree_alloc _ (.cells #[.slice v4 l.length q4] 29) _)
    clear y0 Y3 Y4 hb4 C3 C4 n4
    go_wp2_with fail
    refine (modTextI _ l v4 q4 _ hs n4' (hO.keep C4') (hT.keep C4') (hP.keep C4')).mono ?_
    rintro e w5 ⟨rfl, hb5⟩
    have C5 := C4'.trans (hb5.mono C4'.size)
    have Y5 := Y4'.below hb5
    have X5 := X4'.below hb5
    have n45 := n4'.keep (agree_of_below hb5 _)
    have K5 := k.keep (agree_of_below C5 lo)
    have y0 := (Y5.below (Below.refl _ _).drew).2
    have x0 := (X5.below (Below.refl _ _).drew).2
    clear Y4' X4' n4' hb5 C4'
    generalize modText l = T
    go_wp2_with fail
    go_region_held2 (fun w' => w'.cell? ⟨w.heap.size, 0, none⟩ = some (.slice u l.length c) ∧ w'.cell? ⟨w4.heap.size, 0, none⟩ = some (.slice v4 l.length q4)) (first | with_reducible exact ⟨y0, x0⟩ | with_reducible exact ⟨p0, r0⟩ | with_reducible exact ⟨g0, h0⟩) (first | (go_at_call 6; refine (toModule_any lo l u c _ hs (by exact K5)).mono ?_; rintro e w7 ⟨v7, q7, rfl, n7, hb7⟩; have hb7 := bel_drew hb7; have p0 := (Y5.below hb7).2; have r0 := (X5.below hb7).2) | (go_at_call 8; refine (eqModule_any _ _ l v4 q4 v7 q7 _ (n45.keep (agree_of_below hb7 _)) n7).mono ?_; rintro e w8 ⟨rfl, hb8⟩; have g0 := ((Y5.below hb7).below hb8).2; have h0 := ((X5.below hb7).below hb8).2))
    all_goals
      have hb58 : Below w5.heap.size w5 w8 := hb7.trans (hb8.mono hb7.size)
      have C8 := C5.trans (hb58.mono C5.size)
      go_wp2_with fail
      go_ret
      exact ⟨rfl, C8⟩
end Go.Proofs.YtjpiiemhklphlaaGreatDoor
