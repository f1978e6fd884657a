/- What is alive: the program's goRound. -/
import Derived.Test.YtolaghondjfhdabGreatDoorLwJQ
import Derived.Test.YtolaghondjfhdabGreatDoorLwKQ
namespace Go.Proofs.YtolaghondjfhdabGreatDoor
open Go.RowKit
set_option linter.unusedVariables false

theorem updL_fine {c : Nat} {F : Alive} (h : ∀ j, Fine c (F j)) (j : Nat) {l : List Int} (hl : Fine c l) : ∀ i, Fine c (updL F j l i) := fun i => by
  by_cases e : i = j
  · subst e; rw [updL_same]; exact hl
  · rw [updL_other _ e]; exact h i
theorem thru_fine {d : FuncD} (hF : LvF d) {F : Alive} (h : ∀ j, Fine (cntF d) (F j)) {b : Nat} (hb : b < d.blocks.length) : ∀ j, Fine (cntF d) (thruF d F b j) := by
  have ho : Fine (cntF d) (outL d b (fun t => F (1 + t))) := hF.out hb (fun t => h (1 + t))
  have h1 : ∀ m, m ≤ (blkN d b).insts.length → ∀ j, Fine (cntF d) (afterI (updL F (11 + b) (outL d b (fun t => F (1 + t)))) (blkN d b).insts (firstN d b + (blkN d b).phis.length) (sumL (outL d b (fun t => F (1 + t))) (termO (blkN d b).term)) m j) := by
    intro m
    induction m with
    | zero => intro _; exact updL_fine h _ ho
    | succ m ih => intro hm; exact updL_fine (ih (by omega)) _ (hF.back hb ho (by omega))
  have h2 : ∀ n j, Fine (cntF d) (afterP (afterI (updL F (11 + b) (outL d b (fun t => F (1 + t)))) (blkN d b).insts (firstN d b + (blkN d b).phis.length) (sumL (outL d b (fun t => F (1 + t))) (termO (blkN d b).term)) (blkN d b).insts.length) (firstN d b) (backL d b (outL d b (fun t => F (1 + t))) (blkN d b).insts.length) n j) := by
    intro n
    induction n with
    | zero => exact h1 _ (Nat.le_refl _)
    | succ n ih => exact updL_fine ih _ (hF.back hb ho (Nat.le_refl _))
  exact updL_fine (h2 _) _ (hF.inL hb (fun t => h (1 + t)))
/-- What holds of the sets in the midst of a round. -/
structure RndSt (d : FuncD) (I F : Alive) (m : Nat) (mo : Bool) : Prop where
  fine : ∀ j, Fine (cntF d) (F j)
  ins : ∀ t, t < d.blocks.length → F (1 + t) = rdL d I m t
  rd : RdAt d I m mo
  told : mo = false → ∀ j, j < m → ToldB d I F (d.blocks.length - 1 - j)
  far1 : ∀ t, d.blocks.length ≤ t → t < 10 → F (1 + t) = []
  far2 : ∀ t, cntF d ≤ t → F (21 + t) = []
theorem RndSt.next {d : FuncD} (hF : LvF d) {I F : Alive} (hG : Grows d I) {m : Nat} {mo : Bool} (h : RndSt d I F m mo) (hm : m < d.blocks.length) {mo' : Bool} (hr : RdAt d I (m + 1) mo') (hmo : mo' = false → mo = false) : RndSt d I (thruF d F (d.blocks.length - 1 - m)) (m + 1) mo' := by
  have h10 := hF.right.2.1
  have hb : d.blocks.length - 1 - m < d.blocks.length := by omega
  refine ⟨thru_fine hF h.fine hb, fun t ht => ?_, hr, fun h0 j hj => ?_, fun t h1 h2 => by rw [thru_ins d F (by omega) h2 (by omega)]; exact h.far1 t h1 h2, fun t h1 => ?_⟩
  · show thruF d F (d.blocks.length - 1 - m) (1 + t) = updL (rdL d I m) (d.blocks.length - 1 - m) (inL d (d.blocks.length - 1 - m) (rdL d I m)) t
    by_cases e : t = d.blocks.length - 1 - m
    · subst e
      rw [thru_in, updL_same]
      exact in_ext hF.right hb h.ins
    · rw [thru_ins d F (by omega) (by omega) e, updL_other _ e]
      exact h.ins t ht
  · have h1 := hmo h0
    have h2 := (h.rd.no h1).1
    by_cases e : j = m
    · subst e
      exact ToldB.thru hF.right hb (fun t ht => by rw [h.ins t ht, h2])
    · exact (h.told h1 j (by omega)).keep hF.right (by omega) hb (by omega)
  · have n1 := first_next hb
    have n2 := first_mono (d := d) (a := d.blocks.length - 1 - m + 1) (b := d.blocks.length) (by omega) (Nat.le_refl _)
    have n3 : firstN d d.blocks.length = cntF d := by unfold firstN cntF; rw [List.take_length]
    rw [thru_other d F (by omega) (.inr (by omega))]
    exact h.far2 t h1
/-- What comes of a round. -/
def RoundOut (M Rb : Nat) (d : FuncD) (I : Alive) (w : World) (e : Ending) (w' : World) : Prop := ∃ mo, e = .returned (.bool mo) ∧ ∃ F', LvAt w' M Rb (fun _ => False) F' ∧ RndSt d I F' d.blocks.length mo ∧ Below M w w'
set_option maxHeartbeats 8000000 in
set_option maxRecDepth 100000 in
theorem roundI (M Rb lo lp : Nat) (d : FuncD) (u2 : Option Addr) (c2 : Nat) (F I : Alive) (w0 w : World) (hs : SmFunc d) (hF : LvF d) (hw0 : w0.heap.size ≤ M) (hR : RtAt w0 Rb lo lp d u2 c2) (hB0 : Below w0.heap.size w0 w) (hL : LvAt w M Rb (fun _ => False) F) (hG : Grows d I) (hS : RndSt d I F 0 false) :
    Calls Tryz.prog 38 #[.pointer (some ⟨M, 0, none⟩)] w fun e w' => RoundOut M Rb d I w e w' := by
  have hbl : d.blocks.length ≤ 10 := hF.right.2.1
  have HF : Hid (LvF d) := hF
  have HRW : Hid (RtAt w0 Rb lo lp d u2 c2) := hR
  have HBW : Hid (Below w0.heap.size w0 w) := hB0
  have HL0 : Hid (LvAt w M Rb (fun _ => False) F) := hL
  have HS0 : Hid (RndSt d I F 0 false) := hS
  have HG : Hid (Grows d I) := hG
  have HSM : Hid (SmFunc d) := hs
  have m0 := hL.ptr
  have z2 := (hR.below hB0).f2
  have lR := (hR.below hB0).lt
  clear hF hR hB0 hL hS hG hs
  go_enter Tryz.func38, Tryz.ntmps38
  go_wp2_with fail
  go_loopw [3, 4] (fun more i wr => ∃ (m : Nat) (mo : Bool) (Fm : Alive), m ≤ d.blocks.length ∧ i = .int .i64 ((d.blocks.length : Int) - 1 - m) ∧ more = .bool mo ∧ Hid (LvAt wr M Rb (fun _ => False) Fm) ∧ Hid (RndSt d I Fm m mo) ∧ Hid (Below M w wr)) (fun _ i _ => (intOf i + 1).toNat)
  case atStart => exact ⟨0, false, F, by omega, by simp, rfl, HL0, HS0, Below.refl _ _⟩
  case round =>
    obtain ⟨m, mo, Fm, hm, rfl, rfl, HL, HS, HB⟩ := hrel
    obtain ⟨wp, hwp⟩ : ∃ wp, wp = wr := ⟨_, rfl⟩
    subst hwp
    clear m0 z2 lR HL0 HS0
    by_cases hlt : m < d.blocks.length
    · have HJ : Hid ((d.blocks.length : Int) - 1 - m = ((d.blocks.length - 1 - m : Nat) : Int)) := by show _ = _; omega
      have hbn : d.blocks.length - 1 - m < d.blocks.length := by omega
      have hIN := HS.out.ins (d.blocks.length - 1 - m) hbn
      have HTI : Hid (thruF d Fm (d.blocks.length - 1 - m) (1 + (d.blocks.length - 1 - m)) = inL d (d.blocks.length - 1 - m) (rdL d I m)) := by
        show _ = _
        rw [thru_in]
        exact in_ext HF.out.right hbn HS.out.ins
      have HGE : Hid ((rdL d I m (d.blocks.length - 1 - m)).length ≤ (inL d (d.blocks.length - 1 - m) (rdL d I m)).length) := (HG.out.rd HF.out m hm).len HF.out hbn
      have HNX : Hid (∀ mo', RdAt d I (m + 1) mo' → (mo' = false → mo = false) → RndSt d I (thruF d Fm (d.blocks.length - 1 - m)) (m + 1) mo') := fun mo' h1 h2 => HS.out.next HF.out HG.out hlt h1 h2
      have HSAME : Hid ((inL d (d.blocks.length - 1 - m) (rdL d I m)).length = (rdL d I m (d.blocks.length - 1 - m)).length → RdAt d I (m + 1) mo) := fun h => (HS.out.rd.same HF.out HG.out hlt h).2
      have HMORE : Hid ((inL d (d.blocks.length - 1 - m) (rdL d I m)).length ≠ (rdL d I m (d.blocks.length - 1 - m)).length → RdAt d I (m + 1) true) := fun h => HS.out.rd.more HF.out HG.out hlt h
      have hMw : M < wp.heap.size := HL.out.lt
      have PT := fun V (h : Below wp.heap.size wp V) => thruI M Rb lo lp d u2 c2 (d.blocks.length - 1 - m) Fm w0 V HSM.out HF.out hbn hw0 HRW.out ((HBW.out.trans (HB.out.mono hw0)).trans (h.mono (by omega))) (HL.out.below h) HS.out.fine
      rw [HJ.out]
      generalize d.blocks.length - 1 - m = b at *
      generalize hI' : rdL d I m b = R1 at *
      clear hI'
      generalize hNI : inL d b (rdL d I m) = NI at *
      clear hNI
      obtain ⟨a5, c5, e5, _, _⟩ := HL.out.cell (j := 1 + b) (by omega) (by omega)
      rw [hIN] at e5
      have hb10 : b < 10 := by omega
      have PS := sizeI a5 c5 R1.length wp
      clear hIN
      go_wp2_with fail
      refine PS.mono ?_
      rintro e w2 ⟨rfl, b2⟩
      have PT2 := PT w2 b2
      have hb2M : Below M wp w2 := b2.mono (Nat.le_of_lt hMw)
      clear PS PT e5
      go_wp2_with fail
      refine PT2.mono ?_
      rintro e w3 ⟨rfl, L3, b3⟩
      have HL3 : Hid (LvAt w3 M Rb (fun _ => False) (thruF d Fm b)) := L3
      have HB3 : Hid (Below M w w3) := (HB.out.trans hb2M).trans b3
      obtain ⟨a6, c6, e6, _, _⟩ := L3.cell (j := 1 + b) (by omega) (by omega)
      rw [HTI.out] at e6
      clear PT2 L3 b2 b3 hb2M
      cases mo with
      | true =>
        have HR2 : Hid (RndSt d I (thruF d Fm b) (m + 1) true) := by
          by_cases hl : NI.length = R1.length
          · exact HNX.out true (HSAME.out hl) (fun h => h)
          · exact HNX.out true (HMORE.out hl) (fun h => by cases h)
        clear HNX HSAME HMORE HTI
        go_wp2_with fail
        go_roundw
        case rel => exact ⟨m + 1, true, thruF d Fm b, by omega, congrArg (Value.int .i64) (by have := HJ.out; push_cast; omega), rfl, HL3, HR2, HB3⟩
        case measure => simp [intOf] <;> omega
      | false =>
        have PS2 := sizeI a6 c6 NI.length w3
        have hMw3 : M < w3.heap.size := HL3.out.lt
        by_cases hl : NI.length = R1.length
        · have HR2 : Hid (RndSt d I (thruF d Fm b) (m + 1) false) := HNX.out false (HSAME.out hl) (fun h => h)
          have hgt : ¬ ((R1.length : Int) < (NI.length : Int)) := by omega
          clear HNX HSAME HMORE HTI hl
          go_wp2_with fail
          refine PS2.mono ?_
          rintro e w4 ⟨rfl, b4⟩
          have HL4 : Hid (LvAt w4 M Rb (fun _ => False) (thruF d Fm b)) := HL3.out.below b4
          have HB4 : Hid (Below M w w4) := HB3.out.trans (b4.mono (Nat.le_of_lt hMw3))
          clear PS2 b4 e6
          go_wp2_with fail
          go_roundw
          case rel => exact ⟨m + 1, false, thruF d Fm b, by omega, congrArg (Value.int .i64) (by have := HJ.out; push_cast; omega), congrArg Value.bool (decide_eq_false (by omega)), HL4, HR2, HB4⟩
          case measure => simp [intOf] <;> omega
        · have HR2 : Hid (RndSt d I (thruF d Fm b) (m + 1) true) := HNX.out true (HMORE.out hl) (fun h => by cases h)
          have hgt : (R1.length : Int) < (NI.length : Int) := by have := HGE.out; omega
          clear HNX HSAME HMORE HTI hl
          go_wp2_with fail
          refine PS2.mono ?_
          rintro e w4 ⟨rfl, b4⟩
          have HL4 : Hid (LvAt w4 M Rb (fun _ => False) (thruF d Fm b)) := HL3.out.below b4
          have HB4 : Hid (Below M w w4) := HB3.out.trans (b4.mono (Nat.le_of_lt hMw3))
          clear PS2 b4 e6
          go_wp2_with fail
          go_roundw
          case rel => exact ⟨m + 1, true, thruF d Fm b, by omega, congrArg (Value.int .i64) (by have := HJ.out; push_cast; omega), rfl, HL4, HR2, HB4⟩
          case measure => simp [intOf] <;> omega
    · have hme : m = d.blocks.length := by omega
      subst hme
      have hno : ¬ (0 ≤ (d.blocks.length : Int) - 1 - (d.blocks.length : Int)) := by omega
      go_wp2_with fail
      go_ret
      exact ⟨mo, rfl, Fm, HL.out, HS.out, HB.out⟩
end Go.Proofs.YtolaghondjfhdabGreatDoor
