/- Colours told: the program's leastColour and ColoursOf. -/
import Derived.Test.YtolaghondjfhdabGreatDoorLzAQ
import Derived.Test.YtolaghondjfhdabGreatDoorAttQ
namespace Go.Proofs.YtolaghondjfhdabGreatDoor
open Go.RowKit
set_option linter.unusedVariables false

theorem least_some (d : FuncD) (I : Alive) (l : List Int) (n : Nat) : ∃ c, LeastC d I l n c := by
  apply Classical.byContradiction
  intro h
  have all : ∀ x, takB d I l n n x = true := by
    intro x
    induction x using Nat.strongRecOn with
    | _ x ih =>
      cases e : takB d I l n n x with
      | true => rfl
      | false => exact absurd ⟨x, ih, e⟩ h
  have := upto_le (d := d) (I := I) (l := l) (n := n) (c := n + 1) (fun x _ => all x)
  omega
set_option maxHeartbeats 2000000 in
set_option maxRecDepth 100000 in
theorem indexB (g c : Nat) (f : Nat → Bool) (w : World) (hT : ∀ i, i < 60 → w.cell? ⟨g, i, none⟩ = some (.bool (f i))) (h1 : ∀ x, x < c → f x = true) (h2 : f c = false) (hc : c < 60) :
    Calls Tryz.prog 41 #[.slice (some ⟨g, 0, none⟩) 60 60, .bool false] w fun e w' => e = .returned (.int .i64 (c : Int)) ∧ w' = w := by
  have HT : Hid (∀ i, i < 60 → w.cell? ⟨g, i, none⟩ = some (.bool (f i))) := hT
  have H1 : Hid (∀ x, x < c → f x = true) := h1
  have H2 : Hid (f c = false) := h2
  clear hT h1 h2
  go_enter Tryz.func41, Tryz.ntmps41
  go_wp2_with fail
  go_loopw [8] (fun i wr => ∃ k : Nat, k ≤ c ∧ i = .int .i64 k ∧ Hid (wr = w)) (fun i _ => 60 - (intOf i).toNat)
  case atStart => exact ⟨0, by omega, rfl, rfl⟩
  case round =>
    obtain ⟨k, hk, rfl, HW⟩ := hrel
    have hW := HW.out
    clear HW
    subst hW
    have e1 := HT.out k (by omega)
    have hk60 : (k : Int) < 60 := by omega
    by_cases hkc : k = c
    · subst hkc
      rw [H2.out] at e1
      go_wp2_with fail
      go_ret
      exact ⟨rfl, rfl⟩
    · rw [H1.out k (by omega)] at e1
      go_wp2_with fail
      go_roundw
      case rel => exact ⟨k + 1, by omega, by go_num, by first | exact rfl | exact trivial⟩
      case measure => simp [intOf]; omega
set_option maxHeartbeats 8000000 in
set_option maxRecDepth 100000 in
theorem leastI (M Rb lo : Nat) (d : FuncD) (u2 : Option Addr) (c2 : Nat) (I : Alive) (l : List Int) (P : Array Value) (n : Nat) (w : World) (hs : SmFunc d) (hF : LvF d) (hG : Grows d I) (h : Lvs w M Rb lo d u2 c2 I) (hn : n < cntF d) (hP : Pal P l) (hok : ∀ b, b < n → meetB d I n b = true → 0 ≤ l.getD b 0 ∧ l.getD b 0 < 60) :
    Calls Tryz.prog 21 #[.pointer (some ⟨M, 0, none⟩), .int .i64 n, .agg P] w fun e w' => ∃ x, e = .returned (.int .i64 x) ∧ OneC d I l n x ∧ Below w.heap.size w w' := by
  have hc := hF.cnt
  have hnI : (n : Int) < 60 := by omega
  have hnc : (n : Int) < cntF d := by omega
  have B0 : Below w.heap.size w (w.alloc (.cells P 45)) := (Below.refl _ _).alloc (Nat.le_refl _) _
  have HP0 : Hid ((w.alloc (.cells P 45)).heap[w.heap.size]? = some (.cells P 45 (0, 0))) := heap_alloc_last _ _
  have TK := takenI M Rb lo d u2 c2 I l P n _ hs hF hG (h.below B0) hn hP hok
  have h' := h.below B0
  obtain ⟨T, t3, tT⟩ := h'.ty
  have m0 := h'.ptr
  have ea := (tT n hn).2
  have HB0 : Hid (Below w.heap.size w (w.alloc (.cells P 45))) := B0
  have HIP : Hid ((Tryz.prog.info? 45).map (·.size) = some P.size) := by show _ = _; rw [infoPal, hP.1]
  clear hs hF hG h h' hP hok tT B0
  by_cases h1 : typeF d n = 0
  · have HO : Hid (OneC d I l n (-1)) := .inl ⟨h1, rfl⟩
    rw [h1] at ea
    clear TK h1
    go_enter Tryz.func21, Tryz.ntmps21
    go_wp2_with fail
    go_ret
    exact ⟨_, rfl, HO.out, HB0.out⟩
  · have qb : (typeF d n == 0) = false := by simpa using h1
    obtain ⟨c, hlc⟩ := least_some d I l n
    have HO : Hid (OneC d I l n (c : Int)) := .inr ⟨h1, c, rfl, hlc⟩
    have hcn := hlc.le
    have HLC : Hid (LeastC d I l n c) := hlc
    clear h1 hlc
    go_enter Tryz.func21, Tryz.ntmps21
    go_wp2_with (first | (refine wpList_load_row rfl 45 _ rfl w.heap.size rfl 45 P (0, 0) _ HP0.out Tryz.underlying45 rfl HIP.out ?_) | fail)
    refine TK.mono ?_
    rintro e w5 ⟨rfl, b5⟩
    have HB5 : Hid (Below w.heap.size w w5) := HB0.out.trans (b5.mono HB0.out.size)
    have HTG : Hid (∀ x, x < 60 → (takA (takB d I l n n))[x]? = some (.bool (takB d I l n n x))) := fun x hx => tak_get _ hx
    have HALL : Hid ((takA (takB d I l n n)).all (·.oneCell') = true) := tak_all _
    have HSZ : Hid ((takA (takB d I l n n)).size = 60) := tak_size _
    generalize takA (takB d I l n n) = TA at *
    have HI : Hid ((Tryz.prog.info? 87).map (·.size) = some TA.size) := by show _ = _; rw [infoFl, HSZ.out]
    clear b5 TK ea m0 t3
    go_wp2_with (first | (refine wpList_store_row rfl 87 _ _ rfl w5.heap.size TA rfl rfl 87 (Array.replicate 60 (.bool false)) (by exact heap_alloc_last _ _) HI.out (by rw [HSZ.out]; simp) HALL.out ?_) | fail)
    --CUT1
    have hr := setRow_heap _ w5.heap.size _ TA 87 (0, 0) (heap_alloc_last w5 (.cells (Array.replicate 60 (.bool false)) 87))
    have hbl : Below w5.heap.size w5 ((w5.alloc (.cells (Array.replicate 60 (.bool false)) 87)).setRow w5.heap.size TA) := ((Below.refl _ _).alloc (Nat.le_refl _) _).trans ⟨rfl, rfl, rfl, by simp, fun b hb => setRow_other _ _ _ _ (by omega)⟩
    have IX := indexB w5.heap.size c (takB d I l n n) _ (fun i hi => (cell_of_heap hr).trans (HTG.out i hi)) HLC.out.1 HLC.out.2 (by omega)
    refine IX.mono ?_
    rintro e w6 ⟨rfl, hw⟩
    rw [hw]
    go_wp2_with fail
    go_ret
    exact ⟨_, rfl, HO.out, HB5.out.trans (hbl.mono HB5.out.size)⟩
theorem pal_next {P : Array Value} {l : List Int} {k : Nat} {x : Int} (h : Pal P l) (hl : l.length = k) (hk : k < 60) : Pal (P.setIfInBounds k (.int .i64 x)) (l ++ [x]) := by
  refine ⟨by simpa using h.1, fun i hi => ?_⟩
  by_cases e : i = k
  · subst e
    have : (l ++ [x]).getD i 0 = x := by
      simp only [List.getD_eq_getElem?_getD]
      rw [List.getElem?_append_right (by omega), hl]
      simp
    rw [this]
    simp [h.1, hi]
  · rw [Array.getElem?_setIfInBounds_ne (fun q => e q.symm), h.2 i hi]
    congr 2
    simp only [List.getD_eq_getElem?_getD]
    by_cases e2 : i < k
    · rw [List.getElem?_append_left (by omega)]
    · rw [List.getElem?_eq_none (by omega), List.getElem?_eq_none (by simp; omega)]
theorem pal_zero : Pal (Array.replicate 60 (Value.int .i64 0)) [] := ⟨by simp, fun i hi => by simp [hi]⟩
theorem pal_ints {w : World} {g lo : Nat} {P : Array Value} {l : List Int} (h : w.heap[g]? = some (.cells P 45 (0, 0))) (hP : Pal P l) (hl : l.length ≤ 60) (hg : lo ≤ g) : IntsAt w lo (some ⟨g, 0, none⟩) l :=
  ⟨by omega, .inr ⟨g, 0, rfl, hg, (Array.getElem?_eq_some_iff.1 h).1, fun i hi => by
    rw [Nat.zero_add]
    exact (cell_of_heap h).trans (hP.2 i (by omega))⟩⟩
set_option maxHeartbeats 8000000 in
set_option maxRecDepth 100000 in
theorem coloursOfI (lo : Nat) (d : FuncD) (u0 : Option Addr) (c0 : Nat) (u2 : Option Addr) (c2 : Nat) (a : Addr) (w : World) (hs : SmFunc d) (k0 : IntsAt w lo u0 d.params) (k2 : BlocksAt w lo u2 d.blocks) (hv : Gv w 0 (errV a)) :
    Calls Tryz.prog 7 #[.agg #[.slice u0 d.params.length c0, .int .i64 d.ret, .slice u2 d.blocks.length c2]] w fun e w' => ∃ v, e = .returned v ∧ ∃ l, ColsR d l ∧ Row w' w.heap.size v l ∧ Below w.heap.size w w' := by
  have F0 := FBox.start (d := d) (u0 := u0) (u2 := u2) (c0 := c0) (c2 := c2) (w := w) (T := 30)
  have a0 := F0.a0
  have a1 := F0.a1
  have a2 := F0.a2
  have HF0 : Hid (FBox d u0 c0 u2 c2 w _) := F0
  by_cases hok : funcB 3 d = true ∧ phsB d = true
  · have hF := lvf_of hok.1 hok.2
    have P := livesI_ok lo d u0 c0 u2 c2 a _ hs (k0.keep (agree_of_below F0.below lo)) (k2.keep (agree_of_below F0.below lo)) (hv.keep F0.below) hok.1 hok.2
    have C := fun W (k : Below w.heap.size w W) => countI_any lo d u0 c0 u2 c2 W hs (k2.keep (agree_of_below k lo))
    have hO : okB d = true := by simp [okB, hok.1, hok.2]
    have hc : cntF d ≤ 60 := hF.cnt
    have HF : Hid (LvF d) := hF
    have HS : Hid (SmFunc d) := hs
    clear hs k0 k2 hv F0 hF
    go_enter Tryz.func7, Tryz.ntmps7
    go_wp2_with fail
    refine P.mono ?_
    rintro e w1 ⟨M, rfl, Rb, I, F, HO⟩
    have HF1 : Hid (FBox d u0 c0 u2 c2 w w1) := HF0.out.keep HO.below
    have HFX : Hid (Fix d I) := HO.fix
    have HL1 : Hid (Lvs w1 M Rb lo d u2 c2 I) := HO.lvs HF.out
    have z0 := HF1.out.a0
    have z1 := HF1.out.a1
    have z2 := HF1.out.a2
    clear HO P a0 a1 a2 HF0
    have y0 : ∀ o, (w1.alloc o).cell? ⟨w.heap.size, 0, none⟩ = some (.slice u0 d.params.length c0) := fun o => (HF1.out.keep ((Below.refl _ _).alloc (Nat.le_refl _) o)).a0
    have y1 : ∀ o, (w1.alloc o).cell? ⟨w.heap.size, 1, none⟩ = some (.int .i64 d.ret) := fun o => (HF1.out.keep ((Below.refl _ _).alloc (Nat.le_refl _) o)).a1
    have y2 : ∀ o, (w1.alloc o).cell? ⟨w.heap.size, 2, none⟩ = some (.slice u2 d.blocks.length c2) := fun o => (HF1.out.keep ((Below.refl _ _).alloc (Nat.le_refl _) o)).a2
    have b1 : Below w1.heap.size w1 (w1.alloc (.cells (Array.replicate 60 (Value.int .i64 0)) 45)) := (Below.refl _ _).alloc (Nat.le_refl _) _
    have hr1 := heap_alloc_last w1 (.cells (Array.replicate 60 (Value.int .i64 0)) 45)
    go_wp2_with fail
    refine (C _ (by exact (HF1.out.keep b1).below)).mono ?_
    rintro e w2 ⟨rfl, b2⟩
    have b2' : Below w1.heap.size w1 w2 := b1.trans (b2.mono (by simp))
    have HC2 : Hid (w2.heap[w1.heap.size]? = some (.cells (Array.replicate 60 (Value.int .i64 0)) 45 (0, 0))) := (b2.block _ (by simp)).trans hr1
    clear z0 z1 z2 y0 y1 y2 b2 b1 hr1
    go_wp2_with fail
    --CUT2
    go_loopw [16] (fun i wr => ∃ (k : Nat) (PA : Array Value) (l : List Int), k ≤ cntF d ∧ i = .int .i64 k ∧ Hid (Cols d I l k) ∧ Hid (Pal PA l) ∧ Hid (wr.heap[w1.heap.size]? = some (.cells PA 45 (0, 0))) ∧ Hid (Below w1.heap.size w1 wr)) (fun i _ => cntF d - (intOf i).toNat)
    case atStart => exact ⟨0, _, [], by omega, rfl, Cols.start d I, pal_zero, HC2, b2'⟩
    case round =>
      obtain ⟨k, PA, l, hk, rfl, HCO, HPA, HCr, HBr⟩ := hrel
      obtain ⟨wo, hwo⟩ : ∃ wo, wo = wr := ⟨_, rfl⟩
      subst hwo
      clear HC2 b2'
      have HFr : Hid (FBox d u0 c0 u2 c2 w wo) := HF1.out.keep HBr.out
      have hgl : w1.heap.size < wo.heap.size := (Array.getElem?_eq_some_iff.1 HCr.out).1
      have hll := HCO.out.1
      by_cases hlt : k < cntF d
      · have L := leastI M Rb lo d u2 c2 I l PA k wo HS.out HF.out (HFX.out.grows HF.out) (HL1.out.below HBr.out) hlt HPA.out (fun b hb hm => HCO.out.rng (by omega) hb (meet_ty hm))
        have hltI : (k : Int) < cntF d := by omega
        have hk60 : (k : Int) < 60 := by omega
        have HIP : Hid ((Tryz.prog.info? 45).map (·.size) = some PA.size) := by show _ = _; rw [infoPal, HPA.out.1]
        clear hll
        go_wp2_with (first | (refine wpList_load_row rfl 45 _ rfl w1.heap.size rfl 45 PA (0, 0) _ HCr.out Tryz.underlying45 rfl HIP.out ?_) | fail)
        refine L.mono ?_
        rintro e w5 ⟨x, rfl, hx, b5⟩
        have HX : Hid (OneC d I l k x) := hx
        have HB5 : Hid (Below w1.heap.size w1 w5) := HBr.out.trans (b5.mono HBr.out.size)
        have HC5 : Hid (w5.heap[w1.heap.size]? = some (.cells PA 45 (0, 0))) := (b5.block _ hgl).trans HCr.out
        have e5 : w5.cell? ⟨w1.heap.size, k, none⟩ = some (.int .i64 (l.getD k 0)) := (cell_of_heap HC5.out).trans (HPA.out.2 k (by omega))
        have f5 : w5.frozen? ⟨w1.heap.size, k, none⟩ = false := froz_of_heap HC5.out
        clear hx b5 L
        go_wp2_with fail
        --CUT3
        go_roundw
        case rel =>
          refine ⟨k + 1, PA.setIfInBounds k (.int .i64 x), l ++ [x], by omega, by go_num, HCO.out.next HX.out, pal_next HPA.out HCO.out.1 (by omega), heap_set HC5.out, ?_⟩
          exact HB5.out.setCell (p := ⟨w1.heap.size, k, none⟩) (Nat.le_refl _) _
        case measure => simp [intOf]; omega
      · have e : k = cntF d := by omega
        subst e
        have z0 := HFr.out.a0
        have z1 := HFr.out.a1
        have z2 := HFr.out.a2
        go_wp2_with fail
        refine (C _ HFr.out.below).mono ?_
        rintro e w6 ⟨rfl, b6⟩
        have HF6 : Hid (FBox d u0 c0 u2 c2 w w6) := HFr.out.keep b6
        have HC6 : Hid (w6.heap[w1.heap.size]? = some (.cells PA 45 (0, 0))) := (b6.block _ hgl).trans HCr.out
        have L := cloneI 0 (some ⟨w1.heap.size, 0, none⟩) 60 l w6 (by omega) (pal_ints HC6.out HPA.out (by omega) (Nat.zero_le _))
        rw [hll] at L
        have hlen : (0 : Int) ≤ (cntF d : Int) := by omega
        have hleI : (cntF d : Int) ≤ 60 := by omega
        clear b6 z0 z1 z2
        go_wp2_with fail
        --CUT4
        refine L.mono ?_
        rintro e w7 ⟨v7, rfl, r7, b7⟩
        go_wp2_with fail
        go_ret
        exact ⟨v7, rfl, l, .inr ⟨hO, I, HFX.out, HCO.out⟩, r7.low HF6.out.below.size, HF6.out.below.trans (b7.mono HF6.out.below.size)⟩
  · have P := livesI_no lo d u0 c0 u2 c2 a _ hs (k0.keep (agree_of_below F0.below lo)) (k2.keep (agree_of_below F0.below lo)) (hv.keep F0.below) hok
    have hO : okB d = false := by
      cases h1 : funcB 3 d <;> cases h2 : phsB d <;> simp [okB, h1, h2] at hok ⊢
    clear hs k0 k2 hv F0 hok
    go_enter Tryz.func7, Tryz.ntmps7
    go_wp2_with fail
    refine P.mono ?_
    rintro e w2 ⟨rfl, b2⟩
    have HF2 : Hid (FBox d u0 c0 u2 c2 w w2) := HF0.out.keep b2
    go_wp2_with fail
    go_ret
    exact ⟨_, rfl, [], .inl ⟨hO, rfl⟩, Row.nil _ _, HF2.out.below⟩
end Go.Proofs.YtolaghondjfhdabGreatDoor
