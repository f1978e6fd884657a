/- Colours: the model's ColoursOk. -/
import Derived.Test.YtolaghondjfhdaaGreatDoorLyIQ
import Derived.Test.YtolaghondjfhdaaGreatDoorLyEQ
namespace Go.Proofs.YtolaghondjfhdaaGreatDoor
open Go.RowKit
set_option linter.unusedVariables false

theorem meet_ty1 {d : FuncD} {I : Alive} {a b : Nat} (h : meetB d I a b = true) : ¬ typeF d a = 0 := by
  rw [meet_sym] at h
  exact meet_ty h
/-- The colour is one that it may have, as far as it alone goes. -/
def FitC (d : FuncD) (n : Nat) (x : Int) : Prop := (typeF d n = 0 ∧ x = -1) ∨ (¬ typeF d n = 0 ∧ 0 ≤ x ∧ x < 60)
theorem may_fit {d : FuncD} {I : Alive} {l : List Int} {n : Nat} (h : FitC d n (l.getD n 0)) (hb : ∀ b, b < n → l.getD n 0 = l.getD b 0 → meetB d I n b = false) : mayB d I l n = true := by
  rcases h with ⟨h1, h2⟩ | ⟨h1, h2, h3⟩
  · rw [may_ty0 h1, h2]; rfl
  · rw [may_ty1 h1]
    have e1 : belowB (l.getD n 0) 60 = true := by
      unfold belowB
      rw [← Bool.decide_and]
      exact decide_eq_true ⟨h2, h3⟩
    have e2 : takB d I l n n (l.getD n 0).toNat = false := by
      unfold takB
      rw [List.any_eq_false]
      intro b hbm
      have hbn := List.mem_range.1 hbm
      by_cases e : l.getD b 0 = (((l.getD n 0).toNat : Nat) : Int)
      · rw [hb b hbn (by omega)]; simp
      · rw [decide_eq_false e]; simp
    rw [e1, e2]; rfl
theorem may_meets {d : FuncD} {I : Alive} {l : List Int} {n b : Nat} (h : FitC d n (l.getD n 0)) (hb : b < n) (he : l.getD n 0 = l.getD b 0) (hm : meetB d I n b = true) : mayB d I l n = false := by
  rcases h with ⟨h1, h2⟩ | ⟨h1, h2, h3⟩
  · exact absurd h1 (meet_ty1 hm)
  · rw [may_ty1 h1]
    have e2 : takB d I l n n (l.getD n 0).toNat = true := by
      unfold takB
      rw [List.any_eq_true]
      exact ⟨b, List.mem_range.2 hb, by rw [hm, Bool.true_and]; exact decide_eq_true (by omega)⟩
    rw [e2]; simp
theorem fit_of {d : FuncD} {n : Nat} {x : Int} (h0 : 0 ≤ typeF d n) (h : (decide (typeF d n < 1) != (x == -1)) = false) (h1 : -1 ≤ x) (h2 : x ≤ 59) : FitC d n x := by
  by_cases e : typeF d n = 0
  · have : x = -1 := by
      rw [e] at h
      simpa using h
    exact .inl ⟨e, this⟩
  · have h3 : ¬ typeF d n < 1 := by omega
    have : ¬ x = -1 := by simpa [h3] using h
    exact .inr ⟨e, by omega, by omega⟩
theorem may_odd {d : FuncD} {I : Alive} {l : List Int} {n : Nat} (h0 : 0 ≤ typeF d n) (h : (decide (typeF d n < 1) != (l.getD n 0 == -1)) = true) : mayB d I l n = false := by
  by_cases e : typeF d n = 0
  · rw [may_ty0 e]
    rw [e] at h
    simpa using h
  · have h3 : ¬ typeF d n < 1 := by omega
    have h4 : l.getD n 0 = -1 := by simpa [h3] using h
    rw [may_ty1 e, h4]
    rfl
theorem may_out {d : FuncD} {I : Alive} {l : List Int} {n : Nat} (h : ¬ (-1 ≤ l.getD n 0 ∧ l.getD n 0 ≤ 59)) : mayB d I l n = false := by
  by_cases e : typeF d n = 0
  · rw [may_ty0 e, beq_eq_false_iff_ne]
    omega
  · rw [may_ty1 e]
    have : belowB (l.getD n 0) 60 = false := by
      unfold belowB
      rw [← Bool.decide_and]
      exact decide_eq_false (by omega)
    rw [this]; rfl
set_option maxHeartbeats 16000000 in
set_option maxRecDepth 100000 in
theorem coloursS (lo la : Nat) (d : FuncD) (u0 : Option Addr) (c0 : Nat) (u2 : Option Addr) (c2 : Nat) (l : List Int) (ul : Option Addr) (cl : Nat) (w : World) (hs : SmFunc d) (k0 : IntsAt w lo u0 d.params) (k2 : BlocksAt w lo u2 d.blocks) (kl : IntsAt w la ul l) (hll : l.length ≤ 1048576) :
    Calls Tryz.prog 26 #[.agg #[.slice u0 d.params.length c0, .int .i64 d.ret, .slice u2 d.blocks.length c2], .slice ul l.length cl] w fun e w' => ∃ v, e = .returned (.bool v) ∧ ColR d l v ∧ Below w.heap.size w w' := by
  have F0 := FBox.start (d := d) (u0 := u0) (u2 := u2) (c0 := c0) (c2 := c2) (w := w) (T := 30)
  have P := okS lo d u0 c0 u2 c2 _ hs (k0.keep (agree_of_below F0.below lo)) (k2.keep (agree_of_below F0.below lo))
  have C := fun W (k : Below w.heap.size w W) => countS_any lo d u0 c0 u2 c2 W hs (k2.keep (agree_of_below k lo))
  have a0 := F0.a0
  have a1 := F0.a1
  have a2 := F0.a2
  have HF0 : Hid (FBox d u0 c0 u2 c2 w _) := F0
  cases hO : okB d with
  | false =>
    rw [hO] at P
    have HE : Hid ((okB d && decide (l.length = cntF d)) = false) := by show _ = _; rw [hO]; rfl
    clear hs k0 k2 F0 hO C kl
    go_enter Tryz.func26, Tryz.ntmps26
    go_wp2_with fail
    refine P.mono ?_
    rintro e w1 ⟨rfl, b1⟩
    have HF1 : Hid (FBox d u0 c0 u2 c2 w w1) := HF0.out.keep b1
    go_wp2_with fail
    go_ret
    exact ⟨_, rfl, .inl ⟨HE.out, rfl⟩, HF1.out.below⟩
  | true =>
    rw [hO] at P
    have hF : LvF d := ok_lvf hO
    have hf : funcB 3 d = true := by simp only [okB, Bool.and_eq_true] at hO; exact hO.1
    have hc : cntF d ≤ 60 := hF.cnt
    have HT : Hid (∀ n : Nat, n < cntF d → 0 ≤ typeF d n) := fun n hn => (form_of hf).type_ge (id := (n : Int)) (by omega) (by omega)
    have I0 := fun W (k : Below w.heap.size w W) => insZ lo d u0 c0 u2 c2 W hs hF (k2.keep (agree_of_below k lo))
    have T0 := fun (n : Nat) W (k : Below w.heap.size w W) (hn : n < cntF d) => typeS_any lo d u0 c0 u2 c2 n W hs (k0.keep (agree_of_below k lo)) (k2.keep (agree_of_below k lo)) (by omega)
    have M0 := fun (n m : Nat) gi I W (k : Below w.heap.size w W) hG hI (hn : n < cntF d) (hm : m < cntF d) => meetZ lo d u0 c0 u2 c2 n m gi (gi + 1) d.blocks.length I W hs hf hF hG hI (k0.keep (agree_of_below k lo)) (k2.keep (agree_of_below k lo)) hn hm
    have HKL : Hid (IntsAt w la ul l) := kl
    clear hs k0 k2 F0 hF hf kl
    go_enter Tryz.func26, Tryz.ntmps26
    go_wp2_with fail
    refine P.mono ?_
    rintro e w1 ⟨rfl, b1⟩
    have HF1 : Hid (FBox d u0 c0 u2 c2 w w1) := HF0.out.keep b1
    have z0 := HF1.out.a0
    have z1 := HF1.out.a1
    have z2 := HF1.out.a2
    clear P a0 a1 a2 HF0 b1
    go_wp2_with fail
    refine (C _ HF1.out.below).mono ?_
    rintro e w2 ⟨rfl, b2⟩
    have HF2 : Hid (FBox d u0 c0 u2 c2 w w2) := HF1.out.keep b2
    clear z0 z1 z2 b2 C
    have z0 := HF2.out.a0
    have z1 := HF2.out.a1
    have z2 := HF2.out.a2
    by_cases hl : l.length = cntF d
    · have HLN : Hid (l.length = cntF d) := hl
      have HE : Hid ((okB d && decide (l.length = cntF d)) = true) := by show _ = _; rw [hO, hl]; simp
      have qe : ((l.length : Int) != (cntF d : Int)) = false := by rw [bne_eq_false_iff_eq]; omega
      have hl60 : l.length ≤ 60 := by omega
      clear hl hO
      go_wp2_with fail
      refine (I0 _ HF2.out.below).mono ?_
      rintro e w4 ⟨gi, rfl, I, hfx, hgr, hgi, hin, b4⟩
      have HFX : Hid (Fix d I) := hfx
      have HG : Hid (Grows d I) := hgr
      have HIN : Hid (InsAt w4 gi (gi + 1) d.blocks.length I) := hin.at
      have HF4 : Hid (FBox d u0 c0 u2 c2 w w4) := HF2.out.keep b4
      clear hfx hgr hin b4 z0 z1 z2 I0 qe
      go_wp2_with fail
      --CUT1
      go_loopw [6] (fun i wr => ∃ k : Nat, k ≤ cntF d ∧ i = .int .i64 k ∧ Hid (colB d I l k = true) ∧ Hid (Below w4.heap.size w4 wr)) (fun i _ => cntF d - (intOf i).toNat)
      case atStart => exact ⟨0, by omega, rfl, rfl, Below.refl _ _⟩
      case round =>
        obtain ⟨k, hk, rfl, HCB, HBr⟩ := hrel
        obtain ⟨wo, hwo⟩ : ∃ wo, wo = wr := ⟨_, rfl⟩
        subst hwo
        have HFr : Hid (FBox d u0 c0 u2 c2 w wo) := HF4.out.keep HBr.out
        by_cases hlt : k < cntF d
        · have hkl : k < l.length := by rw [HLN.out]; exact hlt
          have hklI : (k : Int) < l.length := by omega
          obtain ⟨gl, off, hul, HCL⟩ : ∃ gl off, ul = some ⟨gl, off, none⟩ ∧ Hid (∀ j W, j < l.length → Below w.heap.size w W → W.cell? ⟨gl, off + j, none⟩ = some (.int .i64 (l.getD j 0))) := by
            rcases HKL.out.2 with hn | ⟨g, off, hu, _, hg, hcl⟩
            · rw [hn] at hkl; simp at hkl
            · exact ⟨g, off, hu, fun j W hj hW => (cell_block (hW.block g hg)).trans (hcl j hj)⟩
          subst hul
          have TL := fun W (q : Below w.heap.size w W) => T0 k W q hlt
          have hx0 := HT.out k hlt
          obtain ⟨tb, hA⟩ : ∃ tb, decide (typeF d k < 1) = tb := ⟨_, rfl⟩
          obtain ⟨xb, hX⟩ : ∃ xb, (l.getD k 0 == -1) = xb := ⟨_, rfl⟩
          have HA : Hid (decide (typeF d k < 1) = tb) := hA
          have HX : Hid ((l.getD k 0 == -1) = xb) := hX
          have HCk : Hid (∀ W, Below w.heap.size w W → W.cell? ⟨gl, off + k, none⟩ = some (.int .i64 (l.getD k 0))) := fun W hW => HCL.out k W hkl hW
          obtain ⟨x, hxe⟩ : ∃ x, l.getD k 0 = x := ⟨_, rfl⟩
          have HXE : Hid (l.getD k 0 = x) := hxe
          have IN := inS x (-1) 59
          rw [hxe] at hX HX HCk
          clear hxe
          go_wp2_with fail
          --CUT2
          by_cases hne : (tb == xb) = false
          · have HM : Hid (mayB d I l k = false) := may_odd hx0 (by rw [HA.out, HXE.out, HX.out]; show (!(tb == xb)) = true; rw [hne]; rfl)
            have E : Hid (false = colB d I l (cntF d)) := (col_mono (k := k + 1) (by rw [col_step, HM.out, Bool.and_false]) (by omega)).symm
            clear IN
            refine wp_region_held_drew (S := fun w' => Below wo.heap.size wo w') (by kernel_rfl) ((Below.refl _ _).drew) (fun hHeld => ?_)
            refine wpAnyH_take (i := 0) (v := ?_) rfl (by kernel_rfl) (by kernel_rfl) (by kernel_rfl) (fun _ _ _ h => h) (Or.inl ⟨by rfl, ?_⟩) hHeld ?_
            rotate_left
            · intro w9 hS9
              have g0 := (HFr.out.keep hS9).a0
              have g1 := (HFr.out.keep hS9).a1
              have g2 := (HFr.out.keep hS9).a2
              go_simp
              try with_reducible rfl
            show wpAnyH _ _ _ _ _ _ _ (Act.put _ (some _) _) _
            simp only [Act.put, List.setIfInBounds_toArray, List.set_cons_zero, List.set_cons_succ]
            refine wpAnyH_take (i := 1) (v := ?_) rfl (by kernel_rfl) (by kernel_rfl) (by kernel_rfl) (fun _ _ _ h => h) (Or.inl ⟨by rfl, ?_⟩) hHeld ?_
            rotate_left
            · intro w9 hS9
              go_simp
              try with_reducible rfl
            show wpAnyH _ _ _ _ _ _ _ (Act.put _ (some _) _) _
            simp only [Act.put, List.setIfInBounds_toArray, List.set_cons_zero, List.set_cons_succ]
            refine wpAnyH_take (i := 4) (v := ?_) rfl (by kernel_rfl) (by kernel_rfl) (by kernel_rfl) (fun _ _ _ h => h) (Or.inl ⟨by rfl, ?_⟩) hHeld ?_
            rotate_left
            · intro w9 hS9
              go_simp
              try with_reducible rfl
            show wpAnyH _ _ _ _ _ _ _ (Act.put _ (some _) _) _
            simp only [Act.put, List.setIfInBounds_toArray, List.set_cons_zero, List.set_cons_succ]
            refine wpAnyH_take (i := 5) (v := ?_) rfl (by kernel_rfl) (by kernel_rfl) (by kernel_rfl) (fun _ _ _ h => h) (Or.inl ⟨by rfl, ?_⟩) hHeld ?_
            rotate_left
            · intro w9 hS9
              go_simp
              try with_reducible rfl
            show wpAnyH _ _ _ _ _ _ _ (Act.put _ (some _) _) _
            simp only [Act.put, List.setIfInBounds_toArray, List.set_cons_zero, List.set_cons_succ]
            refine wpAnyH_take (i := 6) (v := ?_) rfl (by kernel_rfl) (by kernel_rfl) (by kernel_rfl) (fun _ _ _ h => h) (Or.inl ⟨by rfl, ?_⟩) hHeld ?_
            rotate_left
            · intro w9 hS9
              go_simp
              try with_reducible rfl
            show wpAnyH _ _ _ _ _ _ _ (Act.put _ (some _) _) _
            simp only [Act.put, List.setIfInBounds_toArray, List.set_cons_zero, List.set_cons_succ]
            refine wpAnyH_take (i := 7) (v := ?_) rfl (by kernel_rfl) (by kernel_rfl) (by kernel_rfl) (fun _ _ _ h => h) (Or.inl ⟨by rfl, ?_⟩) hHeld ?_
            rotate_left
            · intro w9 hS9
              have g0 := HCk.out w9 (HFr.out.keep hS9).below
              go_simp
              try with_reducible rfl
            show wpAnyH _ _ _ _ _ _ _ (Act.put _ (some _) _) _
            simp only [Act.put, List.setIfInBounds_toArray, List.set_cons_zero, List.set_cons_succ]
            refine wpAnyH_take (i := 8) (v := ?_) rfl (by kernel_rfl) (by kernel_rfl) (by kernel_rfl) (fun _ _ _ h => h) (Or.inl ⟨by rfl, ?_⟩) hHeld ?_
            rotate_left
            · intro w9 hS9
              go_simp
              try with_reducible rfl
            show wpAnyH _ _ _ _ _ _ _ (Act.put _ (some _) _) _
            simp only [Act.put, List.setIfInBounds_toArray, List.set_cons_zero, List.set_cons_succ]
            refine wpAnyH_ready (rs := [2]) (by kernel_rfl) (by simp) ?_
            refine AllReadyH.cons rfl (fun K hK => ?_) AllReadyH.nil
            go_simp
            go_wp2_with (go_at_call 48; refine (TL _ (HFr.out.keep hHeld).below).mono ?_; rintro e w5 ⟨rfl, bb⟩; have bc := hHeld.trans (bb.mono hHeld.size))
            refine hK.out _ _ ?_ (fun hHeld2 => ?_)
            · exact bc
            clear hK K
            have hPrev := hHeld
            clear hHeld
            have hHeld := hHeld2
            clear hHeld2 bc
            try simp only [Act.put, List.setIfInBounds_toArray, List.set_cons_zero, List.set_cons_succ]
            refine wpAnyH_take (i := 3) (v := ?_) rfl (by kernel_rfl) (by kernel_rfl) (by kernel_rfl) (fun _ _ _ h => h) (Or.inl ⟨by rfl, ?_⟩) hHeld ?_
            rotate_left
            · intro w9 hS9
              go_simp
              try with_reducible rfl
            show wpAnyH _ _ _ _ _ _ _ (Act.put _ (some _) _) _
            simp only [Act.put, List.setIfInBounds_toArray, List.set_cons_zero, List.set_cons_succ]
            refine wpAnyH_take (i := 9) (v := ?_) rfl (by kernel_rfl) (by kernel_rfl) (by kernel_rfl) (fun _ _ _ h => h) (Or.inl ⟨by rfl, ?_⟩) hHeld ?_
            rotate_left
            · intro w9 hS9
              go_simp
              try with_reducible rfl
            show wpAnyH _ _ _ _ _ _ _ (Act.put _ (some _) _) _
            simp only [Act.put, List.setIfInBounds_toArray, List.set_cons_zero, List.set_cons_succ]
            refine wpAnyH_take (i := 10) (v := ?_) rfl (by kernel_rfl) (by kernel_rfl) (by kernel_rfl) (fun _ _ _ h => h) (Or.inl ⟨by rfl, ?_⟩) hHeld ?_
            rotate_left
            · intro w9 hS9
              go_simp
              try with_reducible rfl
            show wpAnyH _ _ _ _ _ _ _ (Act.put _ (some _) _) _
            simp only [Act.put, List.setIfInBounds_toArray, List.set_cons_zero, List.set_cons_succ]
            refine wpAnyH_take (i := 11) (v := undef) rfl (by kernel_rfl) (by kernel_rfl) (by kernel_rfl) (fun _ _ _ h => h) (Or.inr ⟨by rfl, rfl⟩) hHeld ?_
            show wpAnyH _ _ _ _ _ _ _ (Act.put _ (some _) _) _
            simp only [Act.put, List.setIfInBounds_toArray, List.set_cons_zero, List.set_cons_succ]
            refine wpAnyH_take (i := 12) (v := undef) rfl (by kernel_rfl) (by kernel_rfl) (by kernel_rfl) (fun _ _ _ h => h) (Or.inr ⟨by rfl, rfl⟩) hHeld ?_
            show wpAnyH _ _ _ _ _ _ _ (Act.put _ (some _) _) _
            simp only [Act.put, List.setIfInBounds_toArray, List.set_cons_zero, List.set_cons_succ]
            refine wpAnyH_take (i := 13) (v := undef) rfl (by kernel_rfl) (by kernel_rfl) (by kernel_rfl) (fun _ _ _ h => h) (Or.inr ⟨by rfl, rfl⟩) hHeld ?_
            show wpAnyH _ _ _ _ _ _ _ (Act.put _ (some _) _) _
            simp only [Act.put, List.setIfInBounds_toArray, List.set_cons_zero, List.set_cons_succ]
            refine wpAnyH_take (i := 14) (v := undef) rfl (by kernel_rfl) (by kernel_rfl) (by kernel_rfl) (fun _ _ _ h => h) (Or.inr ⟨by rfl, rfl⟩) hHeld ?_
            show wpAnyH _ _ _ _ _ _ _ (Act.put _ (some _) _) _
            simp only [Act.put, List.setIfInBounds_toArray, List.set_cons_zero, List.set_cons_succ]
            refine wpAnyH_take (i := 15) (v := undef) rfl (by kernel_rfl) (by kernel_rfl) (by kernel_rfl) (fun _ _ _ h => h) (Or.inr ⟨by rfl, rfl⟩) hHeld ?_
            show wpAnyH _ _ _ _ _ _ _ (Act.put _ (some _) _) _
            simp only [Act.put, List.setIfInBounds_toArray, List.set_cons_zero, List.set_cons_succ]
            refine wpAnyH_take (i := 16) (v := undef) rfl (by kernel_rfl) (by kernel_rfl) (by kernel_rfl) (fun _ _ _ h => h) (Or.inr ⟨by rfl, rfl⟩) hHeld ?_
            show wpAnyH _ _ _ _ _ _ _ (Act.put _ (some _) _) _
            simp only [Act.put, List.setIfInBounds_toArray, List.set_cons_zero, List.set_cons_succ]
            refine wpAnyH_take (i := 17) (v := ?_) rfl (by kernel_rfl) (by kernel_rfl) (by kernel_rfl) (fun _ _ _ h => h) (Or.inl ⟨by rfl, ?_⟩) hHeld ?_
            rotate_left
            · intro w9 hS9
              go_simp
              try with_reducible rfl
            show wpAnyH _ _ _ _ _ _ _ (Act.put _ (some _) _) _
            simp only [Act.put, List.setIfInBounds_toArray, List.set_cons_zero, List.set_cons_succ]
            refine wpAnyH_done (by kernel_rfl) ?_ _
            have HF5 : Hid (FBox d u0 c0 u2 c2 w w5) := HFr.out.keep hHeld
            go_wp2_with fail
            go_ret
            exact ⟨_, rfl, .inr ⟨HE.out, I, HFX.out, E.out⟩, HF5.out.below⟩
          · have hne' : (tb == xb) = true := by
              cases h : (tb == xb) with
              | true => rfl
              | false => exact absurd h hne
            clear hne
            by_cases hin : -1 ≤ x ∧ x ≤ 59
            · have hd : (decide (-1 ≤ x) && decide (x ≤ 59)) = true := by rw [← Bool.decide_and]; exact decide_eq_true hin
              rw [hd] at IN
              have HFIT : Hid (FitC d k (l.getD k 0)) := fit_of hx0 (by rw [HA.out, HXE.out, HX.out]; show (!(tb == xb)) = false; rw [hne']; rfl) (by rw [HXE.out]; exact hin.1) (by rw [HXE.out]; exact hin.2)
              clear hd hin
              refine wp_region_held_drew (S := fun w' => Below wo.heap.size wo w') (by kernel_rfl) ((Below.refl _ _).drew) (fun hHeld => ?_)
              refine wpAnyH_take (i := 0) (v := ?_) rfl (by kernel_rfl) (by kernel_rfl) (by kernel_rfl) (fun _ _ _ h => h) (Or.inl ⟨by rfl, ?_⟩) hHeld ?_
              rotate_left
              · intro w9 hS9
                have g0 := (HFr.out.keep hS9).a0
                have g1 := (HFr.out.keep hS9).a1
                have g2 := (HFr.out.keep hS9).a2
                go_simp
                try with_reducible rfl
              show wpAnyH _ _ _ _ _ _ _ (Act.put _ (some _) _) _
              simp only [Act.put, List.setIfInBounds_toArray, List.set_cons_zero, List.set_cons_succ]
              refine wpAnyH_take (i := 1) (v := ?_) rfl (by kernel_rfl) (by kernel_rfl) (by kernel_rfl) (fun _ _ _ h => h) (Or.inl ⟨by rfl, ?_⟩) hHeld ?_
              rotate_left
              · intro w9 hS9
                go_simp
                try with_reducible rfl
              show wpAnyH _ _ _ _ _ _ _ (Act.put _ (some _) _) _
              simp only [Act.put, List.setIfInBounds_toArray, List.set_cons_zero, List.set_cons_succ]
              refine wpAnyH_take (i := 4) (v := ?_) rfl (by kernel_rfl) (by kernel_rfl) (by kernel_rfl) (fun _ _ _ h => h) (Or.inl ⟨by rfl, ?_⟩) hHeld ?_
              rotate_left
              · intro w9 hS9
                go_simp
                try with_reducible rfl
              show wpAnyH _ _ _ _ _ _ _ (Act.put _ (some _) _) _
              simp only [Act.put, List.setIfInBounds_toArray, List.set_cons_zero, List.set_cons_succ]
              refine wpAnyH_take (i := 5) (v := ?_) rfl (by kernel_rfl) (by kernel_rfl) (by kernel_rfl) (fun _ _ _ h => h) (Or.inl ⟨by rfl, ?_⟩) hHeld ?_
              rotate_left
              · intro w9 hS9
                go_simp
                try with_reducible rfl
              show wpAnyH _ _ _ _ _ _ _ (Act.put _ (some _) _) _
              simp only [Act.put, List.setIfInBounds_toArray, List.set_cons_zero, List.set_cons_succ]
              refine wpAnyH_take (i := 6) (v := ?_) rfl (by kernel_rfl) (by kernel_rfl) (by kernel_rfl) (fun _ _ _ h => h) (Or.inl ⟨by rfl, ?_⟩) hHeld ?_
              rotate_left
              · intro w9 hS9
                go_simp
                try with_reducible rfl
              show wpAnyH _ _ _ _ _ _ _ (Act.put _ (some _) _) _
              simp only [Act.put, List.setIfInBounds_toArray, List.set_cons_zero, List.set_cons_succ]
              refine wpAnyH_take (i := 7) (v := ?_) rfl (by kernel_rfl) (by kernel_rfl) (by kernel_rfl) (fun _ _ _ h => h) (Or.inl ⟨by rfl, ?_⟩) hHeld ?_
              rotate_left
              · intro w9 hS9
                have g0 := HCk.out w9 (HFr.out.keep hS9).below
                go_simp
                try with_reducible rfl
              show wpAnyH _ _ _ _ _ _ _ (Act.put _ (some _) _) _
              simp only [Act.put, List.setIfInBounds_toArray, List.set_cons_zero, List.set_cons_succ]
              refine wpAnyH_take (i := 8) (v := ?_) rfl (by kernel_rfl) (by kernel_rfl) (by kernel_rfl) (fun _ _ _ h => h) (Or.inl ⟨by rfl, ?_⟩) hHeld ?_
              rotate_left
              · intro w9 hS9
                go_simp
                try with_reducible rfl
              show wpAnyH _ _ _ _ _ _ _ (Act.put _ (some _) _) _
              simp only [Act.put, List.setIfInBounds_toArray, List.set_cons_zero, List.set_cons_succ]
              refine wpAnyH_ready (rs := [2]) (by kernel_rfl) (by simp) ?_
              refine AllReadyH.cons rfl (fun K hK => ?_) AllReadyH.nil
              go_simp
              go_wp2_with (go_at_call 48; refine (TL _ (HFr.out.keep hHeld).below).mono ?_; rintro e w5 ⟨rfl, bb⟩; have bc := hHeld.trans (bb.mono hHeld.size))
              refine hK.out _ _ ?_ (fun hHeld2 => ?_)
              · exact bc
              clear hK K
              have hPrev := hHeld
              clear hHeld
              have hHeld := hHeld2
              clear hHeld2 bc
              try simp only [Act.put, List.setIfInBounds_toArray, List.set_cons_zero, List.set_cons_succ]
              refine wpAnyH_take (i := 3) (v := ?_) rfl (by kernel_rfl) (by kernel_rfl) (by kernel_rfl) (fun _ _ _ h => h) (Or.inl ⟨by rfl, ?_⟩) hHeld ?_
              rotate_left
              · intro w9 hS9
                go_simp
                try with_reducible rfl
              show wpAnyH _ _ _ _ _ _ _ (Act.put _ (some _) _) _
              simp only [Act.put, List.setIfInBounds_toArray, List.set_cons_zero, List.set_cons_succ]
              refine wpAnyH_take (i := 9) (v := ?_) rfl (by kernel_rfl) (by kernel_rfl) (by kernel_rfl) (fun _ _ _ h => h) (Or.inl ⟨by rfl, ?_⟩) hHeld ?_
              rotate_left
              · intro w9 hS9
                go_simp
                try with_reducible rfl
              show wpAnyH _ _ _ _ _ _ _ (Act.put _ (some _) _) _
              simp only [Act.put, List.setIfInBounds_toArray, List.set_cons_zero, List.set_cons_succ]
              refine wpAnyH_take (i := 10) (v := ?_) rfl (by kernel_rfl) (by kernel_rfl) (by kernel_rfl) (fun _ _ _ h => h) (Or.inl ⟨by rfl, ?_⟩) hHeld ?_
              rotate_left
              · intro w9 hS9
                go_simp
                try with_reducible rfl
              show wpAnyH _ _ _ _ _ _ _ (Act.put _ (some _) _) _
              simp only [Act.put, List.setIfInBounds_toArray, List.set_cons_zero, List.set_cons_succ]
              refine wpAnyH_take (i := 11) (v := ?_) rfl (by kernel_rfl) (by kernel_rfl) (by kernel_rfl) (fun _ _ _ h => h) (Or.inl ⟨by rfl, ?_⟩) hHeld ?_
              rotate_left
              · intro w9 hS9
                go_simp
                try with_reducible rfl
              show wpAnyH _ _ _ _ _ _ _ (Act.put _ (some _) _) _
              simp only [Act.put, List.setIfInBounds_toArray, List.set_cons_zero, List.set_cons_succ]
              refine wpAnyH_take (i := 12) (v := ?_) rfl (by kernel_rfl) (by kernel_rfl) (by kernel_rfl) (fun _ _ _ h => h) (Or.inl ⟨by rfl, ?_⟩) hHeld ?_
              rotate_left
              · intro w9 hS9
                go_simp
                try with_reducible rfl
              show wpAnyH _ _ _ _ _ _ _ (Act.put _ (some _) _) _
              simp only [Act.put, List.setIfInBounds_toArray, List.set_cons_zero, List.set_cons_succ]
              refine wpAnyH_take (i := 13) (v := ?_) rfl (by kernel_rfl) (by kernel_rfl) (by kernel_rfl) (fun _ _ _ h => h) (Or.inl ⟨by rfl, ?_⟩) hHeld ?_
              rotate_left
              · intro w9 hS9
                go_simp
                try with_reducible rfl
              show wpAnyH _ _ _ _ _ _ _ (Act.put _ (some _) _) _
              simp only [Act.put, List.setIfInBounds_toArray, List.set_cons_zero, List.set_cons_succ]
              refine wpAnyH_take (i := 14) (v := ?_) rfl (by kernel_rfl) (by kernel_rfl) (by kernel_rfl) (fun _ _ _ h => h) (Or.inl ⟨by rfl, ?_⟩) hHeld ?_
              rotate_left
              · intro w9 hS9
                have g0 := HCk.out w9 (HFr.out.keep hS9).below
                go_simp
                try with_reducible rfl
              show wpAnyH _ _ _ _ _ _ _ (Act.put _ (some _) _) _
              simp only [Act.put, List.setIfInBounds_toArray, List.set_cons_zero, List.set_cons_succ]
              refine wpAnyH_ready (rs := [15]) (by kernel_rfl) (by simp) ?_
              refine AllReadyH.cons rfl (fun K hK => ?_) AllReadyH.nil
              go_simp
              go_wp2_with (go_at_call 32; refine (IN _).mono ?_; rintro e w8 ⟨rfl, hw8⟩; rw [hw8])
              refine hK.out _ _ ?_ (fun hHeld2 => ?_)
              · exact hHeld
              clear hK K hHeld
              have hHeld := hHeld2
              clear hHeld2
              try simp only [Act.put, List.setIfInBounds_toArray, List.set_cons_zero, List.set_cons_succ]
              refine wpAnyH_take (i := 16) (v := ?_) rfl (by kernel_rfl) (by kernel_rfl) (by kernel_rfl) (fun _ _ _ h => h) (Or.inl ⟨by rfl, ?_⟩) hHeld ?_
              rotate_left
              · intro w9 hS9
                go_simp
                try with_reducible rfl
              show wpAnyH _ _ _ _ _ _ _ (Act.put _ (some _) _) _
              simp only [Act.put, List.setIfInBounds_toArray, List.set_cons_zero, List.set_cons_succ]
              refine wpAnyH_take (i := 17) (v := ?_) rfl (by kernel_rfl) (by kernel_rfl) (by kernel_rfl) (fun _ _ _ h => h) (Or.inl ⟨by rfl, ?_⟩) hHeld ?_
              rotate_left
              · intro w9 hS9
                go_simp
                try with_reducible rfl
              show wpAnyH _ _ _ _ _ _ _ (Act.put _ (some _) _) _
              simp only [Act.put, List.setIfInBounds_toArray, List.set_cons_zero, List.set_cons_succ]
              refine wpAnyH_done (by kernel_rfl) ?_ _
              have HF5 : Hid (FBox d u0 c0 u2 c2 w w5) := HFr.out.keep hHeld
              have HB5 : Hid (Below w4.heap.size w4 w5) := HBr.out.trans (hHeld.mono HBr.out.size)
              clear hHeld hPrev bb IN TL hA hX hne'
              go_wp2_with fail
              --CUT3
              obtain ⟨wb, hwb⟩ : ∃ wb, wb = w5 := ⟨_, rfl⟩
              subst hwb
              go_loopw [7] (fun i wr => ∃ j : Nat, j ≤ k ∧ i = .int .i64 j ∧ Hid (∀ b, b < j → l.getD k 0 = l.getD b 0 → meetB d I k b = false) ∧ Hid (Below w4.heap.size w4 wr)) (fun i _ => k - (intOf i).toNat)
              case atStart => exact ⟨0, by omega, rfl, fun b hb => by omega, HB5.out⟩
              case round =>
                obtain ⟨j, hj, rfl, HNM, HBq⟩ := hrel
                obtain ⟨wq, hwq⟩ : ∃ wq, wq = wr := ⟨_, rfl⟩
                subst hwq
                have HFq : Hid (FBox d u0 c0 u2 c2 w wq) := HF4.out.keep HBq.out
                by_cases hjk : j < k
                · have hjkI : (j : Int) < k := by omega
                  have hjlI : (j : Int) < l.length := by omega
                  have HCj : Hid (∀ W, Below w.heap.size w W → W.cell? ⟨gl, off + j, none⟩ = some (.int .i64 (l.getD j 0))) := fun W hW => HCL.out j W (by omega) hW
                  obtain ⟨y, hye⟩ : ∃ y, l.getD j 0 = y := ⟨_, rfl⟩
                  have HYE : Hid (l.getD j 0 = y) := hye
                  rw [hye] at HCj
                  clear hye
                  have ML := fun W (q : Below wq.heap.size wq W) => M0 k j gi I W (HFq.out.keep q).below HG.out (HIN.out.below (HBq.out.trans (q.mono HBq.out.size))) hlt (by omega)
                  go_wp2_with fail
                  --CUT4
                  by_cases hxy : x = y
                  · have qxy : (x == y) = true := by rw [beq_iff_eq]; exact hxy
                    have HXY : Hid (x = y) := hxy
                    clear hxy
                    refine wp_region_held_drew (S := fun w' => Below wq.heap.size wq w') (by kernel_rfl) ((Below.refl _ _).drew) (fun hHeld => ?_)
                    refine wpAnyH_take (i := 0) (v := ?_) rfl (by kernel_rfl) (by kernel_rfl) (by kernel_rfl) (fun _ _ _ h => h) (Or.inl ⟨by rfl, ?_⟩) hHeld ?_
                    rotate_left
                    · intro w9 hS9
                      go_simp
                      try with_reducible rfl
                    show wpAnyH _ _ _ _ _ _ _ (Act.put _ (some _) _) _
                    simp only [Act.put, List.setIfInBounds_toArray, List.set_cons_zero, List.set_cons_succ]
                    refine wpAnyH_take (i := 1) (v := ?_) rfl (by kernel_rfl) (by kernel_rfl) (by kernel_rfl) (fun _ _ _ h => h) (Or.inl ⟨by rfl, ?_⟩) hHeld ?_
                    rotate_left
                    · intro w9 hS9
                      go_simp
                      try with_reducible rfl
                    show wpAnyH _ _ _ _ _ _ _ (Act.put _ (some _) _) _
                    simp only [Act.put, List.setIfInBounds_toArray, List.set_cons_zero, List.set_cons_succ]
                    refine wpAnyH_take (i := 2) (v := ?_) rfl (by kernel_rfl) (by kernel_rfl) (by kernel_rfl) (fun _ _ _ h => h) (Or.inl ⟨by rfl, ?_⟩) hHeld ?_
                    rotate_left
                    · intro w9 hS9
                      go_simp
                      try with_reducible rfl
                    show wpAnyH _ _ _ _ _ _ _ (Act.put _ (some _) _) _
                    simp only [Act.put, List.setIfInBounds_toArray, List.set_cons_zero, List.set_cons_succ]
                    refine wpAnyH_take (i := 3) (v := ?_) rfl (by kernel_rfl) (by kernel_rfl) (by kernel_rfl) (fun _ _ _ h => h) (Or.inl ⟨by rfl, ?_⟩) hHeld ?_
                    rotate_left
                    · intro w9 hS9
                      have g0 := HCk.out w9 (HFq.out.keep hS9).below
                      go_simp
                      try with_reducible rfl
                    show wpAnyH _ _ _ _ _ _ _ (Act.put _ (some _) _) _
                    simp only [Act.put, List.setIfInBounds_toArray, List.set_cons_zero, List.set_cons_succ]
                    refine wpAnyH_take (i := 4) (v := ?_) rfl (by kernel_rfl) (by kernel_rfl) (by kernel_rfl) (fun _ _ _ h => h) (Or.inl ⟨by rfl, ?_⟩) hHeld ?_
                    rotate_left
                    · intro w9 hS9
                      go_simp
                      try with_reducible rfl
                    show wpAnyH _ _ _ _ _ _ _ (Act.put _ (some _) _) _
                    simp only [Act.put, List.setIfInBounds_toArray, List.set_cons_zero, List.set_cons_succ]
                    refine wpAnyH_take (i := 5) (v := ?_) rfl (by kernel_rfl) (by kernel_rfl) (by kernel_rfl) (fun _ _ _ h => h) (Or.inl ⟨by rfl, ?_⟩) hHeld ?_
                    rotate_left
                    · intro w9 hS9
                      go_simp
                      try with_reducible rfl
                    show wpAnyH _ _ _ _ _ _ _ (Act.put _ (some _) _) _
                    simp only [Act.put, List.setIfInBounds_toArray, List.set_cons_zero, List.set_cons_succ]
                    refine wpAnyH_take (i := 6) (v := ?_) rfl (by kernel_rfl) (by kernel_rfl) (by kernel_rfl) (fun _ _ _ h => h) (Or.inl ⟨by rfl, ?_⟩) hHeld ?_
                    rotate_left
                    · intro w9 hS9
                      go_simp
                      try with_reducible rfl
                    show wpAnyH _ _ _ _ _ _ _ (Act.put _ (some _) _) _
                    simp only [Act.put, List.setIfInBounds_toArray, List.set_cons_zero, List.set_cons_succ]
                    refine wpAnyH_take (i := 7) (v := ?_) rfl (by kernel_rfl) (by kernel_rfl) (by kernel_rfl) (fun _ _ _ h => h) (Or.inl ⟨by rfl, ?_⟩) hHeld ?_
                    rotate_left
                    · intro w9 hS9
                      have g0 := HCj.out w9 (HFq.out.keep hS9).below
                      go_simp
                      try with_reducible rfl
                    show wpAnyH _ _ _ _ _ _ _ (Act.put _ (some _) _) _
                    simp only [Act.put, List.setIfInBounds_toArray, List.set_cons_zero, List.set_cons_succ]
                    refine wpAnyH_take (i := 8) (v := ?_) rfl (by kernel_rfl) (by kernel_rfl) (by kernel_rfl) (fun _ _ _ h => h) (Or.inl ⟨by rfl, ?_⟩) hHeld ?_
                    rotate_left
                    · intro w9 hS9
                      go_simp
                      try with_reducible rfl
                    show wpAnyH _ _ _ _ _ _ _ (Act.put _ (some _) _) _
                    simp only [Act.put, List.setIfInBounds_toArray, List.set_cons_zero, List.set_cons_succ]
                    refine wpAnyH_take (i := 9) (v := ?_) rfl (by kernel_rfl) (by kernel_rfl) (by kernel_rfl) (fun _ _ _ h => h) (Or.inl ⟨by rfl, ?_⟩) hHeld ?_
                    rotate_left
                    · intro w9 hS9
                      go_simp
                      try with_reducible rfl
                    show wpAnyH _ _ _ _ _ _ _ (Act.put _ (some _) _) _
                    simp only [Act.put, List.setIfInBounds_toArray, List.set_cons_zero, List.set_cons_succ]
                    refine wpAnyH_take (i := 10) (v := ?_) rfl (by kernel_rfl) (by kernel_rfl) (by kernel_rfl) (fun _ _ _ h => h) (Or.inl ⟨by rfl, ?_⟩) hHeld ?_
                    rotate_left
                    · intro w9 hS9
                      have g0 := (HFq.out.keep hS9).a0
                      have g1 := (HFq.out.keep hS9).a1
                      have g2 := (HFq.out.keep hS9).a2
                      go_simp
                      try with_reducible rfl
                    show wpAnyH _ _ _ _ _ _ _ (Act.put _ (some _) _) _
                    simp only [Act.put, List.setIfInBounds_toArray, List.set_cons_zero, List.set_cons_succ]
                    refine wpAnyH_take (i := 11) (v := ?_) rfl (by kernel_rfl) (by kernel_rfl) (by kernel_rfl) (fun _ _ _ h => h) (Or.inl ⟨by rfl, ?_⟩) hHeld ?_
                    rotate_left
                    · intro w9 hS9
                      go_simp
                      try with_reducible rfl
                    show wpAnyH _ _ _ _ _ _ _ (Act.put _ (some _) _) _
                    simp only [Act.put, List.setIfInBounds_toArray, List.set_cons_zero, List.set_cons_succ]
                    refine wpAnyH_take (i := 12) (v := ?_) rfl (by kernel_rfl) (by kernel_rfl) (by kernel_rfl) (fun _ _ _ h => h) (Or.inl ⟨by rfl, ?_⟩) hHeld ?_
                    rotate_left
                    · intro w9 hS9
                      go_simp
                      try with_reducible rfl
                    show wpAnyH _ _ _ _ _ _ _ (Act.put _ (some _) _) _
                    simp only [Act.put, List.setIfInBounds_toArray, List.set_cons_zero, List.set_cons_succ]
                    refine wpAnyH_take (i := 13) (v := ?_) rfl (by kernel_rfl) (by kernel_rfl) (by kernel_rfl) (fun _ _ _ h => h) (Or.inl ⟨by rfl, ?_⟩) hHeld ?_
                    rotate_left
                    · intro w9 hS9
                      go_simp
                      try with_reducible rfl
                    show wpAnyH _ _ _ _ _ _ _ (Act.put _ (some _) _) _
                    simp only [Act.put, List.setIfInBounds_toArray, List.set_cons_zero, List.set_cons_succ]
                    refine wpAnyH_ready (rs := [14]) (by kernel_rfl) (by simp) ?_
                    refine AllReadyH.cons rfl (fun K hK => ?_) AllReadyH.nil
                    go_simp
                    go_wp2_with (go_at_call 46; refine (ML _ hHeld).mono ?_; rintro e w6 ⟨rfl, bb⟩; have bc := hHeld.trans (bb.mono hHeld.size))
                    refine hK.out _ _ ?_ (fun hHeld2 => ?_)
                    · exact bc
                    clear hK K
                    have hPrev := hHeld
                    clear hHeld
                    have hHeld := hHeld2
                    clear hHeld2 bc
                    try simp only [Act.put, List.setIfInBounds_toArray, List.set_cons_zero, List.set_cons_succ]
                    refine wpAnyH_take (i := 15) (v := ?_) rfl (by kernel_rfl) (by kernel_rfl) (by kernel_rfl) (fun _ _ _ h => h) (Or.inl ⟨by rfl, ?_⟩) hHeld ?_
                    rotate_left
                    · intro w9 hS9
                      go_simp
                      try with_reducible rfl
                    show wpAnyH _ _ _ _ _ _ _ (Act.put _ (some _) _) _
                    simp only [Act.put, List.setIfInBounds_toArray, List.set_cons_zero, List.set_cons_succ]
                    refine wpAnyH_done (by kernel_rfl) ?_ _
                    have HB6 : Hid (Below w4.heap.size w4 w6) := HBq.out.trans (hHeld.mono HBq.out.size)
                    have HF6 : Hid (FBox d u0 c0 u2 c2 w w6) := HFq.out.keep hHeld
                    clear hHeld hPrev bb qxy
                    cases hm : meetB d I k j with
                    | true =>
                      have HM : Hid (mayB d I l k = false) := may_meets HFIT.out hjk (by rw [HXE.out, HYE.out]; exact HXY.out) hm
                      have E : Hid (false = colB d I l (cntF d)) := (col_mono (k := k + 1) (by rw [col_step, HM.out, Bool.and_false]) (by omega)).symm
                      go_wp2_with fail
                      go_ret
                      exact ⟨_, rfl, .inr ⟨HE.out, I, HFX.out, E.out⟩, HF6.out.below⟩
                    | false =>
                      go_wp2_with fail
                      go_roundw
                      case rel => exact ⟨j + 1, by omega, by go_num, fun b hb he => by
                        by_cases e : b = j
                        · subst e; exact hm
                        · exact HNM.out b (by omega) he, HB6⟩
                      case measure => simp [intOf]; omega
                  · have qxy : (x == y) = false := by rw [beq_eq_false_iff_ne]; exact hxy
                    refine wp_region_held_drew (S := fun w' => Below wq.heap.size wq w') (by kernel_rfl) ((Below.refl _ _).drew) (fun hHeld => ?_)
                    refine wpAnyH_take (i := 0) (v := ?_) rfl (by kernel_rfl) (by kernel_rfl) (by kernel_rfl) (fun _ _ _ h => h) (Or.inl ⟨by rfl, ?_⟩) hHeld ?_
                    rotate_left
                    · intro w9 hS9
                      go_simp
                      try with_reducible rfl
                    show wpAnyH _ _ _ _ _ _ _ (Act.put _ (some _) _) _
                    simp only [Act.put, List.setIfInBounds_toArray, List.set_cons_zero, List.set_cons_succ]
                    refine wpAnyH_take (i := 1) (v := ?_) rfl (by kernel_rfl) (by kernel_rfl) (by kernel_rfl) (fun _ _ _ h => h) (Or.inl ⟨by rfl, ?_⟩) hHeld ?_
                    rotate_left
                    · intro w9 hS9
                      go_simp
                      try with_reducible rfl
                    show wpAnyH _ _ _ _ _ _ _ (Act.put _ (some _) _) _
                    simp only [Act.put, List.setIfInBounds_toArray, List.set_cons_zero, List.set_cons_succ]
                    refine wpAnyH_take (i := 2) (v := ?_) rfl (by kernel_rfl) (by kernel_rfl) (by kernel_rfl) (fun _ _ _ h => h) (Or.inl ⟨by rfl, ?_⟩) hHeld ?_
                    rotate_left
                    · intro w9 hS9
                      go_simp
                      try with_reducible rfl
                    show wpAnyH _ _ _ _ _ _ _ (Act.put _ (some _) _) _
                    simp only [Act.put, List.setIfInBounds_toArray, List.set_cons_zero, List.set_cons_succ]
                    refine wpAnyH_take (i := 3) (v := ?_) rfl (by kernel_rfl) (by kernel_rfl) (by kernel_rfl) (fun _ _ _ h => h) (Or.inl ⟨by rfl, ?_⟩) hHeld ?_
                    rotate_left
                    · intro w9 hS9
                      have g0 := HCk.out w9 (HFq.out.keep hS9).below
                      go_simp
                      try with_reducible rfl
                    show wpAnyH _ _ _ _ _ _ _ (Act.put _ (some _) _) _
                    simp only [Act.put, List.setIfInBounds_toArray, List.set_cons_zero, List.set_cons_succ]
                    refine wpAnyH_take (i := 4) (v := ?_) rfl (by kernel_rfl) (by kernel_rfl) (by kernel_rfl) (fun _ _ _ h => h) (Or.inl ⟨by rfl, ?_⟩) hHeld ?_
                    rotate_left
                    · intro w9 hS9
                      go_simp
                      try with_reducible rfl
                    show wpAnyH _ _ _ _ _ _ _ (Act.put _ (some _) _) _
                    simp only [Act.put, List.setIfInBounds_toArray, List.set_cons_zero, List.set_cons_succ]
                    refine wpAnyH_take (i := 5) (v := ?_) rfl (by kernel_rfl) (by kernel_rfl) (by kernel_rfl) (fun _ _ _ h => h) (Or.inl ⟨by rfl, ?_⟩) hHeld ?_
                    rotate_left
                    · intro w9 hS9
                      go_simp
                      try with_reducible rfl
                    show wpAnyH _ _ _ _ _ _ _ (Act.put _ (some _) _) _
                    simp only [Act.put, List.setIfInBounds_toArray, List.set_cons_zero, List.set_cons_succ]
                    refine wpAnyH_take (i := 6) (v := ?_) rfl (by kernel_rfl) (by kernel_rfl) (by kernel_rfl) (fun _ _ _ h => h) (Or.inl ⟨by rfl, ?_⟩) hHeld ?_
                    rotate_left
                    · intro w9 hS9
                      go_simp
                      try with_reducible rfl
                    show wpAnyH _ _ _ _ _ _ _ (Act.put _ (some _) _) _
                    simp only [Act.put, List.setIfInBounds_toArray, List.set_cons_zero, List.set_cons_succ]
                    refine wpAnyH_take (i := 7) (v := ?_) rfl (by kernel_rfl) (by kernel_rfl) (by kernel_rfl) (fun _ _ _ h => h) (Or.inl ⟨by rfl, ?_⟩) hHeld ?_
                    rotate_left
                    · intro w9 hS9
                      have g0 := HCj.out w9 (HFq.out.keep hS9).below
                      go_simp
                      try with_reducible rfl
                    show wpAnyH _ _ _ _ _ _ _ (Act.put _ (some _) _) _
                    simp only [Act.put, List.setIfInBounds_toArray, List.set_cons_zero, List.set_cons_succ]
                    refine wpAnyH_take (i := 8) (v := ?_) rfl (by kernel_rfl) (by kernel_rfl) (by kernel_rfl) (fun _ _ _ h => h) (Or.inl ⟨by rfl, ?_⟩) hHeld ?_
                    rotate_left
                    · intro w9 hS9
                      go_simp
                      try with_reducible rfl
                    show wpAnyH _ _ _ _ _ _ _ (Act.put _ (some _) _) _
                    simp only [Act.put, List.setIfInBounds_toArray, List.set_cons_zero, List.set_cons_succ]
                    refine wpAnyH_take (i := 9) (v := ?_) rfl (by kernel_rfl) (by kernel_rfl) (by kernel_rfl) (fun _ _ _ h => h) (Or.inl ⟨by rfl, ?_⟩) hHeld ?_
                    rotate_left
                    · intro w9 hS9
                      go_simp
                      try with_reducible rfl
                    show wpAnyH _ _ _ _ _ _ _ (Act.put _ (some _) _) _
                    simp only [Act.put, List.setIfInBounds_toArray, List.set_cons_zero, List.set_cons_succ]
                    refine wpAnyH_take (i := 10) (v := undef) rfl (by kernel_rfl) (by kernel_rfl) (by kernel_rfl) (fun _ _ _ h => h) (Or.inr ⟨by rfl, rfl⟩) hHeld ?_
                    show wpAnyH _ _ _ _ _ _ _ (Act.put _ (some _) _) _
                    simp only [Act.put, List.setIfInBounds_toArray, List.set_cons_zero, List.set_cons_succ]
                    refine wpAnyH_take (i := 11) (v := undef) rfl (by kernel_rfl) (by kernel_rfl) (by kernel_rfl) (fun _ _ _ h => h) (Or.inr ⟨by rfl, rfl⟩) hHeld ?_
                    show wpAnyH _ _ _ _ _ _ _ (Act.put _ (some _) _) _
                    simp only [Act.put, List.setIfInBounds_toArray, List.set_cons_zero, List.set_cons_succ]
                    refine wpAnyH_take (i := 12) (v := undef) rfl (by kernel_rfl) (by kernel_rfl) (by kernel_rfl) (fun _ _ _ h => h) (Or.inr ⟨by rfl, rfl⟩) hHeld ?_
                    show wpAnyH _ _ _ _ _ _ _ (Act.put _ (some _) _) _
                    simp only [Act.put, List.setIfInBounds_toArray, List.set_cons_zero, List.set_cons_succ]
                    refine wpAnyH_take (i := 13) (v := undef) rfl (by kernel_rfl) (by kernel_rfl) (by kernel_rfl) (fun _ _ _ h => h) (Or.inr ⟨by rfl, rfl⟩) hHeld ?_
                    show wpAnyH _ _ _ _ _ _ _ (Act.put _ (some _) _) _
                    simp only [Act.put, List.setIfInBounds_toArray, List.set_cons_zero, List.set_cons_succ]
                    refine wpAnyH_take (i := 14) (v := undef) rfl (by kernel_rfl) (by kernel_rfl) (by kernel_rfl) (fun _ _ _ h => h) (Or.inr ⟨by rfl, rfl⟩) hHeld ?_
                    show wpAnyH _ _ _ _ _ _ _ (Act.put _ (some _) _) _
                    simp only [Act.put, List.setIfInBounds_toArray, List.set_cons_zero, List.set_cons_succ]
                    refine wpAnyH_take (i := 15) (v := ?_) rfl (by kernel_rfl) (by kernel_rfl) (by kernel_rfl) (fun _ _ _ h => h) (Or.inl ⟨by rfl, ?_⟩) hHeld ?_
                    rotate_left
                    · intro w9 hS9
                      go_simp
                      try with_reducible rfl
                    show wpAnyH _ _ _ _ _ _ _ (Act.put _ (some _) _) _
                    simp only [Act.put, List.setIfInBounds_toArray, List.set_cons_zero, List.set_cons_succ]
                    refine wpAnyH_done (by kernel_rfl) ?_ _
                    have HB6 : Hid (Below w4.heap.size w4 wq.drew) := HBq.out.drew
                    go_wp2_with fail
                    go_roundw
                    case rel => exact ⟨j + 1, by omega, by go_num, fun b hb he => by
                      by_cases e : b = j
                      · subst e; rw [HXE.out, HYE.out] at he; exact absurd he hxy
                      · exact HNM.out b (by omega) he, HB6⟩
                    case measure => simp [intOf]; omega
                · have e : j = k := by omega
                  subst e
                  go_wp2_with fail
                  go_roundw
                  case rel => exact ⟨j + 1, by omega, by go_num, by show _ = _; rw [col_step, HCB.out, may_fit HFIT.out HNM.out]; rfl, HBq⟩
                  case measure => simp [intOf]; omega
            · have hd : (decide (-1 ≤ x) && decide (x ≤ 59)) = false := by rw [← Bool.decide_and]; exact decide_eq_false hin
              rw [hd] at IN
              have HM : Hid (mayB d I l k = false) := may_out (by rw [HXE.out]; exact hin)
              have E : Hid (false = colB d I l (cntF d)) := (col_mono (k := k + 1) (by rw [col_step, HM.out, Bool.and_false]) (by omega)).symm
              clear hd hin
              refine wp_region_held_drew (S := fun w' => Below wo.heap.size wo w') (by kernel_rfl) ((Below.refl _ _).drew) (fun hHeld => ?_)
              refine wpAnyH_take (i := 0) (v := ?_) rfl (by kernel_rfl) (by kernel_rfl) (by kernel_rfl) (fun _ _ _ h => h) (Or.inl ⟨by rfl, ?_⟩) hHeld ?_
              rotate_left
              · intro w9 hS9
                have g0 := (HFr.out.keep hS9).a0
                have g1 := (HFr.out.keep hS9).a1
                have g2 := (HFr.out.keep hS9).a2
                go_simp
                try with_reducible rfl
              show wpAnyH _ _ _ _ _ _ _ (Act.put _ (some _) _) _
              simp only [Act.put, List.setIfInBounds_toArray, List.set_cons_zero, List.set_cons_succ]
              refine wpAnyH_take (i := 1) (v := ?_) rfl (by kernel_rfl) (by kernel_rfl) (by kernel_rfl) (fun _ _ _ h => h) (Or.inl ⟨by rfl, ?_⟩) hHeld ?_
              rotate_left
              · intro w9 hS9
                go_simp
                try with_reducible rfl
              show wpAnyH _ _ _ _ _ _ _ (Act.put _ (some _) _) _
              simp only [Act.put, List.setIfInBounds_toArray, List.set_cons_zero, List.set_cons_succ]
              refine wpAnyH_take (i := 4) (v := ?_) rfl (by kernel_rfl) (by kernel_rfl) (by kernel_rfl) (fun _ _ _ h => h) (Or.inl ⟨by rfl, ?_⟩) hHeld ?_
              rotate_left
              · intro w9 hS9
                go_simp
                try with_reducible rfl
              show wpAnyH _ _ _ _ _ _ _ (Act.put _ (some _) _) _
              simp only [Act.put, List.setIfInBounds_toArray, List.set_cons_zero, List.set_cons_succ]
              refine wpAnyH_take (i := 5) (v := ?_) rfl (by kernel_rfl) (by kernel_rfl) (by kernel_rfl) (fun _ _ _ h => h) (Or.inl ⟨by rfl, ?_⟩) hHeld ?_
              rotate_left
              · intro w9 hS9
                go_simp
                try with_reducible rfl
              show wpAnyH _ _ _ _ _ _ _ (Act.put _ (some _) _) _
              simp only [Act.put, List.setIfInBounds_toArray, List.set_cons_zero, List.set_cons_succ]
              refine wpAnyH_take (i := 6) (v := ?_) rfl (by kernel_rfl) (by kernel_rfl) (by kernel_rfl) (fun _ _ _ h => h) (Or.inl ⟨by rfl, ?_⟩) hHeld ?_
              rotate_left
              · intro w9 hS9
                go_simp
                try with_reducible rfl
              show wpAnyH _ _ _ _ _ _ _ (Act.put _ (some _) _) _
              simp only [Act.put, List.setIfInBounds_toArray, List.set_cons_zero, List.set_cons_succ]
              refine wpAnyH_take (i := 7) (v := ?_) rfl (by kernel_rfl) (by kernel_rfl) (by kernel_rfl) (fun _ _ _ h => h) (Or.inl ⟨by rfl, ?_⟩) hHeld ?_
              rotate_left
              · intro w9 hS9
                have g0 := HCk.out w9 (HFr.out.keep hS9).below
                go_simp
                try with_reducible rfl
              show wpAnyH _ _ _ _ _ _ _ (Act.put _ (some _) _) _
              simp only [Act.put, List.setIfInBounds_toArray, List.set_cons_zero, List.set_cons_succ]
              refine wpAnyH_take (i := 8) (v := ?_) rfl (by kernel_rfl) (by kernel_rfl) (by kernel_rfl) (fun _ _ _ h => h) (Or.inl ⟨by rfl, ?_⟩) hHeld ?_
              rotate_left
              · intro w9 hS9
                go_simp
                try with_reducible rfl
              show wpAnyH _ _ _ _ _ _ _ (Act.put _ (some _) _) _
              simp only [Act.put, List.setIfInBounds_toArray, List.set_cons_zero, List.set_cons_succ]
              refine wpAnyH_ready (rs := [2]) (by kernel_rfl) (by simp) ?_
              refine AllReadyH.cons rfl (fun K hK => ?_) AllReadyH.nil
              go_simp
              go_wp2_with (go_at_call 48; refine (TL _ (HFr.out.keep hHeld).below).mono ?_; rintro e w5 ⟨rfl, bb⟩; have bc := hHeld.trans (bb.mono hHeld.size))
              refine hK.out _ _ ?_ (fun hHeld2 => ?_)
              · exact bc
              clear hK K
              have hPrev := hHeld
              clear hHeld
              have hHeld := hHeld2
              clear hHeld2 bc
              try simp only [Act.put, List.setIfInBounds_toArray, List.set_cons_zero, List.set_cons_succ]
              refine wpAnyH_take (i := 3) (v := ?_) rfl (by kernel_rfl) (by kernel_rfl) (by kernel_rfl) (fun _ _ _ h => h) (Or.inl ⟨by rfl, ?_⟩) hHeld ?_
              rotate_left
              · intro w9 hS9
                go_simp
                try with_reducible rfl
              show wpAnyH _ _ _ _ _ _ _ (Act.put _ (some _) _) _
              simp only [Act.put, List.setIfInBounds_toArray, List.set_cons_zero, List.set_cons_succ]
              refine wpAnyH_take (i := 9) (v := ?_) rfl (by kernel_rfl) (by kernel_rfl) (by kernel_rfl) (fun _ _ _ h => h) (Or.inl ⟨by rfl, ?_⟩) hHeld ?_
              rotate_left
              · intro w9 hS9
                go_simp
                try with_reducible rfl
              show wpAnyH _ _ _ _ _ _ _ (Act.put _ (some _) _) _
              simp only [Act.put, List.setIfInBounds_toArray, List.set_cons_zero, List.set_cons_succ]
              refine wpAnyH_take (i := 10) (v := ?_) rfl (by kernel_rfl) (by kernel_rfl) (by kernel_rfl) (fun _ _ _ h => h) (Or.inl ⟨by rfl, ?_⟩) hHeld ?_
              rotate_left
              · intro w9 hS9
                go_simp
                try with_reducible rfl
              show wpAnyH _ _ _ _ _ _ _ (Act.put _ (some _) _) _
              simp only [Act.put, List.setIfInBounds_toArray, List.set_cons_zero, List.set_cons_succ]
              refine wpAnyH_take (i := 11) (v := ?_) rfl (by kernel_rfl) (by kernel_rfl) (by kernel_rfl) (fun _ _ _ h => h) (Or.inl ⟨by rfl, ?_⟩) hHeld ?_
              rotate_left
              · intro w9 hS9
                go_simp
                try with_reducible rfl
              show wpAnyH _ _ _ _ _ _ _ (Act.put _ (some _) _) _
              simp only [Act.put, List.setIfInBounds_toArray, List.set_cons_zero, List.set_cons_succ]
              refine wpAnyH_take (i := 12) (v := ?_) rfl (by kernel_rfl) (by kernel_rfl) (by kernel_rfl) (fun _ _ _ h => h) (Or.inl ⟨by rfl, ?_⟩) hHeld ?_
              rotate_left
              · intro w9 hS9
                go_simp
                try with_reducible rfl
              show wpAnyH _ _ _ _ _ _ _ (Act.put _ (some _) _) _
              simp only [Act.put, List.setIfInBounds_toArray, List.set_cons_zero, List.set_cons_succ]
              refine wpAnyH_take (i := 13) (v := ?_) rfl (by kernel_rfl) (by kernel_rfl) (by kernel_rfl) (fun _ _ _ h => h) (Or.inl ⟨by rfl, ?_⟩) hHeld ?_
              rotate_left
              · intro w9 hS9
                go_simp
                try with_reducible rfl
              show wpAnyH _ _ _ _ _ _ _ (Act.put _ (some _) _) _
              simp only [Act.put, List.setIfInBounds_toArray, List.set_cons_zero, List.set_cons_succ]
              refine wpAnyH_take (i := 14) (v := ?_) rfl (by kernel_rfl) (by kernel_rfl) (by kernel_rfl) (fun _ _ _ h => h) (Or.inl ⟨by rfl, ?_⟩) hHeld ?_
              rotate_left
              · intro w9 hS9
                have g0 := HCk.out w9 (HFr.out.keep hS9).below
                go_simp
                try with_reducible rfl
              show wpAnyH _ _ _ _ _ _ _ (Act.put _ (some _) _) _
              simp only [Act.put, List.setIfInBounds_toArray, List.set_cons_zero, List.set_cons_succ]
              refine wpAnyH_ready (rs := [15]) (by kernel_rfl) (by simp) ?_
              refine AllReadyH.cons rfl (fun K hK => ?_) AllReadyH.nil
              go_simp
              go_wp2_with (go_at_call 32; refine (IN _).mono ?_; rintro e w8 ⟨rfl, hw8⟩; rw [hw8])
              refine hK.out _ _ ?_ (fun hHeld2 => ?_)
              · exact hHeld
              clear hK K hHeld
              have hHeld := hHeld2
              clear hHeld2
              try simp only [Act.put, List.setIfInBounds_toArray, List.set_cons_zero, List.set_cons_succ]
              refine wpAnyH_take (i := 16) (v := ?_) rfl (by kernel_rfl) (by kernel_rfl) (by kernel_rfl) (fun _ _ _ h => h) (Or.inl ⟨by rfl, ?_⟩) hHeld ?_
              rotate_left
              · intro w9 hS9
                go_simp
                try with_reducible rfl
              show wpAnyH _ _ _ _ _ _ _ (Act.put _ (some _) _) _
              simp only [Act.put, List.setIfInBounds_toArray, List.set_cons_zero, List.set_cons_succ]
              refine wpAnyH_take (i := 17) (v := ?_) rfl (by kernel_rfl) (by kernel_rfl) (by kernel_rfl) (fun _ _ _ h => h) (Or.inl ⟨by rfl, ?_⟩) hHeld ?_
              rotate_left
              · intro w9 hS9
                go_simp
                try with_reducible rfl
              show wpAnyH _ _ _ _ _ _ _ (Act.put _ (some _) _) _
              simp only [Act.put, List.setIfInBounds_toArray, List.set_cons_zero, List.set_cons_succ]
              refine wpAnyH_done (by kernel_rfl) ?_ _
              have HF5 : Hid (FBox d u0 c0 u2 c2 w w5) := HFr.out.keep hHeld
              go_wp2_with fail
              go_ret
              exact ⟨_, rfl, .inr ⟨HE.out, I, HFX.out, E.out⟩, HF5.out.below⟩
        · have e : k = cntF d := by omega
          have hkl : ¬ ((k : Int) < l.length) := by rw [HLN.out]; omega
          subst e
          go_wp2_with fail
          go_ret
          exact .inr ⟨rfl, .inr ⟨HE.out, I, HFX.out, HCB.out.symm⟩, HFr.out.below⟩
    · have HE : Hid ((okB d && decide (l.length = cntF d)) = false) := by show _ = _; rw [hO]; simp [hl]
      have qe : ((l.length : Int) != (cntF d : Int)) = true := by rw [bne_iff_ne]; omega
      clear hl hO
      go_wp2_with fail
      go_ret
      exact ⟨_, rfl, .inl ⟨HE.out, rfl⟩, HF2.out.below⟩
end Go.Proofs.YtolaghondjfhdaaGreatDoor
