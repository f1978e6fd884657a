/- The model's FuncChecked and Checked. -/
import Derived.Test.YthcaagkkajopiaaGreatDoorFmJQ
namespace Go.Proofs.YthcaagkkajopiaaGreatDoor
open Go.RowKit
set_option linter.unusedVariables false
set_option linter.unusedSimpArgs false

theorem codeAbv (lo : Nat) (l : List FuncD) (d : FuncD) (pm : Option Addr) (cm : Nat) (p0 : Option Addr) (c0 : Nat) (p2 : Option Addr) (c2 : Nat) (c : Int) (w : World) (x : Abv (fun v => Below w.heap.size w v)) (hsl : SmMod l) (hs : SmFunc d) (kM : FuncsAt w lo pm l) (k0 : IntsAt w lo p0 d.params) (k2 : BlocksAt w lo p2 d.blocks) (hF : Form l.length d) (hc : CodeF l d c) :
    Calls Tryz.prog 15 #[.agg #[.slice pm l.length cm], .agg #[.slice p0 d.params.length c0, .int .i64 d.ret, .slice p2 d.blocks.length c2]] x.v fun e w'' => e = .returned (.int .i64 c) ∧ ∃ y : Abv (fun v => Below w.heap.size w v), w'' = y.v :=
  abv_call x (codeS lo l d pm cm p0 c0 p2 c2 c x.v hsl hs (kM.keep (agree_of_below x.ok _)) (k0.keep (agree_of_below x.ok _)) (k2.keep (agree_of_below x.ok _)) hF hc)
set_option maxHeartbeats 4000000 in
set_option maxRecDepth 100000 in
theorem fcheckS (lo : Nat) (l : List FuncD) (pm : Option Addr) (cm : Nat) (k c : Int) (w : World) (hsl : SmMod l) (kM : FuncsAt w lo pm l) (hc : FCode l k c) :
    Calls Tryz.prog 6 #[.agg #[.slice pm l.length cm], .int .i64 k] w fun e w' => e = .returned (.int .i64 c) ∧ Below w.heap.size w w' := by
  have hB0 : Below w.heap.size w (w.alloc (.cells #[.slice pm l.length cm] 29)) := (Below.refl _ _).alloc (Nat.le_refl _) _
  have DM := modShS lo l pm cm _ hsl (kM.keep (agree_of_below hB0 lo))
  have HSL : Hid (SmMod l) := hsl
  have HKM : Hid (FuncsAt w lo pm l) := kM
  have hll := hsl.1
  clear hsl kM
  by_cases hm : modB l = true
  · have hl3 := mod_len hm
    rw [hm] at DM
    have IN := fun (W : World) => inB k l.length W
    by_cases hk : 0 ≤ k ∧ k < l.length
    · have hc' : CodeF l (l.getD k.toNat func0) c := by
        rcases hc with h | h
        · exact absurd ⟨hm, hk⟩ h.1
        · exact h.2
      obtain ⟨m, hme, hml⟩ := nat_of hk
      subst hme
      rw [show belowB (m : Int) l.length = true by simp [belowB, hml]] at IN
      rw [Int.toNat_natCast] at hc'
      have HFm := mod_form hm hml
      rcases HKM.out.2 with hn | ⟨fb, fo, hume, hflo, hfb', hfc⟩
      · simp [hn] at hml
      subst hume
      obtain ⟨⟨g0, gq0, n0, nm0⟩, n1, ⟨g2, gq2, n2, nm2⟩⟩ := hfc m hml
      have hgs := HSL.out.2 _ (getD_mem func0 l m hml)
      generalize l.getD m func0 = g at n0 nm0 n1 n2 nm2 hgs HFm hc'
      have HGS : Hid (SmFunc g) := hgs
      have HCC : Hid (CodeF l g c) := hc'
      have HFF : Hid (Form l.length g) := HFm
      have HN : Hid (IntsAt w lo g0 g.params ∧ BlocksAt w lo g2 g.blocks) := ⟨nm0, nm2⟩
      have HCa : Hid (_ ∧ _ ∧ _) := ⟨n0, n1, n2⟩
      have hmi : (m : Int) < l.length := by omega
      clear hfc n0 n1 n2 nm0 nm2 hgs hc' HFm hc hm hk
      go_enter Tryz.func6, Tryz.ntmps6
      go_wp2_with (first | (go_at_call 13; refine DM.mono ?_; rintro e w1 ⟨rfl, hb1⟩; have HB1 : Hid (Below w.heap.size w w1) := hB0.trans (hb1.mono (by simp)); have am := (bcell hb1 w.heap.size 0 (by simp)).trans ((cell_of_heap (heap_alloc_last _ _)).trans rfl); have l1 : w.heap.size < w1.heap.size := (by have := hb1.size; simp at this; omega); clear hb1) | (go_at_call 14; refine (IN _).mono ?_; rintro e w9 ⟨rfl, hw9⟩; rw [hw9]; clear hw9))
      have F0 := (bcell HB1.out _ _ hfb').trans HCa.out.1
      have F1 := (bcell HB1.out _ _ hfb').trans HCa.out.2.1
      have F2 := (bcell HB1.out _ _ hfb').trans HCa.out.2.2
      have l2 : fb < w1.heap.size := by have := HB1.out.size; omega
      have TC := fun xx => codeAbv lo l g (some ⟨fb, fo, none⟩) cm g0 gq0 g2 gq2 c w1 xx HSL.out HGS.out (HKM.out.keep (agree_of_below HB1.out _)) (HN.out.1.keep (agree_of_below HB1.out _)) (HN.out.2.keep (agree_of_below HB1.out _)) HFF.out HCC.out
      have hne : Nonempty (Abv (fun v => Below w1.heap.size w1 v)) := abv_ne (Below.refl _ _)
      have k0 := fun xx : Abv (fun v => Below w1.heap.size w1 v) => (bcell xx.ok _ _ l1).trans am
      have k1 := fun xx : Abv (fun v => Below w1.heap.size w1 v) => (bcell xx.ok _ _ l2).trans F0
      have k2 := fun xx : Abv (fun v => Below w1.heap.size w1 v) => (bcell xx.ok _ _ l2).trans F1
      have k3 := fun xx : Abv (fun v => Below w1.heap.size w1 v) => (bcell xx.ok _ _ l2).trans F2
      clear am F0 F1 F2
      refine wp_region_abv (fun v => Below w1.heap.size w1 v) (by kernel_rfl) (by kernel_rfl) (drew_below (Below.refl _ _)) ?_
      repeat (go_big_quiet_step (first | (go_at_call 15; with_reducible exact TC _)))
      refine wpQuiet_nil ?_
      rintro w9 ⟨⟨w9, h9⟩, rfl⟩
      have H9 : Hid (Below w1.heap.size w1 w9) := h9
      clear h9 hne k0 k1 k2 k3
      go_wp2_with fail
      go_ret
      exact ⟨rfl, HB1.out.trans (H9.out.mono HB1.out.size)⟩
    · have hc' : c = 1 := by
        rcases hc with h | h
        · exact h.2
        · exact absurd h.1.2 hk
      subst hc'
      rw [show belowB k l.length = false by simp only [belowB]; rw [← Bool.decide_and, decide_eq_false hk]] at IN
      clear hm hk hc
      go_enter Tryz.func6, Tryz.ntmps6
      go_wp2_with (first | (go_at_call 13; refine DM.mono ?_; rintro e w1 ⟨rfl, hb1⟩; have HB1 : Hid (Below w.heap.size w w1) := hB0.trans (hb1.mono (by simp)); have am := (bcell hb1 w.heap.size 0 (by simp)).trans ((cell_of_heap (heap_alloc_last _ _)).trans rfl); clear hb1) | (go_at_call 14; refine (IN _).mono ?_; rintro e w9 ⟨rfl, hw9⟩; rw [hw9]; clear hw9))
      go_ret
      exact ⟨rfl, HB1.out⟩
  · have hm' : modB l = false := by simpa using hm
    have hc' : c = 1 := by
      rcases hc with h | h
      · exact h.2
      · exact absurd h.1.1 hm
    subst hc'
    rw [hm'] at DM
    clear hm hm' hc
    go_enter Tryz.func6, Tryz.ntmps6
    go_wp2_with (first | (go_at_call 13; refine DM.mono ?_; rintro e w1 ⟨rfl, hb1⟩; have HB1 : Hid (Below w.heap.size w w1) := hB0.trans (hb1.mono (by simp)); clear hb1))
    go_ret
    exact ⟨rfl, HB1.out⟩
set_option maxHeartbeats 4000000 in
set_option maxRecDepth 100000 in
theorem mcheckS (lo : Nat) (l : List FuncD) (pm : Option Addr) (cm : Nat) (c : Int) (w : World) (hsl : SmMod l) (kM : FuncsAt w lo pm l) (hc : MCode l c) :
    Calls Tryz.prog 10 #[.agg #[.slice pm l.length cm]] w fun e w' => e = .returned (.int .i64 c) ∧ Below w.heap.size w w' := by
  have hB0 : Below w.heap.size w (w.alloc (.cells #[.slice pm l.length cm] 29)) := (Below.refl _ _).alloc (Nat.le_refl _) _
  have DM := modShS lo l pm cm _ hsl (kM.keep (agree_of_below hB0 lo))
  have HSL : Hid (SmMod l) := hsl
  have HKM : Hid (FuncsAt w lo pm l) := kM
  have HC : Hid (MCode l c) := hc
  clear hsl kM hc
  by_cases hm : modB l = true
  · have hl3 := mod_len hm
    have HM : Hid (modB l = true) := hm
    rw [hm] at DM
    clear hm
    go_enter Tryz.func10, Tryz.ntmps10
    go_wp2_with (first | (go_at_call 13; refine DM.mono ?_; rintro e w1 ⟨rfl, hb1⟩; have HX1 : Hid (Below (w.heap.size + 1) (w.alloc (.cells #[.slice pm l.length cm] 29)) w1) := hb1.mono (by simp); clear hb1 DM))
    go_loopw [3] (fun i wr => ∃ k : Nat, k ≤ l.length ∧ i = .int .i64 k ∧ Hid (∀ j, j < k → CodeF l (l.getD j func0) 0) ∧ Hid (Below (w.heap.size + 1) (w.alloc (.cells #[.slice pm l.length cm] 29)) wr)) (fun i _ => l.length - (intOf i).toNat)
    case atStart => exact ⟨0, by omega, rfl, fun j hj => by omega, HX1.out⟩
    case round =>
      obtain ⟨m, hk, rfl, HD, HX⟩ := hrel
      obtain ⟨w1, hwo⟩ : ∃ w1, w1 = wr := ⟨_, rfl⟩
      subst hwo
      clear HX1
      have HB1 : Hid (Below w.heap.size w w1) := below_box HX.out
      have hz1 : w.heap.size + 1 ≤ w1.heap.size := by have := HX.out.size; simp at this; omega
      have am : w1.cell? ⟨w.heap.size, 0, none⟩ = some (.slice pm l.length cm) := (cell_of_heap ((HX.out.block _ (by omega)).trans (heap_alloc_last _ _))).trans rfl
      by_cases hml : m < l.length
      · obtain ⟨c1, hc1⟩ := code_some l (l.getD m func0)
        have HFm := mod_form HM.out hml
        have NO : Hid (CodeF l (l.getD m func0) c1 → c1 ≠ 0 → c1 = c) := fun h h2 => MCode.one (.inr ⟨HM.out, .inr ⟨m, hml, h2, h, HD.out⟩⟩) HC.out
        have YS : Hid (CodeF l (l.getD m func0) 0 → ∀ j, j < m + 1 → CodeF l (l.getD j func0) 0) := fun h j hj => by
          by_cases e : j = m
          · subst e; exact h
          · exact HD.out j (by omega)
        rcases HKM.out.2 with hn | ⟨fb, fo, hume, hflo, hfb', hfc⟩
        · simp [hn] at hml
        subst hume
        obtain ⟨⟨g0, gq0, n0, nm0⟩, n1, ⟨g2, gq2, n2, nm2⟩⟩ := hfc m hml
        have hgs := HSL.out.2 _ (getD_mem func0 l m hml)
        generalize l.getD m func0 = g at n0 nm0 n1 n2 nm2 hgs HFm hc1 NO YS
        have HGS : Hid (SmFunc g) := hgs
        have HCC : Hid (CodeF l g c1) := hc1
        have HFF : Hid (Form l.length g) := HFm
        have HN : Hid (IntsAt w lo g0 g.params ∧ BlocksAt w lo g2 g.blocks) := ⟨nm0, nm2⟩
        have F0 := (bcell HB1.out _ _ hfb').trans n0
        have F1 := (bcell HB1.out _ _ hfb').trans n1
        have F2 := (bcell HB1.out _ _ hfb').trans n2
        have l1 : w.heap.size < w1.heap.size := by omega
        have l2 : fb < w1.heap.size := by have := HB1.out.size; omega
        clear hfc n0 n1 n2 nm0 nm2 hgs hc1 HFm HD
        by_cases hz : c1 = 0
        · subst hz
          have TC := fun xx => codeAbv lo l g (some ⟨fb, fo, none⟩) cm g0 gq0 g2 gq2 0 w1 xx HSL.out HGS.out (HKM.out.keep (agree_of_below HB1.out _)) (HN.out.1.keep (agree_of_below HB1.out _)) (HN.out.2.keep (agree_of_below HB1.out _)) HFF.out HCC.out
          go_wp2_with fail
          have hne : Nonempty (Abv (fun v => Below w1.heap.size w1 v)) := abv_ne (Below.refl _ _)
          have k0 := fun xx : Abv (fun v => Below w1.heap.size w1 v) => (bcell xx.ok _ _ l1).trans am
          have k1 := fun xx : Abv (fun v => Below w1.heap.size w1 v) => (bcell xx.ok _ _ l2).trans F0
          have k2 := fun xx : Abv (fun v => Below w1.heap.size w1 v) => (bcell xx.ok _ _ l2).trans F1
          have k3 := fun xx : Abv (fun v => Below w1.heap.size w1 v) => (bcell xx.ok _ _ l2).trans F2
          clear am F0 F1 F2
          refine wp_region_abv (fun v => Below w1.heap.size w1 v) (by kernel_rfl) (by kernel_rfl) (drew_below (Below.refl _ _)) ?_
          repeat (go_big_quiet_step (first | (go_at_call 15; with_reducible exact TC _)))
          refine wpQuiet_nil ?_
          rintro w9 ⟨⟨w9, h9⟩, rfl⟩
          have H9 : Hid (Below w1.heap.size w1 w9) := h9
          clear h9 hne k0 k1 k2 k3
          go_wp2_with fail
          go_roundw
          case rel => exact ⟨m + 1, by omega, by go_num, YS.out HCC.out, HX.out.trans (H9.out.mono hz1)⟩
          case measure => simp [intOf]; omega
        · have E : Hid (c1 = c) := NO.out HCC.out hz
          have TC := fun xx => codeAbv lo l g (some ⟨fb, fo, none⟩) cm g0 gq0 g2 gq2 c1 w1 xx HSL.out HGS.out (HKM.out.keep (agree_of_below HB1.out _)) (HN.out.1.keep (agree_of_below HB1.out _)) (HN.out.2.keep (agree_of_below HB1.out _)) HFF.out HCC.out
          go_wp2_with fail
          have hne : Nonempty (Abv (fun v => Below w1.heap.size w1 v)) := abv_ne (Below.refl _ _)
          have k0 := fun xx : Abv (fun v => Below w1.heap.size w1 v) => (bcell xx.ok _ _ l1).trans am
          have k1 := fun xx : Abv (fun v => Below w1.heap.size w1 v) => (bcell xx.ok _ _ l2).trans F0
          have k2 := fun xx : Abv (fun v => Below w1.heap.size w1 v) => (bcell xx.ok _ _ l2).trans F1
          have k3 := fun xx : Abv (fun v => Below w1.heap.size w1 v) => (bcell xx.ok _ _ l2).trans F2
          clear am F0 F1 F2
          refine wp_region_abv (fun v => Below w1.heap.size w1 v) (by kernel_rfl) (by kernel_rfl) (drew_below (Below.refl _ _)) ?_
          repeat (go_big_quiet_step (first | (go_at_call 15; with_reducible exact TC _)))
          refine wpQuiet_nil ?_
          rintro w9 ⟨⟨w9, h9⟩, rfl⟩
          have H9 : Hid (Below w1.heap.size w1 w9) := h9
          clear h9 hne k0 k1 k2 k3
          go_wp2_with fail
          go_ret
          exact ⟨ret_i E.out, HB1.out.trans (H9.out.mono HB1.out.size)⟩
      · have E : Hid (0 = c) := MCode.one (.inr ⟨HM.out, .inl ⟨rfl, fun j hj => HD.out j (by omega)⟩⟩) HC.out
        clear HD
        go_wp2_with fail
        go_ret
        exact ⟨ret_i E.out, HB1.out⟩
  · have hm' : modB l = false := by simpa using hm
    have E : Hid (1 = c) := MCode.one (.inl ⟨hm', rfl⟩) HC.out
    rw [hm'] at DM
    clear hm hm'
    go_enter Tryz.func10, Tryz.ntmps10
    go_wp2_with (first | (go_at_call 13; refine DM.mono ?_; rintro e w1 ⟨rfl, hb1⟩; have HB1 : Hid (Below w.heap.size w w1) := hB0.trans (hb1.mono (by simp)); clear hb1))
    go_ret
    exact ⟨ret_i E.out, HB1.out⟩
end Go.Proofs.YthcaagkkajopiaaGreatDoor
