/- Programs as bytes: the model's ProgramBytes. -/
import Derived.Test.YtpmanjkaiknlhaaDoorPbA
import Derived.Test.YtpmanjkaiknlhaaDoorPgJ
import Derived.Deep.RegionHeld2
namespace Go.Proofs.YtpmanjkaiknlhaaDoor
open Go.RowKit
set_option linter.unusedVariables false

def progT (p : ProgD) : ByteArray := if progB p = true then vb reg1 (progN p) else ⟨#[]⟩
theorem progB_small {p : ProgD} (h : progB p = true) : p.params.length ≤ 4 ∧ p.widths.length ≤ 4 ∧ p.code.length ≤ 600 := by
  simp only [progB, codeB, Bool.and_eq_true, decide_eq_true_eq] at h
  obtain ⟨_, h1, _, h2, _, _, h3, _⟩ := h
  exact ⟨h1, by omega, h3⟩
theorem flat_len (l : List MInsD) : (l.flatMap minN).length = 7 * l.length := by
  induction l with
  | nil => rfl
  | cons x r ih => rw [List.flatMap_cons, List.length_append, ih, List.length_cons]; simp [minN]; omega
theorem takeM_snoc {l : List MInsD} {k : Nat} (h : k < l.length) : l.take (k + 1) = l.take k ++ [l.getD k mins0] := by
  rw [List.take_succ_eq_append_getElem h]; simp [List.getD, h]
theorem mins_cellP {w : World} {lo : Nat} {a : Option Addr} {l : List MInsD} (h : MinsAt w lo a l) {k : Nat} (hk : k < l.length) : ∃ b off, a = some ⟨b, off, none⟩ ∧ w.cell? ⟨b, off + k * 7, none⟩ = some (.int .i64 (l.getD k mins0).op) ∧ w.cell? ⟨b, off + k * 7 + 1, none⟩ = some (.int .i64 (l.getD k mins0).w) ∧ w.cell? ⟨b, off + k * 7 + 2, none⟩ = some (.int .i64 (l.getD k mins0).d) ∧ w.cell? ⟨b, off + k * 7 + 3, none⟩ = some (.int .i64 (l.getD k mins0).a) ∧ w.cell? ⟨b, off + k * 7 + 4, none⟩ = some (.int .i64 (l.getD k mins0).b) ∧ w.cell? ⟨b, off + k * 7 + 5, none⟩ = some (.int .i64 (l.getD k mins0).c) ∧ w.cell? ⟨b, off + k * 7 + 6, none⟩ = some (.int .i64 (l.getD k mins0).imm) := by
  rcases h.2 with h | ⟨b, off, ha, _, _, hc⟩
  · rw [h] at hk; simp at hk
  · exact ⟨b, off, ha, hc k hk⟩
set_option maxHeartbeats 4000000 in
theorem bytesS (lo : Nat) (p : ProgD) (s1 : Option Addr) (c1 : Nat) (s2 : Option Addr) (c2 : Nat) (s3 : Option Addr) (c3 : Nat) (w : World) (k1 : IntsAt w lo s1 p.params) (k2 : IntsAt w lo s2 p.widths) (k3 : MinsAt w lo s3 p.code) :
    Calls Tryd.prog 12 #[.agg #[.int .i64 p.regs, .slice s1 p.params.length c1, .slice s2 p.widths.length c2, .slice s3 p.code.length c3]] w fun e w' => e = .returned (.string (progT p)) ∧ Below w.heap.size w w' := by
  have X0 := BoxP.new w p s1 c1 s2 c2 s3 c3 25
  have hB0 : Below w.heap.size w (w.alloc (.cells #[.int .i64 p.regs, .slice s1 p.params.length c1, .slice s2 p.widths.length c2, .slice s3 p.code.length c3] 25)) := (Below.refl _ _).alloc (Nat.le_refl _) _
  go_enter Tryd.func12, Tryd.ntmps12
  go_wp2_with fail
  generalize (w.alloc (.cells #[.int .i64 p.regs, .slice s1 p.params.length c1, .slice s2 p.widths.length c2, .slice s3 p.code.length c3] 25)) = W at X0 hB0 ⊢
  refine (progS lo p s1 c1 s2 c2 s3 c3 W (k1.keep (agree_of_below hB0 lo)) (k2.keep (agree_of_below hB0 lo)) (k3.keep (agree_of_below hB0 lo))).mono ?_
  rintro e w1 ⟨rfl, b1⟩
  have X1 := X0.below b1
  have hB1 := hB0.trans (b1.mono hB0.size)
  clear X0 hB0 b1
  obtain ⟨hz1, y0, y1, y2, y3⟩ := X1
  cases hok : progB p with
  | false =>
    have E : Hid (progT p = ⟨#[]⟩) := by show _ = _; unfold progT; rw [hok]; rfl
    go_wp2_with fail
    go_ret
    exact ⟨by rw [E.out]; rfl, hB1⟩
  | true =>
    have E : Hid (progT p = vb reg1 (progN p)) := by show _ = _; unfold progT; rw [if_pos hok]
    obtain ⟨hl1, hl2, hl3⟩ := progB_small hok
    clear hok
    go_wp2_with fail
    have q1 := vof_len p.regs
    have V1 : Hid (∀ v, Calls Tryd.prog 24 #[.int .i64 p.regs] v fun e w' => e = .returned (.string (vof p.regs)) ∧ Below v.heap.size v w') := fun v => varS _ v
    have V4 : Hid (∀ v, Calls Tryd.prog 24 #[.int .i64 (p.code.length : Int)] v fun e w' => e = .returned (.string (vof p.code.length)) ∧ Below v.heap.size v w') := fun v => varS _ v
    have V2 : Hid (∀ v, Below w1.heap.size w1 v → Calls Tryd.prog 25 #[.slice s1 p.params.length c1] v fun e w' => e = .returned (.string (vb ⟨#[]⟩ (listN p.params))) ∧ Below v.heap.size v w') := fun v hv => l6ListS lo s1 c1 p.params v (by omega) (k1.keep (agree_of_below (hB1.trans (hv.mono hB1.size)) lo))
    have V3 : Hid (∀ v, Below w1.heap.size w1 v → Calls Tryd.prog 25 #[.slice s2 p.widths.length c2] v fun e w' => e = .returned (.string (vb ⟨#[]⟩ (listN p.widths))) ∧ Below v.heap.size v w') := fun v hv => l6ListS lo s2 c2 p.widths v (by omega) (k2.keep (agree_of_below (hB1.trans (hv.mono hB1.size)) lo))
    have q2 := vb_size (listN p.params) ⟨#[]⟩
    have q3 := vb_size (listN p.widths) ⟨#[]⟩
    have q4 := vof_len p.code.length
    have q0 : (⟨#[]⟩ : ByteArray).size = 0 := rfl
    rw [q0] at q2 q3
    have j1 : (listN p.params).length = p.params.length + 1 := by simp [listN]
    have j2 : (listN p.widths).length = p.widths.length + 1 := by simp [listN]
    have q2' : (vb ⟨#[]⟩ (listN p.params)).size ≤ 25 := by omega
    have q3' : (vb ⟨#[]⟩ (listN p.widths)).size ≤ 25 := by omega
    clear q2 q3 j1 j2 q0
    have HH : Hid (reg1 ++ vof p.regs ++ vb ⟨#[]⟩ (listN p.params) ++ vb ⟨#[]⟩ (listN p.widths) ++ vof p.code.length = vb reg1 (headN p)) := by
      show _ = _
      unfold headN
      rw [vb_append, vb_append, vb_append, vb_one, vb_one, vb_join0, vb_join0]
    have hr1 : reg1.size = 4 := rfl
    have hr2 : (reg1 ++ vof p.regs).size ≤ 9 := by rw [ByteArray.size_append]; omega
    have hr3 : (reg1 ++ vof p.regs ++ vb ⟨#[]⟩ (listN p.params)).size ≤ 40 := by rw [ByteArray.size_append]; omega
    have hr4 : (reg1 ++ vof p.regs ++ vb ⟨#[]⟩ (listN p.params) ++ vb ⟨#[]⟩ (listN p.widths)).size ≤ 80 := by rw [ByteArray.size_append]; omega
    have hr0 : (⟨#[82, 69, 71, 49]⟩ : ByteArray) = reg1 := rfl
    rw [← hr0] at hr1 hr2 hr3 hr4 HH
    generalize vof p.regs = A1 at *
    generalize vb ⟨#[]⟩ (listN p.params) = A2 at *
    generalize vb ⟨#[]⟩ (listN p.widths) = A3 at *
    generalize vof (p.code.length : Int) = A4 at *
    clear hr0
    refine wp_region_held_drew (S := fun w' => Below w1.heap.size w1 w') (by kernel_rfl) ((Below.refl _ _).drew) (fun hHeld => ?_)
    refine wpAnyH_take (i := 0) (v := ?_) rfl (by kernel_rfl) (by kernel_rfl) (by kernel_rfl) (fun _ _ _ h => h) (Or.inl ⟨by rfl, ?_⟩) hHeld ?_
    rotate_left
    · intro w9 hS9
      go_simp
      try with_reducible rfl
    show wpAnyH _ _ _ _ _ _ _ (Act.put _ (some _) _) _
    simp only [Act.put, List.setIfInBounds_toArray, List.set_cons_zero, List.set_cons_succ]
    refine wpAnyH_take (i := 1) (v := ?_) rfl (by kernel_rfl) (by kernel_rfl) (by kernel_rfl) (fun _ _ _ h => h) (Or.inl ⟨by rfl, ?_⟩) hHeld ?_
    rotate_left
    · intro w9 hS9
      have g0 := (cell_block (o := 0) (hS9.block w.heap.size hz1)).trans y0
      go_simp
      try with_reducible rfl
    show wpAnyH _ _ _ _ _ _ _ (Act.put _ (some _) _) _
    simp only [Act.put, List.setIfInBounds_toArray, List.set_cons_zero, List.set_cons_succ]
    refine wpAnyH_take (i := 4) (v := ?_) rfl (by kernel_rfl) (by kernel_rfl) (by kernel_rfl) (fun _ _ _ h => h) (Or.inl ⟨by rfl, ?_⟩) hHeld ?_
    rotate_left
    · intro w9 hS9
      go_simp
      try with_reducible rfl
    show wpAnyH _ _ _ _ _ _ _ (Act.put _ (some _) _) _
    simp only [Act.put, List.setIfInBounds_toArray, List.set_cons_zero, List.set_cons_succ]
    refine wpAnyH_take (i := 5) (v := ?_) rfl (by kernel_rfl) (by kernel_rfl) (by kernel_rfl) (fun _ _ _ h => h) (Or.inl ⟨by rfl, ?_⟩) hHeld ?_
    rotate_left
    · intro w9 hS9
      have g0 := (cell_block (o := 1) (hS9.block w.heap.size hz1)).trans y1
      go_simp
      try with_reducible rfl
    show wpAnyH _ _ _ _ _ _ _ (Act.put _ (some _) _) _
    simp only [Act.put, List.setIfInBounds_toArray, List.set_cons_zero, List.set_cons_succ]
    refine wpAnyH_take (i := 8) (v := ?_) rfl (by kernel_rfl) (by kernel_rfl) (by kernel_rfl) (fun _ _ _ h => h) (Or.inl ⟨by rfl, ?_⟩) hHeld ?_
    rotate_left
    · intro w9 hS9
      go_simp
      try with_reducible rfl
    show wpAnyH _ _ _ _ _ _ _ (Act.put _ (some _) _) _
    simp only [Act.put, List.setIfInBounds_toArray, List.set_cons_zero, List.set_cons_succ]
    refine wpAnyH_take (i := 9) (v := ?_) rfl (by kernel_rfl) (by kernel_rfl) (by kernel_rfl) (fun _ _ _ h => h) (Or.inl ⟨by rfl, ?_⟩) hHeld ?_
    rotate_left
    · intro w9 hS9
      have g0 := (cell_block (o := 2) (hS9.block w.heap.size hz1)).trans y2
      go_simp
      try with_reducible rfl
    show wpAnyH _ _ _ _ _ _ _ (Act.put _ (some _) _) _
    simp only [Act.put, List.setIfInBounds_toArray, List.set_cons_zero, List.set_cons_succ]
    refine wpAnyH_take (i := 12) (v := ?_) rfl (by kernel_rfl) (by kernel_rfl) (by kernel_rfl) (fun _ _ _ h => h) (Or.inl ⟨by rfl, ?_⟩) hHeld ?_
    rotate_left
    · intro w9 hS9
      go_simp
      try with_reducible rfl
    show wpAnyH _ _ _ _ _ _ _ (Act.put _ (some _) _) _
    simp only [Act.put, List.setIfInBounds_toArray, List.set_cons_zero, List.set_cons_succ]
    refine wpAnyH_take (i := 13) (v := ?_) rfl (by kernel_rfl) (by kernel_rfl) (by kernel_rfl) (fun _ _ _ h => h) (Or.inl ⟨by rfl, ?_⟩) hHeld ?_
    rotate_left
    · intro w9 hS9
      have g0 := (cell_block (o := 3) (hS9.block w.heap.size hz1)).trans y3
      go_simp
      try with_reducible rfl
    show wpAnyH _ _ _ _ _ _ _ (Act.put _ (some _) _) _
    simp only [Act.put, List.setIfInBounds_toArray, List.set_cons_zero, List.set_cons_succ]
    refine wpAnyH_take (i := 14) (v := ?_) rfl (by kernel_rfl) (by kernel_rfl) (by kernel_rfl) (fun _ _ _ h => h) (Or.inl ⟨by rfl, ?_⟩) hHeld ?_
    rotate_left
    · intro w9 hS9
      go_simp
      try with_reducible rfl
    show wpAnyH _ _ _ _ _ _ _ (Act.put _ (some _) _) _
    simp only [Act.put, List.setIfInBounds_toArray, List.set_cons_zero, List.set_cons_succ]
    refine wpAnyH_ready (rs := [2]) (by kernel_rfl) (by simp) ?_
    refine AllReadyH.cons rfl (fun K hK => ?_) AllReadyH.nil
    go_simp
    go_wp2_with (go_at_call 24; refine (V1.out _).mono ?_; rintro e v2 ⟨rfl, bb⟩; have bc := hHeld.trans (bb.mono hHeld.size); clear bb)
    refine hK.out _ _ ?_ (fun hHeld2 => ?_)
    · exact bc
    clear hK K hHeld bc
    have hHeld := hHeld2
    clear hHeld2
    try simp only [Act.put, List.setIfInBounds_toArray, List.set_cons_zero, List.set_cons_succ]
    refine wpAnyH_take (i := 3) (v := ?_) rfl (by kernel_rfl) (by kernel_rfl) (by kernel_rfl) (fun _ _ _ h => h) (Or.inl ⟨by rfl, ?_⟩) hHeld ?_
    rotate_left
    · intro w9 hS9
      go_simp
      rw [if_neg (by omega)]
      try with_reducible rfl
    show wpAnyH _ _ _ _ _ _ _ (Act.put _ (some _) _) _
    simp only [Act.put, List.setIfInBounds_toArray, List.set_cons_zero, List.set_cons_succ]
    refine wpAnyH_ready (rs := [6]) (by kernel_rfl) (by simp) ?_
    refine AllReadyH.cons rfl (fun K hK => ?_) AllReadyH.nil
    go_simp
    go_wp2_with (go_at_call 25; refine (V2.out _ hHeld).mono ?_; rintro e v3 ⟨rfl, bb⟩; have bc := hHeld.trans (bb.mono hHeld.size); clear bb)
    refine hK.out _ _ ?_ (fun hHeld2 => ?_)
    · exact bc
    clear hK K hHeld bc
    have hHeld := hHeld2
    clear hHeld2
    try simp only [Act.put, List.setIfInBounds_toArray, List.set_cons_zero, List.set_cons_succ]
    refine wpAnyH_take (i := 7) (v := ?_) rfl (by kernel_rfl) (by kernel_rfl) (by kernel_rfl) (fun _ _ _ h => h) (Or.inl ⟨by rfl, ?_⟩) hHeld ?_
    rotate_left
    · intro w9 hS9
      go_simp
      rw [if_neg (by omega)]
      try with_reducible rfl
    show wpAnyH _ _ _ _ _ _ _ (Act.put _ (some _) _) _
    simp only [Act.put, List.setIfInBounds_toArray, List.set_cons_zero, List.set_cons_succ]
    refine wpAnyH_ready (rs := [10]) (by kernel_rfl) (by simp) ?_
    refine AllReadyH.cons rfl (fun K hK => ?_) AllReadyH.nil
    go_simp
    go_wp2_with (go_at_call 25; refine (V3.out _ hHeld).mono ?_; rintro e v4 ⟨rfl, bb⟩; have bc := hHeld.trans (bb.mono hHeld.size); clear bb)
    refine hK.out _ _ ?_ (fun hHeld2 => ?_)
    · exact bc
    clear hK K hHeld bc
    have hHeld := hHeld2
    clear hHeld2
    try simp only [Act.put, List.setIfInBounds_toArray, List.set_cons_zero, List.set_cons_succ]
    refine wpAnyH_take (i := 11) (v := ?_) rfl (by kernel_rfl) (by kernel_rfl) (by kernel_rfl) (fun _ _ _ h => h) (Or.inl ⟨by rfl, ?_⟩) hHeld ?_
    rotate_left
    · intro w9 hS9
      go_simp
      rw [if_neg (by omega)]
      try with_reducible rfl
    show wpAnyH _ _ _ _ _ _ _ (Act.put _ (some _) _) _
    simp only [Act.put, List.setIfInBounds_toArray, List.set_cons_zero, List.set_cons_succ]
    refine wpAnyH_ready (rs := [15]) (by kernel_rfl) (by simp) ?_
    refine AllReadyH.cons rfl (fun K hK => ?_) AllReadyH.nil
    go_simp
    go_wp2_with (go_at_call 24; refine (V4.out _).mono ?_; rintro e v5 ⟨rfl, bb⟩; have bc := hHeld.trans (bb.mono hHeld.size); clear bb)
    refine hK.out _ _ ?_ (fun hHeld2 => ?_)
    · exact bc
    clear hK K hHeld bc
    have hHeld := hHeld2
    clear hHeld2
    try simp only [Act.put, List.setIfInBounds_toArray, List.set_cons_zero, List.set_cons_succ]
    refine wpAnyH_take (i := 16) (v := ?_) rfl (by kernel_rfl) (by kernel_rfl) (by kernel_rfl) (fun _ _ _ h => h) (Or.inl ⟨by rfl, ?_⟩) hHeld ?_
    rotate_left
    · intro w9 hS9
      go_simp
      rw [if_neg (by omega)]
      try with_reducible rfl
    show wpAnyH _ _ _ _ _ _ _ (Act.put _ (some _) _) _
    simp only [Act.put, List.setIfInBounds_toArray, List.set_cons_zero, List.set_cons_succ]
    refine wpAnyH_take (i := 17) (v := ?_) rfl (by kernel_rfl) (by kernel_rfl) (by kernel_rfl) (fun _ _ _ h => h) (Or.inl ⟨by rfl, ?_⟩) hHeld ?_
    rotate_left
    · intro w9 hS9
      go_simp
      try with_reducible rfl
    show wpAnyH _ _ _ _ _ _ _ (Act.put _ (some _) _) _
    simp only [Act.put, List.setIfInBounds_toArray, List.set_cons_zero, List.set_cons_succ]
    refine wpAnyH_done (by kernel_rfl) ?_ _
    have HB5 : Hid (Below w.heap.size w v5) := hB1.trans (hHeld.mono hB1.size)
    have HY5 : Hid (BoxP v5 w.heap.size p s1 c1 s2 c2 s3 c3) := (show BoxP w1 w.heap.size p s1 c1 s2 c2 s3 c3 from ⟨hz1, y0, y1, y2, y3⟩).below hHeld
    have hr5 : (⟨#[82, 69, 71, 49]⟩ ++ A1 ++ A2 ++ A3 ++ A4 : ByteArray).size ≤ 100 := by rw [ByteArray.size_append]; omega
    generalize (⟨#[82, 69, 71, 49]⟩ ++ A1 ++ A2 ++ A3 ++ A4 : ByteArray) = S5 at HH hr5 ⊢
    go_wp2_with fail
    clear hHeld y0 y1 y2 y3 hz1 V1 V2 V3 V4 hr1 hr2 hr3 hr4 q1 q2' q3' q4 hB1
    go_loopw [3, 4] (fun st i wr => ∃ (k : Nat) (T : ByteArray), k ≤ p.code.length ∧ i = .int .i64 k ∧ st = .string T ∧ Hid (T = vb S5 ((p.code.take k).flatMap minN)) ∧ Hid (Below w.heap.size w wr) ∧ Hid (BoxP wr w.heap.size p s1 c1 s2 c2 s3 c3)) (fun _ i _ => p.code.length - (intOf i).toNat)
    case atStart => exact ⟨0, S5, by omega, rfl, rfl, rfl, HB5, HY5⟩
    case round =>
      obtain ⟨k, T, hk, rfl, rfl, HT, HB, HY⟩ := hrel
      clear HB5 HY5
      obtain ⟨hz1, y0, y1, y2, y3⟩ := HY.out
      by_cases hlt : k < p.code.length
      · obtain ⟨bb, off, rfl, e0, e1, e2, e3, e4, e5, e6⟩ := mins_cellP (k3.keep (agree_of_below HB.out lo)) hlt
        have hTs : T.size ≤ 100 + 35 * k := by
          rw [HT.out]
          have := vb_size ((p.code.take k).flatMap minN) S5
          rw [flat_len, List.length_take, Nat.min_eq_left hk] at this
          omega
        have HN : Hid (vb S5 ((p.code.take (k + 1)).flatMap minN) = T ++ vof (p.code.getD k mins0).op ++ vof (p.code.getD k mins0).w ++ vof (p.code.getD k mins0).d ++ vof (p.code.getD k mins0).a ++ vof (p.code.getD k mins0).b ++ vof (p.code.getD k mins0).c ++ vof (p.code.getD k mins0).imm) := by
          show _ = _
          rw [takeM_snoc hlt, List.flatMap_append, vb_append, ← HT.out]
          rfl
        generalize p.code.getD k mins0 = x at e0 e1 e2 e3 e4 e5 e6 HN
        have t0 := vof_len x.op
        have P0 : Hid (∀ v, Calls Tryd.prog 24 #[.int .i64 x.op] v fun e w' => e = .returned (.string (vof x.op)) ∧ Below v.heap.size v w') := fun v => varS _ v
        generalize vof x.op = D0 at t0 P0 HN
        have t1 := vof_len x.w
        have P1 : Hid (∀ v, Calls Tryd.prog 24 #[.int .i64 x.w] v fun e w' => e = .returned (.string (vof x.w)) ∧ Below v.heap.size v w') := fun v => varS _ v
        generalize vof x.w = D1 at t1 P1 HN
        have t2 := vof_len x.d
        have P2 : Hid (∀ v, Calls Tryd.prog 24 #[.int .i64 x.d] v fun e w' => e = .returned (.string (vof x.d)) ∧ Below v.heap.size v w') := fun v => varS _ v
        generalize vof x.d = D2 at t2 P2 HN
        have t3 := vof_len x.a
        have P3 : Hid (∀ v, Calls Tryd.prog 24 #[.int .i64 x.a] v fun e w' => e = .returned (.string (vof x.a)) ∧ Below v.heap.size v w') := fun v => varS _ v
        generalize vof x.a = D3 at t3 P3 HN
        have t4 := vof_len x.b
        have P4 : Hid (∀ v, Calls Tryd.prog 24 #[.int .i64 x.b] v fun e w' => e = .returned (.string (vof x.b)) ∧ Below v.heap.size v w') := fun v => varS _ v
        generalize vof x.b = D4 at t4 P4 HN
        have t5 := vof_len x.c
        have P5 : Hid (∀ v, Calls Tryd.prog 24 #[.int .i64 x.c] v fun e w' => e = .returned (.string (vof x.c)) ∧ Below v.heap.size v w') := fun v => varS _ v
        generalize vof x.c = D5 at t5 P5 HN
        have t6 := vof_len x.imm
        have P6 : Hid (∀ v, Calls Tryd.prog 24 #[.int .i64 x.imm] v fun e w' => e = .returned (.string (vof x.imm)) ∧ Below v.heap.size v w') := fun v => varS _ v
        generalize vof x.imm = D6 at t6 P6 HN
        go_wp2_with fail
        have hv0 := heap_alloc_last wr (.cells #[.int .i64 x.op, .int .i64 x.w, .int .i64 x.d, .int .i64 x.a, .int .i64 x.b, .int .i64 x.c, .int .i64 x.imm] 38)
        have HBv : Hid (Below w.heap.size w (wr.alloc (.cells #[.int .i64 x.op, .int .i64 x.w, .int .i64 x.d, .int .i64 x.a, .int .i64 x.b, .int .i64 x.c, .int .i64 x.imm] 38))) := HB.out.alloc HB.out.size _
        have HYv : Hid (BoxP (wr.alloc (.cells #[.int .i64 x.op, .int .i64 x.w, .int .i64 x.d, .int .i64 x.a, .int .i64 x.b, .int .i64 x.c, .int .i64 x.imm] 38)) w.heap.size p s1 c1 s2 c2 (some ⟨bb, off, none⟩) c3) := HY.out.below ((Below.refl _ _).alloc (Nat.le_refl _) _)
        have hzv : wr.heap.size < (wr.alloc (.cells #[.int .i64 x.op, .int .i64 x.w, .int .i64 x.d, .int .i64 x.a, .int .i64 x.b, .int .i64 x.c, .int .i64 x.imm] 38)).heap.size := by simp
        generalize (wr.alloc (.cells #[.int .i64 x.op, .int .i64 x.w, .int .i64 x.d, .int .i64 x.a, .int .i64 x.b, .int .i64 x.c, .int .i64 x.imm] 38)) = V at hv0 HBv HYv hzv ⊢
        have g0 : V.cell? ⟨wr.heap.size, 0, none⟩ = some (.int .i64 x.op) := (cell_of_heap hv0).trans rfl
        have g1 : V.cell? ⟨wr.heap.size, 1, none⟩ = some (.int .i64 x.w) := (cell_of_heap hv0).trans rfl
        have g2 : V.cell? ⟨wr.heap.size, 2, none⟩ = some (.int .i64 x.d) := (cell_of_heap hv0).trans rfl
        have g3 : V.cell? ⟨wr.heap.size, 3, none⟩ = some (.int .i64 x.a) := (cell_of_heap hv0).trans rfl
        have g4 : V.cell? ⟨wr.heap.size, 4, none⟩ = some (.int .i64 x.b) := (cell_of_heap hv0).trans rfl
        have g5 : V.cell? ⟨wr.heap.size, 5, none⟩ = some (.int .i64 x.c) := (cell_of_heap hv0).trans rfl
        have g6 : V.cell? ⟨wr.heap.size, 6, none⟩ = some (.int .i64 x.imm) := (cell_of_heap hv0).trans rfl
        have r0 : (T ++ D0).size ≤ 100 + 35 * k + 5 := by rw [ByteArray.size_append]; omega
        have r1 : (T ++ D0 ++ D1).size ≤ 100 + 35 * k + 10 := by rw [ByteArray.size_append]; omega
        have r2 : (T ++ D0 ++ D1 ++ D2).size ≤ 100 + 35 * k + 15 := by rw [ByteArray.size_append]; omega
        have r3 : (T ++ D0 ++ D1 ++ D2 ++ D3).size ≤ 100 + 35 * k + 20 := by rw [ByteArray.size_append]; omega
        have r4 : (T ++ D0 ++ D1 ++ D2 ++ D3 ++ D4).size ≤ 100 + 35 * k + 25 := by rw [ByteArray.size_append]; omega
        have r5 : (T ++ D0 ++ D1 ++ D2 ++ D3 ++ D4 ++ D5).size ≤ 100 + 35 * k + 30 := by rw [ByteArray.size_append]; omega
        have r6 : (T ++ D0 ++ D1 ++ D2 ++ D3 ++ D4 ++ D5 ++ D6).size ≤ 100 + 35 * k + 35 := by rw [ByteArray.size_append]; omega
        clear hv0 y0 y1 y2 y3 e0 e1 e2 e3 e4 e5 e6
        refine wp_region_held_drew (S := fun w' => Below V.heap.size V w') (by kernel_rfl) ((Below.refl _ _).drew) (fun hHeld => ?_)
        refine wpAnyH_take (i := 0) (v := ?_) rfl (by kernel_rfl) (by kernel_rfl) (by kernel_rfl) (fun _ _ _ h => h) (Or.inl ⟨by rfl, ?_⟩) hHeld ?_
        rotate_left
        · intro w9 hS9
          go_simp
          try with_reducible rfl
        show wpAnyH _ _ _ _ _ _ _ (Act.put _ (some _) _) _
        simp only [Act.put, List.setIfInBounds_toArray, List.set_cons_zero, List.set_cons_succ]
        refine wpAnyH_take (i := 1) (v := ?_) rfl (by kernel_rfl) (by kernel_rfl) (by kernel_rfl) (fun _ _ _ h => h) (Or.inl ⟨by rfl, ?_⟩) hHeld ?_
        rotate_left
        · intro w9 hS9
          go_simp
          try with_reducible rfl
        show wpAnyH _ _ _ _ _ _ _ (Act.put _ (some _) _) _
        simp only [Act.put, List.setIfInBounds_toArray, List.set_cons_zero, List.set_cons_succ]
        refine wpAnyH_take (i := 2) (v := ?_) rfl (by kernel_rfl) (by kernel_rfl) (by kernel_rfl) (fun _ _ _ h => h) (Or.inl ⟨by rfl, ?_⟩) hHeld ?_
        rotate_left
        · intro w9 hS9
          have g := (cell_block (o := 0) (hS9.block wr.heap.size hzv)).trans g0
          go_simp
          try with_reducible rfl
        show wpAnyH _ _ _ _ _ _ _ (Act.put _ (some _) _) _
        simp only [Act.put, List.setIfInBounds_toArray, List.set_cons_zero, List.set_cons_succ]
        refine wpAnyH_take (i := 5) (v := ?_) rfl (by kernel_rfl) (by kernel_rfl) (by kernel_rfl) (fun _ _ _ h => h) (Or.inl ⟨by rfl, ?_⟩) hHeld ?_
        rotate_left
        · intro w9 hS9
          go_simp
          try with_reducible rfl
        show wpAnyH _ _ _ _ _ _ _ (Act.put _ (some _) _) _
        simp only [Act.put, List.setIfInBounds_toArray, List.set_cons_zero, List.set_cons_succ]
        refine wpAnyH_take (i := 6) (v := ?_) rfl (by kernel_rfl) (by kernel_rfl) (by kernel_rfl) (fun _ _ _ h => h) (Or.inl ⟨by rfl, ?_⟩) hHeld ?_
        rotate_left
        · intro w9 hS9
          have g := (cell_block (o := 1) (hS9.block wr.heap.size hzv)).trans g1
          go_simp
          try with_reducible rfl
        show wpAnyH _ _ _ _ _ _ _ (Act.put _ (some _) _) _
        simp only [Act.put, List.setIfInBounds_toArray, List.set_cons_zero, List.set_cons_succ]
        refine wpAnyH_take (i := 9) (v := ?_) rfl (by kernel_rfl) (by kernel_rfl) (by kernel_rfl) (fun _ _ _ h => h) (Or.inl ⟨by rfl, ?_⟩) hHeld ?_
        rotate_left
        · intro w9 hS9
          go_simp
          try with_reducible rfl
        show wpAnyH _ _ _ _ _ _ _ (Act.put _ (some _) _) _
        simp only [Act.put, List.setIfInBounds_toArray, List.set_cons_zero, List.set_cons_succ]
        refine wpAnyH_take (i := 10) (v := ?_) rfl (by kernel_rfl) (by kernel_rfl) (by kernel_rfl) (fun _ _ _ h => h) (Or.inl ⟨by rfl, ?_⟩) hHeld ?_
        rotate_left
        · intro w9 hS9
          have g := (cell_block (o := 2) (hS9.block wr.heap.size hzv)).trans g2
          go_simp
          try with_reducible rfl
        show wpAnyH _ _ _ _ _ _ _ (Act.put _ (some _) _) _
        simp only [Act.put, List.setIfInBounds_toArray, List.set_cons_zero, List.set_cons_succ]
        refine wpAnyH_take (i := 13) (v := ?_) rfl (by kernel_rfl) (by kernel_rfl) (by kernel_rfl) (fun _ _ _ h => h) (Or.inl ⟨by rfl, ?_⟩) hHeld ?_
        rotate_left
        · intro w9 hS9
          go_simp
          try with_reducible rfl
        show wpAnyH _ _ _ _ _ _ _ (Act.put _ (some _) _) _
        simp only [Act.put, List.setIfInBounds_toArray, List.set_cons_zero, List.set_cons_succ]
        refine wpAnyH_take (i := 14) (v := ?_) rfl (by kernel_rfl) (by kernel_rfl) (by kernel_rfl) (fun _ _ _ h => h) (Or.inl ⟨by rfl, ?_⟩) hHeld ?_
        rotate_left
        · intro w9 hS9
          have g := (cell_block (o := 3) (hS9.block wr.heap.size hzv)).trans g3
          go_simp
          try with_reducible rfl
        show wpAnyH _ _ _ _ _ _ _ (Act.put _ (some _) _) _
        simp only [Act.put, List.setIfInBounds_toArray, List.set_cons_zero, List.set_cons_succ]
        refine wpAnyH_take (i := 17) (v := ?_) rfl (by kernel_rfl) (by kernel_rfl) (by kernel_rfl) (fun _ _ _ h => h) (Or.inl ⟨by rfl, ?_⟩) hHeld ?_
        rotate_left
        · intro w9 hS9
          go_simp
          try with_reducible rfl
        show wpAnyH _ _ _ _ _ _ _ (Act.put _ (some _) _) _
        simp only [Act.put, List.setIfInBounds_toArray, List.set_cons_zero, List.set_cons_succ]
        refine wpAnyH_take (i := 18) (v := ?_) rfl (by kernel_rfl) (by kernel_rfl) (by kernel_rfl) (fun _ _ _ h => h) (Or.inl ⟨by rfl, ?_⟩) hHeld ?_
        rotate_left
        · intro w9 hS9
          have g := (cell_block (o := 4) (hS9.block wr.heap.size hzv)).trans g4
          go_simp
          try with_reducible rfl
        show wpAnyH _ _ _ _ _ _ _ (Act.put _ (some _) _) _
        simp only [Act.put, List.setIfInBounds_toArray, List.set_cons_zero, List.set_cons_succ]
        refine wpAnyH_take (i := 21) (v := ?_) rfl (by kernel_rfl) (by kernel_rfl) (by kernel_rfl) (fun _ _ _ h => h) (Or.inl ⟨by rfl, ?_⟩) hHeld ?_
        rotate_left
        · intro w9 hS9
          go_simp
          try with_reducible rfl
        show wpAnyH _ _ _ _ _ _ _ (Act.put _ (some _) _) _
        simp only [Act.put, List.setIfInBounds_toArray, List.set_cons_zero, List.set_cons_succ]
        refine wpAnyH_take (i := 22) (v := ?_) rfl (by kernel_rfl) (by kernel_rfl) (by kernel_rfl) (fun _ _ _ h => h) (Or.inl ⟨by rfl, ?_⟩) hHeld ?_
        rotate_left
        · intro w9 hS9
          have g := (cell_block (o := 5) (hS9.block wr.heap.size hzv)).trans g5
          go_simp
          try with_reducible rfl
        show wpAnyH _ _ _ _ _ _ _ (Act.put _ (some _) _) _
        simp only [Act.put, List.setIfInBounds_toArray, List.set_cons_zero, List.set_cons_succ]
        refine wpAnyH_take (i := 25) (v := ?_) rfl (by kernel_rfl) (by kernel_rfl) (by kernel_rfl) (fun _ _ _ h => h) (Or.inl ⟨by rfl, ?_⟩) hHeld ?_
        rotate_left
        · intro w9 hS9
          go_simp
          try with_reducible rfl
        show wpAnyH _ _ _ _ _ _ _ (Act.put _ (some _) _) _
        simp only [Act.put, List.setIfInBounds_toArray, List.set_cons_zero, List.set_cons_succ]
        refine wpAnyH_take (i := 26) (v := ?_) rfl (by kernel_rfl) (by kernel_rfl) (by kernel_rfl) (fun _ _ _ h => h) (Or.inl ⟨by rfl, ?_⟩) hHeld ?_
        rotate_left
        · intro w9 hS9
          have g := (cell_block (o := 6) (hS9.block wr.heap.size hzv)).trans g6
          go_simp
          try with_reducible rfl
        show wpAnyH _ _ _ _ _ _ _ (Act.put _ (some _) _) _
        simp only [Act.put, List.setIfInBounds_toArray, List.set_cons_zero, List.set_cons_succ]
        refine wpAnyH_ready (rs := [3]) (by kernel_rfl) (by simp) ?_
        refine AllReadyH.cons rfl (fun K hK => ?_) AllReadyH.nil
        go_simp
        go_wp2_with (go_at_call 24; refine (P0.out _).mono ?_; rintro e x0 ⟨rfl, bb⟩; have bc := hHeld.trans (bb.mono hHeld.size); clear bb)
        refine hK.out _ _ ?_ (fun hHeld2 => ?_)
        · exact bc
        clear hK K hHeld bc
        have hHeld := hHeld2
        clear hHeld2
        try simp only [Act.put, List.setIfInBounds_toArray, List.set_cons_zero, List.set_cons_succ]
        refine wpAnyH_take (i := 4) (v := ?_) rfl (by kernel_rfl) (by kernel_rfl) (by kernel_rfl) (fun _ _ _ h => h) (Or.inl ⟨by rfl, ?_⟩) hHeld ?_
        rotate_left
        · intro w9 hS9
          go_simp
          rw [if_neg (by omega)]
          try with_reducible rfl
        show wpAnyH _ _ _ _ _ _ _ (Act.put _ (some _) _) _
        simp only [Act.put, List.setIfInBounds_toArray, List.set_cons_zero, List.set_cons_succ]
        refine wpAnyH_ready (rs := [7]) (by kernel_rfl) (by simp) ?_
        refine AllReadyH.cons rfl (fun K hK => ?_) AllReadyH.nil
        go_simp
        go_wp2_with (go_at_call 24; refine (P1.out _).mono ?_; rintro e x1 ⟨rfl, bb⟩; have bc := hHeld.trans (bb.mono hHeld.size); clear bb)
        refine hK.out _ _ ?_ (fun hHeld2 => ?_)
        · exact bc
        clear hK K hHeld bc
        have hHeld := hHeld2
        clear hHeld2
        try simp only [Act.put, List.setIfInBounds_toArray, List.set_cons_zero, List.set_cons_succ]
        refine wpAnyH_take (i := 8) (v := ?_) rfl (by kernel_rfl) (by kernel_rfl) (by kernel_rfl) (fun _ _ _ h => h) (Or.inl ⟨by rfl, ?_⟩) hHeld ?_
        rotate_left
        · intro w9 hS9
          go_simp
          rw [if_neg (by omega)]
          try with_reducible rfl
        show wpAnyH _ _ _ _ _ _ _ (Act.put _ (some _) _) _
        simp only [Act.put, List.setIfInBounds_toArray, List.set_cons_zero, List.set_cons_succ]
        refine wpAnyH_ready (rs := [11]) (by kernel_rfl) (by simp) ?_
        refine AllReadyH.cons rfl (fun K hK => ?_) AllReadyH.nil
        go_simp
        go_wp2_with (go_at_call 24; refine (P2.out _).mono ?_; rintro e x2 ⟨rfl, bb⟩; have bc := hHeld.trans (bb.mono hHeld.size); clear bb)
        refine hK.out _ _ ?_ (fun hHeld2 => ?_)
        · exact bc
        clear hK K hHeld bc
        have hHeld := hHeld2
        clear hHeld2
        try simp only [Act.put, List.setIfInBounds_toArray, List.set_cons_zero, List.set_cons_succ]
        refine wpAnyH_take (i := 12) (v := ?_) rfl (by kernel_rfl) (by kernel_rfl) (by kernel_rfl) (fun _ _ _ h => h) (Or.inl ⟨by rfl, ?_⟩) hHeld ?_
        rotate_left
        · intro w9 hS9
          go_simp
          rw [if_neg (by omega)]
          try with_reducible rfl
        show wpAnyH _ _ _ _ _ _ _ (Act.put _ (some _) _) _
        simp only [Act.put, List.setIfInBounds_toArray, List.set_cons_zero, List.set_cons_succ]
        refine wpAnyH_ready (rs := [15]) (by kernel_rfl) (by simp) ?_
        refine AllReadyH.cons rfl (fun K hK => ?_) AllReadyH.nil
        go_simp
        go_wp2_with (go_at_call 24; refine (P3.out _).mono ?_; rintro e x3 ⟨rfl, bb⟩; have bc := hHeld.trans (bb.mono hHeld.size); clear bb)
        refine hK.out _ _ ?_ (fun hHeld2 => ?_)
        · exact bc
        clear hK K hHeld bc
        have hHeld := hHeld2
        clear hHeld2
        try simp only [Act.put, List.setIfInBounds_toArray, List.set_cons_zero, List.set_cons_succ]
        refine wpAnyH_take (i := 16) (v := ?_) rfl (by kernel_rfl) (by kernel_rfl) (by kernel_rfl) (fun _ _ _ h => h) (Or.inl ⟨by rfl, ?_⟩) hHeld ?_
        rotate_left
        · intro w9 hS9
          go_simp
          rw [if_neg (by omega)]
          try with_reducible rfl
        show wpAnyH _ _ _ _ _ _ _ (Act.put _ (some _) _) _
        simp only [Act.put, List.setIfInBounds_toArray, List.set_cons_zero, List.set_cons_succ]
        refine wpAnyH_ready (rs := [19]) (by kernel_rfl) (by simp) ?_
        refine AllReadyH.cons rfl (fun K hK => ?_) AllReadyH.nil
        go_simp
        go_wp2_with (go_at_call 24; refine (P4.out _).mono ?_; rintro e x4 ⟨rfl, bb⟩; have bc := hHeld.trans (bb.mono hHeld.size); clear bb)
        refine hK.out _ _ ?_ (fun hHeld2 => ?_)
        · exact bc
        clear hK K hHeld bc
        have hHeld := hHeld2
        clear hHeld2
        try simp only [Act.put, List.setIfInBounds_toArray, List.set_cons_zero, List.set_cons_succ]
        refine wpAnyH_take (i := 20) (v := ?_) rfl (by kernel_rfl) (by kernel_rfl) (by kernel_rfl) (fun _ _ _ h => h) (Or.inl ⟨by rfl, ?_⟩) hHeld ?_
        rotate_left
        · intro w9 hS9
          go_simp
          rw [if_neg (by omega)]
          try with_reducible rfl
        show wpAnyH _ _ _ _ _ _ _ (Act.put _ (some _) _) _
        simp only [Act.put, List.setIfInBounds_toArray, List.set_cons_zero, List.set_cons_succ]
        refine wpAnyH_ready (rs := [23]) (by kernel_rfl) (by simp) ?_
        refine AllReadyH.cons rfl (fun K hK => ?_) AllReadyH.nil
        go_simp
        go_wp2_with (go_at_call 24; refine (P5.out _).mono ?_; rintro e x5 ⟨rfl, bb⟩; have bc := hHeld.trans (bb.mono hHeld.size); clear bb)
        refine hK.out _ _ ?_ (fun hHeld2 => ?_)
        · exact bc
        clear hK K hHeld bc
        have hHeld := hHeld2
        clear hHeld2
        try simp only [Act.put, List.setIfInBounds_toArray, List.set_cons_zero, List.set_cons_succ]
        refine wpAnyH_take (i := 24) (v := ?_) rfl (by kernel_rfl) (by kernel_rfl) (by kernel_rfl) (fun _ _ _ h => h) (Or.inl ⟨by rfl, ?_⟩) hHeld ?_
        rotate_left
        · intro w9 hS9
          go_simp
          rw [if_neg (by omega)]
          try with_reducible rfl
        show wpAnyH _ _ _ _ _ _ _ (Act.put _ (some _) _) _
        simp only [Act.put, List.setIfInBounds_toArray, List.set_cons_zero, List.set_cons_succ]
        refine wpAnyH_ready (rs := [27]) (by kernel_rfl) (by simp) ?_
        refine AllReadyH.cons rfl (fun K hK => ?_) AllReadyH.nil
        go_simp
        go_wp2_with (go_at_call 24; refine (P6.out _).mono ?_; rintro e x6 ⟨rfl, bb⟩; have bc := hHeld.trans (bb.mono hHeld.size); clear bb)
        refine hK.out _ _ ?_ (fun hHeld2 => ?_)
        · exact bc
        clear hK K hHeld bc
        have hHeld := hHeld2
        clear hHeld2
        try simp only [Act.put, List.setIfInBounds_toArray, List.set_cons_zero, List.set_cons_succ]
        refine wpAnyH_take (i := 28) (v := ?_) rfl (by kernel_rfl) (by kernel_rfl) (by kernel_rfl) (fun _ _ _ h => h) (Or.inl ⟨by rfl, ?_⟩) hHeld ?_
        rotate_left
        · intro w9 hS9
          go_simp
          rw [if_neg (by omega)]
          try with_reducible rfl
        show wpAnyH _ _ _ _ _ _ _ (Act.put _ (some _) _) _
        simp only [Act.put, List.setIfInBounds_toArray, List.set_cons_zero, List.set_cons_succ]
        refine wpAnyH_take (i := 29) (v := ?_) rfl (by kernel_rfl) (by kernel_rfl) (by kernel_rfl) (fun _ _ _ h => h) (Or.inl ⟨by rfl, ?_⟩) hHeld ?_
        rotate_left
        · intro w9 hS9
          go_simp
          try with_reducible rfl
        show wpAnyH _ _ _ _ _ _ _ (Act.put _ (some _) _) _
        simp only [Act.put, List.setIfInBounds_toArray, List.set_cons_zero, List.set_cons_succ]
        refine wpAnyH_done (by kernel_rfl) ?_ _
        have HB6 : Hid (Below w.heap.size w x6) := HBv.out.trans (hHeld.mono HBv.out.size)
        have HY6 : Hid (BoxP x6 w.heap.size p s1 c1 s2 c2 (some ⟨bb, off, none⟩) c3) := HYv.out.below hHeld
        go_wp2_with fail
        go_roundw
        case rel => exact ⟨k + 1, _, by omega, by go_num, rfl, HN.out.symm, HB6, HY6⟩
        case measure => simp [intOf]; omega
      · have HF : Hid (progT p = T) := by
          have hkl : k = p.code.length := by omega
          show _ = _
          rw [E.out, HT.out, hkl, List.take_length]
          unfold progN
          rw [vb_append, HH.out]
          rfl
        go_wp2_with fail
        go_ret
        exact ⟨by rw [HF.out]; rfl, HB.out⟩
end Go.Proofs.YtpmanjkaiknlhaaDoor
