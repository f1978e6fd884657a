/- The text of an instruction: InstText, the program's; the model's. -/
import Derived.Test.YtjmoonbpfieifaaGreatDoorTxJ
namespace Go.Proofs.YtjmoonbpfieifaaGreatDoor
open Go.RowKit
set_option linter.unusedVariables false

theorem opW_size (k : Nat) : (opW k).size ≤ 6 := by unfold opW; rw [bs_size]; exact opWL_len k
theorem roomI (w : World) : Calls Tryz.prog 18 #[] w fun e w' => e = .returned (.agg #[.int .i64 60, .int .i64 10, .int .i64 3]) ∧ Below w.heap.size w w' := by
  go_enter Tryz.func18, Tryz.ntmps18
  go_wp2_with fail
  exact bodyPost_ret (v := .agg #[.int .i64 60, .int .i64 10, .int .i64 3]) (by simp [results, Tryz.results18, go_sem]) rfl ⟨rfl, (Below.refl _ _).alloc (Nat.le_refl _) _⟩
set_option maxHeartbeats 4000000 in
set_option maxRecDepth 100000 in
theorem instTextI (lo : Nat) (d : InstD) (u : Option Addr) (q : Nat) (w : World) (hm : d.args.length ≤ 1048576) (hk : IntsAt w lo u d.args) (hO : OpsAt w) (hP : PowAt w) :
    Calls Tryz.prog 7 #[.agg #[.int .i64 d.op, .int .i64 d.w, .int .i64 d.a, .int .i64 d.b, .int .i64 d.c, .int .i64 d.imm, .slice u d.args.length q]] w fun e w' => e = .returned (.string (instText d)) ∧ Below w.heap.size w w' := by
  have B0 : IBox d u q w _ := IBox.start (T := 26)
  go_enter Tryz.func7, Tryz.ntmps7
  go_wp2_with fail
  generalize (w.alloc (.cells #[.int .i64 d.op, .int .i64 d.w, .int .i64 d.a, .int .i64 d.b, .int .i64 d.c, .int .i64 d.imm, .slice u d.args.length q] 26)) = W at B0 ⊢
  have I0 := B0.keep (w2 := W.drew) ((Below.refl _ _).drew)
  have s0 := (⟨I0.c0, I0.c1, I0.c2, I0.c3, I0.c4, I0.c5, I0.c6⟩ : W.drew.cell? ⟨w.heap.size, 0, none⟩ = some (.int .i64 d.op) ∧ W.drew.cell? ⟨w.heap.size, 1, none⟩ = some (.int .i64 d.w) ∧ W.drew.cell? ⟨w.heap.size, 2, none⟩ = some (.int .i64 d.a) ∧ W.drew.cell? ⟨w.heap.size, 3, none⟩ = some (.int .i64 d.b) ∧ W.drew.cell? ⟨w.heap.size, 4, none⟩ = some (.int .i64 d.c) ∧ W.drew.cell? ⟨w.heap.size, 5, none⟩ = some (.int .i64 d.imm) ∧ W.drew.cell? ⟨w.heap.size, 6, none⟩ = some (.slice u d.args.length q))
  go_region_held2 (fun w' => w'.cell? ⟨w.heap.size, 0, none⟩ = some (.int .i64 d.op) ∧ w'.cell? ⟨w.heap.size, 1, none⟩ = some (.int .i64 d.w) ∧ w'.cell? ⟨w.heap.size, 2, none⟩ = some (.int .i64 d.a) ∧ w'.cell? ⟨w.heap.size, 3, none⟩ = some (.int .i64 d.b) ∧ w'.cell? ⟨w.heap.size, 4, none⟩ = some (.int .i64 d.c) ∧ w'.cell? ⟨w.heap.size, 5, none⟩ = some (.int .i64 d.imm) ∧ w'.cell? ⟨w.heap.size, 6, none⟩ = some (.slice u d.args.length q)) (first | with_reducible exact s0 | with_reducible exact s1 | with_reducible exact s2) (first | (go_at_call 18; refine (roomI _).mono ?_; rintro e w1 ⟨rfl, b1⟩; have b1 := drop_drewT b1; have I1 := B0.keep (b1.mono B0.size); have s1 := (⟨I1.c0, I1.c1, I1.c2, I1.c3, I1.c4, I1.c5, I1.c6⟩ : w1.cell? ⟨w.heap.size, 0, none⟩ = some (.int .i64 d.op) ∧ w1.cell? ⟨w.heap.size, 1, none⟩ = some (.int .i64 d.w) ∧ w1.cell? ⟨w.heap.size, 2, none⟩ = some (.int .i64 d.a) ∧ w1.cell? ⟨w.heap.size, 3, none⟩ = some (.int .i64 d.b) ∧ w1.cell? ⟨w.heap.size, 4, none⟩ = some (.int .i64 d.c) ∧ w1.cell? ⟨w.heap.size, 5, none⟩ = some (.int .i64 d.imm) ∧ w1.cell? ⟨w.heap.size, 6, none⟩ = some (.slice u d.args.length q))) | (go_at_call 17; refine (instShI lo d u q 60 10 3 _ hm (hk.keep (by exact agree_of_below I1.below lo))).mono ?_; rintro e w2 ⟨rfl, b2⟩; have I2 := I1.keep (b2.mono I1.size); have s2 := (⟨I2.c0, I2.c1, I2.c2, I2.c3, I2.c4, I2.c5, I2.c6⟩ : w2.cell? ⟨w.heap.size, 0, none⟩ = some (.int .i64 d.op) ∧ w2.cell? ⟨w.heap.size, 1, none⟩ = some (.int .i64 d.w) ∧ w2.cell? ⟨w.heap.size, 2, none⟩ = some (.int .i64 d.a) ∧ w2.cell? ⟨w.heap.size, 3, none⟩ = some (.int .i64 d.b) ∧ w2.cell? ⟨w.heap.size, 4, none⟩ = some (.int .i64 d.c) ∧ w2.cell? ⟨w.heap.size, 5, none⟩ = some (.int .i64 d.imm) ∧ w2.cell? ⟨w.heap.size, 6, none⟩ = some (.slice u d.args.length q))) | fail)
  all_goals
    obtain ⟨y0, y1, y2, y3, y4, y5, y6⟩ := s2
    clear s0 s1 I0 I1 b1 b2 B0
    cases hok : instB d 60 3 with
    | false =>
      have E : Hid (instText d = ⟨#[]⟩) := by show _ = _; unfold instText; rw [hok]; rfl
      go_wp2_with fail
      go_ret
      exact ⟨by rw [E.out]; rfl, I2.below⟩
    | true =>
      have hF := instB_inF hok
      have E : Hid (instText d = opW d.op.toNat ++ bs (numsL (instN d))) := by show _ = _; unfold instText; rw [if_pos hok]; rfl
      have LI := lineI lo d u q w2 hF (hk.keep (agree_of_below I2.below lo)) (hO.keep I2.below)
      have hsm := instN_sm hF
      have hsl := instN_len hF
      clear hok
      go_wp2_with fail
      refine LI.mono ?_
      rintro e w3 ⟨v3, c3, rfl, n3, b3⟩
      have B3 := I2.below.trans (b3.mono I2.below.size)
      have T := textI _ v3 c3 (opW d.op.toNat) (instN d) w3 n3 (by omega) hsm (opW_size _) (hP.keep B3)
      rw [← E.out] at T
      clear LI hF E
      generalize hY : instText d = Y at T
      have HY : Hid (instText d = Y) := hY
      clear hY
      generalize (instN d).length = N at T ⊢
      generalize opW d.op.toNat = Z at T ⊢
      go_wp2_with fail
      refine T.mono ?_
      rintro e w4 ⟨rfl, b4⟩
      have B4 := B3.trans (b4.mono B3.size)
      go_wp2_with fail
      go_ret
      exact ⟨by rw [HY.out]; rfl, B4⟩
end Go.Proofs.YtjmoonbpfieifaaGreatDoor
