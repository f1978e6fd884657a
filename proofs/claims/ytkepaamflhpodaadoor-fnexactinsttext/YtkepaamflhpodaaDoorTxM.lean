/- The text of an instruction: the model's InstText; the core of the law FnExactInstText. -/
import Derived.Test.YtkepaamflhpodaaDoorTxL
import Derived.Test.YtkepaamflhpodaaDoorSz
import Derived.Test.YtkepaamflhpodaaDoorTo2
import Derived.Test.YtkepaamflhpodaaDoorEq
namespace Go.Proofs.YtkepaamflhpodaaDoor
open Go.RowKit
set_option linter.unusedVariables false

set_option maxHeartbeats 4000000 in
theorem instTextS (lo : Nat) (d : InstD) (u : Option Addr) (q : Nat) (w : World) (hm : d.args.length ≤ 1048576) (hk : IntsAt w lo u d.args) :
    Calls Tryd.prog 6 #[.agg #[.int .i64 d.op, .int .i64 d.w, .int .i64 d.a, .int .i64 d.b, .int .i64 d.c, .int .i64 d.imm, .slice u d.args.length q]] w fun e w' => e = .returned (.string (instText d)) ∧ Below w.heap.size w w' := by
  have B0 : IBox d u q w _ := IBox.start (T := 27)
  go_enter Tryd.func6, Tryd.ntmps6
  go_wp2_with fail
  generalize (w.alloc (.cells #[.int .i64 d.op, .int .i64 d.w, .int .i64 d.a, .int .i64 d.b, .int .i64 d.c, .int .i64 d.imm, .slice u d.args.length q] 27)) = W at B0 ⊢
  refine (formS lo d u q W hm (hk.keep (agree_of_below B0.below lo))).mono ?_
  rintro e w1 ⟨rfl, b1⟩
  have I1 := B0.keep (b1.mono B0.size)
  obtain ⟨y0, y1, y2, y3, y4, y5, y6, _, _⟩ := id I1
  cases hok : instB d 60 3 with
  | false =>
    have E : Hid (instText d = ⟨#[]⟩) := by show _ = _; unfold instText; rw [hok]; rfl
    go_wp2_with fail
    go_ret
    exact ⟨by rw [E.out]; rfl, I1.below⟩
  | true =>
    have hF := instB_inF hok
    have E : Hid (instText d = instTx d) := by show _ = _; unfold instText; rw [if_pos hok]
    have LI := l5instS lo d u q w1 hF (hk.keep (agree_of_below I1.below lo))
    clear hok
    rw [← E.out] at LI
    clear E
    generalize hY : instText d = Y at LI
    have HY : Hid (instText d = Y) := hY
    clear hY
    go_wp2_with fail
    refine LI.mono ?_
    rintro e w3 ⟨rfl, b3⟩
    have I3 := I1.keep (b3.mono I1.size)
    go_wp2_with fail
    go_ret
    exact ⟨by rw [HY.out]; rfl, I3.below⟩
set_option maxHeartbeats 4000000 in
theorem fnExactInstText_core (lo : Nat) (d : InstD) (u : Option Addr) (c : Nat) (w : World) (k : IntsAt w lo u d.args) (hO : OpsAt w) (hP : PowAt w) :
    Calls Tryd.prog 3 #[.agg #[.int .i64 d.op, .int .i64 d.w, .int .i64 d.a, .int .i64 d.b, .int .i64 d.c, .int .i64 d.imm, .slice u d.args.length c]] w fun e w' => e = .returned (.bool true) ∧ Below w.heap.size w w' := by
  have hk := k.1
  have X1 : IBox d u c w _ := IBox.start (T := 24)
  go_enter Tryd.func3, Tryd.ntmps3
  go_wp2_with fail
  refine (szInst_any lo d u c _ _ (by omega) (by omega) (k.keep (agree_alloc _ _ _))).mono ?_
  rintro e w1 ⟨rfl, hb1⟩
  have Y1 := X1.keep (hb1.mono X1.size)
  clear X1 hb1
  obtain ⟨y0, y1, y2, y3, y4, y5, y6, _, _⟩ := id Y1
  rcases szInst_falls d 1048576 (by omega) with hz | ⟨hz, _⟩
  · have hz2 : szInst d 1048576 < 0 := by omega
    clear hz
    go_wp2_with fail
    go_ret
    exact ⟨rfl, Y1.below⟩
  · have hs : d.args.length ≤ 1048576 := szI_small (by omega) hz
    have hz3 : ¬ szInst d 1048576 < 0 := by omega
    go_wp2_with fail
    refine (toInst_any lo d u c _ hs (k.keep (agree_of_below Y1.below lo))).mono ?_
    rintro e w2 ⟨v2, q2, rfl, n2, hb2⟩
    have Y2 := Y1.keep (hb2.mono Y1.size)
    clear y0 y1 y2 y3 y4 y5 y6
    go_wp2_with fail
    refine (instTextS _ d v2 q2 _ hs n2).mono ?_
    rintro e w3 ⟨rfl, hb3⟩
    have Y3 := Y2.keep (hb3.mono Y2.size)
    clear Y1 Y2 hb2 hb3 n2
    obtain ⟨y0, y1, y2, y3, y4, y5, y6, _, _⟩ := id Y3
    go_wp2_with fail
    refine (toInst_any lo d u c _ hs (k.keep (agree_of_below Y3.below lo))).mono ?_
    rintro e w4 ⟨v4, q4, rfl, n4, hb4⟩
    have Y4 := Y3.keep (hb4.mono Y3.size)
    have X4 : IBox d v4 q4 w4 _ := IBox.start (T := 27)
    clear y0 y1 y2 y3 y4 y5 y6 Y3 hb4
    go_wp2_with fail
    generalize (w4.alloc (.cells #[.int .i64 d.op, .int .i64 d.w, .int .i64 d.a, .int .i64 d.b, .int .i64 d.c, .int .i64 d.imm, .slice v4 d.args.length q4] 27)) = W5 at X4 ⊢
    have Y5 := Y4.keep (X4.below.mono Y4.size)
    have n5 := n4.keep (agree_of_below X4.below _)
    clear n4
    refine (instTextI _ d v4 q4 _ hs n5 (hO.keep Y5.below) (hP.keep Y5.below)).mono ?_
    rintro e w6 ⟨rfl, hb6⟩
    have Y6 := Y5.keep (hb6.mono Y5.size)
    have X6 := X4.keep (hb6.mono X4.size)
    have n6 := n5.keep (agree_of_below hb6 _)
    have K6 := k.keep (agree_of_below Y6.below lo)
    have K7 := k.keep (agree_of_below (Y6.keep (w2 := w6.drew) ((Below.refl _ _).drew)).below lo)
    clear X4 Y4 Y5 n5 hb6
    generalize instText d = T
    obtain ⟨y0, y1, y2, y3, y4, y5, y6, _, _⟩ := Y6.keep (w2 := w6.drew) ((Below.refl _ _).drew)
    obtain ⟨x0, x1, x2, x3, x4, x5, x6, _, _⟩ := X6.keep (w2 := w6.drew) ((Below.refl _ _).drew)
    go_wp2_with fail
    go_region_held2 (fun w' => w'.cell? ⟨w.heap.size, 0, none⟩ = some (.int .i64 d.op) ∧ w'.cell? ⟨w.heap.size, 1, none⟩ = some (.int .i64 d.w) ∧ w'.cell? ⟨w.heap.size, 2, none⟩ = some (.int .i64 d.a) ∧ w'.cell? ⟨w.heap.size, 3, none⟩ = some (.int .i64 d.b) ∧ w'.cell? ⟨w.heap.size, 4, none⟩ = some (.int .i64 d.c) ∧ w'.cell? ⟨w.heap.size, 5, none⟩ = some (.int .i64 d.imm) ∧ w'.cell? ⟨w.heap.size, 6, none⟩ = some (.slice u d.args.length c) ∧ w'.cell? ⟨w4.heap.size, 0, none⟩ = some (.int .i64 d.op) ∧ w'.cell? ⟨w4.heap.size, 1, none⟩ = some (.int .i64 d.w) ∧ w'.cell? ⟨w4.heap.size, 2, none⟩ = some (.int .i64 d.a) ∧ w'.cell? ⟨w4.heap.size, 3, none⟩ = some (.int .i64 d.b) ∧ w'.cell? ⟨w4.heap.size, 4, none⟩ = some (.int .i64 d.c) ∧ w'.cell? ⟨w4.heap.size, 5, none⟩ = some (.int .i64 d.imm) ∧ w'.cell? ⟨w4.heap.size, 6, none⟩ = some (.slice v4 d.args.length q4)) (first | with_reducible exact ⟨y0, y1, y2, y3, y4, y5, y6, x0, x1, x2, x3, x4, x5, x6⟩ | with_reducible exact ⟨p0, p1, p2, p3, p4, p5, p6, r0, r1, r2, r3, r4, r5, r6⟩ | with_reducible exact ⟨g0, g1, g2, g3, g4, g5, g6, h0, h1, h2, h3, h4, h5, h6⟩) (first | (go_at_call 7; refine (toInst_any lo d u c _ hs (by exact K7)).mono ?_; rintro e w7 ⟨v7, q7, rfl, n7, hb7⟩; have hb7 := drop_drewT hb7; have Y7 := Y6.keep (hb7.mono Y6.size); have X7 := X6.keep (hb7.mono X6.size); obtain ⟨p0, p1, p2, p3, p4, p5, p6, _, _⟩ := id Y7; obtain ⟨r0, r1, r2, r3, r4, r5, r6, _, _⟩ := id X7) | (go_at_call 9; refine (eqInst_any _ _ d v4 q4 v7 q7 _ (n6.keep (agree_of_below hb7 _)) n7).mono ?_; rintro e w8 ⟨rfl, hb8⟩; have Y8 := Y7.keep (hb8.mono Y7.size); obtain ⟨g0, g1, g2, g3, g4, g5, g6, _, _⟩ := id Y8; obtain ⟨h0, h1, h2, h3, h4, h5, h6, _, _⟩ := X7.keep (hb8.mono X7.size)) | fail)
    all_goals
      go_wp2_with fail
      go_ret
      exact ⟨rfl, Y8.below⟩
end Go.Proofs.YtkepaamflhpodaaDoor
