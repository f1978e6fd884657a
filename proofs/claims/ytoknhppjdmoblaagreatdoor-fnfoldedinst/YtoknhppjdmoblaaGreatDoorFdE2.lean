import Derived.Test.YtoknhppjdmoblaaGreatDoorFdE
namespace Go.Proofs.YtoknhppjdmoblaaGreatDoor
set_option linter.unusedVariables false
set_option linter.unusedSimpArgs false
open Go.RowKit
set_option maxHeartbeats 4000000 in
set_option maxRecDepth 100000 in
theorem rule2_2 (lo : Nat) (d : FuncD) (i : InstD) (u0 : Option Addr) (c0 : Nat) (u2 : Option Addr) (c2 : Nat) (ua : Option Addr) (qa : Nat) (w : World) (hs : SmFunc d) (k0 : IntsAt w lo u0 d.params) (k2 : BlocksAt w lo u2 d.blocks) (ku : IntsAt w lo ua i.args) (hi : ISm i) (hop : i.op = 2) :
  Calls Tryz.prog 60 #[.agg #[.slice u0 d.params.length c0, .int .i64 d.ret, .slice u2 d.blocks.length c2, .int .i64 i.op, .int .i64 i.w, .int .i64 i.a, .int .i64 i.b, .int .i64 i.c, .int .i64 i.imm, .slice ua i.args.length qa]] w fun e w' => InstTold w lo (rule2 d i) e ∧ Below w.heap.size w w' := by
 have F0 := Fo3.start (d := d) (i := i) (u0 := u0) (u2 := u2) (ua := ua) (c0 := c0) (c2 := c2) (qa := qa) (w := w)
 have IS := fun (id v : Int) W (k : Below w.heap.size w W) (h : id ≤ 9223372036854775807) => isI lo d i u0 c0 u2 c2 ua qa id v W hs (k2.keep (agree_of_below k lo)) h
 have NO := fun W (k : Below w.heap.size w W) => noughtI lo d i u0 c0 u2 c2 ua qa W hs (k2.keep (agree_of_below k lo)) hi
 have FC := Fo2.start (d := d) (i := i) (u0 := u0) (u2 := u2) (ua := ua) (c0 := c0) (c2 := c2) (qa := qa) (w := w)
 have z0 := FC.f.a0
 have z1 := FC.f.a1
 have z2 := FC.f.a2
 have z3 := FC.f.a3
 have z4 := FC.f.a4
 have z5 := FC.f.a5
 have z6 := FC.f.a6
 have z7 := FC.f.a7
 have z8 := FC.f.a8
 have z9 := FC.f.a9
 have x0 := F0.b.f.a0
 have x1 := F0.b.f.a1
 have x2 := F0.b.f.a2
 have x3 := F0.b.f.a3
 have x4 := F0.b.f.a4
 have x5 := F0.b.f.a5
 have x6 := F0.b.f.a6
 have x7 := F0.b.f.a7
 have x8 := F0.b.f.a8
 have x9 := F0.b.f.a9
 obtain ⟨y0, y1, y2, y3, y4, y5, y6⟩ := F0.cell
 have HF0 : Hid (Fo3 d i u0 c0 u2 c2 ua qa w _) := F0
 have HI : Hid (ISm i) := hi
 clear F0 hs k0 k2 ku hi FC
 have q1 : (i.op == 1) = false := by rw [hop]; rfl
 have q9 : (i.op == 9) = false := by rw [hop]; rfl
 have q10 : (i.op == 10) = false := by rw [hop]; rfl
 have q2 : (i.op == 2) = true := by rw [hop]; rfl
 have q11 : (i.op == 11) = false := by rw [hop]; rfl
 have q12 : (i.op == 12) = false := by rw [hop]; rfl
 have q13 : (i.op == 13) = false := by rw [hop]; rfl
 have q4 : (i.op == 4) = false := by rw [hop]; rfl
 have q3 : (i.op == 3) = false := by rw [hop]; rfl
 have q8 : (i.op == 8) = false := by rw [hop]; rfl
 have HR : Hid (rule2 d i = ruleN i (neuC (isC d i.b 0) false)) := by show _ = _; unfold rule2; rw [hop]; first | rfl | (unfold oneC neuC; simp)
 clear hop NO
 go_enter Tryz.func60, Tryz.ntmps60
 go_wp2_with fail
 have HJ0 : Hid (FoJ d i u0 c0 u2 c2 ua qa w _) := HF0.out.fj
 clear x0 x1 x2 x3 x4 x5 x6 x7 x8 x9 y0 y1 y2 y3 y4 y5 y6 z0 z1 z2 z3 z4 z5 z6 z7 z8 z9
 refine wp_region_held_drew (S := fun w' => FoJ d i u0 c0 u2 c2 ua qa w w') (by kernel_rfl) (HJ0.out.keep ((Below.refl _ _).drew)) (fun hHeld => ?_)
 refine wpAnyH_take (i := 0) (v := ?_) rfl (by kernel_rfl) (by kernel_rfl) (by kernel_rfl) (fun _ _ _ h => h) (Or.inl ⟨by rfl, ?_⟩) hHeld ?_
 rotate_left
 ·intro w9 hS9
  have g0 := hS9.f.a0
  have g1 := hS9.f.a1
  have g2 := hS9.f.a2
  have g3 := hS9.f.a3
  have g4 := hS9.f.a4
  have g5 := hS9.f.a5
  have g6 := hS9.f.a6
  have g7 := hS9.f.a7
  have g8 := hS9.f.a8
  have g9 := hS9.f.a9
  go_simp
  try with_reducible rfl
 show wpAnyH _ _ _ _ _ _ _ (Act.put _ (some _) _) _
 simp only [Act.put, List.setIfInBounds_toArray, List.set_cons_zero, List.set_cons_succ]
 refine wpAnyH_take (i := 1) (v := ?_) rfl (by kernel_rfl) (by kernel_rfl) (by kernel_rfl) (fun _ _ _ h => h) (Or.inl ⟨by rfl, ?_⟩) hHeld ?_
 rotate_left
 ·intro w9 hS9
  have g0 := hS9.f.a0
  have g1 := hS9.f.a1
  have g2 := hS9.f.a2
  have g3 := hS9.f.a3
  have g4 := hS9.f.a4
  have g5 := hS9.f.a5
  have g6 := hS9.f.a6
  have g7 := hS9.f.a7
  have g8 := hS9.f.a8
  have g9 := hS9.f.a9
  go_simp
  try with_reducible rfl
 show wpAnyH _ _ _ _ _ _ _ (Act.put _ (some _) _) _
 simp only [Act.put, List.setIfInBounds_toArray, List.set_cons_zero, List.set_cons_succ]
 refine wpAnyH_take (i := 2) (v := ?_) rfl (by kernel_rfl) (by kernel_rfl) (by kernel_rfl) (fun _ _ _ h => h) (Or.inl ⟨by rfl, ?_⟩) hHeld ?_
 rotate_left
 ·intro w9 hS9
  go_simp
  try with_reducible rfl
 show wpAnyH _ _ _ _ _ _ _ (Act.put _ (some _) _) _
 simp only [Act.put, List.setIfInBounds_toArray, List.set_cons_zero, List.set_cons_succ]
 refine wpAnyH_take (i := 3) (v := ?_) rfl (by kernel_rfl) (by kernel_rfl) (by kernel_rfl) (fun _ _ _ h => h) (Or.inl ⟨by rfl, ?_⟩) hHeld ?_
 rotate_left
 ·intro w9 hS9
  have g0 := hS9.cell.2.2.2.1
  go_simp
  try with_reducible rfl
 show wpAnyH _ _ _ _ _ _ _ (Act.put _ (some _) _) _
 simp only [Act.put, List.setIfInBounds_toArray, List.set_cons_zero, List.set_cons_succ]
 refine wpAnyH_ready (rs := [4]) (by kernel_rfl) (by simp) ?_
 refine AllReadyH.cons rfl (fun K hK => ?_) AllReadyH.nil
 go_simp
 go_wp2_with (go_at_call 101; refine (IS i.b 0 _ hHeld.f.below HI.out.b).mono ?_; rintro e w3 ⟨rfl, b3⟩)
 refine hK.out _ _ ?_ (fun hHeld2 => ?_)
 ·exact hHeld.keep b3
 clear hK K hHeld
 have hHeld := hHeld2
 clear hHeld2
 try simp only [Act.put, List.setIfInBounds_toArray, List.set_cons_zero, List.set_cons_succ]
 have b4 : Below w3.heap.size w3 w3 := Below.refl _ _
 refine wpAnyH_ready (rs := [5]) (by kernel_rfl) (by simp) ?_
 refine AllReadyH.cons rfl (fun K hK => ?_) AllReadyH.nil
 go_simp
 go_wp2_with (go_at_call 100; refine (neutralI lo d i u0 c0 u2 c2 ua qa (isC d i.b 0) false _).mono ?_; rintro e w5 ⟨h5, b5⟩; obtain ⟨r, ru, rq, fl, he5, hfl⟩ := told_form h5; have HFL : Hid (fl = _) := hfl; clear hfl; subst he5)
 refine hK.out _ _ ?_ (fun hHeld2 => ?_)
 ·exact hHeld.keep b5
 clear hK K hHeld
 have hHeld := hHeld2
 clear hHeld2
 try simp only [Act.put, List.setIfInBounds_toArray, List.set_cons_zero, List.set_cons_succ]
 have HF5 : Hid (Fo2 d i u0 c0 u2 c2 ua qa w w5) := ((((HF0.out.keep ((Below.refl _ _).drew)).keep b3).keep b4).keep b5).b
 have HT : Hid (InstTold w lo (ruleN i (neuC (isC d i.b 0) false)) _) := told_rule (neu_le _ _) h5
 clear h5
 obtain ⟨r0, r1, r2, r3, r4, r5, r6⟩ := HF5.out.cell
 have rf := HF5.out.froz
 refine wpAnyH_take (i := 6) (v := ?_) rfl (by kernel_rfl) (by kernel_rfl) (by kernel_rfl) (fun _ _ _ h => h) (Or.inl ⟨by rfl, ?_⟩) hHeld ?_
 rotate_left
 ·intro w9 hS9
  go_simp
  try with_reducible rfl
 show wpAnyH _ _ _ _ _ _ _ (Act.put _ (some _) _) _
 simp only [Act.put, List.setIfInBounds_toArray, List.set_cons_zero, List.set_cons_succ]
 refine wpAnyH_take (i := 7) (v := ?_) rfl (by kernel_rfl) (by kernel_rfl) (by kernel_rfl) (fun _ _ _ h => h) (Or.inl ⟨by rfl, ?_⟩) hHeld ?_
 rotate_left
 ·intro w9 hS9
  go_simp
  try with_reducible rfl
 show wpAnyH _ _ _ _ _ _ _ (Act.put _ (some _) _) _
 simp only [Act.put, List.setIfInBounds_toArray, List.set_cons_zero, List.set_cons_succ]
 refine wpAnyH_ready (rs := [8]) (by kernel_rfl) (by simp) ?_
 refine AllReadyH.cons rfl (fun K hK => ?_) AllReadyH.nil
 go_simp
 go_wp2_with fail
 refine hK.out _ _ ?_ (fun hHeld2 => ?_)
 ·exact (by repeat (first | refine FoJ.set ?_ _ _ _ (by omega) (by omega) | exact hHeld))
 clear hK K hHeld
 have hHeld := hHeld2
 clear hHeld2
 try simp only [Act.put, List.setIfInBounds_toArray, List.set_cons_zero, List.set_cons_succ]
 refine wpAnyH_take (i := 9) (v := ?_) rfl (by kernel_rfl) (by kernel_rfl) (by kernel_rfl) (fun _ _ _ h => h) (Or.inl ⟨by rfl, ?_⟩) hHeld ?_
 rotate_left
 ·intro w9 hS9
  go_simp
  try with_reducible rfl
 show wpAnyH _ _ _ _ _ _ _ (Act.put _ (some _) _) _
 simp only [Act.put, List.setIfInBounds_toArray, List.set_cons_zero, List.set_cons_succ]
 refine wpAnyH_done (by kernel_rfl) ?_ _
 go_wp2_with fail
 have hr := (heap_set (o := 6) (v := .slice ru r.args.length rq) (heap_set (o := 5) (v := .int .i64 r.imm) (heap_set (o := 4) (v := .int .i64 r.c) (heap_set (o := 3) (v := .int .i64 r.b) (heap_set (o := 2) (v := .int .i64 r.a) (heap_set (o := 1) (v := .int .i64 r.w) (heap_set (o := 0) (v := .int .i64 r.op) HF5.out.r)))))))
 refine bodyPost_ret (v := .tuple #[.agg #[.int .i64 r.op, .int .i64 r.w, .int .i64 r.a, .int .i64 r.b, .int .i64 r.c, .int .i64 r.imm, .slice ru r.args.length rq], .bool fl]) ((results_cell_row_tmp Tryz.results60 _ _ (w.heap.size + 1) _ rfl (run_loadVar_row _ _ 29 _ _ (0, 0) _ hr Tryz.underlying29 rfl (by kernel_rfl))).trans (by rfl)) rfl ⟨by rw [HR.out]; exact HT.out, ?_⟩
 exact (by repeat (first | refine Below.setCell ?_ (by dsimp only; omega) _ | exact HF5.out.f.below))
set_option maxHeartbeats 4000000 in
set_option maxRecDepth 100000 in
theorem rule2_11 (lo : Nat) (d : FuncD) (i : InstD) (u0 : Option Addr) (c0 : Nat) (u2 : Option Addr) (c2 : Nat) (ua : Option Addr) (qa : Nat) (w : World) (hs : SmFunc d) (k0 : IntsAt w lo u0 d.params) (k2 : BlocksAt w lo u2 d.blocks) (ku : IntsAt w lo ua i.args) (hi : ISm i) (hop : i.op = 11) :
  Calls Tryz.prog 60 #[.agg #[.slice u0 d.params.length c0, .int .i64 d.ret, .slice u2 d.blocks.length c2, .int .i64 i.op, .int .i64 i.w, .int .i64 i.a, .int .i64 i.b, .int .i64 i.c, .int .i64 i.imm, .slice ua i.args.length qa]] w fun e w' => InstTold w lo (rule2 d i) e ∧ Below w.heap.size w w' := by
 have F0 := Fo3.start (d := d) (i := i) (u0 := u0) (u2 := u2) (ua := ua) (c0 := c0) (c2 := c2) (qa := qa) (w := w)
 have IS := fun (id v : Int) W (k : Below w.heap.size w W) (h : id ≤ 9223372036854775807) => isI lo d i u0 c0 u2 c2 ua qa id v W hs (k2.keep (agree_of_below k lo)) h
 have NO := fun W (k : Below w.heap.size w W) => noughtI lo d i u0 c0 u2 c2 ua qa W hs (k2.keep (agree_of_below k lo)) hi
 have FC := Fo2.start (d := d) (i := i) (u0 := u0) (u2 := u2) (ua := ua) (c0 := c0) (c2 := c2) (qa := qa) (w := w)
 have z0 := FC.f.a0
 have z1 := FC.f.a1
 have z2 := FC.f.a2
 have z3 := FC.f.a3
 have z4 := FC.f.a4
 have z5 := FC.f.a5
 have z6 := FC.f.a6
 have z7 := FC.f.a7
 have z8 := FC.f.a8
 have z9 := FC.f.a9
 have x0 := F0.b.f.a0
 have x1 := F0.b.f.a1
 have x2 := F0.b.f.a2
 have x3 := F0.b.f.a3
 have x4 := F0.b.f.a4
 have x5 := F0.b.f.a5
 have x6 := F0.b.f.a6
 have x7 := F0.b.f.a7
 have x8 := F0.b.f.a8
 have x9 := F0.b.f.a9
 obtain ⟨y0, y1, y2, y3, y4, y5, y6⟩ := F0.cell
 have HF0 : Hid (Fo3 d i u0 c0 u2 c2 ua qa w _) := F0
 have HI : Hid (ISm i) := hi
 clear F0 hs k0 k2 ku hi FC
 have q1 : (i.op == 1) = false := by rw [hop]; rfl
 have q9 : (i.op == 9) = false := by rw [hop]; rfl
 have q10 : (i.op == 10) = false := by rw [hop]; rfl
 have q2 : (i.op == 2) = false := by rw [hop]; rfl
 have q11 : (i.op == 11) = true := by rw [hop]; rfl
 have q12 : (i.op == 12) = false := by rw [hop]; rfl
 have q13 : (i.op == 13) = false := by rw [hop]; rfl
 have q4 : (i.op == 4) = false := by rw [hop]; rfl
 have q3 : (i.op == 3) = false := by rw [hop]; rfl
 have q8 : (i.op == 8) = false := by rw [hop]; rfl
 have HR : Hid (rule2 d i = ruleN i (neuC (isC d i.b 0) false)) := by show _ = _; unfold rule2; rw [hop]; first | rfl | (unfold oneC neuC; simp)
 clear hop NO
 go_enter Tryz.func60, Tryz.ntmps60
 go_wp2_with fail
 have HJ0 : Hid (FoJ d i u0 c0 u2 c2 ua qa w _) := HF0.out.fj
 clear x0 x1 x2 x3 x4 x5 x6 x7 x8 x9 y0 y1 y2 y3 y4 y5 y6 z0 z1 z2 z3 z4 z5 z6 z7 z8 z9
 refine wp_region_held_drew (S := fun w' => FoJ d i u0 c0 u2 c2 ua qa w w') (by kernel_rfl) (HJ0.out.keep ((Below.refl _ _).drew)) (fun hHeld => ?_)
 refine wpAnyH_take (i := 0) (v := ?_) rfl (by kernel_rfl) (by kernel_rfl) (by kernel_rfl) (fun _ _ _ h => h) (Or.inl ⟨by rfl, ?_⟩) hHeld ?_
 rotate_left
 ·intro w9 hS9
  have g0 := hS9.f.a0
  have g1 := hS9.f.a1
  have g2 := hS9.f.a2
  have g3 := hS9.f.a3
  have g4 := hS9.f.a4
  have g5 := hS9.f.a5
  have g6 := hS9.f.a6
  have g7 := hS9.f.a7
  have g8 := hS9.f.a8
  have g9 := hS9.f.a9
  go_simp
  try with_reducible rfl
 show wpAnyH _ _ _ _ _ _ _ (Act.put _ (some _) _) _
 simp only [Act.put, List.setIfInBounds_toArray, List.set_cons_zero, List.set_cons_succ]
 refine wpAnyH_take (i := 1) (v := ?_) rfl (by kernel_rfl) (by kernel_rfl) (by kernel_rfl) (fun _ _ _ h => h) (Or.inl ⟨by rfl, ?_⟩) hHeld ?_
 rotate_left
 ·intro w9 hS9
  have g0 := hS9.f.a0
  have g1 := hS9.f.a1
  have g2 := hS9.f.a2
  have g3 := hS9.f.a3
  have g4 := hS9.f.a4
  have g5 := hS9.f.a5
  have g6 := hS9.f.a6
  have g7 := hS9.f.a7
  have g8 := hS9.f.a8
  have g9 := hS9.f.a9
  go_simp
  try with_reducible rfl
 show wpAnyH _ _ _ _ _ _ _ (Act.put _ (some _) _) _
 simp only [Act.put, List.setIfInBounds_toArray, List.set_cons_zero, List.set_cons_succ]
 refine wpAnyH_take (i := 2) (v := ?_) rfl (by kernel_rfl) (by kernel_rfl) (by kernel_rfl) (fun _ _ _ h => h) (Or.inl ⟨by rfl, ?_⟩) hHeld ?_
 rotate_left
 ·intro w9 hS9
  go_simp
  try with_reducible rfl
 show wpAnyH _ _ _ _ _ _ _ (Act.put _ (some _) _) _
 simp only [Act.put, List.setIfInBounds_toArray, List.set_cons_zero, List.set_cons_succ]
 refine wpAnyH_take (i := 3) (v := ?_) rfl (by kernel_rfl) (by kernel_rfl) (by kernel_rfl) (fun _ _ _ h => h) (Or.inl ⟨by rfl, ?_⟩) hHeld ?_
 rotate_left
 ·intro w9 hS9
  have g0 := hS9.cell.2.2.2.1
  go_simp
  try with_reducible rfl
 show wpAnyH _ _ _ _ _ _ _ (Act.put _ (some _) _) _
 simp only [Act.put, List.setIfInBounds_toArray, List.set_cons_zero, List.set_cons_succ]
 refine wpAnyH_ready (rs := [4]) (by kernel_rfl) (by simp) ?_
 refine AllReadyH.cons rfl (fun K hK => ?_) AllReadyH.nil
 go_simp
 go_wp2_with (go_at_call 101; refine (IS i.b 0 _ hHeld.f.below HI.out.b).mono ?_; rintro e w3 ⟨rfl, b3⟩)
 refine hK.out _ _ ?_ (fun hHeld2 => ?_)
 ·exact hHeld.keep b3
 clear hK K hHeld
 have hHeld := hHeld2
 clear hHeld2
 try simp only [Act.put, List.setIfInBounds_toArray, List.set_cons_zero, List.set_cons_succ]
 have b4 : Below w3.heap.size w3 w3 := Below.refl _ _
 refine wpAnyH_ready (rs := [5]) (by kernel_rfl) (by simp) ?_
 refine AllReadyH.cons rfl (fun K hK => ?_) AllReadyH.nil
 go_simp
 go_wp2_with (go_at_call 100; refine (neutralI lo d i u0 c0 u2 c2 ua qa (isC d i.b 0) false _).mono ?_; rintro e w5 ⟨h5, b5⟩; obtain ⟨r, ru, rq, fl, he5, hfl⟩ := told_form h5; have HFL : Hid (fl = _) := hfl; clear hfl; subst he5)
 refine hK.out _ _ ?_ (fun hHeld2 => ?_)
 ·exact hHeld.keep b5
 clear hK K hHeld
 have hHeld := hHeld2
 clear hHeld2
 try simp only [Act.put, List.setIfInBounds_toArray, List.set_cons_zero, List.set_cons_succ]
 have HF5 : Hid (Fo2 d i u0 c0 u2 c2 ua qa w w5) := ((((HF0.out.keep ((Below.refl _ _).drew)).keep b3).keep b4).keep b5).b
 have HT : Hid (InstTold w lo (ruleN i (neuC (isC d i.b 0) false)) _) := told_rule (neu_le _ _) h5
 clear h5
 obtain ⟨r0, r1, r2, r3, r4, r5, r6⟩ := HF5.out.cell
 have rf := HF5.out.froz
 refine wpAnyH_take (i := 6) (v := ?_) rfl (by kernel_rfl) (by kernel_rfl) (by kernel_rfl) (fun _ _ _ h => h) (Or.inl ⟨by rfl, ?_⟩) hHeld ?_
 rotate_left
 ·intro w9 hS9
  go_simp
  try with_reducible rfl
 show wpAnyH _ _ _ _ _ _ _ (Act.put _ (some _) _) _
 simp only [Act.put, List.setIfInBounds_toArray, List.set_cons_zero, List.set_cons_succ]
 refine wpAnyH_take (i := 7) (v := ?_) rfl (by kernel_rfl) (by kernel_rfl) (by kernel_rfl) (fun _ _ _ h => h) (Or.inl ⟨by rfl, ?_⟩) hHeld ?_
 rotate_left
 ·intro w9 hS9
  go_simp
  try with_reducible rfl
 show wpAnyH _ _ _ _ _ _ _ (Act.put _ (some _) _) _
 simp only [Act.put, List.setIfInBounds_toArray, List.set_cons_zero, List.set_cons_succ]
 refine wpAnyH_ready (rs := [8]) (by kernel_rfl) (by simp) ?_
 refine AllReadyH.cons rfl (fun K hK => ?_) AllReadyH.nil
 go_simp
 go_wp2_with fail
 refine hK.out _ _ ?_ (fun hHeld2 => ?_)
 ·exact (by repeat (first | refine FoJ.set ?_ _ _ _ (by omega) (by omega) | exact hHeld))
 clear hK K hHeld
 have hHeld := hHeld2
 clear hHeld2
 try simp only [Act.put, List.setIfInBounds_toArray, List.set_cons_zero, List.set_cons_succ]
 refine wpAnyH_take (i := 9) (v := ?_) rfl (by kernel_rfl) (by kernel_rfl) (by kernel_rfl) (fun _ _ _ h => h) (Or.inl ⟨by rfl, ?_⟩) hHeld ?_
 rotate_left
 ·intro w9 hS9
  go_simp
  try with_reducible rfl
 show wpAnyH _ _ _ _ _ _ _ (Act.put _ (some _) _) _
 simp only [Act.put, List.setIfInBounds_toArray, List.set_cons_zero, List.set_cons_succ]
 refine wpAnyH_done (by kernel_rfl) ?_ _
 go_wp2_with fail
 have hr := (heap_set (o := 6) (v := .slice ru r.args.length rq) (heap_set (o := 5) (v := .int .i64 r.imm) (heap_set (o := 4) (v := .int .i64 r.c) (heap_set (o := 3) (v := .int .i64 r.b) (heap_set (o := 2) (v := .int .i64 r.a) (heap_set (o := 1) (v := .int .i64 r.w) (heap_set (o := 0) (v := .int .i64 r.op) HF5.out.r)))))))
 refine bodyPost_ret (v := .tuple #[.agg #[.int .i64 r.op, .int .i64 r.w, .int .i64 r.a, .int .i64 r.b, .int .i64 r.c, .int .i64 r.imm, .slice ru r.args.length rq], .bool fl]) ((results_cell_row_tmp Tryz.results60 _ _ (w.heap.size + 1) _ rfl (run_loadVar_row _ _ 29 _ _ (0, 0) _ hr Tryz.underlying29 rfl (by kernel_rfl))).trans (by rfl)) rfl ⟨by rw [HR.out]; exact HT.out, ?_⟩
 exact (by repeat (first | refine Below.setCell ?_ (by dsimp only; omega) _ | exact HF5.out.f.below))
set_option maxHeartbeats 4000000 in
set_option maxRecDepth 100000 in
theorem rule2_12 (lo : Nat) (d : FuncD) (i : InstD) (u0 : Option Addr) (c0 : Nat) (u2 : Option Addr) (c2 : Nat) (ua : Option Addr) (qa : Nat) (w : World) (hs : SmFunc d) (k0 : IntsAt w lo u0 d.params) (k2 : BlocksAt w lo u2 d.blocks) (ku : IntsAt w lo ua i.args) (hi : ISm i) (hop : i.op = 12) :
  Calls Tryz.prog 60 #[.agg #[.slice u0 d.params.length c0, .int .i64 d.ret, .slice u2 d.blocks.length c2, .int .i64 i.op, .int .i64 i.w, .int .i64 i.a, .int .i64 i.b, .int .i64 i.c, .int .i64 i.imm, .slice ua i.args.length qa]] w fun e w' => InstTold w lo (rule2 d i) e ∧ Below w.heap.size w w' := by
 have F0 := Fo3.start (d := d) (i := i) (u0 := u0) (u2 := u2) (ua := ua) (c0 := c0) (c2 := c2) (qa := qa) (w := w)
 have IS := fun (id v : Int) W (k : Below w.heap.size w W) (h : id ≤ 9223372036854775807) => isI lo d i u0 c0 u2 c2 ua qa id v W hs (k2.keep (agree_of_below k lo)) h
 have NO := fun W (k : Below w.heap.size w W) => noughtI lo d i u0 c0 u2 c2 ua qa W hs (k2.keep (agree_of_below k lo)) hi
 have FC := Fo2.start (d := d) (i := i) (u0 := u0) (u2 := u2) (ua := ua) (c0 := c0) (c2 := c2) (qa := qa) (w := w)
 have z0 := FC.f.a0
 have z1 := FC.f.a1
 have z2 := FC.f.a2
 have z3 := FC.f.a3
 have z4 := FC.f.a4
 have z5 := FC.f.a5
 have z6 := FC.f.a6
 have z7 := FC.f.a7
 have z8 := FC.f.a8
 have z9 := FC.f.a9
 have x0 := F0.b.f.a0
 have x1 := F0.b.f.a1
 have x2 := F0.b.f.a2
 have x3 := F0.b.f.a3
 have x4 := F0.b.f.a4
 have x5 := F0.b.f.a5
 have x6 := F0.b.f.a6
 have x7 := F0.b.f.a7
 have x8 := F0.b.f.a8
 have x9 := F0.b.f.a9
 obtain ⟨y0, y1, y2, y3, y4, y5, y6⟩ := F0.cell
 have HF0 : Hid (Fo3 d i u0 c0 u2 c2 ua qa w _) := F0
 have HI : Hid (ISm i) := hi
 clear F0 hs k0 k2 ku hi FC
 have q1 : (i.op == 1) = false := by rw [hop]; rfl
 have q9 : (i.op == 9) = false := by rw [hop]; rfl
 have q10 : (i.op == 10) = false := by rw [hop]; rfl
 have q2 : (i.op == 2) = false := by rw [hop]; rfl
 have q11 : (i.op == 11) = false := by rw [hop]; rfl
 have q12 : (i.op == 12) = true := by rw [hop]; rfl
 have q13 : (i.op == 13) = false := by rw [hop]; rfl
 have q4 : (i.op == 4) = false := by rw [hop]; rfl
 have q3 : (i.op == 3) = false := by rw [hop]; rfl
 have q8 : (i.op == 8) = false := by rw [hop]; rfl
 have HR : Hid (rule2 d i = ruleN i (neuC (isC d i.b 0) false)) := by show _ = _; unfold rule2; rw [hop]; first | rfl | (unfold oneC neuC; simp)
 clear hop NO
 go_enter Tryz.func60, Tryz.ntmps60
 go_wp2_with fail
 have HJ0 : Hid (FoJ d i u0 c0 u2 c2 ua qa w _) := HF0.out.fj
 clear x0 x1 x2 x3 x4 x5 x6 x7 x8 x9 y0 y1 y2 y3 y4 y5 y6 z0 z1 z2 z3 z4 z5 z6 z7 z8 z9
 refine wp_region_held_drew (S := fun w' => FoJ d i u0 c0 u2 c2 ua qa w w') (by kernel_rfl) (HJ0.out.keep ((Below.refl _ _).drew)) (fun hHeld => ?_)
 refine wpAnyH_take (i := 0) (v := ?_) rfl (by kernel_rfl) (by kernel_rfl) (by kernel_rfl) (fun _ _ _ h => h) (Or.inl ⟨by rfl, ?_⟩) hHeld ?_
 rotate_left
 ·intro w9 hS9
  have g0 := hS9.f.a0
  have g1 := hS9.f.a1
  have g2 := hS9.f.a2
  have g3 := hS9.f.a3
  have g4 := hS9.f.a4
  have g5 := hS9.f.a5
  have g6 := hS9.f.a6
  have g7 := hS9.f.a7
  have g8 := hS9.f.a8
  have g9 := hS9.f.a9
  go_simp
  try with_reducible rfl
 show wpAnyH _ _ _ _ _ _ _ (Act.put _ (some _) _) _
 simp only [Act.put, List.setIfInBounds_toArray, List.set_cons_zero, List.set_cons_succ]
 refine wpAnyH_take (i := 1) (v := ?_) rfl (by kernel_rfl) (by kernel_rfl) (by kernel_rfl) (fun _ _ _ h => h) (Or.inl ⟨by rfl, ?_⟩) hHeld ?_
 rotate_left
 ·intro w9 hS9
  have g0 := hS9.f.a0
  have g1 := hS9.f.a1
  have g2 := hS9.f.a2
  have g3 := hS9.f.a3
  have g4 := hS9.f.a4
  have g5 := hS9.f.a5
  have g6 := hS9.f.a6
  have g7 := hS9.f.a7
  have g8 := hS9.f.a8
  have g9 := hS9.f.a9
  go_simp
  try with_reducible rfl
 show wpAnyH _ _ _ _ _ _ _ (Act.put _ (some _) _) _
 simp only [Act.put, List.setIfInBounds_toArray, List.set_cons_zero, List.set_cons_succ]
 refine wpAnyH_take (i := 2) (v := ?_) rfl (by kernel_rfl) (by kernel_rfl) (by kernel_rfl) (fun _ _ _ h => h) (Or.inl ⟨by rfl, ?_⟩) hHeld ?_
 rotate_left
 ·intro w9 hS9
  go_simp
  try with_reducible rfl
 show wpAnyH _ _ _ _ _ _ _ (Act.put _ (some _) _) _
 simp only [Act.put, List.setIfInBounds_toArray, List.set_cons_zero, List.set_cons_succ]
 refine wpAnyH_take (i := 3) (v := ?_) rfl (by kernel_rfl) (by kernel_rfl) (by kernel_rfl) (fun _ _ _ h => h) (Or.inl ⟨by rfl, ?_⟩) hHeld ?_
 rotate_left
 ·intro w9 hS9
  have g0 := hS9.cell.2.2.2.1
  go_simp
  try with_reducible rfl
 show wpAnyH _ _ _ _ _ _ _ (Act.put _ (some _) _) _
 simp only [Act.put, List.setIfInBounds_toArray, List.set_cons_zero, List.set_cons_succ]
 refine wpAnyH_ready (rs := [4]) (by kernel_rfl) (by simp) ?_
 refine AllReadyH.cons rfl (fun K hK => ?_) AllReadyH.nil
 go_simp
 go_wp2_with (go_at_call 101; refine (IS i.b 0 _ hHeld.f.below HI.out.b).mono ?_; rintro e w3 ⟨rfl, b3⟩)
 refine hK.out _ _ ?_ (fun hHeld2 => ?_)
 ·exact hHeld.keep b3
 clear hK K hHeld
 have hHeld := hHeld2
 clear hHeld2
 try simp only [Act.put, List.setIfInBounds_toArray, List.set_cons_zero, List.set_cons_succ]
 have b4 : Below w3.heap.size w3 w3 := Below.refl _ _
 refine wpAnyH_ready (rs := [5]) (by kernel_rfl) (by simp) ?_
 refine AllReadyH.cons rfl (fun K hK => ?_) AllReadyH.nil
 go_simp
 go_wp2_with (go_at_call 100; refine (neutralI lo d i u0 c0 u2 c2 ua qa (isC d i.b 0) false _).mono ?_; rintro e w5 ⟨h5, b5⟩; obtain ⟨r, ru, rq, fl, he5, hfl⟩ := told_form h5; have HFL : Hid (fl = _) := hfl; clear hfl; subst he5)
 refine hK.out _ _ ?_ (fun hHeld2 => ?_)
 ·exact hHeld.keep b5
 clear hK K hHeld
 have hHeld := hHeld2
 clear hHeld2
 try simp only [Act.put, List.setIfInBounds_toArray, List.set_cons_zero, List.set_cons_succ]
 have HF5 : Hid (Fo2 d i u0 c0 u2 c2 ua qa w w5) := ((((HF0.out.keep ((Below.refl _ _).drew)).keep b3).keep b4).keep b5).b
 have HT : Hid (InstTold w lo (ruleN i (neuC (isC d i.b 0) false)) _) := told_rule (neu_le _ _) h5
 clear h5
 obtain ⟨r0, r1, r2, r3, r4, r5, r6⟩ := HF5.out.cell
 have rf := HF5.out.froz
 refine wpAnyH_take (i := 6) (v := ?_) rfl (by kernel_rfl) (by kernel_rfl) (by kernel_rfl) (fun _ _ _ h => h) (Or.inl ⟨by rfl, ?_⟩) hHeld ?_
 rotate_left
 ·intro w9 hS9
  go_simp
  try with_reducible rfl
 show wpAnyH _ _ _ _ _ _ _ (Act.put _ (some _) _) _
 simp only [Act.put, List.setIfInBounds_toArray, List.set_cons_zero, List.set_cons_succ]
 refine wpAnyH_take (i := 7) (v := ?_) rfl (by kernel_rfl) (by kernel_rfl) (by kernel_rfl) (fun _ _ _ h => h) (Or.inl ⟨by rfl, ?_⟩) hHeld ?_
 rotate_left
 ·intro w9 hS9
  go_simp
  try with_reducible rfl
 show wpAnyH _ _ _ _ _ _ _ (Act.put _ (some _) _) _
 simp only [Act.put, List.setIfInBounds_toArray, List.set_cons_zero, List.set_cons_succ]
 refine wpAnyH_ready (rs := [8]) (by kernel_rfl) (by simp) ?_
 refine AllReadyH.cons rfl (fun K hK => ?_) AllReadyH.nil
 go_simp
 go_wp2_with fail
 refine hK.out _ _ ?_ (fun hHeld2 => ?_)
 ·exact (by repeat (first | refine FoJ.set ?_ _ _ _ (by omega) (by omega) | exact hHeld))
 clear hK K hHeld
 have hHeld := hHeld2
 clear hHeld2
 try simp only [Act.put, List.setIfInBounds_toArray, List.set_cons_zero, List.set_cons_succ]
 refine wpAnyH_take (i := 9) (v := ?_) rfl (by kernel_rfl) (by kernel_rfl) (by kernel_rfl) (fun _ _ _ h => h) (Or.inl ⟨by rfl, ?_⟩) hHeld ?_
 rotate_left
 ·intro w9 hS9
  go_simp
  try with_reducible rfl
 show wpAnyH _ _ _ _ _ _ _ (Act.put _ (some _) _) _
 simp only [Act.put, List.setIfInBounds_toArray, List.set_cons_zero, List.set_cons_succ]
 refine wpAnyH_done (by kernel_rfl) ?_ _
 go_wp2_with fail
 have hr := (heap_set (o := 6) (v := .slice ru r.args.length rq) (heap_set (o := 5) (v := .int .i64 r.imm) (heap_set (o := 4) (v := .int .i64 r.c) (heap_set (o := 3) (v := .int .i64 r.b) (heap_set (o := 2) (v := .int .i64 r.a) (heap_set (o := 1) (v := .int .i64 r.w) (heap_set (o := 0) (v := .int .i64 r.op) HF5.out.r)))))))
 refine bodyPost_ret (v := .tuple #[.agg #[.int .i64 r.op, .int .i64 r.w, .int .i64 r.a, .int .i64 r.b, .int .i64 r.c, .int .i64 r.imm, .slice ru r.args.length rq], .bool fl]) ((results_cell_row_tmp Tryz.results60 _ _ (w.heap.size + 1) _ rfl (run_loadVar_row _ _ 29 _ _ (0, 0) _ hr Tryz.underlying29 rfl (by kernel_rfl))).trans (by rfl)) rfl ⟨by rw [HR.out]; exact HT.out, ?_⟩
 exact (by repeat (first | refine Below.setCell ?_ (by dsimp only; omega) _ | exact HF5.out.f.below))
set_option maxHeartbeats 4000000 in
set_option maxRecDepth 100000 in
theorem rule2_13 (lo : Nat) (d : FuncD) (i : InstD) (u0 : Option Addr) (c0 : Nat) (u2 : Option Addr) (c2 : Nat) (ua : Option Addr) (qa : Nat) (w : World) (hs : SmFunc d) (k0 : IntsAt w lo u0 d.params) (k2 : BlocksAt w lo u2 d.blocks) (ku : IntsAt w lo ua i.args) (hi : ISm i) (hop : i.op = 13) :
  Calls Tryz.prog 60 #[.agg #[.slice u0 d.params.length c0, .int .i64 d.ret, .slice u2 d.blocks.length c2, .int .i64 i.op, .int .i64 i.w, .int .i64 i.a, .int .i64 i.b, .int .i64 i.c, .int .i64 i.imm, .slice ua i.args.length qa]] w fun e w' => InstTold w lo (rule2 d i) e ∧ Below w.heap.size w w' := by
 have F0 := Fo3.start (d := d) (i := i) (u0 := u0) (u2 := u2) (ua := ua) (c0 := c0) (c2 := c2) (qa := qa) (w := w)
 have IS := fun (id v : Int) W (k : Below w.heap.size w W) (h : id ≤ 9223372036854775807) => isI lo d i u0 c0 u2 c2 ua qa id v W hs (k2.keep (agree_of_below k lo)) h
 have NO := fun W (k : Below w.heap.size w W) => noughtI lo d i u0 c0 u2 c2 ua qa W hs (k2.keep (agree_of_below k lo)) hi
 have FC := Fo2.start (d := d) (i := i) (u0 := u0) (u2 := u2) (ua := ua) (c0 := c0) (c2 := c2) (qa := qa) (w := w)
 have z0 := FC.f.a0
 have z1 := FC.f.a1
 have z2 := FC.f.a2
 have z3 := FC.f.a3
 have z4 := FC.f.a4
 have z5 := FC.f.a5
 have z6 := FC.f.a6
 have z7 := FC.f.a7
 have z8 := FC.f.a8
 have z9 := FC.f.a9
 have x0 := F0.b.f.a0
 have x1 := F0.b.f.a1
 have x2 := F0.b.f.a2
 have x3 := F0.b.f.a3
 have x4 := F0.b.f.a4
 have x5 := F0.b.f.a5
 have x6 := F0.b.f.a6
 have x7 := F0.b.f.a7
 have x8 := F0.b.f.a8
 have x9 := F0.b.f.a9
 obtain ⟨y0, y1, y2, y3, y4, y5, y6⟩ := F0.cell
 have HF0 : Hid (Fo3 d i u0 c0 u2 c2 ua qa w _) := F0
 have HI : Hid (ISm i) := hi
 clear F0 hs k0 k2 ku hi FC
 have q1 : (i.op == 1) = false := by rw [hop]; rfl
 have q9 : (i.op == 9) = false := by rw [hop]; rfl
 have q10 : (i.op == 10) = false := by rw [hop]; rfl
 have q2 : (i.op == 2) = false := by rw [hop]; rfl
 have q11 : (i.op == 11) = false := by rw [hop]; rfl
 have q12 : (i.op == 12) = false := by rw [hop]; rfl
 have q13 : (i.op == 13) = true := by rw [hop]; rfl
 have q4 : (i.op == 4) = false := by rw [hop]; rfl
 have q3 : (i.op == 3) = false := by rw [hop]; rfl
 have q8 : (i.op == 8) = false := by rw [hop]; rfl
 have HR : Hid (rule2 d i = ruleN i (neuC (isC d i.b 0) false)) := by show _ = _; unfold rule2; rw [hop]; first | rfl | (unfold oneC neuC; simp)
 clear hop NO
 go_enter Tryz.func60, Tryz.ntmps60
 go_wp2_with fail
 have HJ0 : Hid (FoJ d i u0 c0 u2 c2 ua qa w _) := HF0.out.fj
 clear x0 x1 x2 x3 x4 x5 x6 x7 x8 x9 y0 y1 y2 y3 y4 y5 y6 z0 z1 z2 z3 z4 z5 z6 z7 z8 z9
 refine wp_region_held_drew (S := fun w' => FoJ d i u0 c0 u2 c2 ua qa w w') (by kernel_rfl) (HJ0.out.keep ((Below.refl _ _).drew)) (fun hHeld => ?_)
 refine wpAnyH_take (i := 0) (v := ?_) rfl (by kernel_rfl) (by kernel_rfl) (by kernel_rfl) (fun _ _ _ h => h) (Or.inl ⟨by rfl, ?_⟩) hHeld ?_
 rotate_left
 ·intro w9 hS9
  have g0 := hS9.f.a0
  have g1 := hS9.f.a1
  have g2 := hS9.f.a2
  have g3 := hS9.f.a3
  have g4 := hS9.f.a4
  have g5 := hS9.f.a5
  have g6 := hS9.f.a6
  have g7 := hS9.f.a7
  have g8 := hS9.f.a8
  have g9 := hS9.f.a9
  go_simp
  try with_reducible rfl
 show wpAnyH _ _ _ _ _ _ _ (Act.put _ (some _) _) _
 simp only [Act.put, List.setIfInBounds_toArray, List.set_cons_zero, List.set_cons_succ]
 refine wpAnyH_take (i := 1) (v := ?_) rfl (by kernel_rfl) (by kernel_rfl) (by kernel_rfl) (fun _ _ _ h => h) (Or.inl ⟨by rfl, ?_⟩) hHeld ?_
 rotate_left
 ·intro w9 hS9
  have g0 := hS9.f.a0
  have g1 := hS9.f.a1
  have g2 := hS9.f.a2
  have g3 := hS9.f.a3
  have g4 := hS9.f.a4
  have g5 := hS9.f.a5
  have g6 := hS9.f.a6
  have g7 := hS9.f.a7
  have g8 := hS9.f.a8
  have g9 := hS9.f.a9
  go_simp
  try with_reducible rfl
 show wpAnyH _ _ _ _ _ _ _ (Act.put _ (some _) _) _
 simp only [Act.put, List.setIfInBounds_toArray, List.set_cons_zero, List.set_cons_succ]
 refine wpAnyH_take (i := 2) (v := ?_) rfl (by kernel_rfl) (by kernel_rfl) (by kernel_rfl) (fun _ _ _ h => h) (Or.inl ⟨by rfl, ?_⟩) hHeld ?_
 rotate_left
 ·intro w9 hS9
  go_simp
  try with_reducible rfl
 show wpAnyH _ _ _ _ _ _ _ (Act.put _ (some _) _) _
 simp only [Act.put, List.setIfInBounds_toArray, List.set_cons_zero, List.set_cons_succ]
 refine wpAnyH_take (i := 3) (v := ?_) rfl (by kernel_rfl) (by kernel_rfl) (by kernel_rfl) (fun _ _ _ h => h) (Or.inl ⟨by rfl, ?_⟩) hHeld ?_
 rotate_left
 ·intro w9 hS9
  have g0 := hS9.cell.2.2.2.1
  go_simp
  try with_reducible rfl
 show wpAnyH _ _ _ _ _ _ _ (Act.put _ (some _) _) _
 simp only [Act.put, List.setIfInBounds_toArray, List.set_cons_zero, List.set_cons_succ]
 refine wpAnyH_ready (rs := [4]) (by kernel_rfl) (by simp) ?_
 refine AllReadyH.cons rfl (fun K hK => ?_) AllReadyH.nil
 go_simp
 go_wp2_with (go_at_call 101; refine (IS i.b 0 _ hHeld.f.below HI.out.b).mono ?_; rintro e w3 ⟨rfl, b3⟩)
 refine hK.out _ _ ?_ (fun hHeld2 => ?_)
 ·exact hHeld.keep b3
 clear hK K hHeld
 have hHeld := hHeld2
 clear hHeld2
 try simp only [Act.put, List.setIfInBounds_toArray, List.set_cons_zero, List.set_cons_succ]
 have b4 : Below w3.heap.size w3 w3 := Below.refl _ _
 refine wpAnyH_ready (rs := [5]) (by kernel_rfl) (by simp) ?_
 refine AllReadyH.cons rfl (fun K hK => ?_) AllReadyH.nil
 go_simp
 go_wp2_with (go_at_call 100; refine (neutralI lo d i u0 c0 u2 c2 ua qa (isC d i.b 0) false _).mono ?_; rintro e w5 ⟨h5, b5⟩; obtain ⟨r, ru, rq, fl, he5, hfl⟩ := told_form h5; have HFL : Hid (fl = _) := hfl; clear hfl; subst he5)
 refine hK.out _ _ ?_ (fun hHeld2 => ?_)
 ·exact hHeld.keep b5
 clear hK K hHeld
 have hHeld := hHeld2
 clear hHeld2
 try simp only [Act.put, List.setIfInBounds_toArray, List.set_cons_zero, List.set_cons_succ]
 have HF5 : Hid (Fo2 d i u0 c0 u2 c2 ua qa w w5) := ((((HF0.out.keep ((Below.refl _ _).drew)).keep b3).keep b4).keep b5).b
 have HT : Hid (InstTold w lo (ruleN i (neuC (isC d i.b 0) false)) _) := told_rule (neu_le _ _) h5
 clear h5
 obtain ⟨r0, r1, r2, r3, r4, r5, r6⟩ := HF5.out.cell
 have rf := HF5.out.froz
 refine wpAnyH_take (i := 6) (v := ?_) rfl (by kernel_rfl) (by kernel_rfl) (by kernel_rfl) (fun _ _ _ h => h) (Or.inl ⟨by rfl, ?_⟩) hHeld ?_
 rotate_left
 ·intro w9 hS9
  go_simp
  try with_reducible rfl
 show wpAnyH _ _ _ _ _ _ _ (Act.put _ (some _) _) _
 simp only [Act.put, List.setIfInBounds_toArray, List.set_cons_zero, List.set_cons_succ]
 refine wpAnyH_take (i := 7) (v := ?_) rfl (by kernel_rfl) (by kernel_rfl) (by kernel_rfl) (fun _ _ _ h => h) (Or.inl ⟨by rfl, ?_⟩) hHeld ?_
 rotate_left
 ·intro w9 hS9
  go_simp
  try with_reducible rfl
 show wpAnyH _ _ _ _ _ _ _ (Act.put _ (some _) _) _
 simp only [Act.put, List.setIfInBounds_toArray, List.set_cons_zero, List.set_cons_succ]
 refine wpAnyH_ready (rs := [8]) (by kernel_rfl) (by simp) ?_
 refine AllReadyH.cons rfl (fun K hK => ?_) AllReadyH.nil
 go_simp
 go_wp2_with fail
 refine hK.out _ _ ?_ (fun hHeld2 => ?_)
 ·exact (by repeat (first | refine FoJ.set ?_ _ _ _ (by omega) (by omega) | exact hHeld))
 clear hK K hHeld
 have hHeld := hHeld2
 clear hHeld2
 try simp only [Act.put, List.setIfInBounds_toArray, List.set_cons_zero, List.set_cons_succ]
 refine wpAnyH_take (i := 9) (v := ?_) rfl (by kernel_rfl) (by kernel_rfl) (by kernel_rfl) (fun _ _ _ h => h) (Or.inl ⟨by rfl, ?_⟩) hHeld ?_
 rotate_left
 ·intro w9 hS9
  go_simp
  try with_reducible rfl
 show wpAnyH _ _ _ _ _ _ _ (Act.put _ (some _) _) _
 simp only [Act.put, List.setIfInBounds_toArray, List.set_cons_zero, List.set_cons_succ]
 refine wpAnyH_done (by kernel_rfl) ?_ _
 go_wp2_with fail
 have hr := (heap_set (o := 6) (v := .slice ru r.args.length rq) (heap_set (o := 5) (v := .int .i64 r.imm) (heap_set (o := 4) (v := .int .i64 r.c) (heap_set (o := 3) (v := .int .i64 r.b) (heap_set (o := 2) (v := .int .i64 r.a) (heap_set (o := 1) (v := .int .i64 r.w) (heap_set (o := 0) (v := .int .i64 r.op) HF5.out.r)))))))
 refine bodyPost_ret (v := .tuple #[.agg #[.int .i64 r.op, .int .i64 r.w, .int .i64 r.a, .int .i64 r.b, .int .i64 r.c, .int .i64 r.imm, .slice ru r.args.length rq], .bool fl]) ((results_cell_row_tmp Tryz.results60 _ _ (w.heap.size + 1) _ rfl (run_loadVar_row _ _ 29 _ _ (0, 0) _ hr Tryz.underlying29 rfl (by kernel_rfl))).trans (by rfl)) rfl ⟨by rw [HR.out]; exact HT.out, ?_⟩
 exact (by repeat (first | refine Below.setCell ?_ (by dsimp only; omega) _ | exact HF5.out.f.below))
set_option maxHeartbeats 4000000 in
set_option maxRecDepth 100000 in
theorem rule2_4 (lo : Nat) (d : FuncD) (i : InstD) (u0 : Option Addr) (c0 : Nat) (u2 : Option Addr) (c2 : Nat) (ua : Option Addr) (qa : Nat) (w : World) (hs : SmFunc d) (k0 : IntsAt w lo u0 d.params) (k2 : BlocksAt w lo u2 d.blocks) (ku : IntsAt w lo ua i.args) (hi : ISm i) (hop : i.op = 4) :
  Calls Tryz.prog 60 #[.agg #[.slice u0 d.params.length c0, .int .i64 d.ret, .slice u2 d.blocks.length c2, .int .i64 i.op, .int .i64 i.w, .int .i64 i.a, .int .i64 i.b, .int .i64 i.c, .int .i64 i.imm, .slice ua i.args.length qa]] w fun e w' => InstTold w lo (rule2 d i) e ∧ Below w.heap.size w w' := by
 have F0 := Fo3.start (d := d) (i := i) (u0 := u0) (u2 := u2) (ua := ua) (c0 := c0) (c2 := c2) (qa := qa) (w := w)
 have IS := fun (id v : Int) W (k : Below w.heap.size w W) (h : id ≤ 9223372036854775807) => isI lo d i u0 c0 u2 c2 ua qa id v W hs (k2.keep (agree_of_below k lo)) h
 have NO := fun W (k : Below w.heap.size w W) => noughtI lo d i u0 c0 u2 c2 ua qa W hs (k2.keep (agree_of_below k lo)) hi
 have FC := Fo2.start (d := d) (i := i) (u0 := u0) (u2 := u2) (ua := ua) (c0 := c0) (c2 := c2) (qa := qa) (w := w)
 have z0 := FC.f.a0
 have z1 := FC.f.a1
 have z2 := FC.f.a2
 have z3 := FC.f.a3
 have z4 := FC.f.a4
 have z5 := FC.f.a5
 have z6 := FC.f.a6
 have z7 := FC.f.a7
 have z8 := FC.f.a8
 have z9 := FC.f.a9
 have x0 := F0.b.f.a0
 have x1 := F0.b.f.a1
 have x2 := F0.b.f.a2
 have x3 := F0.b.f.a3
 have x4 := F0.b.f.a4
 have x5 := F0.b.f.a5
 have x6 := F0.b.f.a6
 have x7 := F0.b.f.a7
 have x8 := F0.b.f.a8
 have x9 := F0.b.f.a9
 obtain ⟨y0, y1, y2, y3, y4, y5, y6⟩ := F0.cell
 have HF0 : Hid (Fo3 d i u0 c0 u2 c2 ua qa w _) := F0
 have HI : Hid (ISm i) := hi
 clear F0 hs k0 k2 ku hi FC
 have q1 : (i.op == 1) = false := by rw [hop]; rfl
 have q9 : (i.op == 9) = false := by rw [hop]; rfl
 have q10 : (i.op == 10) = false := by rw [hop]; rfl
 have q2 : (i.op == 2) = false := by rw [hop]; rfl
 have q11 : (i.op == 11) = false := by rw [hop]; rfl
 have q12 : (i.op == 12) = false := by rw [hop]; rfl
 have q13 : (i.op == 13) = false := by rw [hop]; rfl
 have q4 : (i.op == 4) = true := by rw [hop]; rfl
 have q3 : (i.op == 3) = false := by rw [hop]; rfl
 have q8 : (i.op == 8) = false := by rw [hop]; rfl
 have HR : Hid (rule2 d i = ruleN i (neuC (isC d i.b 1) false)) := by show _ = _; unfold rule2; rw [hop]; first | rfl | (unfold oneC neuC; simp)
 clear hop NO
 go_enter Tryz.func60, Tryz.ntmps60
 go_wp2_with fail
 have HJ0 : Hid (FoJ d i u0 c0 u2 c2 ua qa w _) := HF0.out.fj
 clear x0 x1 x2 x3 x4 x5 x6 x7 x8 x9 y0 y1 y2 y3 y4 y5 y6 z0 z1 z2 z3 z4 z5 z6 z7 z8 z9
 refine wp_region_held_drew (S := fun w' => FoJ d i u0 c0 u2 c2 ua qa w w') (by kernel_rfl) (HJ0.out.keep ((Below.refl _ _).drew)) (fun hHeld => ?_)
 refine wpAnyH_take (i := 0) (v := ?_) rfl (by kernel_rfl) (by kernel_rfl) (by kernel_rfl) (fun _ _ _ h => h) (Or.inl ⟨by rfl, ?_⟩) hHeld ?_
 rotate_left
 ·intro w9 hS9
  have g0 := hS9.f.a0
  have g1 := hS9.f.a1
  have g2 := hS9.f.a2
  have g3 := hS9.f.a3
  have g4 := hS9.f.a4
  have g5 := hS9.f.a5
  have g6 := hS9.f.a6
  have g7 := hS9.f.a7
  have g8 := hS9.f.a8
  have g9 := hS9.f.a9
  go_simp
  try with_reducible rfl
 show wpAnyH _ _ _ _ _ _ _ (Act.put _ (some _) _) _
 simp only [Act.put, List.setIfInBounds_toArray, List.set_cons_zero, List.set_cons_succ]
 refine wpAnyH_take (i := 1) (v := ?_) rfl (by kernel_rfl) (by kernel_rfl) (by kernel_rfl) (fun _ _ _ h => h) (Or.inl ⟨by rfl, ?_⟩) hHeld ?_
 rotate_left
 ·intro w9 hS9
  have g0 := hS9.f.a0
  have g1 := hS9.f.a1
  have g2 := hS9.f.a2
  have g3 := hS9.f.a3
  have g4 := hS9.f.a4
  have g5 := hS9.f.a5
  have g6 := hS9.f.a6
  have g7 := hS9.f.a7
  have g8 := hS9.f.a8
  have g9 := hS9.f.a9
  go_simp
  try with_reducible rfl
 show wpAnyH _ _ _ _ _ _ _ (Act.put _ (some _) _) _
 simp only [Act.put, List.setIfInBounds_toArray, List.set_cons_zero, List.set_cons_succ]
 refine wpAnyH_take (i := 2) (v := ?_) rfl (by kernel_rfl) (by kernel_rfl) (by kernel_rfl) (fun _ _ _ h => h) (Or.inl ⟨by rfl, ?_⟩) hHeld ?_
 rotate_left
 ·intro w9 hS9
  go_simp
  try with_reducible rfl
 show wpAnyH _ _ _ _ _ _ _ (Act.put _ (some _) _) _
 simp only [Act.put, List.setIfInBounds_toArray, List.set_cons_zero, List.set_cons_succ]
 refine wpAnyH_take (i := 3) (v := ?_) rfl (by kernel_rfl) (by kernel_rfl) (by kernel_rfl) (fun _ _ _ h => h) (Or.inl ⟨by rfl, ?_⟩) hHeld ?_
 rotate_left
 ·intro w9 hS9
  have g0 := hS9.cell.2.2.2.1
  go_simp
  try with_reducible rfl
 show wpAnyH _ _ _ _ _ _ _ (Act.put _ (some _) _) _
 simp only [Act.put, List.setIfInBounds_toArray, List.set_cons_zero, List.set_cons_succ]
 refine wpAnyH_ready (rs := [4]) (by kernel_rfl) (by simp) ?_
 refine AllReadyH.cons rfl (fun K hK => ?_) AllReadyH.nil
 go_simp
 go_wp2_with (go_at_call 101; refine (IS i.b 1 _ hHeld.f.below HI.out.b).mono ?_; rintro e w3 ⟨rfl, b3⟩)
 refine hK.out _ _ ?_ (fun hHeld2 => ?_)
 ·exact hHeld.keep b3
 clear hK K hHeld
 have hHeld := hHeld2
 clear hHeld2
 try simp only [Act.put, List.setIfInBounds_toArray, List.set_cons_zero, List.set_cons_succ]
 have b4 : Below w3.heap.size w3 w3 := Below.refl _ _
 refine wpAnyH_ready (rs := [5]) (by kernel_rfl) (by simp) ?_
 refine AllReadyH.cons rfl (fun K hK => ?_) AllReadyH.nil
 go_simp
 go_wp2_with (go_at_call 100; refine (neutralI lo d i u0 c0 u2 c2 ua qa (isC d i.b 1) false _).mono ?_; rintro e w5 ⟨h5, b5⟩; obtain ⟨r, ru, rq, fl, he5, hfl⟩ := told_form h5; have HFL : Hid (fl = _) := hfl; clear hfl; subst he5)
 refine hK.out _ _ ?_ (fun hHeld2 => ?_)
 ·exact hHeld.keep b5
 clear hK K hHeld
 have hHeld := hHeld2
 clear hHeld2
 try simp only [Act.put, List.setIfInBounds_toArray, List.set_cons_zero, List.set_cons_succ]
 have HF5 : Hid (Fo2 d i u0 c0 u2 c2 ua qa w w5) := ((((HF0.out.keep ((Below.refl _ _).drew)).keep b3).keep b4).keep b5).b
 have HT : Hid (InstTold w lo (ruleN i (neuC (isC d i.b 1) false)) _) := told_rule (neu_le _ _) h5
 clear h5
 obtain ⟨r0, r1, r2, r3, r4, r5, r6⟩ := HF5.out.cell
 have rf := HF5.out.froz
 refine wpAnyH_take (i := 6) (v := ?_) rfl (by kernel_rfl) (by kernel_rfl) (by kernel_rfl) (fun _ _ _ h => h) (Or.inl ⟨by rfl, ?_⟩) hHeld ?_
 rotate_left
 ·intro w9 hS9
  go_simp
  try with_reducible rfl
 show wpAnyH _ _ _ _ _ _ _ (Act.put _ (some _) _) _
 simp only [Act.put, List.setIfInBounds_toArray, List.set_cons_zero, List.set_cons_succ]
 refine wpAnyH_take (i := 7) (v := ?_) rfl (by kernel_rfl) (by kernel_rfl) (by kernel_rfl) (fun _ _ _ h => h) (Or.inl ⟨by rfl, ?_⟩) hHeld ?_
 rotate_left
 ·intro w9 hS9
  go_simp
  try with_reducible rfl
 show wpAnyH _ _ _ _ _ _ _ (Act.put _ (some _) _) _
 simp only [Act.put, List.setIfInBounds_toArray, List.set_cons_zero, List.set_cons_succ]
 refine wpAnyH_ready (rs := [8]) (by kernel_rfl) (by simp) ?_
 refine AllReadyH.cons rfl (fun K hK => ?_) AllReadyH.nil
 go_simp
 go_wp2_with fail
 refine hK.out _ _ ?_ (fun hHeld2 => ?_)
 ·exact (by repeat (first | refine FoJ.set ?_ _ _ _ (by omega) (by omega) | exact hHeld))
 clear hK K hHeld
 have hHeld := hHeld2
 clear hHeld2
 try simp only [Act.put, List.setIfInBounds_toArray, List.set_cons_zero, List.set_cons_succ]
 refine wpAnyH_take (i := 9) (v := ?_) rfl (by kernel_rfl) (by kernel_rfl) (by kernel_rfl) (fun _ _ _ h => h) (Or.inl ⟨by rfl, ?_⟩) hHeld ?_
 rotate_left
 ·intro w9 hS9
  go_simp
  try with_reducible rfl
 show wpAnyH _ _ _ _ _ _ _ (Act.put _ (some _) _) _
 simp only [Act.put, List.setIfInBounds_toArray, List.set_cons_zero, List.set_cons_succ]
 refine wpAnyH_done (by kernel_rfl) ?_ _
 go_wp2_with fail
 have hr := (heap_set (o := 6) (v := .slice ru r.args.length rq) (heap_set (o := 5) (v := .int .i64 r.imm) (heap_set (o := 4) (v := .int .i64 r.c) (heap_set (o := 3) (v := .int .i64 r.b) (heap_set (o := 2) (v := .int .i64 r.a) (heap_set (o := 1) (v := .int .i64 r.w) (heap_set (o := 0) (v := .int .i64 r.op) HF5.out.r)))))))
 refine bodyPost_ret (v := .tuple #[.agg #[.int .i64 r.op, .int .i64 r.w, .int .i64 r.a, .int .i64 r.b, .int .i64 r.c, .int .i64 r.imm, .slice ru r.args.length rq], .bool fl]) ((results_cell_row_tmp Tryz.results60 _ _ (w.heap.size + 1) _ rfl (run_loadVar_row _ _ 29 _ _ (0, 0) _ hr Tryz.underlying29 rfl (by kernel_rfl))).trans (by rfl)) rfl ⟨by rw [HR.out]; exact HT.out, ?_⟩
 exact (by repeat (first | refine Below.setCell ?_ (by dsimp only; omega) _ | exact HF5.out.f.below))
end Go.Proofs.YtoknhppjdmoblaaGreatDoor
