import Derived.Test.YtoknhppjdmoblaaGreatDoorFdE
namespace Go.Proofs.YtoknhppjdmoblaaGreatDoor
set_option linter.unusedVariables false
set_option linter.unusedSimpArgs false
open Go.RowKit
set_option maxHeartbeats 4000000 in
set_option maxRecDepth 100000 in
theorem rule2_8 (lo : Nat) (d : FuncD) (i : InstD) (u0 : Option Addr) (c0 : Nat) (u2 : Option Addr) (c2 : Nat) (ua : Option Addr) (qa : Nat) (w : World) (hs : SmFunc d) (k0 : IntsAt w lo u0 d.params) (k2 : BlocksAt w lo u2 d.blocks) (ku : IntsAt w lo ua i.args) (hi : ISm i) (hop : i.op = 8) :
  Calls Tryz.prog 60 #[.agg #[.slice u0 d.params.length c0, .int .i64 d.ret, .slice u2 d.blocks.length c2, .int .i64 i.op, .int .i64 i.w, .int .i64 i.a, .int .i64 i.b, .int .i64 i.c, .int .i64 i.imm, .slice ua i.args.length qa]] w fun e w' => InstTold w lo (rule2 d i) e ∧ Below w.heap.size w w' := by
 have F0 := Fo3.start (d := d) (i := i) (u0 := u0) (u2 := u2) (ua := ua) (c0 := c0) (c2 := c2) (qa := qa) (w := w)
 have IS := fun (id v : Int) W (k : Below w.heap.size w W) (h : id ≤ 9223372036854775807) => isI lo d i u0 c0 u2 c2 ua qa id v W hs (k2.keep (agree_of_below k lo)) h
 have NO := fun W (k : Below w.heap.size w W) => noughtI lo d i u0 c0 u2 c2 ua qa W hs (k2.keep (agree_of_below k lo)) hi
 have FC := Fo2.start (d := d) (i := i) (u0 := u0) (u2 := u2) (ua := ua) (c0 := c0) (c2 := c2) (qa := qa) (w := w)
 have z0 := FC.f.a0
 have z1 := FC.f.a1
 have z2 := FC.f.a2
 have z3 := FC.f.a3
 have z4 := FC.f.a4
 have z5 := FC.f.a5
 have z6 := FC.f.a6
 have z7 := FC.f.a7
 have z8 := FC.f.a8
 have z9 := FC.f.a9
 have x0 := F0.b.f.a0
 have x1 := F0.b.f.a1
 have x2 := F0.b.f.a2
 have x3 := F0.b.f.a3
 have x4 := F0.b.f.a4
 have x5 := F0.b.f.a5
 have x6 := F0.b.f.a6
 have x7 := F0.b.f.a7
 have x8 := F0.b.f.a8
 have x9 := F0.b.f.a9
 obtain ⟨y0, y1, y2, y3, y4, y5, y6⟩ := F0.cell
 have HF0 : Hid (Fo3 d i u0 c0 u2 c2 ua qa w _) := F0
 have HI : Hid (ISm i) := hi
 clear F0 hs k0 k2 ku hi FC
 have q1 : (i.op == 1) = false := by rw [hop]; rfl
 have q9 : (i.op == 9) = false := by rw [hop]; rfl
 have q10 : (i.op == 10) = false := by rw [hop]; rfl
 have q2 : (i.op == 2) = false := by rw [hop]; rfl
 have q11 : (i.op == 11) = false := by rw [hop]; rfl
 have q12 : (i.op == 12) = false := by rw [hop]; rfl
 have q13 : (i.op == 13) = false := by rw [hop]; rfl
 have q4 : (i.op == 4) = false := by rw [hop]; rfl
 have q3 : (i.op == 3) = false := by rw [hop]; rfl
 have q8 : (i.op == 8) = true := by rw [hop]; rfl
 have HR : Hid (rule2 d i = ruleN i (nouC d i)) := by show _ = _; unfold rule2; rw [hop]; rfl
 clear hop IS
 go_enter Tryz.func60, Tryz.ntmps60
 go_wp2_with fail
 refine (NO _ HF0.out.b.f.below).mono ?_
 rintro e w5 ⟨h5, b5⟩
 obtain ⟨r, ru, rq, fl, he5, hfl⟩ := told_form h5
 have HFL : Hid (fl = _) := hfl
 clear hfl
 subst he5
 have HF5 : Hid (Fo2 d i u0 c0 u2 c2 ua qa w w5) := (HF0.out.keep b5).b
 have HT : Hid (InstTold w lo (ruleN i (nouC d i)) _) := told_rule (nou_le _ _) h5
 clear h5 b5 x0 x1 x2 x3 x4 x5 x6 x7 x8 x9 y0 y1 y2 y3 y4 y5 y6 z0 z1 z2 z3 z4 z5 z6 z7 z8 z9
 obtain ⟨r0, r1, r2, r3, r4, r5, r6⟩ := HF5.out.cell
 have rf := HF5.out.froz
 go_wp2_with fail
 have hr := (heap_set (o := 6) (v := .slice ru r.args.length rq) (heap_set (o := 5) (v := .int .i64 r.imm) (heap_set (o := 4) (v := .int .i64 r.c) (heap_set (o := 3) (v := .int .i64 r.b) (heap_set (o := 2) (v := .int .i64 r.a) (heap_set (o := 1) (v := .int .i64 r.w) (heap_set (o := 0) (v := .int .i64 r.op) HF5.out.r)))))))
 refine bodyPost_ret (v := .tuple #[.agg #[.int .i64 r.op, .int .i64 r.w, .int .i64 r.a, .int .i64 r.b, .int .i64 r.c, .int .i64 r.imm, .slice ru r.args.length rq], .bool fl]) ((results_cell_row_tmp Tryz.results60 _ _ (w.heap.size + 1) _ rfl (run_loadVar_row _ _ 29 _ _ (0, 0) _ hr Tryz.underlying29 rfl (by kernel_rfl))).trans (by rfl)) rfl ⟨by rw [HR.out]; exact HT.out, ?_⟩
 exact (by repeat (first | refine Below.setCell ?_ (by dsimp only; omega) _ | exact HF5.out.f.below))
theorem set7_row {V : World} {G : Nat} {T : TypeId} {v0 v1 v2 v3 v4 v5 v6 o0 o1 o2 o3 o4 o5 o6 : Value} (h : V.heap[G]? = some (.cells #[o0, o1, o2, o3, o4, o5, o6] T (0, 0))) : (((((((V.setCell ⟨G, 0, none⟩ v0).setCell ⟨G, 1, none⟩ v1).setCell ⟨G, 2, none⟩ v2).setCell ⟨G, 3, none⟩ v3).setCell ⟨G, 4, none⟩ v4).setCell ⟨G, 5, none⟩ v5).setCell ⟨G, 6, none⟩ v6).heap[G]? = some (.cells #[v0, v1, v2, v3, v4, v5, v6] T (0, 0)) := by
 have k := heap_set (o := 6) (v := v6) (heap_set (o := 5) (v := v5) (heap_set (o := 4) (v := v4) (heap_set (o := 3) (v := v3) (heap_set (o := 2) (v := v2) (heap_set (o := 1) (v := v1) (heap_set (o := 0) (v := v0) h))))))
 simpa using k
theorem set7_other {V : World} {G g : Nat} {v0 v1 v2 v3 v4 v5 v6 : Value} (hn : g ≠ G) : (((((((V.setCell ⟨G, 0, none⟩ v0).setCell ⟨G, 1, none⟩ v1).setCell ⟨G, 2, none⟩ v2).setCell ⟨G, 3, none⟩ v3).setCell ⟨G, 4, none⟩ v4).setCell ⟨G, 5, none⟩ v5).setCell ⟨G, 6, none⟩ v6).heap[g]? = V.heap[g]? :=
 (Below.heap_setCell _ _ _ _ (by exact hn)).trans ((Below.heap_setCell _ _ _ _ (by exact hn)).trans ((Below.heap_setCell _ _ _ _ (by exact hn)).trans ((Below.heap_setCell _ _ _ _ (by exact hn)).trans ((Below.heap_setCell _ _ _ _ (by exact hn)).trans ((Below.heap_setCell _ _ _ _ (by exact hn)).trans (Below.heap_setCell _ _ _ _ (by exact hn)))))))
theorem mul_yes {d : FuncD} {i : InstD} (hop : i.op = 3) (h : (isC d i.b 1 || isC d i.a 1) = true) : rule2 d i = ruleN i (neuC (isC d i.b 1) (isC d i.a 1)) := by
 unfold rule2
 rw [hop]
 cases hb : isC d i.b 1 <;> cases ha : isC d i.a 1
 ·rw [hb, ha] at h; cases h
 ·rfl
 ·rfl
 ·rfl
theorem mul_no {d : FuncD} {i : InstD} (hop : i.op = 3) (h : (isC d i.b 1 || isC d i.a 1) = false) : rule2 d i = ruleN i (nouC d i) := by
 unfold rule2
 rw [hop]
 cases hb : isC d i.b 1 <;> cases ha : isC d i.a 1
 ·rfl
 ·rw [hb, ha] at h; cases h
 ·rw [hb, ha] at h; cases h
 ·rw [hb, ha] at h; cases h
set_option maxHeartbeats 4000000 in
set_option maxRecDepth 100000 in
theorem rule2_3 (lo : Nat) (d : FuncD) (i : InstD) (u0 : Option Addr) (c0 : Nat) (u2 : Option Addr) (c2 : Nat) (ua : Option Addr) (qa : Nat) (w : World) (hs : SmFunc d) (k0 : IntsAt w lo u0 d.params) (k2 : BlocksAt w lo u2 d.blocks) (ku : IntsAt w lo ua i.args) (hi : ISm i) (hop : i.op = 3) :
  Calls Tryz.prog 60 #[.agg #[.slice u0 d.params.length c0, .int .i64 d.ret, .slice u2 d.blocks.length c2, .int .i64 i.op, .int .i64 i.w, .int .i64 i.a, .int .i64 i.b, .int .i64 i.c, .int .i64 i.imm, .slice ua i.args.length qa]] w fun e w' => InstTold w lo (rule2 d i) e ∧ Below w.heap.size w w' := by
 have F0 := Fo3.start (d := d) (i := i) (u0 := u0) (u2 := u2) (ua := ua) (c0 := c0) (c2 := c2) (qa := qa) (w := w)
 have IS := fun (id v : Int) W (k : Below w.heap.size w W) (h : id ≤ 9223372036854775807) => isI lo d i u0 c0 u2 c2 ua qa id v W hs (k2.keep (agree_of_below k lo)) h
 have NO := fun W (k : Below w.heap.size w W) => noughtI lo d i u0 c0 u2 c2 ua qa W hs (k2.keep (agree_of_below k lo)) hi
 have FC := Fo2.start (d := d) (i := i) (u0 := u0) (u2 := u2) (ua := ua) (c0 := c0) (c2 := c2) (qa := qa) (w := w)
 have z0 := FC.f.a0
 have z1 := FC.f.a1
 have z2 := FC.f.a2
 have z3 := FC.f.a3
 have z4 := FC.f.a4
 have z5 := FC.f.a5
 have z6 := FC.f.a6
 have z7 := FC.f.a7
 have z8 := FC.f.a8
 have z9 := FC.f.a9
 have x0 := F0.b.f.a0
 have x1 := F0.b.f.a1
 have x2 := F0.b.f.a2
 have x3 := F0.b.f.a3
 have x4 := F0.b.f.a4
 have x5 := F0.b.f.a5
 have x6 := F0.b.f.a6
 have x7 := F0.b.f.a7
 have x8 := F0.b.f.a8
 have x9 := F0.b.f.a9
 obtain ⟨y0, y1, y2, y3, y4, y5, y6⟩ := F0.cell
 have HF0 : Hid (Fo3 d i u0 c0 u2 c2 ua qa w _) := F0
 have HI : Hid (ISm i) := hi
 clear F0 hs k0 k2 ku hi FC
 have q1 : (i.op == 1) = false := by rw [hop]; rfl
 have q9 : (i.op == 9) = false := by rw [hop]; rfl
 have q10 : (i.op == 10) = false := by rw [hop]; rfl
 have q2 : (i.op == 2) = false := by rw [hop]; rfl
 have q11 : (i.op == 11) = false := by rw [hop]; rfl
 have q12 : (i.op == 12) = false := by rw [hop]; rfl
 have q13 : (i.op == 13) = false := by rw [hop]; rfl
 have q4 : (i.op == 4) = false := by rw [hop]; rfl
 have q3 : (i.op == 3) = true := by rw [hop]; rfl
 have q8 : (i.op == 8) = false := by rw [hop]; rfl
 have HOP : Hid (i.op = 3) := hop
 clear hop
 go_enter Tryz.func60, Tryz.ntmps60
 go_wp2_with fail
 have HFc : Hid (Fo3 d i u0 c0 u2 c2 ua qa w _) := HF0.out.keep ((Below.refl _ _).drew)
 clear x0 x1 x2 x3 x4 x5 x6 x7 x8 x9 y0 y1 y2 y3 y4 y5 y6 z0 z1 z2 z3 z4 z5 z6 z7 z8 z9 HF0
 refine wp_region_held_drew (S := fun w' => FoJ d i u0 c0 u2 c2 ua qa w w') (by kernel_rfl) (HFc.out.fj) (fun hHeld => ?_)
 generalize World.drew _ = W0 at *
 refine wpAnyH_take (i := 0) (v := ?_) rfl (by kernel_rfl) (by kernel_rfl) (by kernel_rfl) (fun _ _ _ h => h) (Or.inl ⟨by rfl, ?_⟩) hHeld ?_
 rotate_left
 ·intro w9 hS9
  have g0 := hS9.f.a0
  have g1 := hS9.f.a1
  have g2 := hS9.f.a2
  have g3 := hS9.f.a3
  have g4 := hS9.f.a4
  have g5 := hS9.f.a5
  have g6 := hS9.f.a6
  have g7 := hS9.f.a7
  have g8 := hS9.f.a8
  have g9 := hS9.f.a9
  go_simp
  try with_reducible rfl
 show wpAnyH _ _ _ _ _ _ _ (Act.put _ (some _) _) _
 simp only [Act.put, List.setIfInBounds_toArray, List.set_cons_zero, List.set_cons_succ]
 refine wpAnyH_take (i := 1) (v := ?_) rfl (by kernel_rfl) (by kernel_rfl) (by kernel_rfl) (fun _ _ _ h => h) (Or.inl ⟨by rfl, ?_⟩) hHeld ?_
 rotate_left
 ·intro w9 hS9
  have g0 := hS9.f.a0
  have g1 := hS9.f.a1
  have g2 := hS9.f.a2
  have g3 := hS9.f.a3
  have g4 := hS9.f.a4
  have g5 := hS9.f.a5
  have g6 := hS9.f.a6
  have g7 := hS9.f.a7
  have g8 := hS9.f.a8
  have g9 := hS9.f.a9
  go_simp
  try with_reducible rfl
 show wpAnyH _ _ _ _ _ _ _ (Act.put _ (some _) _) _
 simp only [Act.put, List.setIfInBounds_toArray, List.set_cons_zero, List.set_cons_succ]
 refine wpAnyH_take (i := 2) (v := ?_) rfl (by kernel_rfl) (by kernel_rfl) (by kernel_rfl) (fun _ _ _ h => h) (Or.inl ⟨by rfl, ?_⟩) hHeld ?_
 rotate_left
 ·intro w9 hS9
  go_simp
  try with_reducible rfl
 show wpAnyH _ _ _ _ _ _ _ (Act.put _ (some _) _) _
 simp only [Act.put, List.setIfInBounds_toArray, List.set_cons_zero, List.set_cons_succ]
 refine wpAnyH_take (i := 3) (v := ?_) rfl (by kernel_rfl) (by kernel_rfl) (by kernel_rfl) (fun _ _ _ h => h) (Or.inl ⟨by rfl, ?_⟩) hHeld ?_
 rotate_left
 ·intro w9 hS9
  have g0 := hS9.cell.2.2.2.1
  go_simp
  try with_reducible rfl
 show wpAnyH _ _ _ _ _ _ _ (Act.put _ (some _) _) _
 simp only [Act.put, List.setIfInBounds_toArray, List.set_cons_zero, List.set_cons_succ]
 refine wpAnyH_take (i := 5) (v := ?_) rfl (by kernel_rfl) (by kernel_rfl) (by kernel_rfl) (fun _ _ _ h => h) (Or.inl ⟨by rfl, ?_⟩) hHeld ?_
 rotate_left
 ·intro w9 hS9
  have g0 := hS9.f.a0
  have g1 := hS9.f.a1
  have g2 := hS9.f.a2
  have g3 := hS9.f.a3
  have g4 := hS9.f.a4
  have g5 := hS9.f.a5
  have g6 := hS9.f.a6
  have g7 := hS9.f.a7
  have g8 := hS9.f.a8
  have g9 := hS9.f.a9
  go_simp
  try with_reducible rfl
 show wpAnyH _ _ _ _ _ _ _ (Act.put _ (some _) _) _
 simp only [Act.put, List.setIfInBounds_toArray, List.set_cons_zero, List.set_cons_succ]
 refine wpAnyH_take (i := 6) (v := ?_) rfl (by kernel_rfl) (by kernel_rfl) (by kernel_rfl) (fun _ _ _ h => h) (Or.inl ⟨by rfl, ?_⟩) hHeld ?_
 rotate_left
 ·intro w9 hS9
  go_simp
  try with_reducible rfl
 show wpAnyH _ _ _ _ _ _ _ (Act.put _ (some _) _) _
 simp only [Act.put, List.setIfInBounds_toArray, List.set_cons_zero, List.set_cons_succ]
 refine wpAnyH_take (i := 7) (v := ?_) rfl (by kernel_rfl) (by kernel_rfl) (by kernel_rfl) (fun _ _ _ h => h) (Or.inl ⟨by rfl, ?_⟩) hHeld ?_
 rotate_left
 ·intro w9 hS9
  have g0 := hS9.cell.2.2.1
  go_simp
  try with_reducible rfl
 show wpAnyH _ _ _ _ _ _ _ (Act.put _ (some _) _) _
 simp only [Act.put, List.setIfInBounds_toArray, List.set_cons_zero, List.set_cons_succ]
 refine wpAnyH_ready (rs := [4, 13]) (by kernel_rfl) (by simp) ?_
 refine AllReadyH.cons rfl (fun K hK => ?_) (AllReadyH.cons rfl (fun K hK => ?_) AllReadyH.nil)
 ·go_simp
  go_wp2_with (go_at_call 101; refine (IS i.b 1 _ hHeld.f.below HI.out.b).mono ?_; rintro e w3 ⟨rfl, b3⟩)
  refine hK.out _ _ ?_ (fun hHeld2 => ?_)
  ·exact hHeld.keep b3
  clear hK K hHeld
  have hHeld := hHeld2
  clear hHeld2
  try simp only [Act.put, List.setIfInBounds_toArray, List.set_cons_zero, List.set_cons_succ]
  have HFx : Hid (Fo3 d i u0 c0 u2 c2 ua qa w w3) := HFc.out.keep b3
  clear HFc
  have HFc := HFx
  clear HFx
  clear b3
  refine wpAnyH_ready (rs := [8, 13]) (by kernel_rfl) (by simp) ?_
  refine AllReadyH.cons rfl (fun K hK => ?_) (AllReadyH.cons rfl (fun K hK => ?_) AllReadyH.nil)
  ·go_simp
   go_wp2_with (go_at_call 101; refine (IS i.a 1 _ hHeld.f.below HI.out.a).mono ?_; rintro e w4 ⟨rfl, b4⟩)
   refine hK.out _ _ ?_ (fun hHeld2 => ?_)
   ·exact hHeld.keep b4
   clear hK K hHeld
   have hHeld := hHeld2
   clear hHeld2
   try simp only [Act.put, List.setIfInBounds_toArray, List.set_cons_zero, List.set_cons_succ]
   have HFx : Hid (Fo3 d i u0 c0 u2 c2 ua qa w w4) := HFc.out.keep b4
   clear HFc
   have HFc := HFx
   clear HFx
   clear b4
   refine wpAnyH_ready (rs := [9, 13]) (by kernel_rfl) (by simp) ?_
   refine AllReadyH.cons rfl (fun K hK => ?_) (AllReadyH.cons rfl (fun K hK => ?_) AllReadyH.nil)
   ·go_simp
    go_wp2_with (go_at_call 100; refine (neutralI lo d i u0 c0 u2 c2 ua qa (isC d i.b 1) (isC d i.a 1) _).mono ?_; rintro e w5 ⟨h5, b5⟩; obtain ⟨r, ru, rq, fl, he5, hfl⟩ := told_form h5; have HFL : Hid (fl = _) := hfl; clear hfl; subst he5)
    refine hK.out _ _ ?_ (fun hHeld2 => ?_)
    ·exact hHeld.keep b5
    clear hK K hHeld
    have hHeld := hHeld2
    clear hHeld2
    try simp only [Act.put, List.setIfInBounds_toArray, List.set_cons_zero, List.set_cons_succ]
    have HFx : Hid (Fo3 d i u0 c0 u2 c2 ua qa w w5) := HFc.out.keep b5
    clear HFc
    have HFc := HFx
    clear HFx
    clear b5
    have HT : Hid (InstTold w lo (ruleN i (neuC (isC d i.b 1) (isC d i.a 1))) _) := told_rule (neu_le _ _) h5
    clear h5
    refine wpAnyH_take (i := 10) (v := ?_) rfl (by kernel_rfl) (by kernel_rfl) (by kernel_rfl) (fun _ _ _ h => h) (Or.inl ⟨by rfl, ?_⟩) hHeld ?_
    rotate_left
    ·intro w9 hS9
     go_simp
     try with_reducible rfl
    show wpAnyH _ _ _ _ _ _ _ (Act.put _ (some _) _) _
    simp only [Act.put, List.setIfInBounds_toArray, List.set_cons_zero, List.set_cons_succ]
    refine wpAnyH_take (i := 11) (v := ?_) rfl (by kernel_rfl) (by kernel_rfl) (by kernel_rfl) (fun _ _ _ h => h) (Or.inl ⟨by rfl, ?_⟩) hHeld ?_
    rotate_left
    ·intro w9 hS9
     go_simp
     try with_reducible rfl
    show wpAnyH _ _ _ _ _ _ _ (Act.put _ (some _) _) _
    simp only [Act.put, List.setIfInBounds_toArray, List.set_cons_zero, List.set_cons_succ]
    refine wpAnyH_take (i := 12) (v := ?_) rfl (by kernel_rfl) (by kernel_rfl) (by kernel_rfl) (fun _ _ _ h => h) (Or.inl ⟨by rfl, ?_⟩) hHeld ?_
    rotate_left
    ·intro w9 hS9
     go_simp
     try with_reducible rfl
    show wpAnyH _ _ _ _ _ _ _ (Act.put _ (some _) _) _
    simp only [Act.put, List.setIfInBounds_toArray, List.set_cons_zero, List.set_cons_succ]
    refine wpAnyH_ready (rs := [13]) (by kernel_rfl) (by simp) ?_
    refine AllReadyH.cons rfl (fun K hK => ?_) AllReadyH.nil
    go_simp
    go_wp2_with fail
    refine hK.out _ _ ?_ (fun hHeld2 => ?_)
    ·exact hHeld.keep ((Below.refl _ _).alloc (Nat.le_refl _) _)
    clear hK K hHeld
    have hHeld := hHeld2
    clear hHeld2
    try simp only [Act.put, List.setIfInBounds_toArray, List.set_cons_zero, List.set_cons_succ]
    have bV : Below w5.heap.size w5 (w5.alloc (.cells #[.int .i64 0, .int .i64 0, .int .i64 0, .int .i64 0, .int .i64 0, .int .i64 0, .slice none 0 0] 29)) := (Below.refl _ _).alloc (Nat.le_refl _) _
    have HFx : Hid (Fo3 d i u0 c0 u2 c2 ua qa w (w5.alloc (.cells #[.int .i64 0, .int .i64 0, .int .i64 0, .int .i64 0, .int .i64 0, .int .i64 0, .slice none 0 0] 29))) := HFc.out.keep bV
    have hGV := heap_alloc_last w5 (.cells #[.int .i64 0, .int .i64 0, .int .i64 0, .int .i64 0, .int .i64 0, .int .i64 0, .slice none 0 0] 29)
    have hGS : w.heap.size + 2 < w5.heap.size := (Array.getElem?_eq_some_iff.1 HFc.out.j).1
    generalize hGd : w5.heap.size = G at *
    clear hGd bV HFc
    have HFc := HFx
    clear HFx
    have HG : Hid _ := hGV
    clear hGV
    generalize w5.alloc (.cells #[.int .i64 0, .int .i64 0, .int .i64 0, .int .i64 0, .int .i64 0, .int .i64 0, .slice none 0 0] 29) = V at *
    have n0 : V.cell? ⟨G, 0, none⟩ = some (.int .i64 0) := (cell_of_heap HG.out).trans rfl
    have n1 : V.cell? ⟨G, 1, none⟩ = some (.int .i64 0) := (cell_of_heap HG.out).trans rfl
    have n2 : V.cell? ⟨G, 2, none⟩ = some (.int .i64 0) := (cell_of_heap HG.out).trans rfl
    have n3 : V.cell? ⟨G, 3, none⟩ = some (.int .i64 0) := (cell_of_heap HG.out).trans rfl
    have n4 : V.cell? ⟨G, 4, none⟩ = some (.int .i64 0) := (cell_of_heap HG.out).trans rfl
    have n5 : V.cell? ⟨G, 5, none⟩ = some (.int .i64 0) := (cell_of_heap HG.out).trans rfl
    have n6 : V.cell? ⟨G, 6, none⟩ = some (.slice none 0 0) := (cell_of_heap HG.out).trans rfl
    have nf : ∀ o, V.frozen? ⟨G, o, none⟩ = false := fun o => froz_of_heap HG.out
    refine wpAnyH_ready (rs := [14]) (by kernel_rfl) (by simp) ?_
    refine AllReadyH.cons rfl (fun K hK => ?_) AllReadyH.nil
    go_simp
    go_wp2_with fail
    refine hK.out _ _ ?_ (fun hHeld2 => ?_)
    ·exact (by repeat (first | refine FoJ.set ?_ _ _ _ (by omega) (by omega) | exact hHeld))
    clear hK K hHeld
    have hHeld := hHeld2
    clear hHeld2
    try simp only [Act.put, List.setIfInBounds_toArray, List.set_cons_zero, List.set_cons_succ]
    refine wpAnyH_take (i := 15) (v := ?_) rfl (by kernel_rfl) (by kernel_rfl) (by kernel_rfl) (fun _ _ _ h => h) (Or.inl ⟨by rfl, ?_⟩) hHeld ?_
    rotate_left
    ·intro w9 hS9
     go_simp
     try with_reducible rfl
    show wpAnyH _ _ _ _ _ _ _ (Act.put _ (some _) _) _
    simp only [Act.put, List.setIfInBounds_toArray, List.set_cons_zero, List.set_cons_succ]
    refine wpAnyH_done (by kernel_rfl) ?_ _
    have hn6 := set7_row (v0 := .int .i64 r.op) (v1 := .int .i64 r.w) (v2 := .int .i64 r.a) (v3 := .int .i64 r.b) (v4 := .int .i64 r.c) (v5 := .int .i64 r.imm) (v6 := .slice ru r.args.length rq) HG.out
    have hr6 := (set7_other (V := V) (G := G) (g := w.heap.size + 1) (v0 := .int .i64 r.op) (v1 := .int .i64 r.w) (v2 := .int .i64 r.a) (v3 := .int .i64 r.b) (v4 := .int .i64 r.c) (v5 := .int .i64 r.imm) (v6 := .slice ru r.args.length rq) (by omega)).trans HFc.out.b.r
    have hj6 := hHeld.f
    clear hHeld HFc n0 n1 n2 n3 n4 n5 n6 nf HG
    generalize (((((((V.setCell ⟨G, 0, none⟩ (.int .i64 r.op)).setCell ⟨G, 1, none⟩ (.int .i64 r.w)).setCell ⟨G, 2, none⟩ (.int .i64 r.a)).setCell ⟨G, 3, none⟩ (.int .i64 r.b)).setCell ⟨G, 4, none⟩ (.int .i64 r.c)).setCell ⟨G, 5, none⟩ (.int .i64 r.imm)).setCell ⟨G, 6, none⟩ (.slice ru r.args.length rq)) = W6 at *
    have HF6 : Hid (Fo2 d i u0 c0 u2 c2 ua qa w W6) := ⟨hj6, hr6⟩
    clear hj6 hr6
    have t0 : W6.cell? ⟨G, 0, none⟩ = some (.int .i64 r.op) := (cell_of_heap hn6).trans rfl
    have t1 : W6.cell? ⟨G, 1, none⟩ = some (.int .i64 r.w) := (cell_of_heap hn6).trans rfl
    have t2 : W6.cell? ⟨G, 2, none⟩ = some (.int .i64 r.a) := (cell_of_heap hn6).trans rfl
    have t3 : W6.cell? ⟨G, 3, none⟩ = some (.int .i64 r.b) := (cell_of_heap hn6).trans rfl
    have t4 : W6.cell? ⟨G, 4, none⟩ = some (.int .i64 r.c) := (cell_of_heap hn6).trans rfl
    have t5 : W6.cell? ⟨G, 5, none⟩ = some (.int .i64 r.imm) := (cell_of_heap hn6).trans rfl
    have t6 : W6.cell? ⟨G, 6, none⟩ = some (.slice ru r.args.length rq) := (cell_of_heap hn6).trans rfl
    obtain ⟨r0, r1, r2, r3, r4, r5, r6⟩ := HF6.out.cell
    have rf := HF6.out.froz
    have x0 := HF6.out.f.a0
    have x1 := HF6.out.f.a1
    have x2 := HF6.out.f.a2
    have x3 := HF6.out.f.a3
    have x4 := HF6.out.f.a4
    have x5 := HF6.out.f.a5
    have x6 := HF6.out.f.a6
    have x7 := HF6.out.f.a7
    have x8 := HF6.out.f.a8
    have x9 := HF6.out.f.a9
    clear hn6
    cases fl with
    | true =>
     have HR : Hid (rule2 d i = ruleN i (neuC (isC d i.b 1) (isC d i.a 1))) := mul_yes HOP.out (by rw [← neu_some i]; exact HFL.out.symm)
     go_wp2_with fail
     have hr := (heap_set (o := 6) (v := .slice ru r.args.length rq) (heap_set (o := 5) (v := .int .i64 r.imm) (heap_set (o := 4) (v := .int .i64 r.c) (heap_set (o := 3) (v := .int .i64 r.b) (heap_set (o := 2) (v := .int .i64 r.a) (heap_set (o := 1) (v := .int .i64 r.w) (heap_set (o := 0) (v := .int .i64 r.op) HF6.out.r)))))))
     refine bodyPost_ret (v := .tuple #[.agg #[.int .i64 r.op, .int .i64 r.w, .int .i64 r.a, .int .i64 r.b, .int .i64 r.c, .int .i64 r.imm, .slice ru r.args.length rq], .bool true]) ((results_cell_row_tmp Tryz.results60 _ _ (w.heap.size + 1) _ rfl (run_loadVar_row _ _ 29 _ _ (0, 0) _ hr Tryz.underlying29 rfl (by kernel_rfl))).trans (by rfl)) rfl ⟨by rw [HR.out]; exact HT.out, ?_⟩
     exact (by repeat (first | refine Below.setCell ?_ (by dsimp only; omega) _ | exact HF6.out.f.below))
    | false =>
     have HR : Hid (rule2 d i = ruleN i (nouC d i)) := mul_no HOP.out (by rw [← neu_some i]; exact HFL.out.symm)
     go_wp2_with fail
     refine (NO _ HF6.out.f.below).mono ?_
     rintro e w7 ⟨h7, b7⟩
     obtain ⟨s, su, sq, gl, he7, hgl⟩ := told_form h7
     have HGL : Hid (gl = _) := hgl
     clear hgl
     subst he7
     have HF7 : Hid (Fo2 d i u0 c0 u2 c2 ua qa w w7) := HF6.out.keep b7
     have HT7 : Hid (InstTold w lo (ruleN i (nouC d i)) _) := told_rule (nou_le _ _) h7
     clear h7 b7 r0 r1 r2 r3 r4 r5 r6 rf x0 x1 x2 x3 x4 x5 x6 x7 x8 x9 t0 t1 t2 t3 t4 t5 t6
     obtain ⟨r0, r1, r2, r3, r4, r5, r6⟩ := HF7.out.cell
     have rf := HF7.out.froz
     go_wp2_with fail
     have hr := (heap_set (o := 6) (v := .slice su s.args.length sq) (heap_set (o := 5) (v := .int .i64 s.imm) (heap_set (o := 4) (v := .int .i64 s.c) (heap_set (o := 3) (v := .int .i64 s.b) (heap_set (o := 2) (v := .int .i64 s.a) (heap_set (o := 1) (v := .int .i64 s.w) (heap_set (o := 0) (v := .int .i64 s.op) HF7.out.r)))))))
     refine bodyPost_ret (v := .tuple #[.agg #[.int .i64 s.op, .int .i64 s.w, .int .i64 s.a, .int .i64 s.b, .int .i64 s.c, .int .i64 s.imm, .slice su s.args.length sq], .bool gl]) ((results_cell_row_tmp Tryz.results60 _ _ (w.heap.size + 1) _ rfl (run_loadVar_row _ _ 29 _ _ (0, 0) _ hr Tryz.underlying29 rfl (by kernel_rfl))).trans (by rfl)) rfl ⟨by rw [HR.out]; exact HT7.out, ?_⟩
     exact (by repeat (first | refine Below.setCell ?_ (by dsimp only; omega) _ | exact HF7.out.f.below))
   ·go_simp
    go_wp2_with fail
    refine hK.out _ _ ?_ (fun hHeld2 => ?_)
    ·exact hHeld.keep ((Below.refl _ _).alloc (Nat.le_refl _) _)
    clear hK K hHeld
    have hHeld := hHeld2
    clear hHeld2
    try simp only [Act.put, List.setIfInBounds_toArray, List.set_cons_zero, List.set_cons_succ]
    have bV : Below w4.heap.size w4 (w4.alloc (.cells #[.int .i64 0, .int .i64 0, .int .i64 0, .int .i64 0, .int .i64 0, .int .i64 0, .slice none 0 0] 29)) := (Below.refl _ _).alloc (Nat.le_refl _) _
    have HFx : Hid (Fo3 d i u0 c0 u2 c2 ua qa w (w4.alloc (.cells #[.int .i64 0, .int .i64 0, .int .i64 0, .int .i64 0, .int .i64 0, .int .i64 0, .slice none 0 0] 29))) := HFc.out.keep bV
    have hGV := heap_alloc_last w4 (.cells #[.int .i64 0, .int .i64 0, .int .i64 0, .int .i64 0, .int .i64 0, .int .i64 0, .slice none 0 0] 29)
    have hGS : w.heap.size + 2 < w4.heap.size := (Array.getElem?_eq_some_iff.1 HFc.out.j).1
    generalize hGd : w4.heap.size = G at *
    clear hGd bV HFc
    have HFc := HFx
    clear HFx
    have HG : Hid _ := hGV
    clear hGV
    generalize w4.alloc (.cells #[.int .i64 0, .int .i64 0, .int .i64 0, .int .i64 0, .int .i64 0, .int .i64 0, .slice none 0 0] 29) = V at *
    refine wpAnyH_ready (rs := [9]) (by kernel_rfl) (by simp) ?_
    refine AllReadyH.cons rfl (fun K hK => ?_) AllReadyH.nil
    go_simp
    go_wp2_with (go_at_call 100; refine (neutralI lo d i u0 c0 u2 c2 ua qa (isC d i.b 1) (isC d i.a 1) _).mono ?_; rintro e w5 ⟨h5, b5⟩; obtain ⟨r, ru, rq, fl, he5, hfl⟩ := told_form h5; have HFL : Hid (fl = _) := hfl; clear hfl; subst he5)
    refine hK.out _ _ ?_ (fun hHeld2 => ?_)
    ·exact hHeld.keep b5
    clear hK K hHeld
    have hHeld := hHeld2
    clear hHeld2
    try simp only [Act.put, List.setIfInBounds_toArray, List.set_cons_zero, List.set_cons_succ]
    have HFx : Hid (Fo3 d i u0 c0 u2 c2 ua qa w w5) := HFc.out.keep b5
    clear HFc
    have HFc := HFx
    clear HFx
    have HGx : Hid (w5.heap[G]? = some (.cells #[.int .i64 0, .int .i64 0, .int .i64 0, .int .i64 0, .int .i64 0, .int .i64 0, .slice none 0 0] 29 (0, 0))) := (b5.block G (Array.getElem?_eq_some_iff.1 HG.out).1).trans HG.out
    clear HG
    have HG := HGx
    clear HGx
    clear b5
    have HT : Hid (InstTold w lo (ruleN i (neuC (isC d i.b 1) (isC d i.a 1))) _) := told_rule (neu_le _ _) h5
    clear h5
    refine wpAnyH_take (i := 10) (v := ?_) rfl (by kernel_rfl) (by kernel_rfl) (by kernel_rfl) (fun _ _ _ h => h) (Or.inl ⟨by rfl, ?_⟩) hHeld ?_
    rotate_left
    ·intro w9 hS9
     go_simp
     try with_reducible rfl
    show wpAnyH _ _ _ _ _ _ _ (Act.put _ (some _) _) _
    simp only [Act.put, List.setIfInBounds_toArray, List.set_cons_zero, List.set_cons_succ]
    refine wpAnyH_take (i := 11) (v := ?_) rfl (by kernel_rfl) (by kernel_rfl) (by kernel_rfl) (fun _ _ _ h => h) (Or.inl ⟨by rfl, ?_⟩) hHeld ?_
    rotate_left
    ·intro w9 hS9
     go_simp
     try with_reducible rfl
    show wpAnyH _ _ _ _ _ _ _ (Act.put _ (some _) _) _
    simp only [Act.put, List.setIfInBounds_toArray, List.set_cons_zero, List.set_cons_succ]
    refine wpAnyH_take (i := 12) (v := ?_) rfl (by kernel_rfl) (by kernel_rfl) (by kernel_rfl) (fun _ _ _ h => h) (Or.inl ⟨by rfl, ?_⟩) hHeld ?_
    rotate_left
    ·intro w9 hS9
     go_simp
     try with_reducible rfl
    show wpAnyH _ _ _ _ _ _ _ (Act.put _ (some _) _) _
    simp only [Act.put, List.setIfInBounds_toArray, List.set_cons_zero, List.set_cons_succ]
    have n0 : w5.cell? ⟨G, 0, none⟩ = some (.int .i64 0) := (cell_of_heap HG.out).trans rfl
    have n1 : w5.cell? ⟨G, 1, none⟩ = some (.int .i64 0) := (cell_of_heap HG.out).trans rfl
    have n2 : w5.cell? ⟨G, 2, none⟩ = some (.int .i64 0) := (cell_of_heap HG.out).trans rfl
    have n3 : w5.cell? ⟨G, 3, none⟩ = some (.int .i64 0) := (cell_of_heap HG.out).trans rfl
    have n4 : w5.cell? ⟨G, 4, none⟩ = some (.int .i64 0) := (cell_of_heap HG.out).trans rfl
    have n5 : w5.cell? ⟨G, 5, none⟩ = some (.int .i64 0) := (cell_of_heap HG.out).trans rfl
    have n6 : w5.cell? ⟨G, 6, none⟩ = some (.slice none 0 0) := (cell_of_heap HG.out).trans rfl
    have nf : ∀ o, w5.frozen? ⟨G, o, none⟩ = false := fun o => froz_of_heap HG.out
    refine wpAnyH_ready (rs := [14]) (by kernel_rfl) (by simp) ?_
    refine AllReadyH.cons rfl (fun K hK => ?_) AllReadyH.nil
    go_simp
    go_wp2_with fail
    refine hK.out _ _ ?_ (fun hHeld2 => ?_)
    ·exact (by repeat (first | refine FoJ.set ?_ _ _ _ (by omega) (by omega) | exact hHeld))
    clear hK K hHeld
    have hHeld := hHeld2
    clear hHeld2
    try simp only [Act.put, List.setIfInBounds_toArray, List.set_cons_zero, List.set_cons_succ]
    refine wpAnyH_take (i := 15) (v := ?_) rfl (by kernel_rfl) (by kernel_rfl) (by kernel_rfl) (fun _ _ _ h => h) (Or.inl ⟨by rfl, ?_⟩) hHeld ?_
    rotate_left
    ·intro w9 hS9
     go_simp
     try with_reducible rfl
    show wpAnyH _ _ _ _ _ _ _ (Act.put _ (some _) _) _
    simp only [Act.put, List.setIfInBounds_toArray, List.set_cons_zero, List.set_cons_succ]
    refine wpAnyH_done (by kernel_rfl) ?_ _
    have hn6 := set7_row (v0 := .int .i64 r.op) (v1 := .int .i64 r.w) (v2 := .int .i64 r.a) (v3 := .int .i64 r.b) (v4 := .int .i64 r.c) (v5 := .int .i64 r.imm) (v6 := .slice ru r.args.length rq) HG.out
    have hr6 := (set7_other (V := w5) (G := G) (g := w.heap.size + 1) (v0 := .int .i64 r.op) (v1 := .int .i64 r.w) (v2 := .int .i64 r.a) (v3 := .int .i64 r.b) (v4 := .int .i64 r.c) (v5 := .int .i64 r.imm) (v6 := .slice ru r.args.length rq) (by omega)).trans HFc.out.b.r
    have hj6 := hHeld.f
    clear hHeld HFc n0 n1 n2 n3 n4 n5 n6 nf HG
    generalize (((((((w5.setCell ⟨G, 0, none⟩ (.int .i64 r.op)).setCell ⟨G, 1, none⟩ (.int .i64 r.w)).setCell ⟨G, 2, none⟩ (.int .i64 r.a)).setCell ⟨G, 3, none⟩ (.int .i64 r.b)).setCell ⟨G, 4, none⟩ (.int .i64 r.c)).setCell ⟨G, 5, none⟩ (.int .i64 r.imm)).setCell ⟨G, 6, none⟩ (.slice ru r.args.length rq)) = W6 at *
    have HF6 : Hid (Fo2 d i u0 c0 u2 c2 ua qa w W6) := ⟨hj6, hr6⟩
    clear hj6 hr6
    have t0 : W6.cell? ⟨G, 0, none⟩ = some (.int .i64 r.op) := (cell_of_heap hn6).trans rfl
    have t1 : W6.cell? ⟨G, 1, none⟩ = some (.int .i64 r.w) := (cell_of_heap hn6).trans rfl
    have t2 : W6.cell? ⟨G, 2, none⟩ = some (.int .i64 r.a) := (cell_of_heap hn6).trans rfl
    have t3 : W6.cell? ⟨G, 3, none⟩ = some (.int .i64 r.b) := (cell_of_heap hn6).trans rfl
    have t4 : W6.cell? ⟨G, 4, none⟩ = some (.int .i64 r.c) := (cell_of_heap hn6).trans rfl
    have t5 : W6.cell? ⟨G, 5, none⟩ = some (.int .i64 r.imm) := (cell_of_heap hn6).trans rfl
    have t6 : W6.cell? ⟨G, 6, none⟩ = some (.slice ru r.args.length rq) := (cell_of_heap hn6).trans rfl
    obtain ⟨r0, r1, r2, r3, r4, r5, r6⟩ := HF6.out.cell
    have rf := HF6.out.froz
    have x0 := HF6.out.f.a0
    have x1 := HF6.out.f.a1
    have x2 := HF6.out.f.a2
    have x3 := HF6.out.f.a3
    have x4 := HF6.out.f.a4
    have x5 := HF6.out.f.a5
    have x6 := HF6.out.f.a6
    have x7 := HF6.out.f.a7
    have x8 := HF6.out.f.a8
    have x9 := HF6.out.f.a9
    clear hn6
    cases fl with
    | true =>
     have HR : Hid (rule2 d i = ruleN i (neuC (isC d i.b 1) (isC d i.a 1))) := mul_yes HOP.out (by rw [← neu_some i]; exact HFL.out.symm)
     go_wp2_with fail
     have hr := (heap_set (o := 6) (v := .slice ru r.args.length rq) (heap_set (o := 5) (v := .int .i64 r.imm) (heap_set (o := 4) (v := .int .i64 r.c) (heap_set (o := 3) (v := .int .i64 r.b) (heap_set (o := 2) (v := .int .i64 r.a) (heap_set (o := 1) (v := .int .i64 r.w) (heap_set (o := 0) (v := .int .i64 r.op) HF6.out.r)))))))
     refine bodyPost_ret (v := .tuple #[.agg #[.int .i64 r.op, .int .i64 r.w, .int .i64 r.a, .int .i64 r.b, .int .i64 r.c, .int .i64 r.imm, .slice ru r.args.length rq], .bool true]) ((results_cell_row_tmp Tryz.results60 _ _ (w.heap.size + 1) _ rfl (run_loadVar_row _ _ 29 _ _ (0, 0) _ hr Tryz.underlying29 rfl (by kernel_rfl))).trans (by rfl)) rfl ⟨by rw [HR.out]; exact HT.out, ?_⟩
     exact (by repeat (first | refine Below.setCell ?_ (by dsimp only; omega) _ | exact HF6.out.f.below))
    | false =>
     have HR : Hid (rule2 d i = ruleN i (nouC d i)) := mul_no HOP.out (by rw [← neu_some i]; exact HFL.out.symm)
     go_wp2_with fail
     refine (NO _ HF6.out.f.below).mono ?_
     rintro e w7 ⟨h7, b7⟩
     obtain ⟨s, su, sq, gl, he7, hgl⟩ := told_form h7
     have HGL : Hid (gl = _) := hgl
     clear hgl
     subst he7
     have HF7 : Hid (Fo2 d i u0 c0 u2 c2 ua qa w w7) := HF6.out.keep b7
     have HT7 : Hid (InstTold w lo (ruleN i (nouC d i)) _) := told_rule (nou_le _ _) h7
     clear h7 b7 r0 r1 r2 r3 r4 r5 r6 rf x0 x1 x2 x3 x4 x5 x6 x7 x8 x9 t0 t1 t2 t3 t4 t5 t6
     obtain ⟨r0, r1, r2, r3, r4, r5, r6⟩ := HF7.out.cell
     have rf := HF7.out.froz
     go_wp2_with fail
     have hr := (heap_set (o := 6) (v := .slice su s.args.length sq) (heap_set (o := 5) (v := .int .i64 s.imm) (heap_set (o := 4) (v := .int .i64 s.c) (heap_set (o := 3) (v := .int .i64 s.b) (heap_set (o := 2) (v := .int .i64 s.a) (heap_set (o := 1) (v := .int .i64 s.w) (heap_set (o := 0) (v := .int .i64 s.op) HF7.out.r)))))))
     refine bodyPost_ret (v := .tuple #[.agg #[.int .i64 s.op, .int .i64 s.w, .int .i64 s.a, .int .i64 s.b, .int .i64 s.c, .int .i64 s.imm, .slice su s.args.length sq], .bool gl]) ((results_cell_row_tmp Tryz.results60 _ _ (w.heap.size + 1) _ rfl (run_loadVar_row _ _ 29 _ _ (0, 0) _ hr Tryz.underlying29 rfl (by kernel_rfl))).trans (by rfl)) rfl ⟨by rw [HR.out]; exact HT7.out, ?_⟩
     exact (by repeat (first | refine Below.setCell ?_ (by dsimp only; omega) _ | exact HF7.out.f.below))
  ·go_simp
   go_wp2_with fail
   refine hK.out _ _ ?_ (fun hHeld2 => ?_)
   ·exact hHeld.keep ((Below.refl _ _).alloc (Nat.le_refl _) _)
   clear hK K hHeld
   have hHeld := hHeld2
   clear hHeld2
   try simp only [Act.put, List.setIfInBounds_toArray, List.set_cons_zero, List.set_cons_succ]
   have bV : Below w3.heap.size w3 (w3.alloc (.cells #[.int .i64 0, .int .i64 0, .int .i64 0, .int .i64 0, .int .i64 0, .int .i64 0, .slice none 0 0] 29)) := (Below.refl _ _).alloc (Nat.le_refl _) _
   have HFx : Hid (Fo3 d i u0 c0 u2 c2 ua qa w (w3.alloc (.cells #[.int .i64 0, .int .i64 0, .int .i64 0, .int .i64 0, .int .i64 0, .int .i64 0, .slice none 0 0] 29))) := HFc.out.keep bV
   have hGV := heap_alloc_last w3 (.cells #[.int .i64 0, .int .i64 0, .int .i64 0, .int .i64 0, .int .i64 0, .int .i64 0, .slice none 0 0] 29)
   have hGS : w.heap.size + 2 < w3.heap.size := (Array.getElem?_eq_some_iff.1 HFc.out.j).1
   generalize hGd : w3.heap.size = G at *
   clear hGd bV HFc
   have HFc := HFx
   clear HFx
   have HG : Hid _ := hGV
   clear hGV
   generalize w3.alloc (.cells #[.int .i64 0, .int .i64 0, .int .i64 0, .int .i64 0, .int .i64 0, .int .i64 0, .slice none 0 0] 29) = V at *
   refine wpAnyH_ready (rs := [8]) (by kernel_rfl) (by simp) ?_
   refine AllReadyH.cons rfl (fun K hK => ?_) AllReadyH.nil
   go_simp
   go_wp2_with (go_at_call 101; refine (IS i.a 1 _ hHeld.f.below HI.out.a).mono ?_; rintro e w4 ⟨rfl, b4⟩)
   refine hK.out _ _ ?_ (fun hHeld2 => ?_)
   ·exact hHeld.keep b4
   clear hK K hHeld
   have hHeld := hHeld2
   clear hHeld2
   try simp only [Act.put, List.setIfInBounds_toArray, List.set_cons_zero, List.set_cons_succ]
   have HFx : Hid (Fo3 d i u0 c0 u2 c2 ua qa w w4) := HFc.out.keep b4
   clear HFc
   have HFc := HFx
   clear HFx
   have HGx : Hid (w4.heap[G]? = some (.cells #[.int .i64 0, .int .i64 0, .int .i64 0, .int .i64 0, .int .i64 0, .int .i64 0, .slice none 0 0] 29 (0, 0))) := (b4.block G (Array.getElem?_eq_some_iff.1 HG.out).1).trans HG.out
   clear HG
   have HG := HGx
   clear HGx
   clear b4
   refine wpAnyH_ready (rs := [9]) (by kernel_rfl) (by simp) ?_
   refine AllReadyH.cons rfl (fun K hK => ?_) AllReadyH.nil
   go_simp
   go_wp2_with (go_at_call 100; refine (neutralI lo d i u0 c0 u2 c2 ua qa (isC d i.b 1) (isC d i.a 1) _).mono ?_; rintro e w5 ⟨h5, b5⟩; obtain ⟨r, ru, rq, fl, he5, hfl⟩ := told_form h5; have HFL : Hid (fl = _) := hfl; clear hfl; subst he5)
   refine hK.out _ _ ?_ (fun hHeld2 => ?_)
   ·exact hHeld.keep b5
   clear hK K hHeld
   have hHeld := hHeld2
   clear hHeld2
   try simp only [Act.put, List.setIfInBounds_toArray, List.set_cons_zero, List.set_cons_succ]
   have HFx : Hid (Fo3 d i u0 c0 u2 c2 ua qa w w5) := HFc.out.keep b5
   clear HFc
   have HFc := HFx
   clear HFx
   have HGx : Hid (w5.heap[G]? = some (.cells #[.int .i64 0, .int .i64 0, .int .i64 0, .int .i64 0, .int .i64 0, .int .i64 0, .slice none 0 0] 29 (0, 0))) := (b5.block G (Array.getElem?_eq_some_iff.1 HG.out).1).trans HG.out
   clear HG
   have HG := HGx
   clear HGx
   clear b5
   have HT : Hid (InstTold w lo (ruleN i (neuC (isC d i.b 1) (isC d i.a 1))) _) := told_rule (neu_le _ _) h5
   clear h5
   refine wpAnyH_take (i := 10) (v := ?_) rfl (by kernel_rfl) (by kernel_rfl) (by kernel_rfl) (fun _ _ _ h => h) (Or.inl ⟨by rfl, ?_⟩) hHeld ?_
   rotate_left
   ·intro w9 hS9
    go_simp
    try with_reducible rfl
   show wpAnyH _ _ _ _ _ _ _ (Act.put _ (some _) _) _
   simp only [Act.put, List.setIfInBounds_toArray, List.set_cons_zero, List.set_cons_succ]
   refine wpAnyH_take (i := 11) (v := ?_) rfl (by kernel_rfl) (by kernel_rfl) (by kernel_rfl) (fun _ _ _ h => h) (Or.inl ⟨by rfl, ?_⟩) hHeld ?_
   rotate_left
   ·intro w9 hS9
    go_simp
    try with_reducible rfl
   show wpAnyH _ _ _ _ _ _ _ (Act.put _ (some _) _) _
   simp only [Act.put, List.setIfInBounds_toArray, List.set_cons_zero, List.set_cons_succ]
   refine wpAnyH_take (i := 12) (v := ?_) rfl (by kernel_rfl) (by kernel_rfl) (by kernel_rfl) (fun _ _ _ h => h) (Or.inl ⟨by rfl, ?_⟩) hHeld ?_
   rotate_left
   ·intro w9 hS9
    go_simp
    try with_reducible rfl
   show wpAnyH _ _ _ _ _ _ _ (Act.put _ (some _) _) _
   simp only [Act.put, List.setIfInBounds_toArray, List.set_cons_zero, List.set_cons_succ]
   have n0 : w5.cell? ⟨G, 0, none⟩ = some (.int .i64 0) := (cell_of_heap HG.out).trans rfl
   have n1 : w5.cell? ⟨G, 1, none⟩ = some (.int .i64 0) := (cell_of_heap HG.out).trans rfl
   have n2 : w5.cell? ⟨G, 2, none⟩ = some (.int .i64 0) := (cell_of_heap HG.out).trans rfl
   have n3 : w5.cell? ⟨G, 3, none⟩ = some (.int .i64 0) := (cell_of_heap HG.out).trans rfl
   have n4 : w5.cell? ⟨G, 4, none⟩ = some (.int .i64 0) := (cell_of_heap HG.out).trans rfl
   have n5 : w5.cell? ⟨G, 5, none⟩ = some (.int .i64 0) := (cell_of_heap HG.out).trans rfl
   have n6 : w5.cell? ⟨G, 6, none⟩ = some (.slice none 0 0) := (cell_of_heap HG.out).trans rfl
   have nf : ∀ o, w5.frozen? ⟨G, o, none⟩ = false := fun o => froz_of_heap HG.out
   refine wpAnyH_ready (rs := [14]) (by kernel_rfl) (by simp) ?_
   refine AllReadyH.cons rfl (fun K hK => ?_) AllReadyH.nil
   go_simp
   go_wp2_with fail
   refine hK.out _ _ ?_ (fun hHeld2 => ?_)
   ·exact (by repeat (first | refine FoJ.set ?_ _ _ _ (by omega) (by omega) | exact hHeld))
   clear hK K hHeld
   have hHeld := hHeld2
   clear hHeld2
   try simp only [Act.put, List.setIfInBounds_toArray, List.set_cons_zero, List.set_cons_succ]
   refine wpAnyH_take (i := 15) (v := ?_) rfl (by kernel_rfl) (by kernel_rfl) (by kernel_rfl) (fun _ _ _ h => h) (Or.inl ⟨by rfl, ?_⟩) hHeld ?_
   rotate_left
   ·intro w9 hS9
    go_simp
    try with_reducible rfl
   show wpAnyH _ _ _ _ _ _ _ (Act.put _ (some _) _) _
   simp only [Act.put, List.setIfInBounds_toArray, List.set_cons_zero, List.set_cons_succ]
   refine wpAnyH_done (by kernel_rfl) ?_ _
   have hn6 := set7_row (v0 := .int .i64 r.op) (v1 := .int .i64 r.w) (v2 := .int .i64 r.a) (v3 := .int .i64 r.b) (v4 := .int .i64 r.c) (v5 := .int .i64 r.imm) (v6 := .slice ru r.args.length rq) HG.out
   have hr6 := (set7_other (V := w5) (G := G) (g := w.heap.size + 1) (v0 := .int .i64 r.op) (v1 := .int .i64 r.w) (v2 := .int .i64 r.a) (v3 := .int .i64 r.b) (v4 := .int .i64 r.c) (v5 := .int .i64 r.imm) (v6 := .slice ru r.args.length rq) (by omega)).trans HFc.out.b.r
   have hj6 := hHeld.f
   clear hHeld HFc n0 n1 n2 n3 n4 n5 n6 nf HG
   generalize (((((((w5.setCell ⟨G, 0, none⟩ (.int .i64 r.op)).setCell ⟨G, 1, none⟩ (.int .i64 r.w)).setCell ⟨G, 2, none⟩ (.int .i64 r.a)).setCell ⟨G, 3, none⟩ (.int .i64 r.b)).setCell ⟨G, 4, none⟩ (.int .i64 r.c)).setCell ⟨G, 5, none⟩ (.int .i64 r.imm)).setCell ⟨G, 6, none⟩ (.slice ru r.args.length rq)) = W6 at *
   have HF6 : Hid (Fo2 d i u0 c0 u2 c2 ua qa w W6) := ⟨hj6, hr6⟩
   clear hj6 hr6
   have t0 : W6.cell? ⟨G, 0, none⟩ = some (.int .i64 r.op) := (cell_of_heap hn6).trans rfl
   have t1 : W6.cell? ⟨G, 1, none⟩ = some (.int .i64 r.w) := (cell_of_heap hn6).trans rfl
   have t2 : W6.cell? ⟨G, 2, none⟩ = some (.int .i64 r.a) := (cell_of_heap hn6).trans rfl
   have t3 : W6.cell? ⟨G, 3, none⟩ = some (.int .i64 r.b) := (cell_of_heap hn6).trans rfl
   have t4 : W6.cell? ⟨G, 4, none⟩ = some (.int .i64 r.c) := (cell_of_heap hn6).trans rfl
   have t5 : W6.cell? ⟨G, 5, none⟩ = some (.int .i64 r.imm) := (cell_of_heap hn6).trans rfl
   have t6 : W6.cell? ⟨G, 6, none⟩ = some (.slice ru r.args.length rq) := (cell_of_heap hn6).trans rfl
   obtain ⟨r0, r1, r2, r3, r4, r5, r6⟩ := HF6.out.cell
   have rf := HF6.out.froz
   have x0 := HF6.out.f.a0
   have x1 := HF6.out.f.a1
   have x2 := HF6.out.f.a2
   have x3 := HF6.out.f.a3
   have x4 := HF6.out.f.a4
   have x5 := HF6.out.f.a5
   have x6 := HF6.out.f.a6
   have x7 := HF6.out.f.a7
   have x8 := HF6.out.f.a8
   have x9 := HF6.out.f.a9
   clear hn6
   cases fl with
   | true =>
    have HR : Hid (rule2 d i = ruleN i (neuC (isC d i.b 1) (isC d i.a 1))) := mul_yes HOP.out (by rw [← neu_some i]; exact HFL.out.symm)
    go_wp2_with fail
    have hr := (heap_set (o := 6) (v := .slice ru r.args.length rq) (heap_set (o := 5) (v := .int .i64 r.imm) (heap_set (o := 4) (v := .int .i64 r.c) (heap_set (o := 3) (v := .int .i64 r.b) (heap_set (o := 2) (v := .int .i64 r.a) (heap_set (o := 1) (v := .int .i64 r.w) (heap_set (o := 0) (v := .int .i64 r.op) HF6.out.r)))))))
    refine bodyPost_ret (v := .tuple #[.agg #[.int .i64 r.op, .int .i64 r.w, .int .i64 r.a, .int .i64 r.b, .int .i64 r.c, .int .i64 r.imm, .slice ru r.args.length rq], .bool true]) ((results_cell_row_tmp Tryz.results60 _ _ (w.heap.size + 1) _ rfl (run_loadVar_row _ _ 29 _ _ (0, 0) _ hr Tryz.underlying29 rfl (by kernel_rfl))).trans (by rfl)) rfl ⟨by rw [HR.out]; exact HT.out, ?_⟩
    exact (by repeat (first | refine Below.setCell ?_ (by dsimp only; omega) _ | exact HF6.out.f.below))
   | false =>
    have HR : Hid (rule2 d i = ruleN i (nouC d i)) := mul_no HOP.out (by rw [← neu_some i]; exact HFL.out.symm)
    go_wp2_with fail
    refine (NO _ HF6.out.f.below).mono ?_
    rintro e w7 ⟨h7, b7⟩
    obtain ⟨s, su, sq, gl, he7, hgl⟩ := told_form h7
    have HGL : Hid (gl = _) := hgl
    clear hgl
    subst he7
    have HF7 : Hid (Fo2 d i u0 c0 u2 c2 ua qa w w7) := HF6.out.keep b7
    have HT7 : Hid (InstTold w lo (ruleN i (nouC d i)) _) := told_rule (nou_le _ _) h7
    clear h7 b7 r0 r1 r2 r3 r4 r5 r6 rf x0 x1 x2 x3 x4 x5 x6 x7 x8 x9 t0 t1 t2 t3 t4 t5 t6
    obtain ⟨r0, r1, r2, r3, r4, r5, r6⟩ := HF7.out.cell
    have rf := HF7.out.froz
    go_wp2_with fail
    have hr := (heap_set (o := 6) (v := .slice su s.args.length sq) (heap_set (o := 5) (v := .int .i64 s.imm) (heap_set (o := 4) (v := .int .i64 s.c) (heap_set (o := 3) (v := .int .i64 s.b) (heap_set (o := 2) (v := .int .i64 s.a) (heap_set (o := 1) (v := .int .i64 s.w) (heap_set (o := 0) (v := .int .i64 s.op) HF7.out.r)))))))
    refine bodyPost_ret (v := .tuple #[.agg #[.int .i64 s.op, .int .i64 s.w, .int .i64 s.a, .int .i64 s.b, .int .i64 s.c, .int .i64 s.imm, .slice su s.args.length sq], .bool gl]) ((results_cell_row_tmp Tryz.results60 _ _ (w.heap.size + 1) _ rfl (run_loadVar_row _ _ 29 _ _ (0, 0) _ hr Tryz.underlying29 rfl (by kernel_rfl))).trans (by rfl)) rfl ⟨by rw [HR.out]; exact HT7.out, ?_⟩
    exact (by repeat (first | refine Below.setCell ?_ (by dsimp only; omega) _ | exact HF7.out.f.below))
 ·go_simp
  go_wp2_with fail
  refine hK.out _ _ ?_ (fun hHeld2 => ?_)
  ·exact hHeld.keep ((Below.refl _ _).alloc (Nat.le_refl _) _)
  clear hK K hHeld
  have hHeld := hHeld2
  clear hHeld2
  try simp only [Act.put, List.setIfInBounds_toArray, List.set_cons_zero, List.set_cons_succ]
  have bV : Below W0.heap.size W0 (W0.alloc (.cells #[.int .i64 0, .int .i64 0, .int .i64 0, .int .i64 0, .int .i64 0, .int .i64 0, .slice none 0 0] 29)) := (Below.refl _ _).alloc (Nat.le_refl _) _
  have HFx : Hid (Fo3 d i u0 c0 u2 c2 ua qa w (W0.alloc (.cells #[.int .i64 0, .int .i64 0, .int .i64 0, .int .i64 0, .int .i64 0, .int .i64 0, .slice none 0 0] 29))) := HFc.out.keep bV
  have hGV := heap_alloc_last W0 (.cells #[.int .i64 0, .int .i64 0, .int .i64 0, .int .i64 0, .int .i64 0, .int .i64 0, .slice none 0 0] 29)
  have hGS : w.heap.size + 2 < W0.heap.size := (Array.getElem?_eq_some_iff.1 HFc.out.j).1
  generalize hGd : W0.heap.size = G at *
  clear hGd bV HFc
  have HFc := HFx
  clear HFx
  have HG : Hid _ := hGV
  clear hGV
  generalize W0.alloc (.cells #[.int .i64 0, .int .i64 0, .int .i64 0, .int .i64 0, .int .i64 0, .int .i64 0, .slice none 0 0] 29) = V at *
  refine wpAnyH_ready (rs := [4]) (by kernel_rfl) (by simp) ?_
  refine AllReadyH.cons rfl (fun K hK => ?_) AllReadyH.nil
  go_simp
  go_wp2_with (go_at_call 101; refine (IS i.b 1 _ hHeld.f.below HI.out.b).mono ?_; rintro e w3 ⟨rfl, b3⟩)
  refine hK.out _ _ ?_ (fun hHeld2 => ?_)
  ·exact hHeld.keep b3
  clear hK K hHeld
  have hHeld := hHeld2
  clear hHeld2
  try simp only [Act.put, List.setIfInBounds_toArray, List.set_cons_zero, List.set_cons_succ]
  have HFx : Hid (Fo3 d i u0 c0 u2 c2 ua qa w w3) := HFc.out.keep b3
  clear HFc
  have HFc := HFx
  clear HFx
  have HGx : Hid (w3.heap[G]? = some (.cells #[.int .i64 0, .int .i64 0, .int .i64 0, .int .i64 0, .int .i64 0, .int .i64 0, .slice none 0 0] 29 (0, 0))) := (b3.block G (Array.getElem?_eq_some_iff.1 HG.out).1).trans HG.out
  clear HG
  have HG := HGx
  clear HGx
  clear b3
  refine wpAnyH_ready (rs := [8]) (by kernel_rfl) (by simp) ?_
  refine AllReadyH.cons rfl (fun K hK => ?_) AllReadyH.nil
  go_simp
  go_wp2_with (go_at_call 101; refine (IS i.a 1 _ hHeld.f.below HI.out.a).mono ?_; rintro e w4 ⟨rfl, b4⟩)
  refine hK.out _ _ ?_ (fun hHeld2 => ?_)
  ·exact hHeld.keep b4
  clear hK K hHeld
  have hHeld := hHeld2
  clear hHeld2
  try simp only [Act.put, List.setIfInBounds_toArray, List.set_cons_zero, List.set_cons_succ]
  have HFx : Hid (Fo3 d i u0 c0 u2 c2 ua qa w w4) := HFc.out.keep b4
  clear HFc
  have HFc := HFx
  clear HFx
  have HGx : Hid (w4.heap[G]? = some (.cells #[.int .i64 0, .int .i64 0, .int .i64 0, .int .i64 0, .int .i64 0, .int .i64 0, .slice none 0 0] 29 (0, 0))) := (b4.block G (Array.getElem?_eq_some_iff.1 HG.out).1).trans HG.out
  clear HG
  have HG := HGx
  clear HGx
  clear b4
  refine wpAnyH_ready (rs := [9]) (by kernel_rfl) (by simp) ?_
  refine AllReadyH.cons rfl (fun K hK => ?_) AllReadyH.nil
  go_simp
  go_wp2_with (go_at_call 100; refine (neutralI lo d i u0 c0 u2 c2 ua qa (isC d i.b 1) (isC d i.a 1) _).mono ?_; rintro e w5 ⟨h5, b5⟩; obtain ⟨r, ru, rq, fl, he5, hfl⟩ := told_form h5; have HFL : Hid (fl = _) := hfl; clear hfl; subst he5)
  refine hK.out _ _ ?_ (fun hHeld2 => ?_)
  ·exact hHeld.keep b5
  clear hK K hHeld
  have hHeld := hHeld2
  clear hHeld2
  try simp only [Act.put, List.setIfInBounds_toArray, List.set_cons_zero, List.set_cons_succ]
  have HFx : Hid (Fo3 d i u0 c0 u2 c2 ua qa w w5) := HFc.out.keep b5
  clear HFc
  have HFc := HFx
  clear HFx
  have HGx : Hid (w5.heap[G]? = some (.cells #[.int .i64 0, .int .i64 0, .int .i64 0, .int .i64 0, .int .i64 0, .int .i64 0, .slice none 0 0] 29 (0, 0))) := (b5.block G (Array.getElem?_eq_some_iff.1 HG.out).1).trans HG.out
  clear HG
  have HG := HGx
  clear HGx
  clear b5
  have HT : Hid (InstTold w lo (ruleN i (neuC (isC d i.b 1) (isC d i.a 1))) _) := told_rule (neu_le _ _) h5
  clear h5
  refine wpAnyH_take (i := 10) (v := ?_) rfl (by kernel_rfl) (by kernel_rfl) (by kernel_rfl) (fun _ _ _ h => h) (Or.inl ⟨by rfl, ?_⟩) hHeld ?_
  rotate_left
  ·intro w9 hS9
   go_simp
   try with_reducible rfl
  show wpAnyH _ _ _ _ _ _ _ (Act.put _ (some _) _) _
  simp only [Act.put, List.setIfInBounds_toArray, List.set_cons_zero, List.set_cons_succ]
  refine wpAnyH_take (i := 11) (v := ?_) rfl (by kernel_rfl) (by kernel_rfl) (by kernel_rfl) (fun _ _ _ h => h) (Or.inl ⟨by rfl, ?_⟩) hHeld ?_
  rotate_left
  ·intro w9 hS9
   go_simp
   try with_reducible rfl
  show wpAnyH _ _ _ _ _ _ _ (Act.put _ (some _) _) _
  simp only [Act.put, List.setIfInBounds_toArray, List.set_cons_zero, List.set_cons_succ]
  refine wpAnyH_take (i := 12) (v := ?_) rfl (by kernel_rfl) (by kernel_rfl) (by kernel_rfl) (fun _ _ _ h => h) (Or.inl ⟨by rfl, ?_⟩) hHeld ?_
  rotate_left
  ·intro w9 hS9
   go_simp
   try with_reducible rfl
  show wpAnyH _ _ _ _ _ _ _ (Act.put _ (some _) _) _
  simp only [Act.put, List.setIfInBounds_toArray, List.set_cons_zero, List.set_cons_succ]
  have n0 : w5.cell? ⟨G, 0, none⟩ = some (.int .i64 0) := (cell_of_heap HG.out).trans rfl
  have n1 : w5.cell? ⟨G, 1, none⟩ = some (.int .i64 0) := (cell_of_heap HG.out).trans rfl
  have n2 : w5.cell? ⟨G, 2, none⟩ = some (.int .i64 0) := (cell_of_heap HG.out).trans rfl
  have n3 : w5.cell? ⟨G, 3, none⟩ = some (.int .i64 0) := (cell_of_heap HG.out).trans rfl
  have n4 : w5.cell? ⟨G, 4, none⟩ = some (.int .i64 0) := (cell_of_heap HG.out).trans rfl
  have n5 : w5.cell? ⟨G, 5, none⟩ = some (.int .i64 0) := (cell_of_heap HG.out).trans rfl
  have n6 : w5.cell? ⟨G, 6, none⟩ = some (.slice none 0 0) := (cell_of_heap HG.out).trans rfl
  have nf : ∀ o, w5.frozen? ⟨G, o, none⟩ = false := fun o => froz_of_heap HG.out
  refine wpAnyH_ready (rs := [14]) (by kernel_rfl) (by simp) ?_
  refine AllReadyH.cons rfl (fun K hK => ?_) AllReadyH.nil
  go_simp
  go_wp2_with fail
  refine hK.out _ _ ?_ (fun hHeld2 => ?_)
  ·exact (by repeat (first | refine FoJ.set ?_ _ _ _ (by omega) (by omega) | exact hHeld))
  clear hK K hHeld
  have hHeld := hHeld2
  clear hHeld2
  try simp only [Act.put, List.setIfInBounds_toArray, List.set_cons_zero, List.set_cons_succ]
  refine wpAnyH_take (i := 15) (v := ?_) rfl (by kernel_rfl) (by kernel_rfl) (by kernel_rfl) (fun _ _ _ h => h) (Or.inl ⟨by rfl, ?_⟩) hHeld ?_
  rotate_left
  ·intro w9 hS9
   go_simp
   try with_reducible rfl
  show wpAnyH _ _ _ _ _ _ _ (Act.put _ (some _) _) _
  simp only [Act.put, List.setIfInBounds_toArray, List.set_cons_zero, List.set_cons_succ]
  refine wpAnyH_done (by kernel_rfl) ?_ _
  have hn6 := set7_row (v0 := .int .i64 r.op) (v1 := .int .i64 r.w) (v2 := .int .i64 r.a) (v3 := .int .i64 r.b) (v4 := .int .i64 r.c) (v5 := .int .i64 r.imm) (v6 := .slice ru r.args.length rq) HG.out
  have hr6 := (set7_other (V := w5) (G := G) (g := w.heap.size + 1) (v0 := .int .i64 r.op) (v1 := .int .i64 r.w) (v2 := .int .i64 r.a) (v3 := .int .i64 r.b) (v4 := .int .i64 r.c) (v5 := .int .i64 r.imm) (v6 := .slice ru r.args.length rq) (by omega)).trans HFc.out.b.r
  have hj6 := hHeld.f
  clear hHeld HFc n0 n1 n2 n3 n4 n5 n6 nf HG
  generalize (((((((w5.setCell ⟨G, 0, none⟩ (.int .i64 r.op)).setCell ⟨G, 1, none⟩ (.int .i64 r.w)).setCell ⟨G, 2, none⟩ (.int .i64 r.a)).setCell ⟨G, 3, none⟩ (.int .i64 r.b)).setCell ⟨G, 4, none⟩ (.int .i64 r.c)).setCell ⟨G, 5, none⟩ (.int .i64 r.imm)).setCell ⟨G, 6, none⟩ (.slice ru r.args.length rq)) = W6 at *
  have HF6 : Hid (Fo2 d i u0 c0 u2 c2 ua qa w W6) := ⟨hj6, hr6⟩
  clear hj6 hr6
  have t0 : W6.cell? ⟨G, 0, none⟩ = some (.int .i64 r.op) := (cell_of_heap hn6).trans rfl
  have t1 : W6.cell? ⟨G, 1, none⟩ = some (.int .i64 r.w) := (cell_of_heap hn6).trans rfl
  have t2 : W6.cell? ⟨G, 2, none⟩ = some (.int .i64 r.a) := (cell_of_heap hn6).trans rfl
  have t3 : W6.cell? ⟨G, 3, none⟩ = some (.int .i64 r.b) := (cell_of_heap hn6).trans rfl
  have t4 : W6.cell? ⟨G, 4, none⟩ = some (.int .i64 r.c) := (cell_of_heap hn6).trans rfl
  have t5 : W6.cell? ⟨G, 5, none⟩ = some (.int .i64 r.imm) := (cell_of_heap hn6).trans rfl
  have t6 : W6.cell? ⟨G, 6, none⟩ = some (.slice ru r.args.length rq) := (cell_of_heap hn6).trans rfl
  obtain ⟨r0, r1, r2, r3, r4, r5, r6⟩ := HF6.out.cell
  have rf := HF6.out.froz
  have x0 := HF6.out.f.a0
  have x1 := HF6.out.f.a1
  have x2 := HF6.out.f.a2
  have x3 := HF6.out.f.a3
  have x4 := HF6.out.f.a4
  have x5 := HF6.out.f.a5
  have x6 := HF6.out.f.a6
  have x7 := HF6.out.f.a7
  have x8 := HF6.out.f.a8
  have x9 := HF6.out.f.a9
  clear hn6
  cases fl with
  | true =>
   have HR : Hid (rule2 d i = ruleN i (neuC (isC d i.b 1) (isC d i.a 1))) := mul_yes HOP.out (by rw [← neu_some i]; exact HFL.out.symm)
   go_wp2_with fail
   have hr := (heap_set (o := 6) (v := .slice ru r.args.length rq) (heap_set (o := 5) (v := .int .i64 r.imm) (heap_set (o := 4) (v := .int .i64 r.c) (heap_set (o := 3) (v := .int .i64 r.b) (heap_set (o := 2) (v := .int .i64 r.a) (heap_set (o := 1) (v := .int .i64 r.w) (heap_set (o := 0) (v := .int .i64 r.op) HF6.out.r)))))))
   refine bodyPost_ret (v := .tuple #[.agg #[.int .i64 r.op, .int .i64 r.w, .int .i64 r.a, .int .i64 r.b, .int .i64 r.c, .int .i64 r.imm, .slice ru r.args.length rq], .bool true]) ((results_cell_row_tmp Tryz.results60 _ _ (w.heap.size + 1) _ rfl (run_loadVar_row _ _ 29 _ _ (0, 0) _ hr Tryz.underlying29 rfl (by kernel_rfl))).trans (by rfl)) rfl ⟨by rw [HR.out]; exact HT.out, ?_⟩
   exact (by repeat (first | refine Below.setCell ?_ (by dsimp only; omega) _ | exact HF6.out.f.below))
  | false =>
   have HR : Hid (rule2 d i = ruleN i (nouC d i)) := mul_no HOP.out (by rw [← neu_some i]; exact HFL.out.symm)
   go_wp2_with fail
   refine (NO _ HF6.out.f.below).mono ?_
   rintro e w7 ⟨h7, b7⟩
   obtain ⟨s, su, sq, gl, he7, hgl⟩ := told_form h7
   have HGL : Hid (gl = _) := hgl
   clear hgl
   subst he7
   have HF7 : Hid (Fo2 d i u0 c0 u2 c2 ua qa w w7) := HF6.out.keep b7
   have HT7 : Hid (InstTold w lo (ruleN i (nouC d i)) _) := told_rule (nou_le _ _) h7
   clear h7 b7 r0 r1 r2 r3 r4 r5 r6 rf x0 x1 x2 x3 x4 x5 x6 x7 x8 x9 t0 t1 t2 t3 t4 t5 t6
   obtain ⟨r0, r1, r2, r3, r4, r5, r6⟩ := HF7.out.cell
   have rf := HF7.out.froz
   go_wp2_with fail
   have hr := (heap_set (o := 6) (v := .slice su s.args.length sq) (heap_set (o := 5) (v := .int .i64 s.imm) (heap_set (o := 4) (v := .int .i64 s.c) (heap_set (o := 3) (v := .int .i64 s.b) (heap_set (o := 2) (v := .int .i64 s.a) (heap_set (o := 1) (v := .int .i64 s.w) (heap_set (o := 0) (v := .int .i64 s.op) HF7.out.r)))))))
   refine bodyPost_ret (v := .tuple #[.agg #[.int .i64 s.op, .int .i64 s.w, .int .i64 s.a, .int .i64 s.b, .int .i64 s.c, .int .i64 s.imm, .slice su s.args.length sq], .bool gl]) ((results_cell_row_tmp Tryz.results60 _ _ (w.heap.size + 1) _ rfl (run_loadVar_row _ _ 29 _ _ (0, 0) _ hr Tryz.underlying29 rfl (by kernel_rfl))).trans (by rfl)) rfl ⟨by rw [HR.out]; exact HT7.out, ?_⟩
   exact (by repeat (first | refine Below.setCell ?_ (by dsimp only; omega) _ | exact HF7.out.f.below))
set_option maxHeartbeats 4000000 in
set_option maxRecDepth 100000 in
theorem rule2_no (lo : Nat) (d : FuncD) (i : InstD) (u0 : Option Addr) (c0 : Nat) (u2 : Option Addr) (c2 : Nat) (ua : Option Addr) (qa : Nat) (w : World) (hs : SmFunc d) (k0 : IntsAt w lo u0 d.params) (k2 : BlocksAt w lo u2 d.blocks) (ku : IntsAt w lo ua i.args) (hi : ISm i) (hop : ¬ i.op = 1 ∧ ¬ i.op = 9 ∧ ¬ i.op = 10 ∧ ¬ i.op = 2 ∧ ¬ i.op = 11 ∧ ¬ i.op = 12 ∧ ¬ i.op = 13 ∧ ¬ i.op = 4 ∧ ¬ i.op = 3 ∧ ¬ i.op = 8) :
  Calls Tryz.prog 60 #[.agg #[.slice u0 d.params.length c0, .int .i64 d.ret, .slice u2 d.blocks.length c2, .int .i64 i.op, .int .i64 i.w, .int .i64 i.a, .int .i64 i.b, .int .i64 i.c, .int .i64 i.imm, .slice ua i.args.length qa]] w fun e w' => InstTold w lo (rule2 d i) e ∧ Below w.heap.size w w' := by
 have F0 := Fo3.start (d := d) (i := i) (u0 := u0) (u2 := u2) (ua := ua) (c0 := c0) (c2 := c2) (qa := qa) (w := w)
 have IS := fun (id v : Int) W (k : Below w.heap.size w W) (h : id ≤ 9223372036854775807) => isI lo d i u0 c0 u2 c2 ua qa id v W hs (k2.keep (agree_of_below k lo)) h
 have NO := fun W (k : Below w.heap.size w W) => noughtI lo d i u0 c0 u2 c2 ua qa W hs (k2.keep (agree_of_below k lo)) hi
 have FC := Fo2.start (d := d) (i := i) (u0 := u0) (u2 := u2) (ua := ua) (c0 := c0) (c2 := c2) (qa := qa) (w := w)
 have z0 := FC.f.a0
 have z1 := FC.f.a1
 have z2 := FC.f.a2
 have z3 := FC.f.a3
 have z4 := FC.f.a4
 have z5 := FC.f.a5
 have z6 := FC.f.a6
 have z7 := FC.f.a7
 have z8 := FC.f.a8
 have z9 := FC.f.a9
 have x0 := F0.b.f.a0
 have x1 := F0.b.f.a1
 have x2 := F0.b.f.a2
 have x3 := F0.b.f.a3
 have x4 := F0.b.f.a4
 have x5 := F0.b.f.a5
 have x6 := F0.b.f.a6
 have x7 := F0.b.f.a7
 have x8 := F0.b.f.a8
 have x9 := F0.b.f.a9
 obtain ⟨y0, y1, y2, y3, y4, y5, y6⟩ := F0.cell
 have HF0 : Hid (Fo3 d i u0 c0 u2 c2 ua qa w _) := F0
 have HI : Hid (ISm i) := hi
 clear F0 hs k0 k2 ku hi FC
 have q1 : (i.op == 1) = false := by rw [beq_eq_false_iff_ne]; omega
 have q9 : (i.op == 9) = false := by rw [beq_eq_false_iff_ne]; omega
 have q10 : (i.op == 10) = false := by rw [beq_eq_false_iff_ne]; omega
 have q2 : (i.op == 2) = false := by rw [beq_eq_false_iff_ne]; omega
 have q11 : (i.op == 11) = false := by rw [beq_eq_false_iff_ne]; omega
 have q12 : (i.op == 12) = false := by rw [beq_eq_false_iff_ne]; omega
 have q13 : (i.op == 13) = false := by rw [beq_eq_false_iff_ne]; omega
 have q4 : (i.op == 4) = false := by rw [beq_eq_false_iff_ne]; omega
 have q3 : (i.op == 3) = false := by rw [beq_eq_false_iff_ne]; omega
 have q8 : (i.op == 8) = false := by rw [beq_eq_false_iff_ne]; omega
 have HR : Hid (rule2 d i = none) := by show _ = _; unfold rule2 oneC; simp only [q1, q9, q10, q2, q11, q12, q13, q4, q3, q8]; rfl
 clear hop IS NO
 go_enter Tryz.func60, Tryz.ntmps60
 go_wp2_with fail
 refine bodyPost_ret (v := .tuple #[.agg #[.int .i64 0, .int .i64 0, .int .i64 0, .int .i64 0, .int .i64 0, .int .i64 0, .slice none 0 0], .bool false]) ((results_cell_row_tmp Tryz.results60 _ _ (w.heap.size + 1) _ rfl (run_loadVar_row _ _ 29 _ _ (0, 0) _ HF0.out.b.r Tryz.underlying29 rfl (by kernel_rfl))).trans (by rfl)) rfl ⟨told_none HR.out rfl, HF0.out.b.f.below⟩
end Go.Proofs.YtoknhppjdmoblaaGreatDoor
