/- A machine: the model's MachineRun, the run. -/
import Derived.Test.YtofgfiakccjimaaMaYQ
import Derived.BigRegion
import Derived.Deep.DeepCutAuto
namespace Go.Proofs.Ytofgfiakccjimaa
open Go.RowKit
set_option linter.unusedVariables false
set_option linter.unusedSimpArgs false

set_option maxHeartbeats 4000000 in
set_option maxRecDepth 100000 in
theorem machS_x (lo : Nat) (p : ProgD) (s1 : Option Addr) (c1 : Nat) (s2 : Option Addr) (c2 : Nat) (s3 : Option Addr) (c3 : Nat) (s4 : Option Addr) (c4 : Nat) (args : List Int) (mem : ByteArray) (fuel : Int) (w : World) (k1 : IntsAt w lo s1 p.params) (k2 : IntsAt w lo s2 p.widths) (k3 : MinsAt w lo s3 p.code) (k4 : IntsAt w lo s4 args) (hmsz : mem.size ≤ 1048576) (hp : progB p = true) (hv : valsB p.widths args = true) (hm : mem.size = 32) (f0 : 0 ≤ fuel) (f1 : fuel ≤ 20000) :
    Calls Try.prog 13 #[.agg #[.int .i64 p.regs, .slice s1 p.params.length c1, .slice s2 p.widths.length c2, .slice s3 p.code.length c3], .slice s4 args.length c4, .string mem, .int .i64 fuel] w fun e w' => (∃ u q, e = .returned (resA (machR p args mem fuel) u q) ∧ w'.ownsRow w.heap.size 2 1 (.slice u (machR p args mem fuel).out.length q) (machR p args mem fuel).out.length ((machR p args mem fuel).out.map (Value.int .i64))) ∧ Below w.heap.size w w' := by
  have E : Hid (okM p args mem fuel = true) := by show _ = _; simp [okM, hp, hv, hm, f0, f1]
  have hf : (decide (0 ≤ fuel) && decide (fuel ≤ 20000)) = true := by simp [f0, f1]
  have hm2 : (mem.size : Int) = 32 := by omega
  have PP := prog_parts hp
  obtain ⟨R, hR⟩ : ∃ R : Nat, Hid (p.regs = R) := ⟨p.regs.toNat, by show _ = _; have := PP.r1; omega⟩
  have HPP : Hid (ProgP p) := PP
  clear PP
  have hmz := hmsz
  obtain ⟨W1, hW1⟩ : ∃ W1, W1 = (w.alloc (.cells #[.int .i64 p.regs, .slice s1 p.params.length c1, .slice s2 p.widths.length c2, .slice s3 p.code.length c3] 30)).alloc (.cells #[.int .i64 0, .int .i64 0, .slice none 0 0, .string ⟨#[]⟩, .int .i64 0] 36) := ⟨_, rfl⟩
  have B1 : Below w.heap.size w W1 := by rw [hW1]; exact ((Below.refl _ _).alloc (Nat.le_refl _) _).alloc (by simp) _
  have PS := progS lo p s1 c1 s2 c2 s3 c3 W1 (k1.keep (agree_of_below B1 lo)) (k2.keep (agree_of_below B1 lo)) (k3.keep (agree_of_below B1 lo))
  have hz1 : w.heap.size + 2 = W1.heap.size := by rw [hW1]; simp
  have X1 : BoxP W1 w.heap.size p s1 c1 s2 c2 s3 c3 := by rw [hW1]; exact (BoxP.new w p s1 c1 s2 c2 s3 c3 _).below ((Below.refl _ _).alloc (Nat.le_refl _) _)
  have R1 : W1.heap[w.heap.size + 1]? = some (.cells #[.int .i64 0, .int .i64 0, .slice none 0 0, .string ⟨#[]⟩, .int .i64 0] 36 (0, 0)) := by rw [hW1]; exact heap_new2 _ _ _
  rw [hp] at PS
  go_enter Try.func13, Try.ntmps13
  go_upto_region 1 with fail
  rw [← hW1]
  clear hW1
  have XX := X1
  obtain ⟨_, y0, y1, y2, y3⟩ := XX
  go_wp2_with (first | (go_at_call 7; refine PS.mono ?_; rintro e w2 ⟨rfl, hb2⟩; have R2 := row_below R1 hb2; have B2 := B1.trans (hb2.mono (by omega)); have RR2 : Hid _ := R2; clear R2; have X2 := X1.below hb2; have XX2 : Hid (BoxP w2 w.heap.size p s1 c1 s2 c2 s3 c3) := X2; obtain ⟨hx2, x0, x1, x2, x3⟩ := X2; have AS := argsS lo lo s2 s4 c2 c4 p.widths args (.int .i64 0) (.slice none 0 0) w2 (k2.keep (agree_of_below B2 lo)) (k4.keep (agree_of_below B2 lo)); rw [hv] at AS) | (go_at_call 36; refine AS.mono ?_; rintro e w3 ⟨rfl, hb3⟩; have R2 := row_below RR2.out hb3; have B3 := B2.trans (hb3.mono B2.size); have X3 := XX2.out.below hb3; obtain ⟨hx3, v0, v1, v2, v3⟩ := X3; have r0 := (cell_of_heap (o := 0) R2).trans rfl; have r1 := (cell_of_heap (o := 1) R2).trans rfl; have r2 := (cell_of_heap (o := 2) R2).trans rfl; have r3 := (cell_of_heap (o := 3) R2).trans rfl; have r4 := (cell_of_heap (o := 4) R2).trans rfl; have z0 : w3.frozen? ⟨w.heap.size + 1, 0, none⟩ = false := froz_of_heap R2; have z1 : w3.frozen? ⟨w.heap.size + 1, 1, none⟩ = false := froz_of_heap R2; have z2 : w3.frozen? ⟨w.heap.size + 1, 2, none⟩ = false := froz_of_heap R2; have z3 : w3.frozen? ⟨w.heap.size + 1, 3, none⟩ = false := froz_of_heap R2; have z4 : w3.frozen? ⟨w.heap.size + 1, 4, none⟩ = false := froz_of_heap R2; have HR2 : Hid (w3.heap[w.heap.size + 1]? = some (.cells #[.int .i64 0, .int .i64 0, .slice none 0 0, .string ⟨#[]⟩, .int .i64 0] 36 (0, 0))) := R2; clear R2) | (go_at_call 24; refine (inS _ _ _ _).mono ?_; rintro e w9 ⟨rfl, h9⟩; have h8 := h9.symm; clear h9; subst h8))
  clear r0 r1 r2 r3 r4 z0 z1 z2 z3 z4 x0 x1 x2 x3 y0 y1 y2 y3 AS PS
  refine wp_mono (Q := Begun w w3 s4 args.length c4 fuel R mem) ?_ ?_
  · refine wp_region_held_drew (S := fun w' => Below w3.heap.size w3 w') (by kernel_rfl) ((Below.refl _ _).drew) (fun hHeld => ?_)
    refine wpAnyH_take (i := 0) (v := ?_) rfl (by kernel_rfl) (by kernel_rfl) (by kernel_rfl) (fun _ _ _ h => absurd h.1 (by intro e; cases e)) (Or.inl ⟨by rfl, ?_⟩) hHeld ?_
    rotate_left
    · intro w9 hS9
      have g0 := (bcell hS9 _ _ hx3).trans v0
      have g1 := (bcell hS9 _ _ hx3).trans v1
      have g2 := (bcell hS9 _ _ hx3).trans v2
      have g3 := (bcell hS9 _ _ hx3).trans v3
      go_simp
      try with_reducible rfl
    show wpAnyH _ _ _ _ _ _ _ (Act.put _ (some 34) _) _
    simp only [Act.put, List.setIfInBounds_toArray, List.set_cons_zero, List.set_cons_succ]
    refine wpAnyH_take (i := 1) (v := ?_) rfl (by kernel_rfl) (by kernel_rfl) (by kernel_rfl) (fun _ _ _ h => absurd h.1 (by intro e; cases e)) (Or.inl ⟨by rfl, ?_⟩) hHeld ?_
    rotate_left
    · intro w9 hS9
      go_simp
      try with_reducible rfl
    show wpAnyH _ _ _ _ _ _ _ (Act.put _ (some 35) _) _
    simp only [Act.put, List.setIfInBounds_toArray, List.set_cons_zero, List.set_cons_succ]
    refine wpAnyH_take (i := 2) (v := ?_) rfl (by kernel_rfl) (by kernel_rfl) (by kernel_rfl) (fun _ _ _ h => absurd h.1 (by intro e; cases e)) (Or.inl ⟨by rfl, ?_⟩) hHeld ?_
    rotate_left
    · intro w9 hS9
      have g0 := (bcell hS9 _ _ hx3).trans v0
      go_simp
      try with_reducible rfl
    show wpAnyH _ _ _ _ _ _ _ (Act.put _ (some 36) _) _
    simp only [Act.put, List.setIfInBounds_toArray, List.set_cons_zero, List.set_cons_succ]
    refine wpAnyH_take (i := 4) (v := ?_) rfl (by kernel_rfl) (by kernel_rfl) (by kernel_rfl) (fun _ _ _ h => absurd h.1 (by intro e; cases e)) (Or.inl ⟨by rfl, ?_⟩) hHeld ?_
    rotate_left
    · intro w9 hS9
      go_simp
      try with_reducible rfl
    show wpAnyH _ _ _ _ _ _ _ (Act.put _ (some 38) _) _
    simp only [Act.put, List.setIfInBounds_toArray, List.set_cons_zero, List.set_cons_succ]
    have hR2 : R ≤ 130 := by have := HPP.out.r2; have := hR.out; omega
    rw [hR.out]
    have m1 := makeR R w3.drew hR2
    have m2 := convM mem w3.drew
    refine wpAnyH_ready (rs := [3, 5]) (by kernel_rfl) (by simp) ?_
    refine AllReadyH.cons rfl (fun K hK => ?_) (AllReadyH.cons rfl (fun K hK => ?_) AllReadyH.nil)
    · go_simp
      have bA : Below w3.heap.size w3 (w3.alloc (Obj.cells (madeCells #[Value.int .i64 0] R) 2)).drew := ((Below.refl _ _).alloc (Nat.le_refl _) _).drew
      have gA : (w3.alloc (Obj.cells (madeCells #[Value.int .i64 0] R) 2)).drew.heap[w3.heap.size]? = some (.cells (madeCells #[Value.int .i64 0] R) 2 (0, 0)) := heap_alloc_at _ _
      have sA : (w3.alloc (Obj.cells (madeCells #[Value.int .i64 0] R) 2)).drew.heap.size = w3.heap.size + 1 := by simp
      refine hK.out _ _ ?_ (fun hHeld2 => ?_)
      · exact bA
      clear hK K hHeld hHeld2 m1 m2
      generalize (w3.alloc (Obj.cells (madeCells #[Value.int .i64 0] R) 2)).drew = WA at bA gA sA ⊢
      have m2 := convM mem WA
      refine wpAnyH_ready (rs := [5]) (by kernel_rfl) (by simp) ?_
      refine AllReadyH.cons rfl (fun K hK => ?_) AllReadyH.nil
      rw [if_pos (by rfl)]
      go_simp
      have bB := bytes_below WA 5 mem
      have gB := Lib.bytesWorld_at_new WA 5 mem
      have sB := Lib.bytesWorld_size WA 5 mem
      have cB := bytes_cells WA mem hm
      have gA2 := row_below gA bB
      have bB2 := bA.trans (bB.mono bA.size)
      refine hK.out _ _ ?_ (fun hHeld => ?_)
      · exact bB2
      clear hK K m2 gA bA bB
      generalize Lib.bytesWorld WA 5 mem = WB at gB sB gA2 bB2 hHeld ⊢
      generalize Lib.bytesCells WA 5 mem = cy at gB cB
      generalize grownCap WA 32 0 5 = q
      refine wpAnyH_take (i := 6) (v := ?_) rfl (by kernel_rfl) (by kernel_rfl) (by kernel_rfl) (fun _ _ _ h => absurd h.1 (by intro e; cases e)) (Or.inl ⟨by rfl, ?_⟩) hHeld ?_
      rotate_left
      · intro w9 hS9
        go_simp
        try with_reducible rfl
      show wpAnyH _ _ _ _ _ _ _ (Act.put _ (some 40) _) _
      simp only [Act.put, List.setIfInBounds_toArray, List.set_cons_zero, List.set_cons_succ]
      refine wpAnyH_ready (rs := [7]) (by kernel_rfl) (by simp) ?_
      refine AllReadyH.cons rfl (fun K hK => ?_) AllReadyH.nil
      go_simp
      refine hK.out _ _ ?_ (fun hHeld2 => ?_)
      · exact bB2.alloc bB2.size _
      clear hK K hHeld
      have hHeld := hHeld2
      clear hHeld2
      refine wpAnyH_take (i := 8) (v := ?_) rfl (by kernel_rfl) (by kernel_rfl) (by kernel_rfl) (fun _ _ _ h => absurd h.1 (by intro e; cases e)) (Or.inl ⟨by rfl, ?_⟩) hHeld ?_
      rotate_left
      · intro w9 hS9
        go_simp
        try with_reducible rfl
      show wpAnyH _ _ _ _ _ _ _ (Act.put _ (some 9) _) _
      simp only [Act.put, List.setIfInBounds_toArray, List.set_cons_zero, List.set_cons_succ]
      refine wpAnyH_done (by kernel_rfl) ?_ _
      rw [sA] at gB
      exact ⟨rfl, w3.heap.size + 1 + 1, w3.heap.size, w3.heap.size + 1, q, ⟨rfl, rfl, rfl, rfl, rfl, rfl, rfl⟩, by omega, by omega, by omega, made_x (heap_new_at (by omega) _) ((Below.heap_alloc _ _ _ (by omega)).trans gA2) ((Below.heap_alloc _ _ _ (by omega)).trans gB) cB.1 cB.1 cB.2 (by omega) (by omega) (by omega), hHeld⟩
    · go_simp
      have bA : Below w3.heap.size w3 (Lib.bytesWorld w3.drew 5 mem) := (drew_below (Below.refl _ _)).trans (bytes_below w3.drew 5 mem)
      have gA : (Lib.bytesWorld w3.drew 5 mem).heap[w3.heap.size]? = _ := Lib.bytesWorld_at_new w3.drew 5 mem
      have sA : (Lib.bytesWorld w3.drew 5 mem).heap.size = w3.heap.size + 1 := Lib.bytesWorld_size w3.drew 5 mem
      have cB := bytes_cells w3.drew mem hm
      refine hK.out _ _ ?_ (fun hHeld2 => ?_)
      · exact bA
      clear hK K hHeld hHeld2 m1 m2
      generalize Lib.bytesWorld w3.drew 5 mem = WA at bA gA sA ⊢
      generalize Lib.bytesCells w3.drew 5 mem = cy at gA cB
      generalize grownCap w3.drew 32 0 5 = q
      have m1 := makeR R WA hR2
      refine wpAnyH_ready (rs := [3]) (by kernel_rfl) (by simp) ?_
      refine AllReadyH.cons rfl (fun K hK => ?_) AllReadyH.nil
      rw [if_pos (by rfl)]
      go_simp
      have bB : Below WA.heap.size WA (WA.alloc (Obj.cells (madeCells #[Value.int .i64 0] R) 2)) := (Below.refl _ _).alloc (Nat.le_refl _) _
      have gB : (WA.alloc (Obj.cells (madeCells #[Value.int .i64 0] R) 2)).heap[WA.heap.size]? = some (.cells (madeCells #[Value.int .i64 0] R) 2 (0, 0)) := heap_alloc_at _ _
      have sB : (WA.alloc (Obj.cells (madeCells #[Value.int .i64 0] R) 2)).heap.size = WA.heap.size + 1 := by simp
      have gA2 := row_below gA bB
      have bB2 := bA.trans (bB.mono bA.size)
      refine hK.out _ _ ?_ (fun hHeld => ?_)
      · exact bB2
      clear hK K m1 gA bA bB
      generalize WA.alloc (Obj.cells (madeCells #[Value.int .i64 0] R) 2) = WB at gB sB gA2 bB2 hHeld ⊢
      refine wpAnyH_take (i := 6) (v := ?_) rfl (by kernel_rfl) (by kernel_rfl) (by kernel_rfl) (fun _ _ _ h => absurd h.1 (by intro e; cases e)) (Or.inl ⟨by rfl, ?_⟩) hHeld ?_
      rotate_left
      · intro w9 hS9
        go_simp
        try with_reducible rfl
      show wpAnyH _ _ _ _ _ _ _ (Act.put _ (some 40) _) _
      simp only [Act.put, List.setIfInBounds_toArray, List.set_cons_zero, List.set_cons_succ]
      refine wpAnyH_ready (rs := [7]) (by kernel_rfl) (by simp) ?_
      refine AllReadyH.cons rfl (fun K hK => ?_) AllReadyH.nil
      go_simp
      refine hK.out _ _ ?_ (fun hHeld2 => ?_)
      · exact bB2.alloc bB2.size _
      clear hK K hHeld
      have hHeld := hHeld2
      clear hHeld2
      refine wpAnyH_take (i := 8) (v := ?_) rfl (by kernel_rfl) (by kernel_rfl) (by kernel_rfl) (fun _ _ _ h => absurd h.1 (by intro e; cases e)) (Or.inl ⟨by rfl, ?_⟩) hHeld ?_
      rotate_left
      · intro w9 hS9
        go_simp
        try with_reducible rfl
      show wpAnyH _ _ _ _ _ _ _ (Act.put _ (some 9) _) _
      simp only [Act.put, List.setIfInBounds_toArray, List.set_cons_zero, List.set_cons_succ]
      refine wpAnyH_done (by kernel_rfl) ?_ _
      rw [sA] at gB
      exact ⟨rfl, w3.heap.size + 1 + 1, w3.heap.size + 1, w3.heap.size, q, ⟨rfl, rfl, rfl, rfl, rfl, rfl, rfl⟩, by omega, by omega, by omega, made_x (heap_new_at (by omega) _) ((Below.heap_alloc _ _ _ (by omega)).trans gB) ((Below.heap_alloc _ _ _ (by omega)).trans gA2) cB.1 cB.1 cB.2 (by omega) (by omega) (by omega), hHeld⟩
  · rintro e a' W ⟨rfl, X, G, Y, q, fr, hXw, hGw, hYw, hAt, hBW⟩
    obtain ⟨t, df⟩ := a'
    dsimp only at fr
    obtain ⟨rfl, fz, t1, t3, t4, t8, t9⟩ := fr
    obtain ⟨f, rfl⟩ := frame103_f t fz
    clear fz
    change f 1 = _ at t1
    change f 3 = _ at t3
    change f 4 = _ at t4
    change f 8 = _ at t8
    change f 9 = _ at t9
    rw [t1, t3, t4, t8, t9]
    clear t1 t3 t4 t8 t9
    have h3s := hb3.size
    have h2s := hb2.size
    have X5 : BoxP W w.heap.size p s1 c1 s2 c2 s3 c3 := (BoxP.below ⟨hx3, v0, v1, v2, v3⟩ hBW)
    have R5 := row_below HR2.out hBW
    have BW := B3.trans (hBW.mono B3.size)
    have HBW : Hid (Below w.heap.size w W) := BW
    have HX5 : Hid (BoxP W w.heap.size p s1 c1 s2 c2 s3 c3) := X5
    have HR5 : Hid (W.heap[w.heap.size + 1]? = some (.cells #[.int .i64 0, .int .i64 0, .slice none 0 0, .string ⟨#[]⟩, .int .i64 0] 36 (0, 0))) := R5
    have HN : Hid (w.heap.size + 2 ≤ X ∧ w.heap.size + 2 ≤ G ∧ w.heap.size + 2 ≤ Y ∧ w.heap.size + 2 ≤ W.heap.size) := by show _ ∧ _; have := hBW.size; omega
    have hal := vals_get hv
    have HVV : Hid (args.length = p.params.length) := by show _ = _; have := HPP.out.wid; omega
    have GS := start_good (mem := mem) HPP.out hv
    have HGS : Hid (Good (startM p args mem)) := GS
    have g1 := k1.1
    have g4 := k4.1
    have hal4 : args.length ≤ 4 := by have := HPP.out.p4; have := HVV.out; omega
    clear hv hal GS X5 R5 BW hBW hXw hGw hYw h3s h2s hb3 hb2 B3 B2 B1 hx3 v0 v1 v2 v3 HR2 XX2 RR2 X1 R1 hz1 k2
    go_wp2_with fail
    go_loopw [10] (fun i wr => ∃ k : Nat, k ≤ args.length ∧ i = .int .i64 k ∧ Hid (XAt wr X G Y W.heap.size R q ⟨memF mem, [], 0, regsK p.params args k, 0⟩ 0 0 false) ∧ Hid (Keep3 X G Y W.heap.size W wr)) (fun i _ => args.length - (intOf i).toNat)
    case atStart => exact ⟨0, by omega, rfl, hAt, Keep3.refl _ _ _ _ _⟩
    case round =>
      obtain ⟨k, hk, rfl, HA, HK⟩ := hrel
      obtain ⟨wq, hwq⟩ : ∃ wq, wq = wr := ⟨_, rfl⟩
      subst hwq
      clear hAt
      by_cases hka : k < args.length
      · have hkl : k < p.params.length := by have := HVV.out; omega
        rcases k1.2 with hn | ⟨b1, o1, rfl, _, hb1, hc1⟩
        · simp [hn] at hkl
        rcases k4.2 with hn | ⟨b4, o4, rfl, _, hb4, hc4⟩
        · simp [hn] at hka
        have hN := HN.out
        have hq0 : wq.heap[w.heap.size]? = W.heap[w.heap.size]? := HK.out.block _ (by omega) (by omega) (by omega) (by omega)
        have hq1 : wq.heap[b1]? = w.heap[b1]? := (HK.out.block b1 (by omega) (by omega) (by omega) (by omega)).trans (HBW.out.block b1 hb1)
        have hq4 : wq.heap[b4]? = w.heap[b4]? := (HK.out.block b4 (by omega) (by omega) (by omega) (by omega)).trans (HBW.out.block b4 hb4)
        have y1 := (cell_block hq0).trans HX5.out.2.2.1
        have e1 := (cell_block hq1).trans (hc1 k hkl)
        have e4 := (cell_block hq4).trans (hc4 k hka)
        obtain ⟨q0, q1⟩ := HPP.out.par k hkl
        obtain ⟨pk, hpk⟩ := Int.eq_ofNat_of_zero_le q0
        have hpk2 : pk < R := by have := hR.out; omega
        have hpk3 : (pk : Int) < R := by omega
        have HU : Hid (regsK p.params args (k + 1) = upF (regsK p.params args k) pk (args.getD k 0)) := by
          show upF _ _ _ = _
          rw [hpk]; rfl
        rw [hpk] at e1
        generalize args.getD k 0 = av at e4 HU
        have x4 := HA.out.cell4
        have rp := HA.out.reg pk hpk2
        have fp := HA.out.frozG pk
        have hka2 : (k : Int) < args.length := by omega
        have hkl2 : (k : Int) < p.params.length := by omega
        clear hc1 hc4 hpk q0 q1 k1 k4 hq0 hq1 hq4 hN
        go_wp2_with fail
        go_region
        go_wp2_with fail
        go_roundw
        case rel => exact ⟨k + 1, by omega, by go_num, by show XAt _ _ _ _ _ _ _ _ _ _ _; rw [HU.out]; exact (HA.out.below (drew_below (Below.refl _ _))).setReg pk av hpk2, (HK.out.trans (Keep3.of_below (drew_below (Below.refl _ _)) HA.out.b)).set G pk _ (.inr (.inl rfl))⟩
        case measure => simp [intOf]; omega
      · have hke : k = p.params.length := by have := HVV.out; omega
        have hka2 : ¬ (k : Int) < args.length := by omega
        have HA2 : Hid (XAt wq X G Y W.heap.size R q (startM p args mem) 0 0 false) := by rw [hke] at HA; exact HA
        clear HA hka hke hk k1 k4
        go_wp2_with fail
        have HB3 : Hid (Good (startM p args mem)) := HGS.out
        have R0 : RunX p.code fuel (startM p args mem) (startM p args mem) 0 0 false := ⟨fun _ => ⟨rfl, rfl, HGS.out, by show (0 : Int) ≤ 0; omega, by show (0 : Int) < _; have := HPP.out.c1; omega, by show (0 : Int) ≤ fuel; omega, by rw [show fuel - (startM p args mem).steps = fuel by show fuel - 0 = fuel; omega]⟩, fun h => by cases h⟩
        have HC : Hid (∃ cb off, s3 = some ⟨cb, off, none⟩ ∧ cb < w.heap.size ∧ ∀ i, i < p.code.length → w.cell? ⟨cb, off + i * 7, none⟩ = some (.int .i64 (p.code.getD i mins0).op) ∧ w.cell? ⟨cb, off + i * 7 + 1, none⟩ = some (.int .i64 (p.code.getD i mins0).w) ∧ w.cell? ⟨cb, off + i * 7 + 2, none⟩ = some (.int .i64 (p.code.getD i mins0).d) ∧ w.cell? ⟨cb, off + i * 7 + 3, none⟩ = some (.int .i64 (p.code.getD i mins0).a) ∧ w.cell? ⟨cb, off + i * 7 + 4, none⟩ = some (.int .i64 (p.code.getD i mins0).b) ∧ w.cell? ⟨cb, off + i * 7 + 5, none⟩ = some (.int .i64 (p.code.getD i mins0).c) ∧ w.cell? ⟨cb, off + i * 7 + 6, none⟩ = some (.int .i64 (p.code.getD i mins0).imm)) := by
          rcases k3.2 with hn | ⟨cb, off, e, _, hcb, hc⟩
          · have := HPP.out.c1; rw [hn] at this; simp at this
          · exact ⟨cb, off, e, hcb, hc⟩
        have gc := k3.1
        have hc600 := HPP.out.c2
        clear k3
        go_loopw [11] (fun i wr => ∃ st vl cd dn, i = .int .i64 st.steps ∧ Hid (XAt wr X G Y W.heap.size R q st vl cd dn) ∧ Hid (Keep3 X G Y W.heap.size W wr) ∧ Hid (RunX p.code fuel (startM p args mem) st vl cd dn)) (fun i wr => if doneIn wr X then 0 else (fuel + 1 - intOf i).toNat + 1)
        case atStart => exact ⟨startM p args mem, 0, 0, false, rfl, HA2, HK, R0⟩
        case round =>
          obtain ⟨st, vl, cd, dn, rfl, HZ, HKZ, HR⟩ := hrel
          obtain ⟨wz, hwz⟩ : ∃ wz, wz = wr := ⟨_, rfl⟩
          subst hwz
          clear R0 HA2 HK HB3
          have c10 := HZ.out.cell10
          cases dn with
          | true =>
            have HRUN : Hid (runM p.code fuel.toNat (startM p args mem) = ⟨cd, vl, st⟩) := HR.out.2 rfl
            have GT := run_good HPP.out.r1 HPP.out.r2 HPP.out.ins HPP.out.last fuel.toNat (startM p args mem) HGS.out (by show (0 : Int) ≤ 0; omega) (by show (0 : Int) < _; have := HPP.out.c1; omega)
            rw [HRUN.out] at GT
            have hN := HN.out
            have c9 := HZ.out.cell9
            have c8 := HZ.out.cell8
            have c5 := HZ.out.cell5
            obtain ⟨u, cc, c6, hO⟩ := HZ.out.told
            have cv := conv_memX (w := wz.drew) (HZ.out.below (drew_below (Below.refl _ _))) GT.mem
            have R9 : wz.heap[w.heap.size + 1]? = some (.cells #[.int .i64 0, .int .i64 0, .slice none 0 0, .string ⟨#[]⟩, .int .i64 0] 36 (0, 0)) := (HKZ.out.block _ (by omega) (by omega) (by omega) (by omega)).trans HR5.out
            have r0 := (cell_of_heap (o := 0) R9).trans rfl
            have r1 := (cell_of_heap (o := 1) R9).trans rfl
            have r2 := (cell_of_heap (o := 2) R9).trans rfl
            have r3 := (cell_of_heap (o := 3) R9).trans rfl
            have r4 := (cell_of_heap (o := 4) R9).trans rfl
            have z0 : wz.frozen? ⟨w.heap.size + 1, 0, none⟩ = false := froz_of_heap R9
            have z1 : wz.frozen? ⟨w.heap.size + 1, 1, none⟩ = false := froz_of_heap R9
            have z2 : wz.frozen? ⟨w.heap.size + 1, 2, none⟩ = false := froz_of_heap R9
            have z3 : wz.frozen? ⟨w.heap.size + 1, 3, none⟩ = false := froz_of_heap R9
            have z4 : wz.frozen? ⟨w.heap.size + 1, 4, none⟩ = false := froz_of_heap R9
            have HR9 : Hid (wz.heap[w.heap.size + 1]? = some (.cells #[.int .i64 0, .int .i64 0, .slice none 0 0, .string ⟨#[]⟩, .int .i64 0] 36 (0, 0))) := R9
            have HO : Hid (wz.ownsRow W.heap.size 2 1 (.slice u st.out.length cc) st.out.length (st.out.map (Value.int .i64))) := hO
            have BZ : Hid (Below w.heap.size w wz) := HKZ.out.below HBW.out (by omega) (by omega) (by omega) (by omega)
            have HN2 : Hid (w.heap.size + 2 ≤ W.heap.size) := by show _ ≤ _; omega
            clear R9 hO hN GT
            go_wp2_with fail
            go_region
            go_wp2_with fail
            refine bodyPost_ret (v := .agg #[.int .i64 cd, .int .i64 vl, .slice u st.out.length cc, .string (memB st.mem), .int .i64 st.steps]) (results_cell_row Try.results13 _ _ (w.heap.size + 1) 36 _ (0, 0) _ rfl (five_set HR9.out _ _ _ _ _) Try.underlying36 rfl (by kernel_rfl)) rfl ⟨?_, (five_below BZ.out (by omega) _ _ _ _ _).drew⟩
            have EE : machR p args mem fuel = ⟨cd, vl, st.out, memB st.mem, st.steps⟩ := by rw [machR, if_pos E.out, HRUN.out]
            rw [EE]
            refine ⟨u, cc, rfl, ?_⟩
            refine own_final (B := W.heap.size) (by have := HN2.out; omega) HO.out (fun g hg hz => ?_)
            have := ownsRow_ge HO.out hg
            have := HN2.out
            refine (drew_at _ _).trans ?_
            repeat refine (Below.heap_setCell _ _ _ _ (by show g ≠ w.heap.size + 1; omega)).trans ?_
            rfl
          | false =>
            obtain ⟨rfl, rfl, hgood, pc0, pc1, st1, _⟩ := HR.out.1 rfl
            have st0 := hgood.steps
            by_cases hlt : st.steps < fuel
            · have hlt2 : ¬ fuel ≤ st.steps := by omega
              obtain ⟨kp, hkp⟩ := Int.eq_ofNat_of_zero_le pc0
              have hkc : kp < p.code.length := by omega
              have hkc2 : (kp : Int) < p.code.length := by omega
              obtain ⟨cb, off, hs3, hcb, hc⟩ := HC.out
              subst hs3
              have hN := HN.out
              have hq0 : wz.heap[w.heap.size]? = W.heap[w.heap.size]? := HKZ.out.block _ (by omega) (by omega) (by omega) (by omega)
              have hqc : wz.heap[cb]? = w.heap[cb]? := (HKZ.out.block cb (by omega) (by omega) (by omega) (by omega)).trans (HBW.out.block cb hcb)
              have y3 := (cell_block hq0).trans HX5.out.2.2.2.2
              obtain ⟨a0, a1, a2, a3, a4, a5, a6⟩ := hc kp hkc
              have e0 := (cell_block hqc).trans a0
              have e1 := (cell_block hqc).trans a1
              have e2 := (cell_block hqc).trans a2
              have e3 := (cell_block hqc).trans a3
              have e4 := (cell_block hqc).trans a4
              have e5 := (cell_block hqc).trans a5
              have e6 := (cell_block hqc).trans a6
              have c7 := HZ.out.cell7
              have NX := HR.out.next HPP.out.r1 HPP.out.r2 HPP.out.ins HPP.out.last hlt
              have hmi := HPP.out.ins kp hkc
              rw [hR.out] at hmi
              rw [show st.pc.toNat = kp by omega] at NX
              generalize p.code.getD kp mins0 = i at e0 e1 e2 e3 e4 e5 e6 hmi NX
              have ST := fun (wx : World) (A : XAt wx X G Y W.heap.size R q st 0 0 false) => stepA X G Y W.heap.size R q i p.code.length st wx A hgood (by have := HPP.out.r1; have := hR.out; omega) (by have := HPP.out.r2; have := hR.out; omega) hmi pc0 (by omega)
              have HNX : Hid _ := NX
              have HST : Hid (st.steps < fuel ∧ 0 ≤ st.steps) := ⟨hlt, st0⟩
              rw [hkp] at c7
              clear a0 a1 a2 a3 a4 a5 a6 hc hqc hq0 hN NX hmi hgood hkp pc0 pc1 HC
              go_wp2_with fail
              go_region_with (go_at_call 38; refine (ST _ (HZ.out.below (drew_below (Below.refl _ _)))).mono ?_; rintro e w4 ⟨⟨v4, rfl⟩, A4, K4⟩)
              all_goals
                go_wp2_with fail

                go_roundw
                case rel => exact ⟨(nxt i st).st, (nxt i st).value, (nxt i st).code, (nxt i st).done, by rw [nxt_steps], A4, HKZ.out.trans ((Keep3.of_below (drew_below (Below.refl _ _)) HZ.out.b).trans K4), HNX.out⟩
                case measure =>
                  have := HST.out
                  rw [done_of HZ.out, done_of A4]
                  simp [intOf]
                  split <;> omega
            · have hlt2 : fuel ≤ st.steps := by omega
              have HRUN : Hid (runM p.code fuel.toNat (startM p args mem) = ⟨4, 0, st⟩) := HR.out.over hlt
              have GT := run_good HPP.out.r1 HPP.out.r2 HPP.out.ins HPP.out.last fuel.toNat (startM p args mem) HGS.out (by show (0 : Int) ≤ 0; omega) (by show (0 : Int) < _; have := HPP.out.c1; omega)
              rw [HRUN.out] at GT
              clear hlt
              go_wp2_with (go_at_call 37; refine (failS _ X G Y W.heap.size R q _ _ _ _ _ HZ.out).mono ?_; rintro e w4 ⟨⟨v4, rfl⟩, A4, K4⟩)
              have KK := HKZ.out.trans K4
              have hN := HN.out
              have c9 := A4.cell9
              have c8 := A4.cell8
              have c5 := A4.cell5
              obtain ⟨u, cc, c6, hO⟩ := A4.told
              have cv := conv_memX (w := w4.drew) (A4.below (drew_below (Below.refl _ _))) GT.mem
              have R9 : w4.heap[w.heap.size + 1]? = some (.cells #[.int .i64 0, .int .i64 0, .slice none 0 0, .string ⟨#[]⟩, .int .i64 0] 36 (0, 0)) := (KK.block _ (by omega) (by omega) (by omega) (by omega)).trans HR5.out
              have r0 := (cell_of_heap (o := 0) R9).trans rfl
              have r1 := (cell_of_heap (o := 1) R9).trans rfl
              have r2 := (cell_of_heap (o := 2) R9).trans rfl
              have r3 := (cell_of_heap (o := 3) R9).trans rfl
              have r4 := (cell_of_heap (o := 4) R9).trans rfl
              have z0 : w4.frozen? ⟨w.heap.size + 1, 0, none⟩ = false := froz_of_heap R9
              have z1 : w4.frozen? ⟨w.heap.size + 1, 1, none⟩ = false := froz_of_heap R9
              have z2 : w4.frozen? ⟨w.heap.size + 1, 2, none⟩ = false := froz_of_heap R9
              have z3 : w4.frozen? ⟨w.heap.size + 1, 3, none⟩ = false := froz_of_heap R9
              have z4 : w4.frozen? ⟨w.heap.size + 1, 4, none⟩ = false := froz_of_heap R9
              have HR9 : Hid (w4.heap[w.heap.size + 1]? = some (.cells #[.int .i64 0, .int .i64 0, .slice none 0 0, .string ⟨#[]⟩, .int .i64 0] 36 (0, 0))) := R9
              have HO : Hid (w4.ownsRow W.heap.size 2 1 (.slice u st.out.length cc) st.out.length (st.out.map (Value.int .i64))) := hO
              have BZ : Hid (Below w.heap.size w w4) := KK.below HBW.out (by omega) (by omega) (by omega) (by omega)
              have HN2 : Hid (w.heap.size + 2 ≤ W.heap.size) := by show _ ≤ _; omega
              clear R9 hO hN GT
              go_region
              go_wp2_with fail
              refine bodyPost_ret (v := .agg #[.int .i64 4, .int .i64 0, .slice u st.out.length cc, .string (memB st.mem), .int .i64 st.steps]) (results_cell_row Try.results13 _ _ (w.heap.size + 1) 36 _ (0, 0) _ rfl (five_set HR9.out _ _ _ _ _) Try.underlying36 rfl (by kernel_rfl)) rfl ⟨?_, (five_below BZ.out (by omega) _ _ _ _ _).drew⟩
              have EE : machR p args mem fuel = ⟨4, 0, st.out, memB st.mem, st.steps⟩ := by rw [machR, if_pos E.out, HRUN.out]
              rw [EE]
              refine ⟨u, cc, rfl, ?_⟩
              refine own_final (B := W.heap.size) (by have := HN2.out; omega) HO.out (fun g hg hz => ?_)
              have := ownsRow_ge HO.out hg
              have := HN2.out
              refine (drew_at _ _).trans ?_
              repeat refine (Below.heap_setCell _ _ _ _ (by show g ≠ w.heap.size + 1; omega)).trans ?_
              rfl
end Go.Proofs.Ytofgfiakccjimaa
