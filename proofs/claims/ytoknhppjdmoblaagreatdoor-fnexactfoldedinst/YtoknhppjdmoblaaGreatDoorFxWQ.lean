/- The core of the law FnExactFoldedInst. -/
import Derived.Test.YtoknhppjdmoblaaGreatDoorFdZQ
import Derived.Deep.RegionHeld2
namespace Go.Proofs.YtoknhppjdmoblaaGreatDoor
open Go.RowKit
set_option linter.unusedVariables false

set_option maxHeartbeats 16000000 in
set_option maxRecDepth 100000 in
theorem fnExactFoldedInst_core (lo : Nat) (d : FuncD) (i : InstD) (u0 : Option Addr) (c0 : Nat) (u2 : Option Addr) (c2 : Nat) (ua : Option Addr) (qa : Nat) (w : World) (k0 : IntsAt w lo u0 d.params) (k2 : BlocksAt w lo u2 d.blocks) (ku : IntsAt w lo ua i.args) :
    Calls Tryz.prog 4 #[.agg #[.slice u0 d.params.length c0, .int .i64 d.ret, .slice u2 d.blocks.length c2], .agg #[.int .i64 i.op, .int .i64 i.w, .int .i64 i.a, .int .i64 i.b, .int .i64 i.c, .int .i64 i.imm, .slice ua i.args.length qa]] w fun e w' => e = .returned (.bool true) ∧ Below w.heap.size w w' := by
  have S0 := BxA.start (d := d) (i := i) (u0 := u0) (u2 := u2) (ua := ua) (c0 := c0) (c2 := c2) (qa := qa) (w := w)
  go_enter Tryz.func4, Tryz.ntmps4
  go_wp2_with fail
  generalize ((w.alloc (.cells #[.slice u0 d.params.length c0, .int .i64 d.ret, .slice u2 d.blocks.length c2] 40)).alloc (.cells #[.int .i64 i.op, .int .i64 i.w, .int .i64 i.a, .int .i64 i.b, .int .i64 i.c, .int .i64 i.imm, .slice ua i.args.length qa] 41)) = w0 at S0 ⊢
  have hA : Hid (BxA d i u0 c0 u2 c2 ua qa w w0) := S0
  clear S0
  refine (szFunc_any lo d _ _ _ _ _ _ (by omega) (by omega) (k0.keep (agree_of_below hA.out.below lo)) (k2.keep (agree_of_below hA.out.below lo))).mono ?_
  rintro e w1 ⟨rfl, b1⟩
  have zw1 : w0.heap.size ≤ w1.heap.size := b1.size
  have hA' : Hid (BxA d i u0 c0 u2 c2 ua qa w w1) := hA.out.keep b1
  clear hA
  have hA := hA'
  clear hA'
  clear b1
  rcases szFunc_falls d 1048576 (by omega) with hz | ⟨hz, hz'⟩
  · have hz2 : szFunc d 1048576 < 0 := by omega
    clear hz
    go_wp2_with fail
    go_ret
    exact ⟨rfl, hA.out.below⟩
  have hs := szFunc_small (by omega) hz
  generalize szFunc d 1048576 = L at hz hz' ⊢
  have hz3 : ¬ L < 0 := by omega
  have y0 : w1.cell? ⟨w.heap.size + 1, 0, none⟩ = some (.int .i64 i.op) := hA.out.i.cell 0
  have y1 : w1.cell? ⟨w.heap.size + 1, 1, none⟩ = some (.int .i64 i.w) := hA.out.i.cell 1
  have y2 : w1.cell? ⟨w.heap.size + 1, 2, none⟩ = some (.int .i64 i.a) := hA.out.i.cell 2
  have y3 : w1.cell? ⟨w.heap.size + 1, 3, none⟩ = some (.int .i64 i.b) := hA.out.i.cell 3
  have y4 : w1.cell? ⟨w.heap.size + 1, 4, none⟩ = some (.int .i64 i.c) := hA.out.i.cell 4
  have y5 : w1.cell? ⟨w.heap.size + 1, 5, none⟩ = some (.int .i64 i.imm) := hA.out.i.cell 5
  have y6 : w1.cell? ⟨w.heap.size + 1, 6, none⟩ = some (.slice ua i.args.length qa) := hA.out.i.cell 6
  go_wp2_with fail
  refine (szInst_any lo i ua qa L _ hz hz' (ku.keep (agree_of_below hA.out.below lo))).mono ?_
  rintro e wA ⟨rfl, b2⟩
  clear y0 y1 y2 y3 y4 y5 y6
  have zwA : w1.heap.size ≤ wA.heap.size := b2.size
  have hA' : Hid (BxA d i u0 c0 u2 c2 ua qa w wA) := hA.out.keep b2
  clear hA
  have hA := hA'
  clear hA'
  clear b2
  rcases szInst_falls i L (by omega) with hy | ⟨hy, hy'⟩
  · have hy2 : szInst i L < 0 := by omega
    clear hy
    go_wp2_with fail
    go_ret
    exact ⟨rfl, hA.out.below⟩
  have hm : i.args.length ≤ 1048576 := szI_small hz' hy
  generalize szInst i L = L2 at hy hy' ⊢
  have hy3 : ¬ L2 < 0 := by omega
  have TF0 := fun W (k : Below w.heap.size w W) => toFunc_any lo d u0 c0 u2 c2 W hs (k0.keep (agree_of_below k lo)) (k2.keep (agree_of_below k lo))
  have TI0 := fun W (k : Below w.heap.size w W) => toInst_any lo i ua qa W hm (ku.keep (agree_of_below k lo))
  have FS := fun B v0 q0 v2 q2 va qv W n0 n2 m0 => foldedS B d i v0 q0 v2 q2 va qv W hs n0 n2 m0 hm
  have FN := fun B v0 q0 v2 q2 va qv W n0 n2 m0 => foldedI B d i v0 q0 v2 q2 va qv W hs n0 n2 m0 hm
  have hgl0 := foldI_len d i
  generalize foldI d i = g at FS FN hgl0
  have hgl : Hid (g.args.length ≤ 1048576) := Nat.le_trans hgl0 hm
  clear hgl0
  have HM : Hid (i.args.length ≤ 1048576) := hm
  have HS : Hid (SmFunc d) := hs
  have zA : w.heap.size + 1 < wA.heap.size := hA.out.i.lt
  go_wp2_with fail
  clear hz hz' hz3 hy hy' hy3 hs hm
  have TFu := fun W (k : Below wA.heap.size wA W) => TF0 W (hA.out.below.trans (k.mono hA.out.below.size))
  have TIn := fun W (k : Below wA.heap.size wA W) => TI0 W (hA.out.below.trans (k.mono hA.out.below.size))
  refine wp_mono (Q := Beg 6 wA.heap.size wA g (fun t => t.getD 2 undef = .pointer (some ⟨w.heap.size, 0, none⟩) ∧ t.getD 3 undef = .pointer (some ⟨w.heap.size + 1, 0, none⟩))) ?_ ?_
  · refine wp_region_held_drew (S := fun w' => Below wA.heap.size wA w') (by kernel_rfl) ((Below.refl _ _).drew) (fun hHeld => ?_)
    refine wpAnyH_take (i := 0) (v := ?_) rfl (by kernel_rfl) (by kernel_rfl) (by kernel_rfl) (fun _ _ _ h => absurd h.1 (by intro e; cases e)) (Or.inl ⟨by rfl, ?_⟩) hHeld ?_
    rotate_left
    · intro w9 hS9
      have g0 := (show w9.cell? ⟨w.heap.size, 0, none⟩ = some (.slice u0 d.params.length c0) from (At.below hA.out.f hS9).cell 0)
      have g1 := (show w9.cell? ⟨w.heap.size, 1, none⟩ = some (.int .i64 d.ret) from (At.below hA.out.f hS9).cell 1)
      have g2 := (show w9.cell? ⟨w.heap.size, 2, none⟩ = some (.slice u2 d.blocks.length c2) from (At.below hA.out.f hS9).cell 2)
      go_simp
      try with_reducible rfl
    show wpAnyH _ _ _ _ _ _ _ (Act.put _ (some _) _) _
    simp only [Act.put, List.setIfInBounds_toArray, List.set_cons_zero, List.set_cons_succ]
    refine wpAnyH_take (i := 2) (v := ?_) rfl (by kernel_rfl) (by kernel_rfl) (by kernel_rfl) (fun _ _ _ h => absurd h.1 (by intro e; cases e)) (Or.inl ⟨by rfl, ?_⟩) hHeld ?_
    rotate_left
    · intro w9 hS9
      have g0 := (show w9.cell? ⟨w.heap.size + 1, 0, none⟩ = some (.int .i64 i.op) from (At.below hA.out.i hS9).cell 0)
      have g1 := (show w9.cell? ⟨w.heap.size + 1, 1, none⟩ = some (.int .i64 i.w) from (At.below hA.out.i hS9).cell 1)
      have g2 := (show w9.cell? ⟨w.heap.size + 1, 2, none⟩ = some (.int .i64 i.a) from (At.below hA.out.i hS9).cell 2)
      have g3 := (show w9.cell? ⟨w.heap.size + 1, 3, none⟩ = some (.int .i64 i.b) from (At.below hA.out.i hS9).cell 3)
      have g4 := (show w9.cell? ⟨w.heap.size + 1, 4, none⟩ = some (.int .i64 i.c) from (At.below hA.out.i hS9).cell 4)
      have g5 := (show w9.cell? ⟨w.heap.size + 1, 5, none⟩ = some (.int .i64 i.imm) from (At.below hA.out.i hS9).cell 5)
      have g6 := (show w9.cell? ⟨w.heap.size + 1, 6, none⟩ = some (.slice ua i.args.length qa) from (At.below hA.out.i hS9).cell 6)
      go_simp
      try with_reducible rfl
    show wpAnyH _ _ _ _ _ _ _ (Act.put _ (some _) _) _
    simp only [Act.put, List.setIfInBounds_toArray, List.set_cons_zero, List.set_cons_succ]
    generalize World.drew wA = W0 at *
    refine wpAnyH_ready (rs := [1, 5]) (by kernel_rfl) (by simp) ?_
    refine AllReadyH.cons rfl (fun K hK => ?_) (AllReadyH.cons rfl (fun K hK => ?_) AllReadyH.nil)
    · go_simp
      go_wp2_with (go_at_call 15; refine (TFu W0 hHeld).mono ?_; rintro e w2 ⟨v0, q0, v2, q2, rfl, n0, n2, b2⟩)
      refine hK.out _ _ ?_ (fun hHeld2 => ?_)
      · exact hHeld.trans (b2.mono hHeld.size)
      clear hK K
      have zc := hHeld.size
      clear hHeld
      have hHeld := hHeld2
      clear hHeld2
      try simp only [Act.put, List.setIfInBounds_toArray, List.set_cons_zero, List.set_cons_succ]
      have N0 : Hid (IntsAt w2 wA.heap.size v0 d.params) := n0.low zc
      have N2 : Hid (BlocksAt w2 wA.heap.size v2 d.blocks) := n2.low zc
      clear n0 n2
      clear b2 zc
      refine wpAnyH_ready (rs := [3, 5]) (by kernel_rfl) (by simp) ?_
      refine AllReadyH.cons rfl (fun K hK => ?_) (AllReadyH.cons rfl (fun K hK => ?_) AllReadyH.nil)
      · go_simp
        go_wp2_with (go_at_call 16; refine (TIn w2 hHeld).mono ?_; rintro e w3 ⟨va, qv, rfl, m0, b3⟩)
        refine hK.out _ _ ?_ (fun hHeld2 => ?_)
        · exact hHeld.trans (b3.mono hHeld.size)
        clear hK K
        have zc := hHeld.size
        clear hHeld
        have hHeld := hHeld2
        clear hHeld2
        try simp only [Act.put, List.setIfInBounds_toArray, List.set_cons_zero, List.set_cons_succ]
        have N0x : Hid (IntsAt w3 wA.heap.size v0 d.params) := N0.out.keep (agree_of_below b3 _)
        clear N0
        have N0 := N0x
        clear N0x
        have N2x : Hid (BlocksAt w3 wA.heap.size v2 d.blocks) := N2.out.keep (agree_of_below b3 _)
        clear N2
        have N2 := N2x
        clear N2x
        have M0 : Hid (IntsAt w3 wA.heap.size va i.args) := m0.low zc
        clear m0
        clear b3 zc
        refine wpAnyH_ready (rs := [4, 5]) (by kernel_rfl) (by simp) ?_
        refine AllReadyH.cons rfl (fun K hK => ?_) (AllReadyH.cons rfl (fun K hK => ?_) AllReadyH.nil)
        · go_simp
          go_wp2_with (go_at_call 12; refine (FS wA.heap.size v0 q0 v2 q2 va qv w3 N0.out N2.out M0.out).mono ?_; rintro e w5 ⟨hg5, b5⟩; obtain ⟨su, sq, rfl, hrow⟩ := hg5)
          refine hK.out _ _ ?_ (fun hHeld2 => ?_)
          · exact hHeld.trans (b5.mono hHeld.size)
          clear hK K
          have zc := hHeld.size
          clear hHeld
          have hHeld := hHeld2
          clear hHeld2
          try simp only [Act.put, List.setIfInBounds_toArray, List.set_cons_zero, List.set_cons_succ]
          have HROW : Hid (IntsAt w5 w3.heap.size su g.args) := hrow
          have zF := zc
          clear hrow zc
          clear b5 N0 N2 M0
          refine wpAnyH_ready (rs := [5]) (by kernel_rfl) (by simp) ?_
          refine AllReadyH.cons rfl (fun K hK => ?_) AllReadyH.nil
          go_simp
          go_wp2_with fail
          refine hK.out _ _ ?_ (fun hHeld2 => ?_)
          · exact hHeld.alloc hHeld.size _
          clear hK K
          have zc := hHeld.size
          clear hHeld
          have hHeld := hHeld2
          clear hHeld2
          try simp only [Act.put, List.setIfInBounds_toArray, List.set_cons_zero, List.set_cons_succ]
          have bV : Hid (Below w5.heap.size w5 (w5.alloc (.cells #[.int .i64 0, .int .i64 0, .int .i64 0, .int .i64 0, .int .i64 0, .int .i64 0, .slice none 0 0] 29))) := (Below.refl _ _).alloc (Nat.le_refl _) _
          have HG : Hid ((w5.alloc (.cells #[.int .i64 0, .int .i64 0, .int .i64 0, .int .i64 0, .int .i64 0, .int .i64 0, .slice none 0 0] 29)).heap[w5.heap.size]? = some (.cells #[.int .i64 0, .int .i64 0, .int .i64 0, .int .i64 0, .int .i64 0, .int .i64 0, .slice none 0 0] 29 (0, 0))) := heap_alloc_last w5 (.cells #[.int .i64 0, .int .i64 0, .int .i64 0, .int .i64 0, .int .i64 0, .int .i64 0, .slice none 0 0] 29)
          have hG1 : wA.heap.size ≤ w5.heap.size := zc
          generalize (w5.alloc (.cells #[.int .i64 0, .int .i64 0, .int .i64 0, .int .i64 0, .int .i64 0, .int .i64 0, .slice none 0 0] 29)) = V at *
          have n0 : V.cell? ⟨w5.heap.size, 0, none⟩ = some (.int .i64 0) := (cell_of_heap HG.out).trans rfl
          have n1 : V.cell? ⟨w5.heap.size, 1, none⟩ = some (.int .i64 0) := (cell_of_heap HG.out).trans rfl
          have n2 : V.cell? ⟨w5.heap.size, 2, none⟩ = some (.int .i64 0) := (cell_of_heap HG.out).trans rfl
          have n3 : V.cell? ⟨w5.heap.size, 3, none⟩ = some (.int .i64 0) := (cell_of_heap HG.out).trans rfl
          have n4 : V.cell? ⟨w5.heap.size, 4, none⟩ = some (.int .i64 0) := (cell_of_heap HG.out).trans rfl
          have n5 : V.cell? ⟨w5.heap.size, 5, none⟩ = some (.int .i64 0) := (cell_of_heap HG.out).trans rfl
          have n6 : V.cell? ⟨w5.heap.size, 6, none⟩ = some (.slice none 0 0) := (cell_of_heap HG.out).trans rfl
          have nf : ∀ o, V.frozen? ⟨w5.heap.size, o, none⟩ = false := fun o => froz_of_heap HG.out
          refine wpAnyH_ready (rs := [6]) (by kernel_rfl) (by simp) ?_
          refine AllReadyH.cons rfl (fun K hK => ?_) AllReadyH.nil
          go_simp
          go_wp2_with fail
          refine hK.out _ _ ?_ (fun hHeld2 => ?_)
          · exact (by repeat (first | refine Below.setCell ?_ (by dsimp only; omega) _ | exact hHeld))
          clear hK K
          have zc := hHeld.size
          clear hHeld
          have hHeld := hHeld2
          clear hHeld2
          try simp only [Act.put, List.setIfInBounds_toArray, List.set_cons_zero, List.set_cons_succ]
          refine wpAnyH_done (by kernel_rfl) ?_ _
          exact ⟨rfl, w5.heap.size, su, sq, rfl, rfl, ⟨rfl, rfl⟩, rfl, hG1, set7_row HG.out, IntsAt.low (HROW.out.keep (agree_of_below (by repeat (first | refine Below.setCell ?_ (by dsimp only; omega) _ | exact bV.out)) _)) (by omega), hHeld⟩
        · go_simp
          go_wp2_with fail
          refine hK.out _ _ ?_ (fun hHeld2 => ?_)
          · exact hHeld.alloc hHeld.size _
          clear hK K
          have zc := hHeld.size
          clear hHeld
          have hHeld := hHeld2
          clear hHeld2
          try simp only [Act.put, List.setIfInBounds_toArray, List.set_cons_zero, List.set_cons_succ]
          have bV : Hid (Below w3.heap.size w3 (w3.alloc (.cells #[.int .i64 0, .int .i64 0, .int .i64 0, .int .i64 0, .int .i64 0, .int .i64 0, .slice none 0 0] 29))) := (Below.refl _ _).alloc (Nat.le_refl _) _
          have HG : Hid ((w3.alloc (.cells #[.int .i64 0, .int .i64 0, .int .i64 0, .int .i64 0, .int .i64 0, .int .i64 0, .slice none 0 0] 29)).heap[w3.heap.size]? = some (.cells #[.int .i64 0, .int .i64 0, .int .i64 0, .int .i64 0, .int .i64 0, .int .i64 0, .slice none 0 0] 29 (0, 0))) := heap_alloc_last w3 (.cells #[.int .i64 0, .int .i64 0, .int .i64 0, .int .i64 0, .int .i64 0, .int .i64 0, .slice none 0 0] 29)
          have N0x : Hid (IntsAt (w3.alloc (.cells #[.int .i64 0, .int .i64 0, .int .i64 0, .int .i64 0, .int .i64 0, .int .i64 0, .slice none 0 0] 29)) wA.heap.size v0 d.params) := N0.out.keep (agree_of_below bV.out _)
          clear N0
          have N0 := N0x
          clear N0x
          have N2x : Hid (BlocksAt (w3.alloc (.cells #[.int .i64 0, .int .i64 0, .int .i64 0, .int .i64 0, .int .i64 0, .int .i64 0, .slice none 0 0] 29)) wA.heap.size v2 d.blocks) := N2.out.keep (agree_of_below bV.out _)
          clear N2
          have N2 := N2x
          clear N2x
          have M0x : Hid (IntsAt (w3.alloc (.cells #[.int .i64 0, .int .i64 0, .int .i64 0, .int .i64 0, .int .i64 0, .int .i64 0, .slice none 0 0] 29)) wA.heap.size va i.args) := M0.out.keep (agree_of_below bV.out _)
          clear M0
          have M0 := M0x
          clear M0x
          have hG1 : wA.heap.size ≤ w3.heap.size := zc
          generalize (w3.alloc (.cells #[.int .i64 0, .int .i64 0, .int .i64 0, .int .i64 0, .int .i64 0, .int .i64 0, .slice none 0 0] 29)) = V at *
          clear bV
          refine wpAnyH_ready (rs := [4]) (by kernel_rfl) (by simp) ?_
          refine AllReadyH.cons rfl (fun K hK => ?_) AllReadyH.nil
          go_simp
          go_wp2_with (go_at_call 12; refine (FS wA.heap.size v0 q0 v2 q2 va qv V N0.out N2.out M0.out).mono ?_; rintro e w5 ⟨hg5, b5⟩; obtain ⟨su, sq, rfl, hrow⟩ := hg5)
          refine hK.out _ _ ?_ (fun hHeld2 => ?_)
          · exact hHeld.trans (b5.mono hHeld.size)
          clear hK K
          have zc := hHeld.size
          clear hHeld
          have hHeld := hHeld2
          clear hHeld2
          try simp only [Act.put, List.setIfInBounds_toArray, List.set_cons_zero, List.set_cons_succ]
          have HROW : Hid (IntsAt w5 V.heap.size su g.args) := hrow
          have zF := zc
          clear hrow zc
          have hGc : w3.heap.size < V.heap.size := (Array.getElem?_eq_some_iff.1 HG.out).1
          have HGx : Hid (w5.heap[w3.heap.size]? = some (.cells #[.int .i64 0, .int .i64 0, .int .i64 0, .int .i64 0, .int .i64 0, .int .i64 0, .slice none 0 0] 29 (0, 0))) := (b5.block _ (Array.getElem?_eq_some_iff.1 HG.out).1).trans HG.out
          clear HG
          have HG := HGx
          clear HGx
          clear b5 N0 N2 M0
          have n0 : w5.cell? ⟨w3.heap.size, 0, none⟩ = some (.int .i64 0) := (cell_of_heap HG.out).trans rfl
          have n1 : w5.cell? ⟨w3.heap.size, 1, none⟩ = some (.int .i64 0) := (cell_of_heap HG.out).trans rfl
          have n2 : w5.cell? ⟨w3.heap.size, 2, none⟩ = some (.int .i64 0) := (cell_of_heap HG.out).trans rfl
          have n3 : w5.cell? ⟨w3.heap.size, 3, none⟩ = some (.int .i64 0) := (cell_of_heap HG.out).trans rfl
          have n4 : w5.cell? ⟨w3.heap.size, 4, none⟩ = some (.int .i64 0) := (cell_of_heap HG.out).trans rfl
          have n5 : w5.cell? ⟨w3.heap.size, 5, none⟩ = some (.int .i64 0) := (cell_of_heap HG.out).trans rfl
          have n6 : w5.cell? ⟨w3.heap.size, 6, none⟩ = some (.slice none 0 0) := (cell_of_heap HG.out).trans rfl
          have nf : ∀ o, w5.frozen? ⟨w3.heap.size, o, none⟩ = false := fun o => froz_of_heap HG.out
          refine wpAnyH_ready (rs := [6]) (by kernel_rfl) (by simp) ?_
          refine AllReadyH.cons rfl (fun K hK => ?_) AllReadyH.nil
          go_simp
          go_wp2_with fail
          refine hK.out _ _ ?_ (fun hHeld2 => ?_)
          · exact (by repeat (first | refine Below.setCell ?_ (by dsimp only; omega) _ | exact hHeld))
          clear hK K
          have zc := hHeld.size
          clear hHeld
          have hHeld := hHeld2
          clear hHeld2
          try simp only [Act.put, List.setIfInBounds_toArray, List.set_cons_zero, List.set_cons_succ]
          refine wpAnyH_done (by kernel_rfl) ?_ _
          exact ⟨rfl, w3.heap.size, su, sq, rfl, rfl, ⟨rfl, rfl⟩, rfl, hG1, set7_row HG.out, IntsAt.low (HROW.out.keep (by repeat (first | refine Agree.trans ?_ (agree_setCell _ _ _ _ _ (by omega)) | exact Agree.refl _ _))) (by omega), hHeld⟩
      · go_simp
        go_wp2_with fail
        refine hK.out _ _ ?_ (fun hHeld2 => ?_)
        · exact hHeld.alloc hHeld.size _
        clear hK K
        have zc := hHeld.size
        clear hHeld
        have hHeld := hHeld2
        clear hHeld2
        try simp only [Act.put, List.setIfInBounds_toArray, List.set_cons_zero, List.set_cons_succ]
        have bV : Hid (Below w2.heap.size w2 (w2.alloc (.cells #[.int .i64 0, .int .i64 0, .int .i64 0, .int .i64 0, .int .i64 0, .int .i64 0, .slice none 0 0] 29))) := (Below.refl _ _).alloc (Nat.le_refl _) _
        have HG : Hid ((w2.alloc (.cells #[.int .i64 0, .int .i64 0, .int .i64 0, .int .i64 0, .int .i64 0, .int .i64 0, .slice none 0 0] 29)).heap[w2.heap.size]? = some (.cells #[.int .i64 0, .int .i64 0, .int .i64 0, .int .i64 0, .int .i64 0, .int .i64 0, .slice none 0 0] 29 (0, 0))) := heap_alloc_last w2 (.cells #[.int .i64 0, .int .i64 0, .int .i64 0, .int .i64 0, .int .i64 0, .int .i64 0, .slice none 0 0] 29)
        have N0x : Hid (IntsAt (w2.alloc (.cells #[.int .i64 0, .int .i64 0, .int .i64 0, .int .i64 0, .int .i64 0, .int .i64 0, .slice none 0 0] 29)) wA.heap.size v0 d.params) := N0.out.keep (agree_of_below bV.out _)
        clear N0
        have N0 := N0x
        clear N0x
        have N2x : Hid (BlocksAt (w2.alloc (.cells #[.int .i64 0, .int .i64 0, .int .i64 0, .int .i64 0, .int .i64 0, .int .i64 0, .slice none 0 0] 29)) wA.heap.size v2 d.blocks) := N2.out.keep (agree_of_below bV.out _)
        clear N2
        have N2 := N2x
        clear N2x
        have hG1 : wA.heap.size ≤ w2.heap.size := zc
        generalize (w2.alloc (.cells #[.int .i64 0, .int .i64 0, .int .i64 0, .int .i64 0, .int .i64 0, .int .i64 0, .slice none 0 0] 29)) = V at *
        clear bV
        refine wpAnyH_ready (rs := [3]) (by kernel_rfl) (by simp) ?_
        refine AllReadyH.cons rfl (fun K hK => ?_) AllReadyH.nil
        go_simp
        go_wp2_with (go_at_call 16; refine (TIn V hHeld).mono ?_; rintro e w3 ⟨va, qv, rfl, m0, b3⟩)
        refine hK.out _ _ ?_ (fun hHeld2 => ?_)
        · exact hHeld.trans (b3.mono hHeld.size)
        clear hK K
        have zc := hHeld.size
        clear hHeld
        have hHeld := hHeld2
        clear hHeld2
        try simp only [Act.put, List.setIfInBounds_toArray, List.set_cons_zero, List.set_cons_succ]
        have N0x : Hid (IntsAt w3 wA.heap.size v0 d.params) := N0.out.keep (agree_of_below b3 _)
        clear N0
        have N0 := N0x
        clear N0x
        have N2x : Hid (BlocksAt w3 wA.heap.size v2 d.blocks) := N2.out.keep (agree_of_below b3 _)
        clear N2
        have N2 := N2x
        clear N2x
        have M0 : Hid (IntsAt w3 wA.heap.size va i.args) := m0.low zc
        clear m0
        have HGx : Hid (w3.heap[w2.heap.size]? = some (.cells #[.int .i64 0, .int .i64 0, .int .i64 0, .int .i64 0, .int .i64 0, .int .i64 0, .slice none 0 0] 29 (0, 0))) := (b3.block _ (Array.getElem?_eq_some_iff.1 HG.out).1).trans HG.out
        clear HG
        have HG := HGx
        clear HGx
        clear b3 zc
        refine wpAnyH_ready (rs := [4]) (by kernel_rfl) (by simp) ?_
        refine AllReadyH.cons rfl (fun K hK => ?_) AllReadyH.nil
        go_simp
        go_wp2_with (go_at_call 12; refine (FS wA.heap.size v0 q0 v2 q2 va qv w3 N0.out N2.out M0.out).mono ?_; rintro e w5 ⟨hg5, b5⟩; obtain ⟨su, sq, rfl, hrow⟩ := hg5)
        refine hK.out _ _ ?_ (fun hHeld2 => ?_)
        · exact hHeld.trans (b5.mono hHeld.size)
        clear hK K
        have zc := hHeld.size
        clear hHeld
        have hHeld := hHeld2
        clear hHeld2
        try simp only [Act.put, List.setIfInBounds_toArray, List.set_cons_zero, List.set_cons_succ]
        have HROW : Hid (IntsAt w5 w3.heap.size su g.args) := hrow
        have zF := zc
        clear hrow zc
        have hGc : w2.heap.size < w3.heap.size := (Array.getElem?_eq_some_iff.1 HG.out).1
        have HGx : Hid (w5.heap[w2.heap.size]? = some (.cells #[.int .i64 0, .int .i64 0, .int .i64 0, .int .i64 0, .int .i64 0, .int .i64 0, .slice none 0 0] 29 (0, 0))) := (b5.block _ (Array.getElem?_eq_some_iff.1 HG.out).1).trans HG.out
        clear HG
        have HG := HGx
        clear HGx
        clear b5 N0 N2 M0
        have n0 : w5.cell? ⟨w2.heap.size, 0, none⟩ = some (.int .i64 0) := (cell_of_heap HG.out).trans rfl
        have n1 : w5.cell? ⟨w2.heap.size, 1, none⟩ = some (.int .i64 0) := (cell_of_heap HG.out).trans rfl
        have n2 : w5.cell? ⟨w2.heap.size, 2, none⟩ = some (.int .i64 0) := (cell_of_heap HG.out).trans rfl
        have n3 : w5.cell? ⟨w2.heap.size, 3, none⟩ = some (.int .i64 0) := (cell_of_heap HG.out).trans rfl
        have n4 : w5.cell? ⟨w2.heap.size, 4, none⟩ = some (.int .i64 0) := (cell_of_heap HG.out).trans rfl
        have n5 : w5.cell? ⟨w2.heap.size, 5, none⟩ = some (.int .i64 0) := (cell_of_heap HG.out).trans rfl
        have n6 : w5.cell? ⟨w2.heap.size, 6, none⟩ = some (.slice none 0 0) := (cell_of_heap HG.out).trans rfl
        have nf : ∀ o, w5.frozen? ⟨w2.heap.size, o, none⟩ = false := fun o => froz_of_heap HG.out
        refine wpAnyH_ready (rs := [6]) (by kernel_rfl) (by simp) ?_
        refine AllReadyH.cons rfl (fun K hK => ?_) AllReadyH.nil
        go_simp
        go_wp2_with fail
        refine hK.out _ _ ?_ (fun hHeld2 => ?_)
        · exact (by repeat (first | refine Below.setCell ?_ (by dsimp only; omega) _ | exact hHeld))
        clear hK K
        have zc := hHeld.size
        clear hHeld
        have hHeld := hHeld2
        clear hHeld2
        try simp only [Act.put, List.setIfInBounds_toArray, List.set_cons_zero, List.set_cons_succ]
        refine wpAnyH_done (by kernel_rfl) ?_ _
        exact ⟨rfl, w2.heap.size, su, sq, rfl, rfl, ⟨rfl, rfl⟩, rfl, hG1, set7_row HG.out, IntsAt.low (HROW.out.keep (by repeat (first | refine Agree.trans ?_ (agree_setCell _ _ _ _ _ (by omega)) | exact Agree.refl _ _))) (by omega), hHeld⟩
    · go_simp
      go_wp2_with fail
      refine hK.out _ _ ?_ (fun hHeld2 => ?_)
      · exact hHeld.alloc hHeld.size _
      clear hK K
      have zc := hHeld.size
      clear hHeld
      have hHeld := hHeld2
      clear hHeld2
      try simp only [Act.put, List.setIfInBounds_toArray, List.set_cons_zero, List.set_cons_succ]
      have bV : Hid (Below W0.heap.size W0 (W0.alloc (.cells #[.int .i64 0, .int .i64 0, .int .i64 0, .int .i64 0, .int .i64 0, .int .i64 0, .slice none 0 0] 29))) := (Below.refl _ _).alloc (Nat.le_refl _) _
      have HG : Hid ((W0.alloc (.cells #[.int .i64 0, .int .i64 0, .int .i64 0, .int .i64 0, .int .i64 0, .int .i64 0, .slice none 0 0] 29)).heap[W0.heap.size]? = some (.cells #[.int .i64 0, .int .i64 0, .int .i64 0, .int .i64 0, .int .i64 0, .int .i64 0, .slice none 0 0] 29 (0, 0))) := heap_alloc_last W0 (.cells #[.int .i64 0, .int .i64 0, .int .i64 0, .int .i64 0, .int .i64 0, .int .i64 0, .slice none 0 0] 29)
      have hG1 : wA.heap.size ≤ W0.heap.size := zc
      generalize (W0.alloc (.cells #[.int .i64 0, .int .i64 0, .int .i64 0, .int .i64 0, .int .i64 0, .int .i64 0, .slice none 0 0] 29)) = V at *
      clear bV
      refine wpAnyH_ready (rs := [1]) (by kernel_rfl) (by simp) ?_
      refine AllReadyH.cons rfl (fun K hK => ?_) AllReadyH.nil
      go_simp
      go_wp2_with (go_at_call 15; refine (TFu V hHeld).mono ?_; rintro e w2 ⟨v0, q0, v2, q2, rfl, n0, n2, b2⟩)
      refine hK.out _ _ ?_ (fun hHeld2 => ?_)
      · exact hHeld.trans (b2.mono hHeld.size)
      clear hK K
      have zc := hHeld.size
      clear hHeld
      have hHeld := hHeld2
      clear hHeld2
      try simp only [Act.put, List.setIfInBounds_toArray, List.set_cons_zero, List.set_cons_succ]
      have N0 : Hid (IntsAt w2 wA.heap.size v0 d.params) := n0.low zc
      have N2 : Hid (BlocksAt w2 wA.heap.size v2 d.blocks) := n2.low zc
      clear n0 n2
      have HGx : Hid (w2.heap[W0.heap.size]? = some (.cells #[.int .i64 0, .int .i64 0, .int .i64 0, .int .i64 0, .int .i64 0, .int .i64 0, .slice none 0 0] 29 (0, 0))) := (b2.block _ (Array.getElem?_eq_some_iff.1 HG.out).1).trans HG.out
      clear HG
      have HG := HGx
      clear HGx
      clear b2 zc
      refine wpAnyH_ready (rs := [3]) (by kernel_rfl) (by simp) ?_
      refine AllReadyH.cons rfl (fun K hK => ?_) AllReadyH.nil
      go_simp
      go_wp2_with (go_at_call 16; refine (TIn w2 hHeld).mono ?_; rintro e w3 ⟨va, qv, rfl, m0, b3⟩)
      refine hK.out _ _ ?_ (fun hHeld2 => ?_)
      · exact hHeld.trans (b3.mono hHeld.size)
      clear hK K
      have zc := hHeld.size
      clear hHeld
      have hHeld := hHeld2
      clear hHeld2
      try simp only [Act.put, List.setIfInBounds_toArray, List.set_cons_zero, List.set_cons_succ]
      have N0x : Hid (IntsAt w3 wA.heap.size v0 d.params) := N0.out.keep (agree_of_below b3 _)
      clear N0
      have N0 := N0x
      clear N0x
      have N2x : Hid (BlocksAt w3 wA.heap.size v2 d.blocks) := N2.out.keep (agree_of_below b3 _)
      clear N2
      have N2 := N2x
      clear N2x
      have M0 : Hid (IntsAt w3 wA.heap.size va i.args) := m0.low zc
      clear m0
      have HGx : Hid (w3.heap[W0.heap.size]? = some (.cells #[.int .i64 0, .int .i64 0, .int .i64 0, .int .i64 0, .int .i64 0, .int .i64 0, .slice none 0 0] 29 (0, 0))) := (b3.block _ (Array.getElem?_eq_some_iff.1 HG.out).1).trans HG.out
      clear HG
      have HG := HGx
      clear HGx
      clear b3 zc
      refine wpAnyH_ready (rs := [4]) (by kernel_rfl) (by simp) ?_
      refine AllReadyH.cons rfl (fun K hK => ?_) AllReadyH.nil
      go_simp
      go_wp2_with (go_at_call 12; refine (FS wA.heap.size v0 q0 v2 q2 va qv w3 N0.out N2.out M0.out).mono ?_; rintro e w5 ⟨hg5, b5⟩; obtain ⟨su, sq, rfl, hrow⟩ := hg5)
      refine hK.out _ _ ?_ (fun hHeld2 => ?_)
      · exact hHeld.trans (b5.mono hHeld.size)
      clear hK K
      have zc := hHeld.size
      clear hHeld
      have hHeld := hHeld2
      clear hHeld2
      try simp only [Act.put, List.setIfInBounds_toArray, List.set_cons_zero, List.set_cons_succ]
      have HROW : Hid (IntsAt w5 w3.heap.size su g.args) := hrow
      have zF := zc
      clear hrow zc
      have hGc : W0.heap.size < w3.heap.size := (Array.getElem?_eq_some_iff.1 HG.out).1
      have HGx : Hid (w5.heap[W0.heap.size]? = some (.cells #[.int .i64 0, .int .i64 0, .int .i64 0, .int .i64 0, .int .i64 0, .int .i64 0, .slice none 0 0] 29 (0, 0))) := (b5.block _ (Array.getElem?_eq_some_iff.1 HG.out).1).trans HG.out
      clear HG
      have HG := HGx
      clear HGx
      clear b5 N0 N2 M0
      have n0 : w5.cell? ⟨W0.heap.size, 0, none⟩ = some (.int .i64 0) := (cell_of_heap HG.out).trans rfl
      have n1 : w5.cell? ⟨W0.heap.size, 1, none⟩ = some (.int .i64 0) := (cell_of_heap HG.out).trans rfl
      have n2 : w5.cell? ⟨W0.heap.size, 2, none⟩ = some (.int .i64 0) := (cell_of_heap HG.out).trans rfl
      have n3 : w5.cell? ⟨W0.heap.size, 3, none⟩ = some (.int .i64 0) := (cell_of_heap HG.out).trans rfl
      have n4 : w5.cell? ⟨W0.heap.size, 4, none⟩ = some (.int .i64 0) := (cell_of_heap HG.out).trans rfl
      have n5 : w5.cell? ⟨W0.heap.size, 5, none⟩ = some (.int .i64 0) := (cell_of_heap HG.out).trans rfl
      have n6 : w5.cell? ⟨W0.heap.size, 6, none⟩ = some (.slice none 0 0) := (cell_of_heap HG.out).trans rfl
      have nf : ∀ o, w5.frozen? ⟨W0.heap.size, o, none⟩ = false := fun o => froz_of_heap HG.out
      refine wpAnyH_ready (rs := [6]) (by kernel_rfl) (by simp) ?_
      refine AllReadyH.cons rfl (fun K hK => ?_) AllReadyH.nil
      go_simp
      go_wp2_with fail
      refine hK.out _ _ ?_ (fun hHeld2 => ?_)
      · exact (by repeat (first | refine Below.setCell ?_ (by dsimp only; omega) _ | exact hHeld))
      clear hK K
      have zc := hHeld.size
      clear hHeld
      have hHeld := hHeld2
      clear hHeld2
      try simp only [Act.put, List.setIfInBounds_toArray, List.set_cons_zero, List.set_cons_succ]
      refine wpAnyH_done (by kernel_rfl) ?_ _
      exact ⟨rfl, W0.heap.size, su, sq, rfl, rfl, ⟨rfl, rfl⟩, rfl, hG1, set7_row HG.out, IntsAt.low (HROW.out.keep (by repeat (first | refine Agree.trans ?_ (agree_setCell _ _ _ _ _ (by omega)) | exact Agree.refl _ _))) (by omega), hHeld⟩
  clear TFu TIn
  rintro e a' W8 ⟨rfl, P, su, sq, fd, fz, ⟨t2, t3⟩, t6, hP, atP, rowP, bW⟩
  obtain ⟨t, df⟩ := a'
  dsimp only at fd fz t2 t3 t6
  subst fd
  obtain ⟨f, rfl⟩ := frame92_f t fz
  clear fz
  change f 2 = _ at t2
  change f 3 = _ at t3
  change f 6 = _ at t6
  rw [t2, t3, t6]
  clear t2 t3 t6
  have zW8 : wA.heap.size ≤ W8.heap.size := bW.size
  have hA' : Hid (BxA d i u0 c0 u2 c2 ua qa w W8) := hA.out.keep bW
  clear hA
  have hA := hA'
  clear hA'
  clear bW
  have XP : Hid (At W8 P #[.int .i64 g.op, .int .i64 g.w, .int .i64 g.a, .int .i64 g.b, .int .i64 g.c, .int .i64 g.imm, .slice su g.args.length sq] 29) := atP
  clear atP
  have zP : P < W8.heap.size := XP.out.lt
  have aP : Hid (Agree wA.heap.size W8 W8) := Agree.refl _ _
  have ROWP : Hid (IntsAt W8 wA.heap.size su g.args) := rowP
  clear rowP
  have x0 : W8.cell? ⟨w.heap.size, 0, none⟩ = some (.slice u0 d.params.length c0) := hA.out.f.cell 0
  have x1 : W8.cell? ⟨w.heap.size, 1, none⟩ = some (.int .i64 d.ret) := hA.out.f.cell 1
  have x2 : W8.cell? ⟨w.heap.size, 2, none⟩ = some (.slice u2 d.blocks.length c2) := hA.out.f.cell 2
  go_wp2_with fail
  refine (toFunc_own lo d _ _ _ _ _ HS.out (k0.keep (agree_of_below hA.out.below lo)) (k2.keep (agree_of_below hA.out.below lo))).mono ?_
  rintro e w9 ⟨m0, p0, m2, p2, rfl, j0, j2, b9⟩
  clear x0 x1 x2
  have zw9 : W8.heap.size ≤ w9.heap.size := b9.size
  have hA' : Hid (BxA d i u0 c0 u2 c2 ua qa w w9) := hA.out.keep b9
  clear hA
  have hA := hA'
  clear hA'
  have XP' : Hid (At w9 P #[.int .i64 g.op, .int .i64 g.w, .int .i64 g.a, .int .i64 g.b, .int .i64 g.c, .int .i64 g.imm, .slice su g.args.length sq] 29) := XP.out.below b9
  clear XP
  have XP := XP'
  clear XP'
  have aP' : Hid (Agree wA.heap.size W8 w9) := agree_below aP.out b9
  clear aP
  have aP := aP'
  clear aP'
  clear b9
  have J0 : Hid (OI w9 W8.heap.size m0 d.params) := j0
  have J2 : Hid (OB w9 W8.heap.size m2 d.blocks) := j2
  have sh0 : Hid (SI w9 W8.heap.size w9.heap.size m0 d.params.length) := j0.sh
  have sh2 : Hid (SB w9 W8.heap.size w9.heap.size m2 d.blocks) := j2.sh
  clear j0 j2
  have bA : Below w9.heap.size w9 (w9.alloc (.cells #[.slice m0 d.params.length p0, .int .i64 d.ret, .slice m2 d.blocks.length p2] 27)) := (Below.refl _ _).alloc (Nat.le_refl _) _
  have ew9b : (w9.alloc (.cells #[.slice m0 d.params.length p0, .int .i64 d.ret, .slice m2 d.blocks.length p2] 27)).heap.size = w9.heap.size + 1 := by simp
  have hA' : Hid (BxA d i u0 c0 u2 c2 ua qa w (w9.alloc (.cells #[.slice m0 d.params.length p0, .int .i64 d.ret, .slice m2 d.blocks.length p2] 27))) := hA.out.keep bA
  clear hA
  have hA := hA'
  clear hA'
  have XP' : Hid (At (w9.alloc (.cells #[.slice m0 d.params.length p0, .int .i64 d.ret, .slice m2 d.blocks.length p2] 27)) P #[.int .i64 g.op, .int .i64 g.w, .int .i64 g.a, .int .i64 g.b, .int .i64 g.c, .int .i64 g.imm, .slice su g.args.length sq] 29) := XP.out.below bA
  clear XP
  have XP := XP'
  clear XP'
  have aP' : Hid (Agree wA.heap.size W8 (w9.alloc (.cells #[.slice m0 d.params.length p0, .int .i64 d.ret, .slice m2 d.blocks.length p2] 27))) := agree_below aP.out bA
  clear aP
  have aP := aP'
  clear aP'
  have J0' : Hid (OI (w9.alloc (.cells #[.slice m0 d.params.length p0, .int .i64 d.ret, .slice m2 d.blocks.length p2] 27)) W8.heap.size m0 d.params) := J0.out.keep (agree_of_below bA _)
  clear J0
  have J0 := J0'
  clear J0'
  have J2' : Hid (OB (w9.alloc (.cells #[.slice m0 d.params.length p0, .int .i64 d.ret, .slice m2 d.blocks.length p2] 27)) W8.heap.size m2 d.blocks) := J2.out.keep (agree_of_below bA _)
  clear J2
  have J2 := J2'
  clear J2'
  have sh0' : Hid (SI (w9.alloc (.cells #[.slice m0 d.params.length p0, .int .i64 d.ret, .slice m2 d.blocks.length p2] 27)) W8.heap.size w9.heap.size m0 d.params.length) := sh0.out.keep (hdr_below bA)
  clear sh0
  have sh0 := sh0'
  clear sh0'
  have sh2' : Hid (SB (w9.alloc (.cells #[.slice m0 d.params.length p0, .int .i64 d.ret, .slice m2 d.blocks.length p2] 27)) W8.heap.size w9.heap.size m2 d.blocks) := sh2.out.keep (hdr_below bA)
  clear sh2
  have sh2 := sh2'
  clear sh2'
  clear bA
  have X0 : Hid (At (w9.alloc (.cells #[.slice m0 d.params.length p0, .int .i64 d.ret, .slice m2 d.blocks.length p2] 27)) w9.heap.size #[.slice m0 d.params.length p0, .int .i64 d.ret, .slice m2 d.blocks.length p2] 27) := At.new _ _ _
  have y0 : (w9.alloc (.cells #[.slice m0 d.params.length p0, .int .i64 d.ret, .slice m2 d.blocks.length p2] 27)).cell? ⟨w.heap.size + 1, 0, none⟩ = some (.int .i64 i.op) := hA.out.i.cell 0
  have y1 : (w9.alloc (.cells #[.slice m0 d.params.length p0, .int .i64 d.ret, .slice m2 d.blocks.length p2] 27)).cell? ⟨w.heap.size + 1, 1, none⟩ = some (.int .i64 i.w) := hA.out.i.cell 1
  have y2 : (w9.alloc (.cells #[.slice m0 d.params.length p0, .int .i64 d.ret, .slice m2 d.blocks.length p2] 27)).cell? ⟨w.heap.size + 1, 2, none⟩ = some (.int .i64 i.a) := hA.out.i.cell 2
  have y3 : (w9.alloc (.cells #[.slice m0 d.params.length p0, .int .i64 d.ret, .slice m2 d.blocks.length p2] 27)).cell? ⟨w.heap.size + 1, 3, none⟩ = some (.int .i64 i.b) := hA.out.i.cell 3
  have y4 : (w9.alloc (.cells #[.slice m0 d.params.length p0, .int .i64 d.ret, .slice m2 d.blocks.length p2] 27)).cell? ⟨w.heap.size + 1, 4, none⟩ = some (.int .i64 i.c) := hA.out.i.cell 4
  have y5 : (w9.alloc (.cells #[.slice m0 d.params.length p0, .int .i64 d.ret, .slice m2 d.blocks.length p2] 27)).cell? ⟨w.heap.size + 1, 5, none⟩ = some (.int .i64 i.imm) := hA.out.i.cell 5
  have y6 : (w9.alloc (.cells #[.slice m0 d.params.length p0, .int .i64 d.ret, .slice m2 d.blocks.length p2] 27)).cell? ⟨w.heap.size + 1, 6, none⟩ = some (.slice ua i.args.length qa) := hA.out.i.cell 6
  go_wp2_with fail
  generalize (w9.alloc (.cells #[.slice m0 d.params.length p0, .int .i64 d.ret, .slice m2 d.blocks.length p2] 27)) = w9b at *
  clear y0 y1 y2 y3 y4 y5 y6
  refine (toInst_own lo i _ _ _ HM.out (ku.keep (agree_of_below hA.out.below lo))).mono ?_
  rintro e w10 ⟨ma, pa, rfl, ja, b10⟩
  have zw10 : w9b.heap.size ≤ w10.heap.size := b10.size
  have hA' : Hid (BxA d i u0 c0 u2 c2 ua qa w w10) := hA.out.keep b10
  clear hA
  have hA := hA'
  clear hA'
  have XP' : Hid (At w10 P #[.int .i64 g.op, .int .i64 g.w, .int .i64 g.a, .int .i64 g.b, .int .i64 g.c, .int .i64 g.imm, .slice su g.args.length sq] 29) := XP.out.below b10
  clear XP
  have XP := XP'
  clear XP'
  have aP' : Hid (Agree wA.heap.size W8 w10) := agree_below aP.out b10
  clear aP
  have aP := aP'
  clear aP'
  have J0' : Hid (OI w10 W8.heap.size m0 d.params) := J0.out.keep (agree_of_below b10 _)
  clear J0
  have J0 := J0'
  clear J0'
  have J2' : Hid (OB w10 W8.heap.size m2 d.blocks) := J2.out.keep (agree_of_below b10 _)
  clear J2
  have J2 := J2'
  clear J2'
  have sh0' : Hid (SI w10 W8.heap.size w9.heap.size m0 d.params.length) := sh0.out.keep (hdr_below b10)
  clear sh0
  have sh0 := sh0'
  clear sh0'
  have sh2' : Hid (SB w10 W8.heap.size w9.heap.size m2 d.blocks) := sh2.out.keep (hdr_below b10)
  clear sh2
  have sh2 := sh2'
  clear sh2'
  have X0' : Hid (At w10 w9.heap.size #[.slice m0 d.params.length p0, .int .i64 d.ret, .slice m2 d.blocks.length p2] 27) := X0.out.below b10
  clear X0
  have X0 := X0'
  clear X0'
  clear b10
  have JA : Hid (OI w10 w9b.heap.size ma i.args) := ja
  have sha : Hid (SI w10 w9b.heap.size w10.heap.size ma i.args.length) := ja.sh
  clear ja
  have bA : Below w10.heap.size w10 (w10.alloc (.cells #[.int .i64 i.op, .int .i64 i.w, .int .i64 i.a, .int .i64 i.b, .int .i64 i.c, .int .i64 i.imm, .slice ma i.args.length pa] 29)) := (Below.refl _ _).alloc (Nat.le_refl _) _
  have ew10b : (w10.alloc (.cells #[.int .i64 i.op, .int .i64 i.w, .int .i64 i.a, .int .i64 i.b, .int .i64 i.c, .int .i64 i.imm, .slice ma i.args.length pa] 29)).heap.size = w10.heap.size + 1 := by simp
  have hA' : Hid (BxA d i u0 c0 u2 c2 ua qa w (w10.alloc (.cells #[.int .i64 i.op, .int .i64 i.w, .int .i64 i.a, .int .i64 i.b, .int .i64 i.c, .int .i64 i.imm, .slice ma i.args.length pa] 29))) := hA.out.keep bA
  clear hA
  have hA := hA'
  clear hA'
  have XP' : Hid (At (w10.alloc (.cells #[.int .i64 i.op, .int .i64 i.w, .int .i64 i.a, .int .i64 i.b, .int .i64 i.c, .int .i64 i.imm, .slice ma i.args.length pa] 29)) P #[.int .i64 g.op, .int .i64 g.w, .int .i64 g.a, .int .i64 g.b, .int .i64 g.c, .int .i64 g.imm, .slice su g.args.length sq] 29) := XP.out.below bA
  clear XP
  have XP := XP'
  clear XP'
  have aP' : Hid (Agree wA.heap.size W8 (w10.alloc (.cells #[.int .i64 i.op, .int .i64 i.w, .int .i64 i.a, .int .i64 i.b, .int .i64 i.c, .int .i64 i.imm, .slice ma i.args.length pa] 29))) := agree_below aP.out bA
  clear aP
  have aP := aP'
  clear aP'
  have J0' : Hid (OI (w10.alloc (.cells #[.int .i64 i.op, .int .i64 i.w, .int .i64 i.a, .int .i64 i.b, .int .i64 i.c, .int .i64 i.imm, .slice ma i.args.length pa] 29)) W8.heap.size m0 d.params) := J0.out.keep (agree_of_below bA _)
  clear J0
  have J0 := J0'
  clear J0'
  have J2' : Hid (OB (w10.alloc (.cells #[.int .i64 i.op, .int .i64 i.w, .int .i64 i.a, .int .i64 i.b, .int .i64 i.c, .int .i64 i.imm, .slice ma i.args.length pa] 29)) W8.heap.size m2 d.blocks) := J2.out.keep (agree_of_below bA _)
  clear J2
  have J2 := J2'
  clear J2'
  have sh0' : Hid (SI (w10.alloc (.cells #[.int .i64 i.op, .int .i64 i.w, .int .i64 i.a, .int .i64 i.b, .int .i64 i.c, .int .i64 i.imm, .slice ma i.args.length pa] 29)) W8.heap.size w9.heap.size m0 d.params.length) := sh0.out.keep (hdr_below bA)
  clear sh0
  have sh0 := sh0'
  clear sh0'
  have sh2' : Hid (SB (w10.alloc (.cells #[.int .i64 i.op, .int .i64 i.w, .int .i64 i.a, .int .i64 i.b, .int .i64 i.c, .int .i64 i.imm, .slice ma i.args.length pa] 29)) W8.heap.size w9.heap.size m2 d.blocks) := sh2.out.keep (hdr_below bA)
  clear sh2
  have sh2 := sh2'
  clear sh2'
  have X0' : Hid (At (w10.alloc (.cells #[.int .i64 i.op, .int .i64 i.w, .int .i64 i.a, .int .i64 i.b, .int .i64 i.c, .int .i64 i.imm, .slice ma i.args.length pa] 29)) w9.heap.size #[.slice m0 d.params.length p0, .int .i64 d.ret, .slice m2 d.blocks.length p2] 27) := X0.out.below bA
  clear X0
  have X0 := X0'
  clear X0'
  have JA' : Hid (OI (w10.alloc (.cells #[.int .i64 i.op, .int .i64 i.w, .int .i64 i.a, .int .i64 i.b, .int .i64 i.c, .int .i64 i.imm, .slice ma i.args.length pa] 29)) w9b.heap.size ma i.args) := JA.out.keep (agree_of_below bA _)
  clear JA
  have JA := JA'
  clear JA'
  have sha' : Hid (SI (w10.alloc (.cells #[.int .i64 i.op, .int .i64 i.w, .int .i64 i.a, .int .i64 i.b, .int .i64 i.c, .int .i64 i.imm, .slice ma i.args.length pa] 29)) w9b.heap.size w10.heap.size ma i.args.length) := sha.out.keep (hdr_below bA)
  clear sha
  have sha := sha'
  clear sha'
  clear bA
  have X1 : Hid (At (w10.alloc (.cells #[.int .i64 i.op, .int .i64 i.w, .int .i64 i.a, .int .i64 i.b, .int .i64 i.c, .int .i64 i.imm, .slice ma i.args.length pa] 29)) w10.heap.size #[.int .i64 i.op, .int .i64 i.w, .int .i64 i.a, .int .i64 i.b, .int .i64 i.c, .int .i64 i.imm, .slice ma i.args.length pa] 29) := At.new _ _ _
  have x0 : (w10.alloc (.cells #[.int .i64 i.op, .int .i64 i.w, .int .i64 i.a, .int .i64 i.b, .int .i64 i.c, .int .i64 i.imm, .slice ma i.args.length pa] 29)).cell? ⟨w9.heap.size, 0, none⟩ = some (.slice m0 d.params.length p0) := X0.out.cell 0
  have x1 : (w10.alloc (.cells #[.int .i64 i.op, .int .i64 i.w, .int .i64 i.a, .int .i64 i.b, .int .i64 i.c, .int .i64 i.imm, .slice ma i.args.length pa] 29)).cell? ⟨w9.heap.size, 1, none⟩ = some (.int .i64 d.ret) := X0.out.cell 1
  have x2 : (w10.alloc (.cells #[.int .i64 i.op, .int .i64 i.w, .int .i64 i.a, .int .i64 i.b, .int .i64 i.c, .int .i64 i.imm, .slice ma i.args.length pa] 29)).cell? ⟨w9.heap.size, 2, none⟩ = some (.slice m2 d.blocks.length p2) := X0.out.cell 2
  have y0 : (w10.alloc (.cells #[.int .i64 i.op, .int .i64 i.w, .int .i64 i.a, .int .i64 i.b, .int .i64 i.c, .int .i64 i.imm, .slice ma i.args.length pa] 29)).cell? ⟨w10.heap.size, 0, none⟩ = some (.int .i64 i.op) := X1.out.cell 0
  have y1 : (w10.alloc (.cells #[.int .i64 i.op, .int .i64 i.w, .int .i64 i.a, .int .i64 i.b, .int .i64 i.c, .int .i64 i.imm, .slice ma i.args.length pa] 29)).cell? ⟨w10.heap.size, 1, none⟩ = some (.int .i64 i.w) := X1.out.cell 1
  have y2 : (w10.alloc (.cells #[.int .i64 i.op, .int .i64 i.w, .int .i64 i.a, .int .i64 i.b, .int .i64 i.c, .int .i64 i.imm, .slice ma i.args.length pa] 29)).cell? ⟨w10.heap.size, 2, none⟩ = some (.int .i64 i.a) := X1.out.cell 2
  have y3 : (w10.alloc (.cells #[.int .i64 i.op, .int .i64 i.w, .int .i64 i.a, .int .i64 i.b, .int .i64 i.c, .int .i64 i.imm, .slice ma i.args.length pa] 29)).cell? ⟨w10.heap.size, 3, none⟩ = some (.int .i64 i.b) := X1.out.cell 3
  have y4 : (w10.alloc (.cells #[.int .i64 i.op, .int .i64 i.w, .int .i64 i.a, .int .i64 i.b, .int .i64 i.c, .int .i64 i.imm, .slice ma i.args.length pa] 29)).cell? ⟨w10.heap.size, 4, none⟩ = some (.int .i64 i.c) := X1.out.cell 4
  have y5 : (w10.alloc (.cells #[.int .i64 i.op, .int .i64 i.w, .int .i64 i.a, .int .i64 i.b, .int .i64 i.c, .int .i64 i.imm, .slice ma i.args.length pa] 29)).cell? ⟨w10.heap.size, 5, none⟩ = some (.int .i64 i.imm) := X1.out.cell 5
  have y6 : (w10.alloc (.cells #[.int .i64 i.op, .int .i64 i.w, .int .i64 i.a, .int .i64 i.b, .int .i64 i.c, .int .i64 i.imm, .slice ma i.args.length pa] 29)).cell? ⟨w10.heap.size, 6, none⟩ = some (.slice ma i.args.length pa) := X1.out.cell 6
  go_wp2_with fail
  generalize (w10.alloc (.cells #[.int .i64 i.op, .int .i64 i.w, .int .i64 i.a, .int .i64 i.b, .int .i64 i.c, .int .i64 i.imm, .slice ma i.args.length pa] 29)) = w10b at *
  clear x0 x1 x2
  clear y0 y1 y2 y3 y4 y5 y6
  refine (FN W8.heap.size m0 p0 m2 p2 ma pa _ J0.out.at J2.out.at (JA.out.at.low (by omega))).mono ?_
  rintro e w11 ⟨hn, b11⟩
  obtain ⟨gu, gq, rfl, og⟩ := new_own hgl.out hn
  clear hn
  have zw11 : w10b.heap.size ≤ w11.heap.size := b11.size
  have hA' : Hid (BxA d i u0 c0 u2 c2 ua qa w w11) := hA.out.keep b11
  clear hA
  have hA := hA'
  clear hA'
  have XP' : Hid (At w11 P #[.int .i64 g.op, .int .i64 g.w, .int .i64 g.a, .int .i64 g.b, .int .i64 g.c, .int .i64 g.imm, .slice su g.args.length sq] 29) := XP.out.below b11
  clear XP
  have XP := XP'
  clear XP'
  have aP' : Hid (Agree wA.heap.size W8 w11) := agree_below aP.out b11
  clear aP
  have aP := aP'
  clear aP'
  have J0' : Hid (OI w11 W8.heap.size m0 d.params) := J0.out.keep (agree_of_below b11 _)
  clear J0
  have J0 := J0'
  clear J0'
  have J2' : Hid (OB w11 W8.heap.size m2 d.blocks) := J2.out.keep (agree_of_below b11 _)
  clear J2
  have J2 := J2'
  clear J2'
  have sh0' : Hid (SI w11 W8.heap.size w9.heap.size m0 d.params.length) := sh0.out.keep (hdr_below b11)
  clear sh0
  have sh0 := sh0'
  clear sh0'
  have sh2' : Hid (SB w11 W8.heap.size w9.heap.size m2 d.blocks) := sh2.out.keep (hdr_below b11)
  clear sh2
  have sh2 := sh2'
  clear sh2'
  have X0' : Hid (At w11 w9.heap.size #[.slice m0 d.params.length p0, .int .i64 d.ret, .slice m2 d.blocks.length p2] 27) := X0.out.below b11
  clear X0
  have X0 := X0'
  clear X0'
  have JA' : Hid (OI w11 w9b.heap.size ma i.args) := JA.out.keep (agree_of_below b11 _)
  clear JA
  have JA := JA'
  clear JA'
  have sha' : Hid (SI w11 w9b.heap.size w10.heap.size ma i.args.length) := sha.out.keep (hdr_below b11)
  clear sha
  have sha := sha'
  clear sha'
  have X1' : Hid (At w11 w10.heap.size #[.int .i64 i.op, .int .i64 i.w, .int .i64 i.a, .int .i64 i.b, .int .i64 i.c, .int .i64 i.imm, .slice ma i.args.length pa] 29) := X1.out.below b11
  clear X1
  have X1 := X1'
  clear X1'
  clear b11
  have OG : Hid (OI w11 w10b.heap.size gu g.args) := og
  have shg : Hid (SI w11 w10b.heap.size w11.heap.size gu g.args.length) := og.sh
  clear og
  have bA : Below w11.heap.size w11 (w11.alloc (.cells #[.int .i64 g.op, .int .i64 g.w, .int .i64 g.a, .int .i64 g.b, .int .i64 g.c, .int .i64 g.imm, .slice gu g.args.length gq] 29)) := (Below.refl _ _).alloc (Nat.le_refl _) _
  have ew11b : (w11.alloc (.cells #[.int .i64 g.op, .int .i64 g.w, .int .i64 g.a, .int .i64 g.b, .int .i64 g.c, .int .i64 g.imm, .slice gu g.args.length gq] 29)).heap.size = w11.heap.size + 1 := by simp
  have hA' : Hid (BxA d i u0 c0 u2 c2 ua qa w (w11.alloc (.cells #[.int .i64 g.op, .int .i64 g.w, .int .i64 g.a, .int .i64 g.b, .int .i64 g.c, .int .i64 g.imm, .slice gu g.args.length gq] 29))) := hA.out.keep bA
  clear hA
  have hA := hA'
  clear hA'
  have XP' : Hid (At (w11.alloc (.cells #[.int .i64 g.op, .int .i64 g.w, .int .i64 g.a, .int .i64 g.b, .int .i64 g.c, .int .i64 g.imm, .slice gu g.args.length gq] 29)) P #[.int .i64 g.op, .int .i64 g.w, .int .i64 g.a, .int .i64 g.b, .int .i64 g.c, .int .i64 g.imm, .slice su g.args.length sq] 29) := XP.out.below bA
  clear XP
  have XP := XP'
  clear XP'
  have aP' : Hid (Agree wA.heap.size W8 (w11.alloc (.cells #[.int .i64 g.op, .int .i64 g.w, .int .i64 g.a, .int .i64 g.b, .int .i64 g.c, .int .i64 g.imm, .slice gu g.args.length gq] 29))) := agree_below aP.out bA
  clear aP
  have aP := aP'
  clear aP'
  have J0' : Hid (OI (w11.alloc (.cells #[.int .i64 g.op, .int .i64 g.w, .int .i64 g.a, .int .i64 g.b, .int .i64 g.c, .int .i64 g.imm, .slice gu g.args.length gq] 29)) W8.heap.size m0 d.params) := J0.out.keep (agree_of_below bA _)
  clear J0
  have J0 := J0'
  clear J0'
  have J2' : Hid (OB (w11.alloc (.cells #[.int .i64 g.op, .int .i64 g.w, .int .i64 g.a, .int .i64 g.b, .int .i64 g.c, .int .i64 g.imm, .slice gu g.args.length gq] 29)) W8.heap.size m2 d.blocks) := J2.out.keep (agree_of_below bA _)
  clear J2
  have J2 := J2'
  clear J2'
  have sh0' : Hid (SI (w11.alloc (.cells #[.int .i64 g.op, .int .i64 g.w, .int .i64 g.a, .int .i64 g.b, .int .i64 g.c, .int .i64 g.imm, .slice gu g.args.length gq] 29)) W8.heap.size w9.heap.size m0 d.params.length) := sh0.out.keep (hdr_below bA)
  clear sh0
  have sh0 := sh0'
  clear sh0'
  have sh2' : Hid (SB (w11.alloc (.cells #[.int .i64 g.op, .int .i64 g.w, .int .i64 g.a, .int .i64 g.b, .int .i64 g.c, .int .i64 g.imm, .slice gu g.args.length gq] 29)) W8.heap.size w9.heap.size m2 d.blocks) := sh2.out.keep (hdr_below bA)
  clear sh2
  have sh2 := sh2'
  clear sh2'
  have X0' : Hid (At (w11.alloc (.cells #[.int .i64 g.op, .int .i64 g.w, .int .i64 g.a, .int .i64 g.b, .int .i64 g.c, .int .i64 g.imm, .slice gu g.args.length gq] 29)) w9.heap.size #[.slice m0 d.params.length p0, .int .i64 d.ret, .slice m2 d.blocks.length p2] 27) := X0.out.below bA
  clear X0
  have X0 := X0'
  clear X0'
  have JA' : Hid (OI (w11.alloc (.cells #[.int .i64 g.op, .int .i64 g.w, .int .i64 g.a, .int .i64 g.b, .int .i64 g.c, .int .i64 g.imm, .slice gu g.args.length gq] 29)) w9b.heap.size ma i.args) := JA.out.keep (agree_of_below bA _)
  clear JA
  have JA := JA'
  clear JA'
  have sha' : Hid (SI (w11.alloc (.cells #[.int .i64 g.op, .int .i64 g.w, .int .i64 g.a, .int .i64 g.b, .int .i64 g.c, .int .i64 g.imm, .slice gu g.args.length gq] 29)) w9b.heap.size w10.heap.size ma i.args.length) := sha.out.keep (hdr_below bA)
  clear sha
  have sha := sha'
  clear sha'
  have X1' : Hid (At (w11.alloc (.cells #[.int .i64 g.op, .int .i64 g.w, .int .i64 g.a, .int .i64 g.b, .int .i64 g.c, .int .i64 g.imm, .slice gu g.args.length gq] 29)) w10.heap.size #[.int .i64 i.op, .int .i64 i.w, .int .i64 i.a, .int .i64 i.b, .int .i64 i.c, .int .i64 i.imm, .slice ma i.args.length pa] 29) := X1.out.below bA
  clear X1
  have X1 := X1'
  clear X1'
  have OG' : Hid (OI (w11.alloc (.cells #[.int .i64 g.op, .int .i64 g.w, .int .i64 g.a, .int .i64 g.b, .int .i64 g.c, .int .i64 g.imm, .slice gu g.args.length gq] 29)) w10b.heap.size gu g.args) := OG.out.keep (agree_of_below bA _)
  clear OG
  have OG := OG'
  clear OG'
  have shg' : Hid (SI (w11.alloc (.cells #[.int .i64 g.op, .int .i64 g.w, .int .i64 g.a, .int .i64 g.b, .int .i64 g.c, .int .i64 g.imm, .slice gu g.args.length gq] 29)) w10b.heap.size w11.heap.size gu g.args.length) := shg.out.keep (hdr_below bA)
  clear shg
  have shg := shg'
  clear shg'
  clear bA
  have XG : Hid (At (w11.alloc (.cells #[.int .i64 g.op, .int .i64 g.w, .int .i64 g.a, .int .i64 g.b, .int .i64 g.c, .int .i64 g.imm, .slice gu g.args.length gq] 29)) w11.heap.size #[.int .i64 g.op, .int .i64 g.w, .int .i64 g.a, .int .i64 g.b, .int .i64 g.c, .int .i64 g.imm, .slice gu g.args.length gq] 29) := At.new _ _ _
  have x0 : (w11.alloc (.cells #[.int .i64 g.op, .int .i64 g.w, .int .i64 g.a, .int .i64 g.b, .int .i64 g.c, .int .i64 g.imm, .slice gu g.args.length gq] 29)).cell? ⟨w11.heap.size, 0, none⟩ = some (.int .i64 g.op) := XG.out.cell 0
  have x1 : (w11.alloc (.cells #[.int .i64 g.op, .int .i64 g.w, .int .i64 g.a, .int .i64 g.b, .int .i64 g.c, .int .i64 g.imm, .slice gu g.args.length gq] 29)).cell? ⟨w11.heap.size, 1, none⟩ = some (.int .i64 g.w) := XG.out.cell 1
  have x2 : (w11.alloc (.cells #[.int .i64 g.op, .int .i64 g.w, .int .i64 g.a, .int .i64 g.b, .int .i64 g.c, .int .i64 g.imm, .slice gu g.args.length gq] 29)).cell? ⟨w11.heap.size, 2, none⟩ = some (.int .i64 g.a) := XG.out.cell 2
  have x3 : (w11.alloc (.cells #[.int .i64 g.op, .int .i64 g.w, .int .i64 g.a, .int .i64 g.b, .int .i64 g.c, .int .i64 g.imm, .slice gu g.args.length gq] 29)).cell? ⟨w11.heap.size, 3, none⟩ = some (.int .i64 g.b) := XG.out.cell 3
  have x4 : (w11.alloc (.cells #[.int .i64 g.op, .int .i64 g.w, .int .i64 g.a, .int .i64 g.b, .int .i64 g.c, .int .i64 g.imm, .slice gu g.args.length gq] 29)).cell? ⟨w11.heap.size, 4, none⟩ = some (.int .i64 g.c) := XG.out.cell 4
  have x5 : (w11.alloc (.cells #[.int .i64 g.op, .int .i64 g.w, .int .i64 g.a, .int .i64 g.b, .int .i64 g.c, .int .i64 g.imm, .slice gu g.args.length gq] 29)).cell? ⟨w11.heap.size, 5, none⟩ = some (.int .i64 g.imm) := XG.out.cell 5
  have x6 : (w11.alloc (.cells #[.int .i64 g.op, .int .i64 g.w, .int .i64 g.a, .int .i64 g.b, .int .i64 g.c, .int .i64 g.imm, .slice gu g.args.length gq] 29)).cell? ⟨w11.heap.size, 6, none⟩ = some (.slice gu g.args.length gq) := XG.out.cell 6
  have y0 : (w11.alloc (.cells #[.int .i64 g.op, .int .i64 g.w, .int .i64 g.a, .int .i64 g.b, .int .i64 g.c, .int .i64 g.imm, .slice gu g.args.length gq] 29)).cell? ⟨P, 0, none⟩ = some (.int .i64 g.op) := XP.out.cell 0
  have y1 : (w11.alloc (.cells #[.int .i64 g.op, .int .i64 g.w, .int .i64 g.a, .int .i64 g.b, .int .i64 g.c, .int .i64 g.imm, .slice gu g.args.length gq] 29)).cell? ⟨P, 1, none⟩ = some (.int .i64 g.w) := XP.out.cell 1
  have y2 : (w11.alloc (.cells #[.int .i64 g.op, .int .i64 g.w, .int .i64 g.a, .int .i64 g.b, .int .i64 g.c, .int .i64 g.imm, .slice gu g.args.length gq] 29)).cell? ⟨P, 2, none⟩ = some (.int .i64 g.a) := XP.out.cell 2
  have y3 : (w11.alloc (.cells #[.int .i64 g.op, .int .i64 g.w, .int .i64 g.a, .int .i64 g.b, .int .i64 g.c, .int .i64 g.imm, .slice gu g.args.length gq] 29)).cell? ⟨P, 3, none⟩ = some (.int .i64 g.b) := XP.out.cell 3
  have y4 : (w11.alloc (.cells #[.int .i64 g.op, .int .i64 g.w, .int .i64 g.a, .int .i64 g.b, .int .i64 g.c, .int .i64 g.imm, .slice gu g.args.length gq] 29)).cell? ⟨P, 4, none⟩ = some (.int .i64 g.c) := XP.out.cell 4
  have y5 : (w11.alloc (.cells #[.int .i64 g.op, .int .i64 g.w, .int .i64 g.a, .int .i64 g.b, .int .i64 g.c, .int .i64 g.imm, .slice gu g.args.length gq] 29)).cell? ⟨P, 5, none⟩ = some (.int .i64 g.imm) := XP.out.cell 5
  have y6 : (w11.alloc (.cells #[.int .i64 g.op, .int .i64 g.w, .int .i64 g.a, .int .i64 g.b, .int .i64 g.c, .int .i64 g.imm, .slice gu g.args.length gq] 29)).cell? ⟨P, 6, none⟩ = some (.slice su g.args.length sq) := XP.out.cell 6
  go_wp2_with fail
  generalize (w11.alloc (.cells #[.int .i64 g.op, .int .i64 g.w, .int .i64 g.a, .int .i64 g.b, .int .i64 g.c, .int .i64 g.imm, .slice gu g.args.length gq] 29)) = w11b at *
  clear x0 x1 x2 x3 x4 x5 x6
  clear y0 y1 y2 y3 y4 y5 y6
  refine (eqInst_any _ _ g gu gq su sq _ OG.out.at (ROWP.out.keep aP.out)).mono ?_
  rintro e w12 ⟨rfl, b12⟩
  have zw12 : w11b.heap.size ≤ w12.heap.size := b12.size
  have hA' : Hid (BxA d i u0 c0 u2 c2 ua qa w w12) := hA.out.keep b12
  clear hA
  have hA := hA'
  clear hA'
  have XP' : Hid (At w12 P #[.int .i64 g.op, .int .i64 g.w, .int .i64 g.a, .int .i64 g.b, .int .i64 g.c, .int .i64 g.imm, .slice su g.args.length sq] 29) := XP.out.below b12
  clear XP
  have XP := XP'
  clear XP'
  have aP' : Hid (Agree wA.heap.size W8 w12) := agree_below aP.out b12
  clear aP
  have aP := aP'
  clear aP'
  have J0' : Hid (OI w12 W8.heap.size m0 d.params) := J0.out.keep (agree_of_below b12 _)
  clear J0
  have J0 := J0'
  clear J0'
  have J2' : Hid (OB w12 W8.heap.size m2 d.blocks) := J2.out.keep (agree_of_below b12 _)
  clear J2
  have J2 := J2'
  clear J2'
  have sh0' : Hid (SI w12 W8.heap.size w9.heap.size m0 d.params.length) := sh0.out.keep (hdr_below b12)
  clear sh0
  have sh0 := sh0'
  clear sh0'
  have sh2' : Hid (SB w12 W8.heap.size w9.heap.size m2 d.blocks) := sh2.out.keep (hdr_below b12)
  clear sh2
  have sh2 := sh2'
  clear sh2'
  have X0' : Hid (At w12 w9.heap.size #[.slice m0 d.params.length p0, .int .i64 d.ret, .slice m2 d.blocks.length p2] 27) := X0.out.below b12
  clear X0
  have X0 := X0'
  clear X0'
  have JA' : Hid (OI w12 w9b.heap.size ma i.args) := JA.out.keep (agree_of_below b12 _)
  clear JA
  have JA := JA'
  clear JA'
  have sha' : Hid (SI w12 w9b.heap.size w10.heap.size ma i.args.length) := sha.out.keep (hdr_below b12)
  clear sha
  have sha := sha'
  clear sha'
  have X1' : Hid (At w12 w10.heap.size #[.int .i64 i.op, .int .i64 i.w, .int .i64 i.a, .int .i64 i.b, .int .i64 i.c, .int .i64 i.imm, .slice ma i.args.length pa] 29) := X1.out.below b12
  clear X1
  have X1 := X1'
  clear X1'
  have OG' : Hid (OI w12 w10b.heap.size gu g.args) := OG.out.keep (agree_of_below b12 _)
  clear OG
  have OG := OG'
  clear OG'
  have shg' : Hid (SI w12 w10b.heap.size w11.heap.size gu g.args.length) := shg.out.keep (hdr_below b12)
  clear shg
  have shg := shg'
  clear shg'
  have XG' : Hid (At w12 w11.heap.size #[.int .i64 g.op, .int .i64 g.w, .int .i64 g.a, .int .i64 g.b, .int .i64 g.c, .int .i64 g.imm, .slice gu g.args.length gq] 29) := XG.out.below b12
  clear XG
  have XG := XG'
  clear XG'
  clear b12
  go_wp2_with fail
  refine wp_region_held_drew (S := fun w' => Below w12.heap.size w12 w') (by kernel_rfl) ((Below.refl _ _).drew) (fun hHeld => ?_)
  refine wpAnyH_take (i := 0) (v := ?_) rfl (by kernel_rfl) (by kernel_rfl) (by kernel_rfl) (fun _ _ _ h => h) (Or.inl ⟨by rfl, ?_⟩) hHeld ?_
  rotate_left
  · intro W9 hS9
    have g0 := (show W9.cell? ⟨w9.heap.size, 0, none⟩ = some (.slice m0 d.params.length p0) from (At.below X0.out hS9).cell 0)
    have g1 := (show W9.cell? ⟨w9.heap.size, 1, none⟩ = some (.int .i64 d.ret) from (At.below X0.out hS9).cell 1)
    have g2 := (show W9.cell? ⟨w9.heap.size, 2, none⟩ = some (.slice m2 d.blocks.length p2) from (At.below X0.out hS9).cell 2)
    go_simp
    try with_reducible rfl
  show wpAnyH _ _ _ _ _ _ _ (Act.put _ (some _) _) _
  simp only [Act.put, List.setIfInBounds_toArray, List.set_cons_zero, List.set_cons_succ]
  refine wpAnyH_take (i := 1) (v := ?_) rfl (by kernel_rfl) (by kernel_rfl) (by kernel_rfl) (fun _ _ _ h => h) (Or.inl ⟨by rfl, ?_⟩) hHeld ?_
  rotate_left
  · intro W9 hS9
    have g0 := (show W9.cell? ⟨w.heap.size, 0, none⟩ = some (.slice u0 d.params.length c0) from (At.below hA.out.f hS9).cell 0)
    have g1 := (show W9.cell? ⟨w.heap.size, 1, none⟩ = some (.int .i64 d.ret) from (At.below hA.out.f hS9).cell 1)
    have g2 := (show W9.cell? ⟨w.heap.size, 2, none⟩ = some (.slice u2 d.blocks.length c2) from (At.below hA.out.f hS9).cell 2)
    go_simp
    try with_reducible rfl
  show wpAnyH _ _ _ _ _ _ _ (Act.put _ (some _) _) _
  simp only [Act.put, List.setIfInBounds_toArray, List.set_cons_zero, List.set_cons_succ]
  refine wpAnyH_ready (rs := [2]) (by kernel_rfl) (by simp) ?_
  refine AllReadyH.cons rfl (fun K hK => ?_) AllReadyH.nil
  go_simp
  go_wp2_with (go_at_call 15; refine (TF0 _ (hA.out.below.trans (hHeld.mono hA.out.below.size))).mono ?_; rintro e w13 ⟨f0, r0, f2, r2, rfl, l0, l2, bb⟩; have bc := hHeld.trans (bb.mono hHeld.size))
  refine hK.out _ _ ?_ (fun hHeld2 => ?_)
  · exact bc
  clear hK K
  have hPrev := hHeld
  clear hHeld
  have hHeld := hHeld2
  clear hHeld2 bc
  try simp only [Act.put, List.setIfInBounds_toArray, List.set_cons_zero, List.set_cons_succ]
  have bb2 := bb
  clear bb
  refine wpAnyH_ready (rs := [3]) (by kernel_rfl) (by simp) ?_
  refine AllReadyH.cons rfl (fun K hK => ?_) AllReadyH.nil
  go_simp
  go_wp2_with (go_at_call 18; refine (eqFunc_any _ _ d m0 p0 m2 p2 f0 r0 f2 r2 _ (J0.out.at.keep (agree_of_below hHeld _)) (J2.out.at.keep (agree_of_below hHeld _)) l0 l2).mono ?_; rintro e w14 ⟨rfl, bb⟩; have bc := hHeld.trans (bb.mono hHeld.size))
  refine hK.out _ _ ?_ (fun hHeld2 => ?_)
  · exact bc
  clear hK K
  have hPrev := hHeld
  clear hHeld
  have hHeld := hHeld2
  clear hHeld2 bc
  try simp only [Act.put, List.setIfInBounds_toArray, List.set_cons_zero, List.set_cons_succ]
  refine wpAnyH_take (i := 4) (v := ?_) rfl (by kernel_rfl) (by kernel_rfl) (by kernel_rfl) (fun _ _ _ h => h) (Or.inl ⟨by rfl, ?_⟩) hHeld ?_
  rotate_left
  · intro W9 hS9
    go_simp
    try with_reducible rfl
  show wpAnyH _ _ _ _ _ _ _ (Act.put _ (some _) _) _
  simp only [Act.put, List.setIfInBounds_toArray, List.set_cons_zero, List.set_cons_succ]
  refine wpAnyH_done (by kernel_rfl) ?_ _
  clear hPrev bb bb2 l0 l2
  have zw14 : w12.heap.size ≤ w14.heap.size := hHeld.size
  have hA' : Hid (BxA d i u0 c0 u2 c2 ua qa w w14) := hA.out.keep hHeld
  clear hA
  have hA := hA'
  clear hA'
  have XP' : Hid (At w14 P #[.int .i64 g.op, .int .i64 g.w, .int .i64 g.a, .int .i64 g.b, .int .i64 g.c, .int .i64 g.imm, .slice su g.args.length sq] 29) := XP.out.below hHeld
  clear XP
  have XP := XP'
  clear XP'
  have aP' : Hid (Agree wA.heap.size W8 w14) := agree_below aP.out hHeld
  clear aP
  have aP := aP'
  clear aP'
  have J0' : Hid (OI w14 W8.heap.size m0 d.params) := J0.out.keep (agree_of_below hHeld _)
  clear J0
  have J0 := J0'
  clear J0'
  have J2' : Hid (OB w14 W8.heap.size m2 d.blocks) := J2.out.keep (agree_of_below hHeld _)
  clear J2
  have J2 := J2'
  clear J2'
  have sh0' : Hid (SI w14 W8.heap.size w9.heap.size m0 d.params.length) := sh0.out.keep (hdr_below hHeld)
  clear sh0
  have sh0 := sh0'
  clear sh0'
  have sh2' : Hid (SB w14 W8.heap.size w9.heap.size m2 d.blocks) := sh2.out.keep (hdr_below hHeld)
  clear sh2
  have sh2 := sh2'
  clear sh2'
  have X0' : Hid (At w14 w9.heap.size #[.slice m0 d.params.length p0, .int .i64 d.ret, .slice m2 d.blocks.length p2] 27) := X0.out.below hHeld
  clear X0
  have X0 := X0'
  clear X0'
  have JA' : Hid (OI w14 w9b.heap.size ma i.args) := JA.out.keep (agree_of_below hHeld _)
  clear JA
  have JA := JA'
  clear JA'
  have sha' : Hid (SI w14 w9b.heap.size w10.heap.size ma i.args.length) := sha.out.keep (hdr_below hHeld)
  clear sha
  have sha := sha'
  clear sha'
  have X1' : Hid (At w14 w10.heap.size #[.int .i64 i.op, .int .i64 i.w, .int .i64 i.a, .int .i64 i.b, .int .i64 i.c, .int .i64 i.imm, .slice ma i.args.length pa] 29) := X1.out.below hHeld
  clear X1
  have X1 := X1'
  clear X1'
  have OG' : Hid (OI w14 w10b.heap.size gu g.args) := OG.out.keep (agree_of_below hHeld _)
  clear OG
  have OG := OG'
  clear OG'
  have shg' : Hid (SI w14 w10b.heap.size w11.heap.size gu g.args.length) := shg.out.keep (hdr_below hHeld)
  clear shg
  have shg := shg'
  clear shg'
  have XG' : Hid (At w14 w11.heap.size #[.int .i64 g.op, .int .i64 g.w, .int .i64 g.a, .int .i64 g.b, .int .i64 g.c, .int .i64 g.imm, .slice gu g.args.length gq] 29) := XG.out.below hHeld
  clear XG
  have XG := XG'
  clear XG'
  clear hHeld
  go_wp2_with fail
  refine wp_region_held_drew (S := fun w' => Below w14.heap.size w14 w') (by kernel_rfl) ((Below.refl _ _).drew) (fun hHeld => ?_)
  refine wpAnyH_take (i := 0) (v := ?_) rfl (by kernel_rfl) (by kernel_rfl) (by kernel_rfl) (fun _ _ _ h => h) (Or.inl ⟨by rfl, ?_⟩) hHeld ?_
  rotate_left
  · intro W9 hS9
    have g0 := (show W9.cell? ⟨w10.heap.size, 0, none⟩ = some (.int .i64 i.op) from (At.below X1.out hS9).cell 0)
    have g1 := (show W9.cell? ⟨w10.heap.size, 1, none⟩ = some (.int .i64 i.w) from (At.below X1.out hS9).cell 1)
    have g2 := (show W9.cell? ⟨w10.heap.size, 2, none⟩ = some (.int .i64 i.a) from (At.below X1.out hS9).cell 2)
    have g3 := (show W9.cell? ⟨w10.heap.size, 3, none⟩ = some (.int .i64 i.b) from (At.below X1.out hS9).cell 3)
    have g4 := (show W9.cell? ⟨w10.heap.size, 4, none⟩ = some (.int .i64 i.c) from (At.below X1.out hS9).cell 4)
    have g5 := (show W9.cell? ⟨w10.heap.size, 5, none⟩ = some (.int .i64 i.imm) from (At.below X1.out hS9).cell 5)
    have g6 := (show W9.cell? ⟨w10.heap.size, 6, none⟩ = some (.slice ma i.args.length pa) from (At.below X1.out hS9).cell 6)
    go_simp
    try with_reducible rfl
  show wpAnyH _ _ _ _ _ _ _ (Act.put _ (some _) _) _
  simp only [Act.put, List.setIfInBounds_toArray, List.set_cons_zero, List.set_cons_succ]
  refine wpAnyH_take (i := 1) (v := ?_) rfl (by kernel_rfl) (by kernel_rfl) (by kernel_rfl) (fun _ _ _ h => h) (Or.inl ⟨by rfl, ?_⟩) hHeld ?_
  rotate_left
  · intro W9 hS9
    have g0 := (show W9.cell? ⟨w.heap.size + 1, 0, none⟩ = some (.int .i64 i.op) from (At.below hA.out.i hS9).cell 0)
    have g1 := (show W9.cell? ⟨w.heap.size + 1, 1, none⟩ = some (.int .i64 i.w) from (At.below hA.out.i hS9).cell 1)
    have g2 := (show W9.cell? ⟨w.heap.size + 1, 2, none⟩ = some (.int .i64 i.a) from (At.below hA.out.i hS9).cell 2)
    have g3 := (show W9.cell? ⟨w.heap.size + 1, 3, none⟩ = some (.int .i64 i.b) from (At.below hA.out.i hS9).cell 3)
    have g4 := (show W9.cell? ⟨w.heap.size + 1, 4, none⟩ = some (.int .i64 i.c) from (At.below hA.out.i hS9).cell 4)
    have g5 := (show W9.cell? ⟨w.heap.size + 1, 5, none⟩ = some (.int .i64 i.imm) from (At.below hA.out.i hS9).cell 5)
    have g6 := (show W9.cell? ⟨w.heap.size + 1, 6, none⟩ = some (.slice ua i.args.length qa) from (At.below hA.out.i hS9).cell 6)
    go_simp
    try with_reducible rfl
  show wpAnyH _ _ _ _ _ _ _ (Act.put _ (some _) _) _
  simp only [Act.put, List.setIfInBounds_toArray, List.set_cons_zero, List.set_cons_succ]
  refine wpAnyH_ready (rs := [2]) (by kernel_rfl) (by simp) ?_
  refine AllReadyH.cons rfl (fun K hK => ?_) AllReadyH.nil
  go_simp
  go_wp2_with (go_at_call 16; refine (TI0 _ (hA.out.below.trans (hHeld.mono hA.out.below.size))).mono ?_; rintro e w15 ⟨fa, ra, rfl, la, bb⟩; have bc := hHeld.trans (bb.mono hHeld.size))
  refine hK.out _ _ ?_ (fun hHeld2 => ?_)
  · exact bc
  clear hK K
  have hPrev := hHeld
  clear hHeld
  have hHeld := hHeld2
  clear hHeld2 bc
  try simp only [Act.put, List.setIfInBounds_toArray, List.set_cons_zero, List.set_cons_succ]
  have bb2 := bb
  clear bb
  refine wpAnyH_ready (rs := [3]) (by kernel_rfl) (by simp) ?_
  refine AllReadyH.cons rfl (fun K hK => ?_) AllReadyH.nil
  go_simp
  go_wp2_with (go_at_call 17; refine (eqInst_any _ _ i ma pa fa ra _ (JA.out.at.keep (agree_of_below hHeld _)) la).mono ?_; rintro e w16 ⟨rfl, bb⟩; have bc := hHeld.trans (bb.mono hHeld.size))
  refine hK.out _ _ ?_ (fun hHeld2 => ?_)
  · exact bc
  clear hK K
  have hPrev := hHeld
  clear hHeld
  have hHeld := hHeld2
  clear hHeld2 bc
  try simp only [Act.put, List.setIfInBounds_toArray, List.set_cons_zero, List.set_cons_succ]
  refine wpAnyH_take (i := 4) (v := ?_) rfl (by kernel_rfl) (by kernel_rfl) (by kernel_rfl) (fun _ _ _ h => h) (Or.inl ⟨by rfl, ?_⟩) hHeld ?_
  rotate_left
  · intro W9 hS9
    go_simp
    try with_reducible rfl
  show wpAnyH _ _ _ _ _ _ _ (Act.put _ (some _) _) _
  simp only [Act.put, List.setIfInBounds_toArray, List.set_cons_zero, List.set_cons_succ]
  refine wpAnyH_done (by kernel_rfl) ?_ _
  clear hPrev bb bb2 la
  have zw16 : w14.heap.size ≤ w16.heap.size := hHeld.size
  have hA' : Hid (BxA d i u0 c0 u2 c2 ua qa w w16) := hA.out.keep hHeld
  clear hA
  have hA := hA'
  clear hA'
  have XP' : Hid (At w16 P #[.int .i64 g.op, .int .i64 g.w, .int .i64 g.a, .int .i64 g.b, .int .i64 g.c, .int .i64 g.imm, .slice su g.args.length sq] 29) := XP.out.below hHeld
  clear XP
  have XP := XP'
  clear XP'
  have aP' : Hid (Agree wA.heap.size W8 w16) := agree_below aP.out hHeld
  clear aP
  have aP := aP'
  clear aP'
  have J0' : Hid (OI w16 W8.heap.size m0 d.params) := J0.out.keep (agree_of_below hHeld _)
  clear J0
  have J0 := J0'
  clear J0'
  have J2' : Hid (OB w16 W8.heap.size m2 d.blocks) := J2.out.keep (agree_of_below hHeld _)
  clear J2
  have J2 := J2'
  clear J2'
  have sh0' : Hid (SI w16 W8.heap.size w9.heap.size m0 d.params.length) := sh0.out.keep (hdr_below hHeld)
  clear sh0
  have sh0 := sh0'
  clear sh0'
  have sh2' : Hid (SB w16 W8.heap.size w9.heap.size m2 d.blocks) := sh2.out.keep (hdr_below hHeld)
  clear sh2
  have sh2 := sh2'
  clear sh2'
  have X0' : Hid (At w16 w9.heap.size #[.slice m0 d.params.length p0, .int .i64 d.ret, .slice m2 d.blocks.length p2] 27) := X0.out.below hHeld
  clear X0
  have X0 := X0'
  clear X0'
  have JA' : Hid (OI w16 w9b.heap.size ma i.args) := JA.out.keep (agree_of_below hHeld _)
  clear JA
  have JA := JA'
  clear JA'
  have sha' : Hid (SI w16 w9b.heap.size w10.heap.size ma i.args.length) := sha.out.keep (hdr_below hHeld)
  clear sha
  have sha := sha'
  clear sha'
  have X1' : Hid (At w16 w10.heap.size #[.int .i64 i.op, .int .i64 i.w, .int .i64 i.a, .int .i64 i.b, .int .i64 i.c, .int .i64 i.imm, .slice ma i.args.length pa] 29) := X1.out.below hHeld
  clear X1
  have X1 := X1'
  clear X1'
  have OG' : Hid (OI w16 w10b.heap.size gu g.args) := OG.out.keep (agree_of_below hHeld _)
  clear OG
  have OG := OG'
  clear OG'
  have shg' : Hid (SI w16 w10b.heap.size w11.heap.size gu g.args.length) := shg.out.keep (hdr_below hHeld)
  clear shg
  have shg := shg'
  clear shg'
  have XG' : Hid (At w16 w11.heap.size #[.int .i64 g.op, .int .i64 g.w, .int .i64 g.a, .int .i64 g.b, .int .i64 g.c, .int .i64 g.imm, .slice gu g.args.length gq] 29) := XG.out.below hHeld
  clear XG
  have XG := XG'
  clear XG'
  clear hHeld
  have x0 : w16.cell? ⟨w9.heap.size, 0, none⟩ = some (.slice m0 d.params.length p0) := X0.out.cell 0
  have x1 : w16.cell? ⟨w9.heap.size, 1, none⟩ = some (.int .i64 d.ret) := X0.out.cell 1
  have x2 : w16.cell? ⟨w9.heap.size, 2, none⟩ = some (.slice m2 d.blocks.length p2) := X0.out.cell 2
  go_wp2_with fail
  refine (markFunc_le W8.heap.size w9.heap.size d m0 p0 m2 p2 1 _ HS.out (by omega) (by omega) (by omega) sh0.out sh2.out).mono ?_
  rintro e w17 ⟨x, rfl, hx0, hx1, hd⟩
  clear x0 x1 x2
  clear J0
  clear J2
  clear sh0
  clear sh2
  clear JA
  clear X0
  have zw17 : w16.heap.size ≤ w17.heap.size := hd.size
  have hA' : Hid (BxA d i u0 c0 u2 c2 ua qa w w17) := hA.out.hdr hd (by omega)
  clear hA
  have hA := hA'
  clear hA'
  have XP' : Hid (At w17 P #[.int .i64 g.op, .int .i64 g.w, .int .i64 g.a, .int .i64 g.b, .int .i64 g.c, .int .i64 g.imm, .slice su g.args.length sq] 29) := XP.out.hdr hd (by omega)
  clear XP
  have XP := XP'
  clear XP'
  have aP' : Hid (Agree wA.heap.size W8 w17) := agree_hdr aP.out hd (by omega)
  clear aP
  have aP := aP'
  clear aP'
  have sha' : Hid (SI w17 w9b.heap.size w10.heap.size ma i.args.length) := sha.out.keep2 ⟨hd.size, fun i hi hl => hd.out i (.inr (by omega)) hl⟩
  clear sha
  have sha := sha'
  clear sha'
  have X1' : Hid (At w17 w10.heap.size #[.int .i64 i.op, .int .i64 i.w, .int .i64 i.a, .int .i64 i.b, .int .i64 i.c, .int .i64 i.imm, .slice ma i.args.length pa] 29) := X1.out.hdr hd (by omega)
  clear X1
  have X1 := X1'
  clear X1'
  have OG' : Hid (OI w17 w10b.heap.size gu g.args) := OG.out.keep ⟨hd.size, fun i hi hl => hd.out i (.inr (by omega)) hl⟩
  clear OG
  have OG := OG'
  clear OG'
  have shg' : Hid (SI w17 w10b.heap.size w11.heap.size gu g.args.length) := shg.out.keep2 ⟨hd.size, fun i hi hl => hd.out i (.inr (by omega)) hl⟩
  clear shg
  have shg := shg'
  clear shg'
  have XG' : Hid (At w17 w11.heap.size #[.int .i64 g.op, .int .i64 g.w, .int .i64 g.a, .int .i64 g.b, .int .i64 g.c, .int .i64 g.imm, .slice gu g.args.length gq] 29) := XG.out.hdr hd (by omega)
  clear XG
  have XG := XG'
  clear XG'
  clear hd
  have y0 : w17.cell? ⟨w10.heap.size, 0, none⟩ = some (.int .i64 i.op) := X1.out.cell 0
  have y1 : w17.cell? ⟨w10.heap.size, 1, none⟩ = some (.int .i64 i.w) := X1.out.cell 1
  have y2 : w17.cell? ⟨w10.heap.size, 2, none⟩ = some (.int .i64 i.a) := X1.out.cell 2
  have y3 : w17.cell? ⟨w10.heap.size, 3, none⟩ = some (.int .i64 i.b) := X1.out.cell 3
  have y4 : w17.cell? ⟨w10.heap.size, 4, none⟩ = some (.int .i64 i.c) := X1.out.cell 4
  have y5 : w17.cell? ⟨w10.heap.size, 5, none⟩ = some (.int .i64 i.imm) := X1.out.cell 5
  have y6 : w17.cell? ⟨w10.heap.size, 6, none⟩ = some (.slice ma i.args.length pa) := X1.out.cell 6
  go_wp2_with fail
  refine (markInstK w9b.heap.size w10.heap.size i ma pa x _ HM.out hx0 (by omega) sha.out).mono ?_
  rintro e w18 ⟨rfl, hd⟩
  clear y0 y1 y2 y3 y4 y5 y6
  clear sha
  clear X1
  have zw18 : w17.heap.size ≤ w18.heap.size := hd.size
  have hA' : Hid (BxA d i u0 c0 u2 c2 ua qa w w18) := hA.out.hdr hd (by omega)
  clear hA
  have hA := hA'
  clear hA'
  have XP' : Hid (At w18 P #[.int .i64 g.op, .int .i64 g.w, .int .i64 g.a, .int .i64 g.b, .int .i64 g.c, .int .i64 g.imm, .slice su g.args.length sq] 29) := XP.out.hdr hd (by omega)
  clear XP
  have XP := XP'
  clear XP'
  have aP' : Hid (Agree wA.heap.size W8 w18) := agree_hdr aP.out hd (by omega)
  clear aP
  have aP := aP'
  clear aP'
  have OG' : Hid (OI w18 w10b.heap.size gu g.args) := OG.out.keep ⟨hd.size, fun i hi hl => hd.out i (.inr (by omega)) hl⟩
  clear OG
  have OG := OG'
  clear OG'
  have shg' : Hid (SI w18 w10b.heap.size w11.heap.size gu g.args.length) := shg.out.keep2 ⟨hd.size, fun i hi hl => hd.out i (.inr (by omega)) hl⟩
  clear shg
  have shg := shg'
  clear shg'
  have XG' : Hid (At w18 w11.heap.size #[.int .i64 g.op, .int .i64 g.w, .int .i64 g.a, .int .i64 g.b, .int .i64 g.c, .int .i64 g.imm, .slice gu g.args.length gq] 29) := XG.out.hdr hd (by omega)
  clear XG
  have XG := XG'
  clear XG'
  clear hd
  have hkn : ¬ x + (i.args.length : Int) < 0 := by omega
  have x0 : w18.cell? ⟨w11.heap.size, 0, none⟩ = some (.int .i64 g.op) := XG.out.cell 0
  have x1 : w18.cell? ⟨w11.heap.size, 1, none⟩ = some (.int .i64 g.w) := XG.out.cell 1
  have x2 : w18.cell? ⟨w11.heap.size, 2, none⟩ = some (.int .i64 g.a) := XG.out.cell 2
  have x3 : w18.cell? ⟨w11.heap.size, 3, none⟩ = some (.int .i64 g.b) := XG.out.cell 3
  have x4 : w18.cell? ⟨w11.heap.size, 4, none⟩ = some (.int .i64 g.c) := XG.out.cell 4
  have x5 : w18.cell? ⟨w11.heap.size, 5, none⟩ = some (.int .i64 g.imm) := XG.out.cell 5
  have x6 : w18.cell? ⟨w11.heap.size, 6, none⟩ = some (.slice gu g.args.length gq) := XG.out.cell 6
  have y0 : w18.cell? ⟨P, 0, none⟩ = some (.int .i64 g.op) := XP.out.cell 0
  have y1 : w18.cell? ⟨P, 1, none⟩ = some (.int .i64 g.w) := XP.out.cell 1
  have y2 : w18.cell? ⟨P, 2, none⟩ = some (.int .i64 g.a) := XP.out.cell 2
  have y3 : w18.cell? ⟨P, 3, none⟩ = some (.int .i64 g.b) := XP.out.cell 3
  have y4 : w18.cell? ⟨P, 4, none⟩ = some (.int .i64 g.c) := XP.out.cell 4
  have y5 : w18.cell? ⟨P, 5, none⟩ = some (.int .i64 g.imm) := XP.out.cell 5
  have y6 : w18.cell? ⟨P, 6, none⟩ = some (.slice su g.args.length sq) := XP.out.cell 6
  go_wp2_with fail
  clear x0 x1 x2 x3 x4 x5 x6
  clear y0 y1 y2 y3 y4 y5 y6
  refine (eqInst_any _ _ g gu gq su sq _ OG.out.at (ROWP.out.keep aP.out)).mono ?_
  rintro e w19 ⟨rfl, b19⟩
  have zw19 : w18.heap.size ≤ w19.heap.size := b19.size
  have hA' : Hid (BxA d i u0 c0 u2 c2 ua qa w w19) := hA.out.keep b19
  clear hA
  have hA := hA'
  clear hA'
  have XP' : Hid (At w19 P #[.int .i64 g.op, .int .i64 g.w, .int .i64 g.a, .int .i64 g.b, .int .i64 g.c, .int .i64 g.imm, .slice su g.args.length sq] 29) := XP.out.below b19
  clear XP
  have XP := XP'
  clear XP'
  have aP' : Hid (Agree wA.heap.size W8 w19) := agree_below aP.out b19
  clear aP
  have aP := aP'
  clear aP'
  have OG' : Hid (OI w19 w10b.heap.size gu g.args) := OG.out.keep (agree_of_below b19 _)
  clear OG
  have OG := OG'
  clear OG'
  have shg' : Hid (SI w19 w10b.heap.size w11.heap.size gu g.args.length) := shg.out.keep (hdr_below b19)
  clear shg
  have shg := shg'
  clear shg'
  have XG' : Hid (At w19 w11.heap.size #[.int .i64 g.op, .int .i64 g.w, .int .i64 g.a, .int .i64 g.b, .int .i64 g.c, .int .i64 g.imm, .slice gu g.args.length gq] 29) := XG.out.below b19
  clear XG
  have XG := XG'
  clear XG'
  clear b19
  have x0 : w19.cell? ⟨w11.heap.size, 0, none⟩ = some (.int .i64 g.op) := XG.out.cell 0
  have x1 : w19.cell? ⟨w11.heap.size, 1, none⟩ = some (.int .i64 g.w) := XG.out.cell 1
  have x2 : w19.cell? ⟨w11.heap.size, 2, none⟩ = some (.int .i64 g.a) := XG.out.cell 2
  have x3 : w19.cell? ⟨w11.heap.size, 3, none⟩ = some (.int .i64 g.b) := XG.out.cell 3
  have x4 : w19.cell? ⟨w11.heap.size, 4, none⟩ = some (.int .i64 g.c) := XG.out.cell 4
  have x5 : w19.cell? ⟨w11.heap.size, 5, none⟩ = some (.int .i64 g.imm) := XG.out.cell 5
  have x6 : w19.cell? ⟨w11.heap.size, 6, none⟩ = some (.slice gu g.args.length gq) := XG.out.cell 6
  go_wp2_with fail
  clear x0 x1 x2 x3 x4 x5 x6
  refine (markInst2 w10b.heap.size w11.heap.size g gu gq _ hgl.out shg.out).mono ?_
  rintro e w20 ⟨rfl, om, hd⟩
  clear OG
  clear shg
  have zw20 : w19.heap.size ≤ w20.heap.size := hd.size
  have hA' : Hid (BxA d i u0 c0 u2 c2 ua qa w w20) := hA.out.hdr hd (by omega)
  clear hA
  have hA := hA'
  clear hA'
  have XP' : Hid (At w20 P #[.int .i64 g.op, .int .i64 g.w, .int .i64 g.a, .int .i64 g.b, .int .i64 g.c, .int .i64 g.imm, .slice su g.args.length sq] 29) := XP.out.hdr hd (by omega)
  clear XP
  have XP := XP'
  clear XP'
  have aP' : Hid (Agree wA.heap.size W8 w20) := agree_hdr aP.out hd (by omega)
  clear aP
  have aP := aP'
  clear aP'
  have XG' : Hid (At w20 w11.heap.size #[.int .i64 g.op, .int .i64 g.w, .int .i64 g.a, .int .i64 g.b, .int .i64 g.c, .int .i64 g.imm, .slice gu g.args.length gq] 29) := XG.out.hdr hd (by omega)
  clear XG
  have XG := XG'
  clear XG'
  clear hd
  have OM : Hid (OI w20 w10b.heap.size gu (marks 1 g.args.length)) := om
  clear om
  have hgn : ¬ (1 : Int) + g.args.length < 0 := by omega
  have x0 : w20.cell? ⟨w11.heap.size, 0, none⟩ = some (.int .i64 g.op) := XG.out.cell 0
  have x1 : w20.cell? ⟨w11.heap.size, 1, none⟩ = some (.int .i64 g.w) := XG.out.cell 1
  have x2 : w20.cell? ⟨w11.heap.size, 2, none⟩ = some (.int .i64 g.a) := XG.out.cell 2
  have x3 : w20.cell? ⟨w11.heap.size, 3, none⟩ = some (.int .i64 g.b) := XG.out.cell 3
  have x4 : w20.cell? ⟨w11.heap.size, 4, none⟩ = some (.int .i64 g.c) := XG.out.cell 4
  have x5 : w20.cell? ⟨w11.heap.size, 5, none⟩ = some (.int .i64 g.imm) := XG.out.cell 5
  have x6 : w20.cell? ⟨w11.heap.size, 6, none⟩ = some (.slice gu g.args.length gq) := XG.out.cell 6
  go_wp2_with fail
  clear x0 x1 x2 x3 x4 x5 x6
  refine (heldInstK _ g gu gq _ hgl.out OM.out.at).mono ?_
  rintro e w21 ⟨rfl, b21⟩
  have zw21 : w20.heap.size ≤ w21.heap.size := b21.size
  have hA' : Hid (BxA d i u0 c0 u2 c2 ua qa w w21) := hA.out.keep b21
  clear hA
  have hA := hA'
  clear hA'
  have XP' : Hid (At w21 P #[.int .i64 g.op, .int .i64 g.w, .int .i64 g.a, .int .i64 g.b, .int .i64 g.c, .int .i64 g.imm, .slice su g.args.length sq] 29) := XP.out.below b21
  clear XP
  have XP := XP'
  clear XP'
  have aP' : Hid (Agree wA.heap.size W8 w21) := agree_below aP.out b21
  clear aP
  have aP := aP'
  clear aP'
  have XG' : Hid (At w21 w11.heap.size #[.int .i64 g.op, .int .i64 g.w, .int .i64 g.a, .int .i64 g.b, .int .i64 g.c, .int .i64 g.imm, .slice gu g.args.length gq] 29) := XG.out.below b21
  clear XG
  have XG := XG'
  clear XG'
  have OM' : Hid (OI w21 w10b.heap.size gu (marks 1 g.args.length)) := OM.out.keep (agree_of_below b21 _)
  clear OM
  have OM := OM'
  clear OM'
  clear b21
  go_wp2_with fail
  have TFu := fun W (k : Below w21.heap.size w21 W) => TF0 W (hA.out.below.trans (k.mono hA.out.below.size))
  have TIn := fun W (k : Below w21.heap.size w21 W) => TI0 W (hA.out.below.trans (k.mono hA.out.below.size))
  refine wp_mono (Q := Beg 13 w21.heap.size w21 g (fun t => t.getD 6 undef = .pointer (some ⟨P, 0, none⟩) ∧ t.getD 9 undef = .pointer (some ⟨w11.heap.size, 0, none⟩) ∧ t.getD 11 undef = .int .i64 (1 + g.args.length))) ?_ ?_
  · refine wp_region_held_drew (S := fun w' => Below w21.heap.size w21 w') (by kernel_rfl) ((Below.refl _ _).drew) (fun hHeld => ?_)
    refine wpAnyH_take (i := 0) (v := ?_) rfl (by kernel_rfl) (by kernel_rfl) (by kernel_rfl) (fun _ _ _ h => absurd h.1 (by intro e; cases e)) (Or.inl ⟨by rfl, ?_⟩) hHeld ?_
    rotate_left
    · intro w9 hS9
      have g0 := (show w9.cell? ⟨w.heap.size, 0, none⟩ = some (.slice u0 d.params.length c0) from (At.below hA.out.f hS9).cell 0)
      have g1 := (show w9.cell? ⟨w.heap.size, 1, none⟩ = some (.int .i64 d.ret) from (At.below hA.out.f hS9).cell 1)
      have g2 := (show w9.cell? ⟨w.heap.size, 2, none⟩ = some (.slice u2 d.blocks.length c2) from (At.below hA.out.f hS9).cell 2)
      go_simp
      try with_reducible rfl
    show wpAnyH _ _ _ _ _ _ _ (Act.put _ (some _) _) _
    simp only [Act.put, List.setIfInBounds_toArray, List.set_cons_zero, List.set_cons_succ]
    refine wpAnyH_take (i := 2) (v := ?_) rfl (by kernel_rfl) (by kernel_rfl) (by kernel_rfl) (fun _ _ _ h => absurd h.1 (by intro e; cases e)) (Or.inl ⟨by rfl, ?_⟩) hHeld ?_
    rotate_left
    · intro w9 hS9
      have g0 := (show w9.cell? ⟨w.heap.size + 1, 0, none⟩ = some (.int .i64 i.op) from (At.below hA.out.i hS9).cell 0)
      have g1 := (show w9.cell? ⟨w.heap.size + 1, 1, none⟩ = some (.int .i64 i.w) from (At.below hA.out.i hS9).cell 1)
      have g2 := (show w9.cell? ⟨w.heap.size + 1, 2, none⟩ = some (.int .i64 i.a) from (At.below hA.out.i hS9).cell 2)
      have g3 := (show w9.cell? ⟨w.heap.size + 1, 3, none⟩ = some (.int .i64 i.b) from (At.below hA.out.i hS9).cell 3)
      have g4 := (show w9.cell? ⟨w.heap.size + 1, 4, none⟩ = some (.int .i64 i.c) from (At.below hA.out.i hS9).cell 4)
      have g5 := (show w9.cell? ⟨w.heap.size + 1, 5, none⟩ = some (.int .i64 i.imm) from (At.below hA.out.i hS9).cell 5)
      have g6 := (show w9.cell? ⟨w.heap.size + 1, 6, none⟩ = some (.slice ua i.args.length qa) from (At.below hA.out.i hS9).cell 6)
      go_simp
      try with_reducible rfl
    show wpAnyH _ _ _ _ _ _ _ (Act.put _ (some _) _) _
    simp only [Act.put, List.setIfInBounds_toArray, List.set_cons_zero, List.set_cons_succ]
    generalize World.drew w21 = W0 at *
    refine wpAnyH_ready (rs := [1, 5]) (by kernel_rfl) (by simp) ?_
    refine AllReadyH.cons rfl (fun K hK => ?_) (AllReadyH.cons rfl (fun K hK => ?_) AllReadyH.nil)
    · go_simp
      go_wp2_with (go_at_call 15; refine (TFu W0 hHeld).mono ?_; rintro e w2 ⟨v0, q0, v2, q2, rfl, n0, n2, b2⟩)
      refine hK.out _ _ ?_ (fun hHeld2 => ?_)
      · exact hHeld.trans (b2.mono hHeld.size)
      clear hK K
      have zc := hHeld.size
      clear hHeld
      have hHeld := hHeld2
      clear hHeld2
      try simp only [Act.put, List.setIfInBounds_toArray, List.set_cons_zero, List.set_cons_succ]
      have N0 : Hid (IntsAt w2 w21.heap.size v0 d.params) := n0.low zc
      have N2 : Hid (BlocksAt w2 w21.heap.size v2 d.blocks) := n2.low zc
      clear n0 n2
      clear b2 zc
      refine wpAnyH_ready (rs := [3, 5]) (by kernel_rfl) (by simp) ?_
      refine AllReadyH.cons rfl (fun K hK => ?_) (AllReadyH.cons rfl (fun K hK => ?_) AllReadyH.nil)
      · go_simp
        go_wp2_with (go_at_call 16; refine (TIn w2 hHeld).mono ?_; rintro e w3 ⟨va, qv, rfl, m0, b3⟩)
        refine hK.out _ _ ?_ (fun hHeld2 => ?_)
        · exact hHeld.trans (b3.mono hHeld.size)
        clear hK K
        have zc := hHeld.size
        clear hHeld
        have hHeld := hHeld2
        clear hHeld2
        try simp only [Act.put, List.setIfInBounds_toArray, List.set_cons_zero, List.set_cons_succ]
        have N0x : Hid (IntsAt w3 w21.heap.size v0 d.params) := N0.out.keep (agree_of_below b3 _)
        clear N0
        have N0 := N0x
        clear N0x
        have N2x : Hid (BlocksAt w3 w21.heap.size v2 d.blocks) := N2.out.keep (agree_of_below b3 _)
        clear N2
        have N2 := N2x
        clear N2x
        have M0 : Hid (IntsAt w3 w21.heap.size va i.args) := m0.low zc
        clear m0
        clear b3 zc
        refine wpAnyH_ready (rs := [4, 5]) (by kernel_rfl) (by simp) ?_
        refine AllReadyH.cons rfl (fun K hK => ?_) (AllReadyH.cons rfl (fun K hK => ?_) AllReadyH.nil)
        · go_simp
          go_wp2_with (go_at_call 7; refine (FN w21.heap.size v0 q0 v2 q2 va qv w3 N0.out N2.out M0.out).mono ?_; rintro e w5 ⟨hg5, b5⟩; obtain ⟨su, sq, rfl, hrow⟩ := new_got hgl.out hg5)
          refine hK.out _ _ ?_ (fun hHeld2 => ?_)
          · exact hHeld.trans (b5.mono hHeld.size)
          clear hK K
          have zc := hHeld.size
          clear hHeld
          have hHeld := hHeld2
          clear hHeld2
          try simp only [Act.put, List.setIfInBounds_toArray, List.set_cons_zero, List.set_cons_succ]
          have HROW : Hid (IntsAt w5 w3.heap.size su g.args) := hrow
          have zF := zc
          clear hrow zc
          clear b5 N0 N2 M0
          refine wpAnyH_ready (rs := [5]) (by kernel_rfl) (by simp) ?_
          refine AllReadyH.cons rfl (fun K hK => ?_) AllReadyH.nil
          go_simp
          go_wp2_with fail
          refine hK.out _ _ ?_ (fun hHeld2 => ?_)
          · exact hHeld.alloc hHeld.size _
          clear hK K
          have zc := hHeld.size
          clear hHeld
          have hHeld := hHeld2
          clear hHeld2
          try simp only [Act.put, List.setIfInBounds_toArray, List.set_cons_zero, List.set_cons_succ]
          have bV : Hid (Below w5.heap.size w5 (w5.alloc (.cells #[.int .i64 0, .int .i64 0, .int .i64 0, .int .i64 0, .int .i64 0, .int .i64 0, .slice none 0 0] 29))) := (Below.refl _ _).alloc (Nat.le_refl _) _
          have HG : Hid ((w5.alloc (.cells #[.int .i64 0, .int .i64 0, .int .i64 0, .int .i64 0, .int .i64 0, .int .i64 0, .slice none 0 0] 29)).heap[w5.heap.size]? = some (.cells #[.int .i64 0, .int .i64 0, .int .i64 0, .int .i64 0, .int .i64 0, .int .i64 0, .slice none 0 0] 29 (0, 0))) := heap_alloc_last w5 (.cells #[.int .i64 0, .int .i64 0, .int .i64 0, .int .i64 0, .int .i64 0, .int .i64 0, .slice none 0 0] 29)
          have hG1 : w21.heap.size ≤ w5.heap.size := zc
          generalize (w5.alloc (.cells #[.int .i64 0, .int .i64 0, .int .i64 0, .int .i64 0, .int .i64 0, .int .i64 0, .slice none 0 0] 29)) = V at *
          have n0 : V.cell? ⟨w5.heap.size, 0, none⟩ = some (.int .i64 0) := (cell_of_heap HG.out).trans rfl
          have n1 : V.cell? ⟨w5.heap.size, 1, none⟩ = some (.int .i64 0) := (cell_of_heap HG.out).trans rfl
          have n2 : V.cell? ⟨w5.heap.size, 2, none⟩ = some (.int .i64 0) := (cell_of_heap HG.out).trans rfl
          have n3 : V.cell? ⟨w5.heap.size, 3, none⟩ = some (.int .i64 0) := (cell_of_heap HG.out).trans rfl
          have n4 : V.cell? ⟨w5.heap.size, 4, none⟩ = some (.int .i64 0) := (cell_of_heap HG.out).trans rfl
          have n5 : V.cell? ⟨w5.heap.size, 5, none⟩ = some (.int .i64 0) := (cell_of_heap HG.out).trans rfl
          have n6 : V.cell? ⟨w5.heap.size, 6, none⟩ = some (.slice none 0 0) := (cell_of_heap HG.out).trans rfl
          have nf : ∀ o, V.frozen? ⟨w5.heap.size, o, none⟩ = false := fun o => froz_of_heap HG.out
          refine wpAnyH_ready (rs := [6]) (by kernel_rfl) (by simp) ?_
          refine AllReadyH.cons rfl (fun K hK => ?_) AllReadyH.nil
          go_simp
          go_wp2_with fail
          refine hK.out _ _ ?_ (fun hHeld2 => ?_)
          · exact (by repeat (first | refine Below.setCell ?_ (by dsimp only; omega) _ | exact hHeld))
          clear hK K
          have zc := hHeld.size
          clear hHeld
          have hHeld := hHeld2
          clear hHeld2
          try simp only [Act.put, List.setIfInBounds_toArray, List.set_cons_zero, List.set_cons_succ]
          refine wpAnyH_done (by kernel_rfl) ?_ _
          exact ⟨rfl, w5.heap.size, su, sq, rfl, rfl, ⟨rfl, rfl, rfl⟩, rfl, hG1, set7_row HG.out, IntsAt.low (HROW.out.keep (agree_of_below (by repeat (first | refine Below.setCell ?_ (by dsimp only; omega) _ | exact bV.out)) _)) (by omega), hHeld⟩
        · go_simp
          go_wp2_with fail
          refine hK.out _ _ ?_ (fun hHeld2 => ?_)
          · exact hHeld.alloc hHeld.size _
          clear hK K
          have zc := hHeld.size
          clear hHeld
          have hHeld := hHeld2
          clear hHeld2
          try simp only [Act.put, List.setIfInBounds_toArray, List.set_cons_zero, List.set_cons_succ]
          have bV : Hid (Below w3.heap.size w3 (w3.alloc (.cells #[.int .i64 0, .int .i64 0, .int .i64 0, .int .i64 0, .int .i64 0, .int .i64 0, .slice none 0 0] 29))) := (Below.refl _ _).alloc (Nat.le_refl _) _
          have HG : Hid ((w3.alloc (.cells #[.int .i64 0, .int .i64 0, .int .i64 0, .int .i64 0, .int .i64 0, .int .i64 0, .slice none 0 0] 29)).heap[w3.heap.size]? = some (.cells #[.int .i64 0, .int .i64 0, .int .i64 0, .int .i64 0, .int .i64 0, .int .i64 0, .slice none 0 0] 29 (0, 0))) := heap_alloc_last w3 (.cells #[.int .i64 0, .int .i64 0, .int .i64 0, .int .i64 0, .int .i64 0, .int .i64 0, .slice none 0 0] 29)
          have N0x : Hid (IntsAt (w3.alloc (.cells #[.int .i64 0, .int .i64 0, .int .i64 0, .int .i64 0, .int .i64 0, .int .i64 0, .slice none 0 0] 29)) w21.heap.size v0 d.params) := N0.out.keep (agree_of_below bV.out _)
          clear N0
          have N0 := N0x
          clear N0x
          have N2x : Hid (BlocksAt (w3.alloc (.cells #[.int .i64 0, .int .i64 0, .int .i64 0, .int .i64 0, .int .i64 0, .int .i64 0, .slice none 0 0] 29)) w21.heap.size v2 d.blocks) := N2.out.keep (agree_of_below bV.out _)
          clear N2
          have N2 := N2x
          clear N2x
          have M0x : Hid (IntsAt (w3.alloc (.cells #[.int .i64 0, .int .i64 0, .int .i64 0, .int .i64 0, .int .i64 0, .int .i64 0, .slice none 0 0] 29)) w21.heap.size va i.args) := M0.out.keep (agree_of_below bV.out _)
          clear M0
          have M0 := M0x
          clear M0x
          have hG1 : w21.heap.size ≤ w3.heap.size := zc
          generalize (w3.alloc (.cells #[.int .i64 0, .int .i64 0, .int .i64 0, .int .i64 0, .int .i64 0, .int .i64 0, .slice none 0 0] 29)) = V at *
          clear bV
          refine wpAnyH_ready (rs := [4]) (by kernel_rfl) (by simp) ?_
          refine AllReadyH.cons rfl (fun K hK => ?_) AllReadyH.nil
          go_simp
          go_wp2_with (go_at_call 7; refine (FN w21.heap.size v0 q0 v2 q2 va qv V N0.out N2.out M0.out).mono ?_; rintro e w5 ⟨hg5, b5⟩; obtain ⟨su, sq, rfl, hrow⟩ := new_got hgl.out hg5)
          refine hK.out _ _ ?_ (fun hHeld2 => ?_)
          · exact hHeld.trans (b5.mono hHeld.size)
          clear hK K
          have zc := hHeld.size
          clear hHeld
          have hHeld := hHeld2
          clear hHeld2
          try simp only [Act.put, List.setIfInBounds_toArray, List.set_cons_zero, List.set_cons_succ]
          have HROW : Hid (IntsAt w5 V.heap.size su g.args) := hrow
          have zF := zc
          clear hrow zc
          have hGc : w3.heap.size < V.heap.size := (Array.getElem?_eq_some_iff.1 HG.out).1
          have HGx : Hid (w5.heap[w3.heap.size]? = some (.cells #[.int .i64 0, .int .i64 0, .int .i64 0, .int .i64 0, .int .i64 0, .int .i64 0, .slice none 0 0] 29 (0, 0))) := (b5.block _ (Array.getElem?_eq_some_iff.1 HG.out).1).trans HG.out
          clear HG
          have HG := HGx
          clear HGx
          clear b5 N0 N2 M0
          have n0 : w5.cell? ⟨w3.heap.size, 0, none⟩ = some (.int .i64 0) := (cell_of_heap HG.out).trans rfl
          have n1 : w5.cell? ⟨w3.heap.size, 1, none⟩ = some (.int .i64 0) := (cell_of_heap HG.out).trans rfl
          have n2 : w5.cell? ⟨w3.heap.size, 2, none⟩ = some (.int .i64 0) := (cell_of_heap HG.out).trans rfl
          have n3 : w5.cell? ⟨w3.heap.size, 3, none⟩ = some (.int .i64 0) := (cell_of_heap HG.out).trans rfl
          have n4 : w5.cell? ⟨w3.heap.size, 4, none⟩ = some (.int .i64 0) := (cell_of_heap HG.out).trans rfl
          have n5 : w5.cell? ⟨w3.heap.size, 5, none⟩ = some (.int .i64 0) := (cell_of_heap HG.out).trans rfl
          have n6 : w5.cell? ⟨w3.heap.size, 6, none⟩ = some (.slice none 0 0) := (cell_of_heap HG.out).trans rfl
          have nf : ∀ o, w5.frozen? ⟨w3.heap.size, o, none⟩ = false := fun o => froz_of_heap HG.out
          refine wpAnyH_ready (rs := [6]) (by kernel_rfl) (by simp) ?_
          refine AllReadyH.cons rfl (fun K hK => ?_) AllReadyH.nil
          go_simp
          go_wp2_with fail
          refine hK.out _ _ ?_ (fun hHeld2 => ?_)
          · exact (by repeat (first | refine Below.setCell ?_ (by dsimp only; omega) _ | exact hHeld))
          clear hK K
          have zc := hHeld.size
          clear hHeld
          have hHeld := hHeld2
          clear hHeld2
          try simp only [Act.put, List.setIfInBounds_toArray, List.set_cons_zero, List.set_cons_succ]
          refine wpAnyH_done (by kernel_rfl) ?_ _
          exact ⟨rfl, w3.heap.size, su, sq, rfl, rfl, ⟨rfl, rfl, rfl⟩, rfl, hG1, set7_row HG.out, IntsAt.low (HROW.out.keep (by repeat (first | refine Agree.trans ?_ (agree_setCell _ _ _ _ _ (by omega)) | exact Agree.refl _ _))) (by omega), hHeld⟩
      · go_simp
        go_wp2_with fail
        refine hK.out _ _ ?_ (fun hHeld2 => ?_)
        · exact hHeld.alloc hHeld.size _
        clear hK K
        have zc := hHeld.size
        clear hHeld
        have hHeld := hHeld2
        clear hHeld2
        try simp only [Act.put, List.setIfInBounds_toArray, List.set_cons_zero, List.set_cons_succ]
        have bV : Hid (Below w2.heap.size w2 (w2.alloc (.cells #[.int .i64 0, .int .i64 0, .int .i64 0, .int .i64 0, .int .i64 0, .int .i64 0, .slice none 0 0] 29))) := (Below.refl _ _).alloc (Nat.le_refl _) _
        have HG : Hid ((w2.alloc (.cells #[.int .i64 0, .int .i64 0, .int .i64 0, .int .i64 0, .int .i64 0, .int .i64 0, .slice none 0 0] 29)).heap[w2.heap.size]? = some (.cells #[.int .i64 0, .int .i64 0, .int .i64 0, .int .i64 0, .int .i64 0, .int .i64 0, .slice none 0 0] 29 (0, 0))) := heap_alloc_last w2 (.cells #[.int .i64 0, .int .i64 0, .int .i64 0, .int .i64 0, .int .i64 0, .int .i64 0, .slice none 0 0] 29)
        have N0x : Hid (IntsAt (w2.alloc (.cells #[.int .i64 0, .int .i64 0, .int .i64 0, .int .i64 0, .int .i64 0, .int .i64 0, .slice none 0 0] 29)) w21.heap.size v0 d.params) := N0.out.keep (agree_of_below bV.out _)
        clear N0
        have N0 := N0x
        clear N0x
        have N2x : Hid (BlocksAt (w2.alloc (.cells #[.int .i64 0, .int .i64 0, .int .i64 0, .int .i64 0, .int .i64 0, .int .i64 0, .slice none 0 0] 29)) w21.heap.size v2 d.blocks) := N2.out.keep (agree_of_below bV.out _)
        clear N2
        have N2 := N2x
        clear N2x
        have hG1 : w21.heap.size ≤ w2.heap.size := zc
        generalize (w2.alloc (.cells #[.int .i64 0, .int .i64 0, .int .i64 0, .int .i64 0, .int .i64 0, .int .i64 0, .slice none 0 0] 29)) = V at *
        clear bV
        refine wpAnyH_ready (rs := [3]) (by kernel_rfl) (by simp) ?_
        refine AllReadyH.cons rfl (fun K hK => ?_) AllReadyH.nil
        go_simp
        go_wp2_with (go_at_call 16; refine (TIn V hHeld).mono ?_; rintro e w3 ⟨va, qv, rfl, m0, b3⟩)
        refine hK.out _ _ ?_ (fun hHeld2 => ?_)
        · exact hHeld.trans (b3.mono hHeld.size)
        clear hK K
        have zc := hHeld.size
        clear hHeld
        have hHeld := hHeld2
        clear hHeld2
        try simp only [Act.put, List.setIfInBounds_toArray, List.set_cons_zero, List.set_cons_succ]
        have N0x : Hid (IntsAt w3 w21.heap.size v0 d.params) := N0.out.keep (agree_of_below b3 _)
        clear N0
        have N0 := N0x
        clear N0x
        have N2x : Hid (BlocksAt w3 w21.heap.size v2 d.blocks) := N2.out.keep (agree_of_below b3 _)
        clear N2
        have N2 := N2x
        clear N2x
        have M0 : Hid (IntsAt w3 w21.heap.size va i.args) := m0.low zc
        clear m0
        have HGx : Hid (w3.heap[w2.heap.size]? = some (.cells #[.int .i64 0, .int .i64 0, .int .i64 0, .int .i64 0, .int .i64 0, .int .i64 0, .slice none 0 0] 29 (0, 0))) := (b3.block _ (Array.getElem?_eq_some_iff.1 HG.out).1).trans HG.out
        clear HG
        have HG := HGx
        clear HGx
        clear b3 zc
        refine wpAnyH_ready (rs := [4]) (by kernel_rfl) (by simp) ?_
        refine AllReadyH.cons rfl (fun K hK => ?_) AllReadyH.nil
        go_simp
        go_wp2_with (go_at_call 7; refine (FN w21.heap.size v0 q0 v2 q2 va qv w3 N0.out N2.out M0.out).mono ?_; rintro e w5 ⟨hg5, b5⟩; obtain ⟨su, sq, rfl, hrow⟩ := new_got hgl.out hg5)
        refine hK.out _ _ ?_ (fun hHeld2 => ?_)
        · exact hHeld.trans (b5.mono hHeld.size)
        clear hK K
        have zc := hHeld.size
        clear hHeld
        have hHeld := hHeld2
        clear hHeld2
        try simp only [Act.put, List.setIfInBounds_toArray, List.set_cons_zero, List.set_cons_succ]
        have HROW : Hid (IntsAt w5 w3.heap.size su g.args) := hrow
        have zF := zc
        clear hrow zc
        have hGc : w2.heap.size < w3.heap.size := (Array.getElem?_eq_some_iff.1 HG.out).1
        have HGx : Hid (w5.heap[w2.heap.size]? = some (.cells #[.int .i64 0, .int .i64 0, .int .i64 0, .int .i64 0, .int .i64 0, .int .i64 0, .slice none 0 0] 29 (0, 0))) := (b5.block _ (Array.getElem?_eq_some_iff.1 HG.out).1).trans HG.out
        clear HG
        have HG := HGx
        clear HGx
        clear b5 N0 N2 M0
        have n0 : w5.cell? ⟨w2.heap.size, 0, none⟩ = some (.int .i64 0) := (cell_of_heap HG.out).trans rfl
        have n1 : w5.cell? ⟨w2.heap.size, 1, none⟩ = some (.int .i64 0) := (cell_of_heap HG.out).trans rfl
        have n2 : w5.cell? ⟨w2.heap.size, 2, none⟩ = some (.int .i64 0) := (cell_of_heap HG.out).trans rfl
        have n3 : w5.cell? ⟨w2.heap.size, 3, none⟩ = some (.int .i64 0) := (cell_of_heap HG.out).trans rfl
        have n4 : w5.cell? ⟨w2.heap.size, 4, none⟩ = some (.int .i64 0) := (cell_of_heap HG.out).trans rfl
        have n5 : w5.cell? ⟨w2.heap.size, 5, none⟩ = some (.int .i64 0) := (cell_of_heap HG.out).trans rfl
        have n6 : w5.cell? ⟨w2.heap.size, 6, none⟩ = some (.slice none 0 0) := (cell_of_heap HG.out).trans rfl
        have nf : ∀ o, w5.frozen? ⟨w2.heap.size, o, none⟩ = false := fun o => froz_of_heap HG.out
        refine wpAnyH_ready (rs := [6]) (by kernel_rfl) (by simp) ?_
        refine AllReadyH.cons rfl (fun K hK => ?_) AllReadyH.nil
        go_simp
        go_wp2_with fail
        refine hK.out _ _ ?_ (fun hHeld2 => ?_)
        · exact (by repeat (first | refine Below.setCell ?_ (by dsimp only; omega) _ | exact hHeld))
        clear hK K
        have zc := hHeld.size
        clear hHeld
        have hHeld := hHeld2
        clear hHeld2
        try simp only [Act.put, List.setIfInBounds_toArray, List.set_cons_zero, List.set_cons_succ]
        refine wpAnyH_done (by kernel_rfl) ?_ _
        exact ⟨rfl, w2.heap.size, su, sq, rfl, rfl, ⟨rfl, rfl, rfl⟩, rfl, hG1, set7_row HG.out, IntsAt.low (HROW.out.keep (by repeat (first | refine Agree.trans ?_ (agree_setCell _ _ _ _ _ (by omega)) | exact Agree.refl _ _))) (by omega), hHeld⟩
    · go_simp
      go_wp2_with fail
      refine hK.out _ _ ?_ (fun hHeld2 => ?_)
      · exact hHeld.alloc hHeld.size _
      clear hK K
      have zc := hHeld.size
      clear hHeld
      have hHeld := hHeld2
      clear hHeld2
      try simp only [Act.put, List.setIfInBounds_toArray, List.set_cons_zero, List.set_cons_succ]
      have bV : Hid (Below W0.heap.size W0 (W0.alloc (.cells #[.int .i64 0, .int .i64 0, .int .i64 0, .int .i64 0, .int .i64 0, .int .i64 0, .slice none 0 0] 29))) := (Below.refl _ _).alloc (Nat.le_refl _) _
      have HG : Hid ((W0.alloc (.cells #[.int .i64 0, .int .i64 0, .int .i64 0, .int .i64 0, .int .i64 0, .int .i64 0, .slice none 0 0] 29)).heap[W0.heap.size]? = some (.cells #[.int .i64 0, .int .i64 0, .int .i64 0, .int .i64 0, .int .i64 0, .int .i64 0, .slice none 0 0] 29 (0, 0))) := heap_alloc_last W0 (.cells #[.int .i64 0, .int .i64 0, .int .i64 0, .int .i64 0, .int .i64 0, .int .i64 0, .slice none 0 0] 29)
      have hG1 : w21.heap.size ≤ W0.heap.size := zc
      generalize (W0.alloc (.cells #[.int .i64 0, .int .i64 0, .int .i64 0, .int .i64 0, .int .i64 0, .int .i64 0, .slice none 0 0] 29)) = V at *
      clear bV
      refine wpAnyH_ready (rs := [1]) (by kernel_rfl) (by simp) ?_
      refine AllReadyH.cons rfl (fun K hK => ?_) AllReadyH.nil
      go_simp
      go_wp2_with (go_at_call 15; refine (TFu V hHeld).mono ?_; rintro e w2 ⟨v0, q0, v2, q2, rfl, n0, n2, b2⟩)
      refine hK.out _ _ ?_ (fun hHeld2 => ?_)
      · exact hHeld.trans (b2.mono hHeld.size)
      clear hK K
      have zc := hHeld.size
      clear hHeld
      have hHeld := hHeld2
      clear hHeld2
      try simp only [Act.put, List.setIfInBounds_toArray, List.set_cons_zero, List.set_cons_succ]
      have N0 : Hid (IntsAt w2 w21.heap.size v0 d.params) := n0.low zc
      have N2 : Hid (BlocksAt w2 w21.heap.size v2 d.blocks) := n2.low zc
      clear n0 n2
      have HGx : Hid (w2.heap[W0.heap.size]? = some (.cells #[.int .i64 0, .int .i64 0, .int .i64 0, .int .i64 0, .int .i64 0, .int .i64 0, .slice none 0 0] 29 (0, 0))) := (b2.block _ (Array.getElem?_eq_some_iff.1 HG.out).1).trans HG.out
      clear HG
      have HG := HGx
      clear HGx
      clear b2 zc
      refine wpAnyH_ready (rs := [3]) (by kernel_rfl) (by simp) ?_
      refine AllReadyH.cons rfl (fun K hK => ?_) AllReadyH.nil
      go_simp
      go_wp2_with (go_at_call 16; refine (TIn w2 hHeld).mono ?_; rintro e w3 ⟨va, qv, rfl, m0, b3⟩)
      refine hK.out _ _ ?_ (fun hHeld2 => ?_)
      · exact hHeld.trans (b3.mono hHeld.size)
      clear hK K
      have zc := hHeld.size
      clear hHeld
      have hHeld := hHeld2
      clear hHeld2
      try simp only [Act.put, List.setIfInBounds_toArray, List.set_cons_zero, List.set_cons_succ]
      have N0x : Hid (IntsAt w3 w21.heap.size v0 d.params) := N0.out.keep (agree_of_below b3 _)
      clear N0
      have N0 := N0x
      clear N0x
      have N2x : Hid (BlocksAt w3 w21.heap.size v2 d.blocks) := N2.out.keep (agree_of_below b3 _)
      clear N2
      have N2 := N2x
      clear N2x
      have M0 : Hid (IntsAt w3 w21.heap.size va i.args) := m0.low zc
      clear m0
      have HGx : Hid (w3.heap[W0.heap.size]? = some (.cells #[.int .i64 0, .int .i64 0, .int .i64 0, .int .i64 0, .int .i64 0, .int .i64 0, .slice none 0 0] 29 (0, 0))) := (b3.block _ (Array.getElem?_eq_some_iff.1 HG.out).1).trans HG.out
      clear HG
      have HG := HGx
      clear HGx
      clear b3 zc
      refine wpAnyH_ready (rs := [4]) (by kernel_rfl) (by simp) ?_
      refine AllReadyH.cons rfl (fun K hK => ?_) AllReadyH.nil
      go_simp
      go_wp2_with (go_at_call 7; refine (FN w21.heap.size v0 q0 v2 q2 va qv w3 N0.out N2.out M0.out).mono ?_; rintro e w5 ⟨hg5, b5⟩; obtain ⟨su, sq, rfl, hrow⟩ := new_got hgl.out hg5)
      refine hK.out _ _ ?_ (fun hHeld2 => ?_)
      · exact hHeld.trans (b5.mono hHeld.size)
      clear hK K
      have zc := hHeld.size
      clear hHeld
      have hHeld := hHeld2
      clear hHeld2
      try simp only [Act.put, List.setIfInBounds_toArray, List.set_cons_zero, List.set_cons_succ]
      have HROW : Hid (IntsAt w5 w3.heap.size su g.args) := hrow
      have zF := zc
      clear hrow zc
      have hGc : W0.heap.size < w3.heap.size := (Array.getElem?_eq_some_iff.1 HG.out).1
      have HGx : Hid (w5.heap[W0.heap.size]? = some (.cells #[.int .i64 0, .int .i64 0, .int .i64 0, .int .i64 0, .int .i64 0, .int .i64 0, .slice none 0 0] 29 (0, 0))) := (b5.block _ (Array.getElem?_eq_some_iff.1 HG.out).1).trans HG.out
      clear HG
      have HG := HGx
      clear HGx
      clear b5 N0 N2 M0
      have n0 : w5.cell? ⟨W0.heap.size, 0, none⟩ = some (.int .i64 0) := (cell_of_heap HG.out).trans rfl
      have n1 : w5.cell? ⟨W0.heap.size, 1, none⟩ = some (.int .i64 0) := (cell_of_heap HG.out).trans rfl
      have n2 : w5.cell? ⟨W0.heap.size, 2, none⟩ = some (.int .i64 0) := (cell_of_heap HG.out).trans rfl
      have n3 : w5.cell? ⟨W0.heap.size, 3, none⟩ = some (.int .i64 0) := (cell_of_heap HG.out).trans rfl
      have n4 : w5.cell? ⟨W0.heap.size, 4, none⟩ = some (.int .i64 0) := (cell_of_heap HG.out).trans rfl
      have n5 : w5.cell? ⟨W0.heap.size, 5, none⟩ = some (.int .i64 0) := (cell_of_heap HG.out).trans rfl
      have n6 : w5.cell? ⟨W0.heap.size, 6, none⟩ = some (.slice none 0 0) := (cell_of_heap HG.out).trans rfl
      have nf : ∀ o, w5.frozen? ⟨W0.heap.size, o, none⟩ = false := fun o => froz_of_heap HG.out
      refine wpAnyH_ready (rs := [6]) (by kernel_rfl) (by simp) ?_
      refine AllReadyH.cons rfl (fun K hK => ?_) AllReadyH.nil
      go_simp
      go_wp2_with fail
      refine hK.out _ _ ?_ (fun hHeld2 => ?_)
      · exact (by repeat (first | refine Below.setCell ?_ (by dsimp only; omega) _ | exact hHeld))
      clear hK K
      have zc := hHeld.size
      clear hHeld
      have hHeld := hHeld2
      clear hHeld2
      try simp only [Act.put, List.setIfInBounds_toArray, List.set_cons_zero, List.set_cons_succ]
      refine wpAnyH_done (by kernel_rfl) ?_ _
      exact ⟨rfl, W0.heap.size, su, sq, rfl, rfl, ⟨rfl, rfl, rfl⟩, rfl, hG1, set7_row HG.out, IntsAt.low (HROW.out.keep (by repeat (first | refine Agree.trans ?_ (agree_setCell _ _ _ _ _ (by omega)) | exact Agree.refl _ _))) (by omega), hHeld⟩
  clear TFu TIn TF0 TI0 FS FN
  rintro e a' W22 ⟨rfl, H, hu, hq, fd, fz, ⟨t6, t9, t11⟩, t13, hH, atH, rowH, bW⟩
  obtain ⟨t, df⟩ := a'
  dsimp only at fd fz t6 t9 t11 t13
  subst fd
  obtain ⟨f, rfl⟩ := frame92_f t fz
  clear fz
  change f 6 = _ at t6
  change f 9 = _ at t9
  change f 11 = _ at t11
  change f 13 = _ at t13
  rw [t6, t9, t11, t13]
  clear t6 t9 t11 t13
  have zW22 : w21.heap.size ≤ W22.heap.size := bW.size
  have hA' : Hid (BxA d i u0 c0 u2 c2 ua qa w W22) := hA.out.keep bW
  clear hA
  have hA := hA'
  clear hA'
  have XP' : Hid (At W22 P #[.int .i64 g.op, .int .i64 g.w, .int .i64 g.a, .int .i64 g.b, .int .i64 g.c, .int .i64 g.imm, .slice su g.args.length sq] 29) := XP.out.below bW
  clear XP
  have XP := XP'
  clear XP'
  have aP' : Hid (Agree wA.heap.size W8 W22) := agree_below aP.out bW
  clear aP
  have aP := aP'
  clear aP'
  have XG' : Hid (At W22 w11.heap.size #[.int .i64 g.op, .int .i64 g.w, .int .i64 g.a, .int .i64 g.b, .int .i64 g.c, .int .i64 g.imm, .slice gu g.args.length gq] 29) := XG.out.below bW
  clear XG
  have XG := XG'
  clear XG'
  have OM' : Hid (OI W22 w10b.heap.size gu (marks 1 g.args.length)) := OM.out.keep (agree_of_below bW _)
  clear OM
  have OM := OM'
  clear OM'
  clear bW
  have XH : Hid (At W22 H #[.int .i64 g.op, .int .i64 g.w, .int .i64 g.a, .int .i64 g.b, .int .i64 g.c, .int .i64 g.imm, .slice hu g.args.length hq] 29) := atH
  clear atH
  have x0 : W22.cell? ⟨H, 0, none⟩ = some (.int .i64 g.op) := XH.out.cell 0
  have x1 : W22.cell? ⟨H, 1, none⟩ = some (.int .i64 g.w) := XH.out.cell 1
  have x2 : W22.cell? ⟨H, 2, none⟩ = some (.int .i64 g.a) := XH.out.cell 2
  have x3 : W22.cell? ⟨H, 3, none⟩ = some (.int .i64 g.b) := XH.out.cell 3
  have x4 : W22.cell? ⟨H, 4, none⟩ = some (.int .i64 g.c) := XH.out.cell 4
  have x5 : W22.cell? ⟨H, 5, none⟩ = some (.int .i64 g.imm) := XH.out.cell 5
  have x6 : W22.cell? ⟨H, 6, none⟩ = some (.slice hu g.args.length hq) := XH.out.cell 6
  have y0 : W22.cell? ⟨P, 0, none⟩ = some (.int .i64 g.op) := XP.out.cell 0
  have y1 : W22.cell? ⟨P, 1, none⟩ = some (.int .i64 g.w) := XP.out.cell 1
  have y2 : W22.cell? ⟨P, 2, none⟩ = some (.int .i64 g.a) := XP.out.cell 2
  have y3 : W22.cell? ⟨P, 3, none⟩ = some (.int .i64 g.b) := XP.out.cell 3
  have y4 : W22.cell? ⟨P, 4, none⟩ = some (.int .i64 g.c) := XP.out.cell 4
  have y5 : W22.cell? ⟨P, 5, none⟩ = some (.int .i64 g.imm) := XP.out.cell 5
  have y6 : W22.cell? ⟨P, 6, none⟩ = some (.slice su g.args.length sq) := XP.out.cell 6
  go_wp2_with fail
  clear x0 x1 x2 x3 x4 x5 x6
  clear y0 y1 y2 y3 y4 y5 y6
  refine (eqInst_any _ _ g hu hq su sq _ rowH (ROWP.out.keep aP.out)).mono ?_
  rintro e w23 ⟨rfl, b23⟩
  have zw23 : W22.heap.size ≤ w23.heap.size := b23.size
  have hA' : Hid (BxA d i u0 c0 u2 c2 ua qa w w23) := hA.out.keep b23
  clear hA
  have hA := hA'
  clear hA'
  have XP' : Hid (At w23 P #[.int .i64 g.op, .int .i64 g.w, .int .i64 g.a, .int .i64 g.b, .int .i64 g.c, .int .i64 g.imm, .slice su g.args.length sq] 29) := XP.out.below b23
  clear XP
  have XP := XP'
  clear XP'
  have aP' : Hid (Agree wA.heap.size W8 w23) := agree_below aP.out b23
  clear aP
  have aP := aP'
  clear aP'
  have XG' : Hid (At w23 w11.heap.size #[.int .i64 g.op, .int .i64 g.w, .int .i64 g.a, .int .i64 g.b, .int .i64 g.c, .int .i64 g.imm, .slice gu g.args.length gq] 29) := XG.out.below b23
  clear XG
  have XG := XG'
  clear XG'
  have OM' : Hid (OI w23 w10b.heap.size gu (marks 1 g.args.length)) := OM.out.keep (agree_of_below b23 _)
  clear OM
  have OM := OM'
  clear OM'
  have XH' : Hid (At w23 H #[.int .i64 g.op, .int .i64 g.w, .int .i64 g.a, .int .i64 g.b, .int .i64 g.c, .int .i64 g.imm, .slice hu g.args.length hq] 29) := XH.out.below b23
  clear XH
  have XH := XH'
  clear XH'
  clear b23
  have x0 : w23.cell? ⟨w11.heap.size, 0, none⟩ = some (.int .i64 g.op) := XG.out.cell 0
  have x1 : w23.cell? ⟨w11.heap.size, 1, none⟩ = some (.int .i64 g.w) := XG.out.cell 1
  have x2 : w23.cell? ⟨w11.heap.size, 2, none⟩ = some (.int .i64 g.a) := XG.out.cell 2
  have x3 : w23.cell? ⟨w11.heap.size, 3, none⟩ = some (.int .i64 g.b) := XG.out.cell 3
  have x4 : w23.cell? ⟨w11.heap.size, 4, none⟩ = some (.int .i64 g.c) := XG.out.cell 4
  have x5 : w23.cell? ⟨w11.heap.size, 5, none⟩ = some (.int .i64 g.imm) := XG.out.cell 5
  have x6 : w23.cell? ⟨w11.heap.size, 6, none⟩ = some (.slice gu g.args.length gq) := XG.out.cell 6
  go_wp2_with fail
  clear x0 x1 x2 x3 x4 x5 x6
  refine (heldInstK _ g gu gq _ hgl.out OM.out.at).mono ?_
  rintro e w24 ⟨rfl, b24⟩
  have zw24 : w23.heap.size ≤ w24.heap.size := b24.size
  have hA' : Hid (BxA d i u0 c0 u2 c2 ua qa w w24) := hA.out.keep b24
  clear hA
  have hA := hA'
  clear hA'
  have XP' : Hid (At w24 P #[.int .i64 g.op, .int .i64 g.w, .int .i64 g.a, .int .i64 g.b, .int .i64 g.c, .int .i64 g.imm, .slice su g.args.length sq] 29) := XP.out.below b24
  clear XP
  have XP := XP'
  clear XP'
  have aP' : Hid (Agree wA.heap.size W8 w24) := agree_below aP.out b24
  clear aP
  have aP := aP'
  clear aP'
  have XG' : Hid (At w24 w11.heap.size #[.int .i64 g.op, .int .i64 g.w, .int .i64 g.a, .int .i64 g.b, .int .i64 g.c, .int .i64 g.imm, .slice gu g.args.length gq] 29) := XG.out.below b24
  clear XG
  have XG := XG'
  clear XG'
  have OM' : Hid (OI w24 w10b.heap.size gu (marks 1 g.args.length)) := OM.out.keep (agree_of_below b24 _)
  clear OM
  have OM := OM'
  clear OM'
  have XH' : Hid (At w24 H #[.int .i64 g.op, .int .i64 g.w, .int .i64 g.a, .int .i64 g.b, .int .i64 g.c, .int .i64 g.imm, .slice hu g.args.length hq] 29) := XH.out.below b24
  clear XH
  have XH := XH'
  clear XH'
  clear b24
  go_wp2_with fail
  go_ret
  exact ⟨rfl, hA.out.below⟩
end Go.Proofs.YtoknhppjdmoblaaGreatDoor
