import Derived.Test.YtkpmiikafconmaaGreatDoorOwAV
import Derived.Test.YtkpmiikafconmaaGreatDoorSzV
import Derived.Test.YtkpmiikafconmaaGreatDoorRiHV
import Derived.Defers
import Derived.Recover
import Derived.Laws.Pointers
namespace Go.Proofs.YtkpmiikafconmaaGreatDoor
open Go.RowKit
set_option linter.unusedVariables false
theorem opW_size (k : Nat) : (opW k).size ≤ 6 := by unfold opW; rw [bs_size]; exact opWL_len k
end Go.Proofs.YtkpmiikafconmaaGreatDoor
namespace Go.Proofs.YtkpmiikafconmaaGreatDoor
open Go.RowKit
set_option linter.unusedVariables false
theorem formS (lo : Nat) (d : InstD) (u : Option Addr) (q : Nat) (w : World) (hm : d.args.length ≤ 1048576) (hk : IntsAt w lo u d.args) :
  Calls Tryz.prog 134 #[.agg #[.int .i64 d.op, .int .i64 d.w, .int .i64 d.a, .int .i64 d.b, .int .i64 d.c, .int .i64 d.imm, .slice u d.args.length q]] w fun e w' => e = .returned (.bool (instB d 60 3)) ∧ Below w.heap.size w w' := by
 have B0 : IBox d u q w _ := IBox.start (T := 95)
 go_enter Tryz.func134, Tryz.ntmps134
 go_wp2_with fail
 refine (instShS lo d u q 60 3 _ (by decide) (by decide) (by decide) (by decide) hm (hk.keep (agree_of_below B0.below lo))).mono ?_
 rintro e w1 ⟨rfl, b1⟩
 have I1 := B0.keep (b1.mono B0.size)
 go_wp2_with fail
 go_ret
 exact ⟨rfl, I1.below⟩
set_option maxHeartbeats 4000000 in
set_option maxRecDepth 100000 in
theorem l5instS (lo : Nat) (d : InstD) (u : Option Addr) (q : Nat) (w : World) (hF : InF d) (hk : IntsAt w lo u d.args) :
  Calls Tryz.prog 53 #[.agg #[.int .i64 d.op, .int .i64 d.w, .int .i64 d.a, .int .i64 d.b, .int .i64 d.c, .int .i64 d.imm, .slice u d.args.length q]] w fun e w' => e = .returned (.string (instTx d)) ∧ Below w.heap.size w w' := by
 obtain ⟨n, hn⟩ : ∃ n : Nat, d.op = n := ⟨d.op.toNat, by have := hF.op1; omega⟩
 have hn28 : n < 28 := by have := hF.op27; omega
 have hn28' : (n : Int) < 28 := by omega
 have hop : some (Value.int .i64 d.op) = some (.int .i64 (n : Int)) := by rw [hn]
 obtain ⟨m, hwm0, hm9⟩ := hF.w0
 have hwm : some (Value.int .i64 d.w) = some (.int .i64 (m : Int)) := by rw [hwm0]
 obtain ⟨im, him, him9⟩ := hF.imm0
 have hopl := hF.len
 have hops := hF.ops
 have hargs := hF.args
 have e1 : d.op.toNat = n := by omega
 have e2 : numsL [d.w] = 32 :: Lib.itoa (m : Int) := by simp [numsL, hwm0]
 have HTt : Hid (immB n = true → instTx d = opW n ++ ⟨#[32]⟩ ++ decB m ++ ⟨#[32]⟩ ++ decB im ++ bs (numsL (opsD d))) := by
  intro h
  have e3 : numsL [d.imm] = 32 :: Lib.itoa (im : Int) := by simp [numsL, him]
  unfold instTx instN
  rw [e1, nums_append, nums_append, hn, if_pos h, e2, e3, bs_blank, decB_bs, decB_bs]
  unfold opW
  simp only [bs_append, List.append_assoc, List.cons_append, List.nil_append]
 have HTf : Hid (¬ immB n = true → instTx d = opW n ++ ⟨#[32]⟩ ++ decB m ++ bs (numsL (opsD d))) := by
  intro h
  have e4 : numsL [] = [] := rfl
  unfold instTx instN
  rw [e1, nums_append, nums_append, hn, if_neg h, e2, e4, bs_blank, decB_bs]
  unfold opW
  simp only [bs_append, List.append_assoc, List.cons_append, List.nil_append]
 clear e1 e2
 have B0 : IBox d u q w _ := IBox.start (T := 95)
 have hDm := decB_size hm9
 have hDi := decB_size him9
 have hW6 := opW_size n
 have h32 : (⟨#[32]⟩ : ByteArray).size = 1 := rfl
 have hA1 : (opW n ++ ⟨#[32]⟩ : ByteArray).size ≤ 7 := by rw [ByteArray.size_append]; omega
 have hA2 : (opW n ++ ⟨#[32]⟩ ++ decB m : ByteArray).size ≤ 17 := by rw [ByteArray.size_append]; omega
 have HDM : Hid (∀ w1, Calls Tryz.prog 51 #[.int .i64 (m : Int)] w1 fun e w' => e = .returned (.string (decB m)) ∧ Below w1.heap.size w1 w') := fun w1 => decS m w1 hm9
 have HDI : Hid (∀ w1, Calls Tryz.prog 51 #[.int .i64 (im : Int)] w1 fun e w' => e = .returned (.string (decB im)) ∧ Below w1.heap.size w1 w') := fun w1 => decS im w1 him9
 have HIM : Hid (d.imm = im) := him
 have HOP : Hid (d.op = n) := hn
 have hNs : (bs (numsL (opsD d))).size ≤ 44 := by rw [bs_size]; have := nums_len _ hops; omega
 have hA3 : (opW n ++ ⟨#[32]⟩ ++ decB m ++ ⟨#[32]⟩ : ByteArray).size ≤ 18 := by rw [ByteArray.size_append]; omega
 have hA4 : (opW n ++ ⟨#[32]⟩ ++ decB m ++ ⟨#[32]⟩ ++ decB im : ByteArray).size ≤ 28 := by rw [ByteArray.size_append]; omega
 have HNU : Hid (∀ a c w1 lo, IntsAt w1 lo a (opsD d) → Calls Tryz.prog 52 #[.slice a (opsD d).length c] w1 fun e w' => e = .returned (.string (bs (numsL (opsD d)))) ∧ Below w1.heap.size w1 w') := fun a c w1 lo h => numsS lo a c (opsD d) w1 h (by omega) hops
 have HOS : Hid (∀ w1 lo, IntsAt w1 lo u d.args → Calls Tryz.prog 90 #[.agg #[.int .i64 (n : Int), .int .i64 (m : Int), .int .i64 d.a, .int .i64 d.b, .int .i64 d.c, .int .i64 (im : Int), .slice u d.args.length q]] w1 fun e w' => ∃ v r, e = .returned (.slice v (opsD d).length r) ∧ OwnAt w' w1.heap.size v (opsD d) ∧ Below w1.heap.size w1 w') := fun w1 lo h => by have h9 := operS lo d u q w1 (by omega) h; rw [hn, hwm0, him] at h9; exact h9
 generalize hZ : opW n = Z at *
 have HZ : Hid (opW n = Z) := hZ
 clear hZ
 generalize bs (numsL (opsD d)) = N at *
 generalize hD1 : decB (m : Int) = D1 at *
 generalize hD2 : decB (im : Int) = D2 at *
 have him' : some (Value.int .i64 d.imm) = some (.int .i64 (im : Int)) := by rw [him]
 clear hD1 hD2 him hwm0 hn
 go_enter Tryz.func53, Tryz.ntmps53
 go_wp2_with fail
 generalize (w.alloc (.cells #[.int .i64 d.op, .int .i64 d.w, .int .i64 d.a, .int .i64 d.b, .int .i64 d.c, .int .i64 d.imm, .slice u d.args.length q] 95)) = W at B0 ⊢
 refine wp_region_held_drew (S := fun w' => Below W.heap.size W w') (by kernel_rfl) ((Below.refl _ _).drew) (fun hHeld => ?_)
 refine wpAnyH_take (i := 1) (v := ?_) rfl (by kernel_rfl) (by kernel_rfl) (by kernel_rfl) (fun _ _ _ h => h) (Or.inl ⟨by rfl, ?_⟩) hHeld ?_
 rotate_left
 ·intro w9 hS9
  go_simp
  try with_reducible rfl
 show wpAnyH _ _ _ _ _ _ _ (Act.put _ (some _) _) _
 simp only [Act.put, List.setIfInBounds_toArray, List.set_cons_zero, List.set_cons_succ]
 refine wpAnyH_take (i := 2) (v := ?_) rfl (by kernel_rfl) (by kernel_rfl) (by kernel_rfl) (fun _ _ _ h => h) (Or.inl ⟨by rfl, ?_⟩) hHeld ?_
 rotate_left
 ·intro w9 hS9
  have g0 := (cell_block (o := 0) (hS9.block w.heap.size (by have := B0.size; omega))).trans (B0.c0.trans hop)
  go_simp
  try with_reducible rfl
 show wpAnyH _ _ _ _ _ _ _ (Act.put _ (some _) _) _
 simp only [Act.put, List.setIfInBounds_toArray, List.set_cons_zero, List.set_cons_succ]
 refine wpAnyH_take (i := 6) (v := ?_) rfl (by kernel_rfl) (by kernel_rfl) (by kernel_rfl) (fun _ _ _ h => h) (Or.inl ⟨by rfl, ?_⟩) hHeld ?_
 rotate_left
 ·intro w9 hS9
  go_simp
  try with_reducible rfl
 show wpAnyH _ _ _ _ _ _ _ (Act.put _ (some _) _) _
 simp only [Act.put, List.setIfInBounds_toArray, List.set_cons_zero, List.set_cons_succ]
 refine wpAnyH_take (i := 7) (v := ?_) rfl (by kernel_rfl) (by kernel_rfl) (by kernel_rfl) (fun _ _ _ h => h) (Or.inl ⟨by rfl, ?_⟩) hHeld ?_
 rotate_left
 ·intro w9 hS9
  have g0 := (cell_block (o := 1) (hS9.block w.heap.size (by have := B0.size; omega))).trans (B0.c1.trans hwm)
  go_simp
  try with_reducible rfl
 show wpAnyH _ _ _ _ _ _ _ (Act.put _ (some _) _) _
 simp only [Act.put, List.setIfInBounds_toArray, List.set_cons_zero, List.set_cons_succ]
 refine wpAnyH_ready (rs := [0]) (by kernel_rfl) (by simp) ?_
 refine AllReadyH.cons rfl (fun K hK => ?_) AllReadyH.nil
 ·go_simp
  go_wp2_with (go_at_call 89; refine (opWordsS W.drew W.heap.size rfl).mono ?_; rintro e wA ⟨rfl, hc1, hz1, bA'⟩; have bA := hHeld.trans (bA'.mono hHeld.size); have f1 := (hc1 n hn28).trans (congrArg (fun z => some (Value.string z)) HZ.out); have hzA := hHeld.size; clear hc1)
  refine hK.out _ _ ?_ (fun hHeld2 => ?_)
  ·exact bA
  clear hK K hHeld
  have hHeld := hHeld2
  clear hHeld2
  try simp only [Act.put, List.setIfInBounds_toArray, List.set_cons_zero, List.set_cons_succ]
  refine wpAnyH_take (i := 3) (v := ?_) rfl (by kernel_rfl) (by kernel_rfl) (by kernel_rfl) (fun _ _ _ h => h) (Or.inl ⟨by rfl, ?_⟩) hHeld ?_
  rotate_left
  ·intro w9 hS9
   go_simp
   try with_reducible rfl
  show wpAnyH _ _ _ _ _ _ _ (Act.put _ (some _) _) _
  simp only [Act.put, List.setIfInBounds_toArray, List.set_cons_zero, List.set_cons_succ]
  refine wpAnyH_ready (rs := [4, 8]) (by kernel_rfl) (by simp) ?_
  refine AllReadyH.cons rfl (fun K hK => ?_) (AllReadyH.cons rfl (fun K hK => ?_) AllReadyH.nil)
  ·go_simp
   refine hK.out _ _ ?_ (fun hHeld2 => ?_)
   ·exact hHeld
   clear hK K hHeld
   have hHeld := hHeld2
   clear hHeld2
   try simp only [Act.put, List.setIfInBounds_toArray, List.set_cons_zero, List.set_cons_succ]
   refine wpAnyH_take (i := 5) (v := ?_) rfl (by kernel_rfl) (by kernel_rfl) (by kernel_rfl) (fun _ _ _ h => h) (Or.inl ⟨by rfl, ?_⟩) hHeld ?_
   rotate_left
   ·intro w9 hS9
    go_simp
    rw [if_neg (by omega)]
    try with_reducible rfl
   show wpAnyH _ _ _ _ _ _ _ (Act.put _ (some _) _) _
   simp only [Act.put, List.setIfInBounds_toArray, List.set_cons_zero, List.set_cons_succ]
   refine wpAnyH_ready (rs := [8]) (by kernel_rfl) (by simp) ?_
   refine AllReadyH.cons rfl (fun K hK => ?_) AllReadyH.nil
   go_simp
   go_wp2_with (go_at_call 51; refine (HDM.out _).mono ?_; rintro e wB ⟨rfl, bB'⟩; have bB := hHeld.trans (bB'.mono hHeld.size))
   refine hK.out _ _ ?_ (fun hHeld2 => ?_)
   ·exact bB
   clear hK K hHeld
   have hHeld := hHeld2
   clear hHeld2
   try simp only [Act.put, List.setIfInBounds_toArray, List.set_cons_zero, List.set_cons_succ]
   refine wpAnyH_take (i := 9) (v := ?_) rfl (by kernel_rfl) (by kernel_rfl) (by kernel_rfl) (fun _ _ _ h => h) (Or.inl ⟨by rfl, ?_⟩) hHeld ?_
   rotate_left
   ·intro w9 hS9
    go_simp
    rw [if_neg (by omega)]
    try with_reducible rfl
   show wpAnyH _ _ _ _ _ _ _ (Act.put _ (some _) _) _
   simp only [Act.put, List.setIfInBounds_toArray, List.set_cons_zero, List.set_cons_succ]
   refine wpAnyH_take (i := 10) (v := ?_) rfl (by kernel_rfl) (by kernel_rfl) (by kernel_rfl) (fun _ _ _ h => h) (Or.inl ⟨by rfl, ?_⟩) hHeld ?_
   rotate_left
   ·intro w9 hS9
    go_simp
    try with_reducible rfl
   show wpAnyH _ _ _ _ _ _ _ (Act.put _ (some _) _) _
   simp only [Act.put, List.setIfInBounds_toArray, List.set_cons_zero, List.set_cons_succ]
   refine wpAnyH_done (by kernel_rfl) ?_ _
   have IF := B0.keep (hHeld.mono B0.size)
   clear hHeld
   have y0 := IF.c0.trans hop
   have y1 := IF.c1.trans hwm
   have y2 := IF.c2
   have y3 := IF.c3
   have y4 := IF.c4
   have y5 := IF.c5.trans him'
   have y6 := IF.c6
   by_cases hc1 : (n : Int) = 21
   ·have n1 : ((n : Int) == 21) = true := by simpa using hc1
    have HT : Hid (instTx d = _) := HTt.out (by simp [immB, hc1])
    clear hc1
    go_wp2_with fail
    refine (HDI.out _).mono ?_
    rintro e wE ⟨rfl, bE⟩
    have IE := IF.keep (bE.mono IF.size)
    clear y0 y1 y2 y3 y4 y5 y6
    have y0 := IE.c0.trans hop
    have y1 := IE.c1.trans hwm
    have y2 := IE.c2
    have y3 := IE.c3
    have y4 := IE.c4
    have y5 := IE.c5.trans him'
    have y6 := IE.c6
    go_wp2_with fail
    refine (HOS.out _ lo (hk.keep (agree_of_below IE.below lo))).mono ?_
    rintro e wC ⟨v, r, rfl, hoC, bC⟩
    have IC := IE.keep (bC.mono IE.size)
    go_wp2_with fail
    refine (HNU.out v r wC _ hoC.ints).mono ?_
    rintro e wD ⟨rfl, bD⟩
    have ID := IC.keep (bD.mono IC.size)
    go_wp2_with fail
    go_ret
    exact ⟨by rw [HT.out]; rfl, ID.below⟩
   ·by_cases hc2 : (n : Int) = 26
    ·have n1 : ((n : Int) == 21) = false := by simpa using hc1
     have n2 : ((n : Int) == 26) = true := by simpa using hc2
     have HT : Hid (instTx d = _) := HTt.out (by simp [immB, hc2])
     clear hc1 hc2
     go_wp2_with fail
     refine (HDI.out _).mono ?_
     rintro e wE ⟨rfl, bE⟩
     have IE := IF.keep (bE.mono IF.size)
     clear y0 y1 y2 y3 y4 y5 y6
     have y0 := IE.c0.trans hop
     have y1 := IE.c1.trans hwm
     have y2 := IE.c2
     have y3 := IE.c3
     have y4 := IE.c4
     have y5 := IE.c5.trans him'
     have y6 := IE.c6
     go_wp2_with fail
     refine (HOS.out _ lo (hk.keep (agree_of_below IE.below lo))).mono ?_
     rintro e wC ⟨v, r, rfl, hoC, bC⟩
     have IC := IE.keep (bC.mono IE.size)
     go_wp2_with fail
     refine (HNU.out v r wC _ hoC.ints).mono ?_
     rintro e wD ⟨rfl, bD⟩
     have ID := IC.keep (bD.mono IC.size)
     go_wp2_with fail
     go_ret
     exact ⟨by rw [HT.out]; rfl, ID.below⟩
    ·have n1 : ((n : Int) == 21) = false := by simpa using hc1
     have n2 : ((n : Int) == 26) = false := by simpa using hc2
     have HT : Hid (instTx d = _) := HTf.out (by simp [immB, hc1, hc2])
     clear hc1 hc2
     go_wp2_with fail
     refine (HOS.out _ lo (hk.keep (agree_of_below IF.below lo))).mono ?_
     rintro e wC ⟨v, r, rfl, hoC, bC⟩
     have IC := IF.keep (bC.mono IF.size)
     go_wp2_with fail
     refine (HNU.out v r wC _ hoC.ints).mono ?_
     rintro e wD ⟨rfl, bD⟩
     have ID := IC.keep (bD.mono IC.size)
     go_wp2_with fail
     go_ret
     exact ⟨by rw [HT.out]; rfl, ID.below⟩
  ·go_simp
   go_wp2_with (go_at_call 51; refine (HDM.out _).mono ?_; rintro e wB ⟨rfl, bB'⟩; have bB := hHeld.trans (bB'.mono hHeld.size); have f2 := (cell_block (o := n) (bB'.block _ (by omega))).trans f1)
   refine hK.out _ _ ?_ (fun hHeld2 => ?_)
   ·exact bB
   clear hK K hHeld
   have hHeld := hHeld2
   clear hHeld2
   try simp only [Act.put, List.setIfInBounds_toArray, List.set_cons_zero, List.set_cons_succ]
   refine wpAnyH_ready (rs := [4]) (by kernel_rfl) (by simp) ?_
   refine AllReadyH.cons rfl (fun K hK => ?_) AllReadyH.nil
   go_simp
   refine hK.out _ _ ?_ (fun hHeld2 => ?_)
   ·exact hHeld
   clear hK K hHeld
   have hHeld := hHeld2
   clear hHeld2
   try simp only [Act.put, List.setIfInBounds_toArray, List.set_cons_zero, List.set_cons_succ]
   refine wpAnyH_take (i := 5) (v := ?_) rfl (by kernel_rfl) (by kernel_rfl) (by kernel_rfl) (fun _ _ _ h => h) (Or.inl ⟨by rfl, ?_⟩) hHeld ?_
   rotate_left
   ·intro w9 hS9
    go_simp
    rw [if_neg (by omega)]
    try with_reducible rfl
   show wpAnyH _ _ _ _ _ _ _ (Act.put _ (some _) _) _
   simp only [Act.put, List.setIfInBounds_toArray, List.set_cons_zero, List.set_cons_succ]
   refine wpAnyH_take (i := 9) (v := ?_) rfl (by kernel_rfl) (by kernel_rfl) (by kernel_rfl) (fun _ _ _ h => h) (Or.inl ⟨by rfl, ?_⟩) hHeld ?_
   rotate_left
   ·intro w9 hS9
    go_simp
    rw [if_neg (by omega)]
    try with_reducible rfl
   show wpAnyH _ _ _ _ _ _ _ (Act.put _ (some _) _) _
   simp only [Act.put, List.setIfInBounds_toArray, List.set_cons_zero, List.set_cons_succ]
   refine wpAnyH_take (i := 10) (v := ?_) rfl (by kernel_rfl) (by kernel_rfl) (by kernel_rfl) (fun _ _ _ h => h) (Or.inl ⟨by rfl, ?_⟩) hHeld ?_
   rotate_left
   ·intro w9 hS9
    go_simp
    try with_reducible rfl
   show wpAnyH _ _ _ _ _ _ _ (Act.put _ (some _) _) _
   simp only [Act.put, List.setIfInBounds_toArray, List.set_cons_zero, List.set_cons_succ]
   refine wpAnyH_done (by kernel_rfl) ?_ _
   have IF := B0.keep (hHeld.mono B0.size)
   clear hHeld
   have y0 := IF.c0.trans hop
   have y1 := IF.c1.trans hwm
   have y2 := IF.c2
   have y3 := IF.c3
   have y4 := IF.c4
   have y5 := IF.c5.trans him'
   have y6 := IF.c6
   by_cases hc1 : (n : Int) = 21
   ·have n1 : ((n : Int) == 21) = true := by simpa using hc1
    have HT : Hid (instTx d = _) := HTt.out (by simp [immB, hc1])
    clear hc1
    go_wp2_with fail
    refine (HDI.out _).mono ?_
    rintro e wE ⟨rfl, bE⟩
    have IE := IF.keep (bE.mono IF.size)
    clear y0 y1 y2 y3 y4 y5 y6
    have y0 := IE.c0.trans hop
    have y1 := IE.c1.trans hwm
    have y2 := IE.c2
    have y3 := IE.c3
    have y4 := IE.c4
    have y5 := IE.c5.trans him'
    have y6 := IE.c6
    go_wp2_with fail
    refine (HOS.out _ lo (hk.keep (agree_of_below IE.below lo))).mono ?_
    rintro e wC ⟨v, r, rfl, hoC, bC⟩
    have IC := IE.keep (bC.mono IE.size)
    go_wp2_with fail
    refine (HNU.out v r wC _ hoC.ints).mono ?_
    rintro e wD ⟨rfl, bD⟩
    have ID := IC.keep (bD.mono IC.size)
    go_wp2_with fail
    go_ret
    exact ⟨by rw [HT.out]; rfl, ID.below⟩
   ·by_cases hc2 : (n : Int) = 26
    ·have n1 : ((n : Int) == 21) = false := by simpa using hc1
     have n2 : ((n : Int) == 26) = true := by simpa using hc2
     have HT : Hid (instTx d = _) := HTt.out (by simp [immB, hc2])
     clear hc1 hc2
     go_wp2_with fail
     refine (HDI.out _).mono ?_
     rintro e wE ⟨rfl, bE⟩
     have IE := IF.keep (bE.mono IF.size)
     clear y0 y1 y2 y3 y4 y5 y6
     have y0 := IE.c0.trans hop
     have y1 := IE.c1.trans hwm
     have y2 := IE.c2
     have y3 := IE.c3
     have y4 := IE.c4
     have y5 := IE.c5.trans him'
     have y6 := IE.c6
     go_wp2_with fail
     refine (HOS.out _ lo (hk.keep (agree_of_below IE.below lo))).mono ?_
     rintro e wC ⟨v, r, rfl, hoC, bC⟩
     have IC := IE.keep (bC.mono IE.size)
     go_wp2_with fail
     refine (HNU.out v r wC _ hoC.ints).mono ?_
     rintro e wD ⟨rfl, bD⟩
     have ID := IC.keep (bD.mono IC.size)
     go_wp2_with fail
     go_ret
     exact ⟨by rw [HT.out]; rfl, ID.below⟩
    ·have n1 : ((n : Int) == 21) = false := by simpa using hc1
     have n2 : ((n : Int) == 26) = false := by simpa using hc2
     have HT : Hid (instTx d = _) := HTf.out (by simp [immB, hc1, hc2])
     clear hc1 hc2
     go_wp2_with fail
     refine (HOS.out _ lo (hk.keep (agree_of_below IF.below lo))).mono ?_
     rintro e wC ⟨v, r, rfl, hoC, bC⟩
     have IC := IF.keep (bC.mono IF.size)
     go_wp2_with fail
     refine (HNU.out v r wC _ hoC.ints).mono ?_
     rintro e wD ⟨rfl, bD⟩
     have ID := IC.keep (bD.mono IC.size)
     go_wp2_with fail
     go_ret
     exact ⟨by rw [HT.out]; rfl, ID.below⟩
end Go.Proofs.YtkpmiikafconmaaGreatDoor
namespace Go.Proofs.YtkpmiikafconmaaGreatDoor
open Go.RowKit
set_option linter.unusedVariables false
set_option maxHeartbeats 4000000 in
theorem instTextS (lo : Nat) (d : InstD) (u : Option Addr) (q : Nat) (w : World) (hm : d.args.length ≤ 1048576) (hk : IntsAt w lo u d.args) :
  Calls Tryz.prog 100 #[.agg #[.int .i64 d.op, .int .i64 d.w, .int .i64 d.a, .int .i64 d.b, .int .i64 d.c, .int .i64 d.imm, .slice u d.args.length q]] w fun e w' => e = .returned (.string (instText d)) ∧ Below w.heap.size w w' := by
 have B0 : IBox d u q w _ := IBox.start (T := 95)
 go_enter Tryz.func100, Tryz.ntmps100
 go_wp2_with fail
 generalize (w.alloc (.cells #[.int .i64 d.op, .int .i64 d.w, .int .i64 d.a, .int .i64 d.b, .int .i64 d.c, .int .i64 d.imm, .slice u d.args.length q] 95)) = W at B0 ⊢
 refine (formS lo d u q W hm (hk.keep (agree_of_below B0.below lo))).mono ?_
 rintro e w1 ⟨rfl, b1⟩
 have I1 := B0.keep (b1.mono B0.size)
 obtain ⟨y0, y1, y2, y3, y4, y5, y6, _, _⟩ := id I1
 cases hok : instB d 60 3 with
 | false =>
  have E : Hid (instText d = ⟨#[]⟩) := by show _ = _; unfold instText; rw [hok]; rfl
  go_wp2_with fail
  go_ret
  exact ⟨by rw [E.out]; rfl, I1.below⟩
 | true =>
  have hF := instB_inF hok
  have E : Hid (instText d = instTx d) := by show _ = _; unfold instText; rw [if_pos hok]
  have LI := l5instS lo d u q w1 hF (hk.keep (agree_of_below I1.below lo))
  clear hok
  rw [← E.out] at LI
  clear E
  generalize hY : instText d = Y at LI
  have HY : Hid (instText d = Y) := hY
  clear hY
  go_wp2_with fail
  refine LI.mono ?_
  rintro e w3 ⟨rfl, b3⟩
  have I3 := I1.keep (b3.mono I1.size)
  go_wp2_with fail
  go_ret
  exact ⟨by rw [HY.out]; rfl, I3.below⟩
end Go.Proofs.YtkpmiikafconmaaGreatDoor
namespace Go.Proofs.YtkpmiikafconmaaGreatDoor
open Go.RowKit
set_option linter.unusedVariables false
set_option linter.unusedSimpArgs false
structure Tst (i : InstD) (u : Option Addr) (q : Nat) (w W : World) (B : Nat) : Prop where
 hB : w.heap.size < B
 r : At W w.heap.size #[.int .i64 0, .int .i64 0, .int .i64 0, .int .i64 0, .int .i64 0, .int .i64 0, .slice none 0 0] 95
 b : At W B #[.int .i64 i.op, .int .i64 i.w, .int .i64 i.a, .int .i64 i.b, .int .i64 i.c, .int .i64 i.imm, .slice u i.args.length q] 95
 row : Row W (w.heap.size + 1) (.slice u i.args.length q) i.args
 below : Below w.heap.size w W
theorem Tst.keep {i : InstD} {u : Option Addr} {q : Nat} {w W W2 : World} {B : Nat} (h : Tst i u q w W B) (k : Below W.heap.size W W2) : Tst i u q w W2 B :=
 ⟨h.hB, h.r.below k, h.b.below k, h.row.keep k, h.below.trans (k.mono h.below.size)⟩
theorem Tst.cells {i : InstD} {u : Option Addr} {q : Nat} {w W : World} {B : Nat} (h : Tst i u q w W B) : W.cell? ⟨B, 0, none⟩ = some (.int .i64 i.op) ∧ W.cell? ⟨B, 1, none⟩ = some (.int .i64 i.w) ∧ W.cell? ⟨B, 2, none⟩ = some (.int .i64 i.a) ∧ W.cell? ⟨B, 3, none⟩ = some (.int .i64 i.b) ∧ W.cell? ⟨B, 4, none⟩ = some (.int .i64 i.c) ∧ W.cell? ⟨B, 5, none⟩ = some (.int .i64 i.imm) ∧ W.cell? ⟨B, 6, none⟩ = some (.slice u i.args.length q) :=
 ⟨h.b.cell 0, h.b.cell 1, h.b.cell 2, h.b.cell 3, h.b.cell 4, h.b.cell 5, h.b.cell 6⟩
end Go.Proofs.YtkpmiikafconmaaGreatDoor
namespace Go.Proofs.YtkpmiikafconmaaGreatDoor
open Go.RowKit
set_option linter.unusedVariables false
set_option linter.unusedSimpArgs false
theorem results_two {P : Program} {fn : Func} {p r : Tmp} {ty tb : TypeId} (h : fn.results = #[.cell p ty, .cell r tb]) (tmps : Array Value) (w : World) (g k : Nat) (v1 v2 : Value)
  (hp : tmps.getD p undef = .pointer (some ⟨g, 0, none⟩)) (hr : tmps.getD r undef = .pointer (some ⟨k, 0, none⟩)) (h1 : (loadVar ty ⟨g, 0, none⟩).run P w = .ok v1 w) (h2 : (loadVar tb ⟨k, 0, none⟩).run P w = .ok v2 w) :
  (results fn tmps).run P w = .ok (.tuple #[v1, v2]) w := by
 have hp' : tmps[p]?.getD undef = .pointer (some ⟨g, 0, none⟩) := by simpa using hp
 have hr' : tmps[r]?.getD undef = .pointer (some ⟨k, 0, none⟩) := by simpa using hr
 simp [results, h, hp', hr', asAddr, h1, h2, Result.andThen]
theorem load_bool {w : World} {k : Nat} {b : Bool} (h : At w k #[.bool b] 4) : (loadVar 4 ⟨k, 0, none⟩).run Tryz.prog w = .ok (.bool b) w := by
 have c : w.cell? ⟨k, 0, none⟩ = some (.bool b) := h.cell 0
 simp [go_sem, c]
theorem results_row_tmp {P : Program} {fn : Func} {p u : Tmp} {ty : TypeId} (h : fn.results = #[.cell p ty, .tmp u]) (tmps : Array Value) (w : World) (g : Nat) (cs : Array Value)
  (hp : tmps.getD p undef = .pointer (some ⟨g, 0, none⟩)) (hl : (loadVar ty ⟨g, 0, none⟩).run P w = .ok (.agg cs) w) :
  (results fn tmps).run P w = .ok (.tuple #[.agg cs, tmps.getD u undef]) w := by
 have hp' : tmps[p]?.getD undef = .pointer (some ⟨g, 0, none⟩) := by simpa using hp
 rw [results_cell_tmp h]
 simp [hp', asAddr, hl, Result.andThen]
end Go.Proofs.YtkpmiikafconmaaGreatDoor
