import Derived.Test.YtgojlnclpebdcaaGreatDoorMemR
import Derived.Test.YtgojlnclpebdcaaGreatDoorChJR
import Derived.Laws.Tables
namespace Go.Proofs.YtgojlnclpebdcaaGreatDoor
open Go.RowKit
set_option linter.unusedVariables false
set_option linter.unusedSimpArgs false
theorem fold_list : ∀ (l : List Value) (k : Nat) (base : Array Value), ((l.zipIdx k).foldl (fun cs x => cs.setIfInBounds (3 + x.2) x.1) base).size = base.size ∧ ∀ i, ((l.zipIdx k).foldl (fun cs x => cs.setIfInBounds (3 + x.2) x.1) base)[i]? = if 3 + k ≤ i ∧ i < 3 + k + l.length ∧ i < base.size then l[i - (3 + k)]? else base[i]?
 | [], k, base => ⟨rfl, fun i => by rw [if_neg (by simp; omega)]; rfl⟩
 | x :: l, k, base => by
  obtain ⟨h1, h2⟩ := fold_list l (k + 1) (base.setIfInBounds (3 + k) x)
  refine ⟨by simpa using h1, fun i => ?_⟩
  rw [List.zipIdx_cons, List.foldl_cons, h2 i]
  by_cases hi : i = 3 + k
  ·subst hi
   rw [if_neg (by omega)]
   by_cases hb : 3 + k < base.size
   ·rw [if_pos ⟨by omega, by simp, hb⟩]; simp [hb]
   ·rw [if_neg (by omega)]; simp [Array.getElem?_eq_none (Nat.le_of_not_lt hb), hb]
  ·rw [Array.getElem?_setIfInBounds_ne (by omega)]
   by_cases hc : 3 + (k + 1) ≤ i ∧ i < 3 + (k + 1) + l.length ∧ i < base.size
   ·rw [if_pos (by simpa using hc), if_pos ⟨by omega, by simp; omega, hc.2.2⟩]
    rw [show i - (3 + k) = (i - (3 + (k + 1))) + 1 by omega, List.getElem?_cons_succ]
   ·rw [if_neg (by simpa using hc), if_neg (by simp; omega)]
theorem fold_row (arr base : Array Value) (ha : arr.size = 100) (hb : base.size = 103) : (Array.foldl (fun cs x => cs.setIfInBounds (3 + x.snd) x.fst) base arr.zipIdx 0 100).size = 103 ∧ (∀ i, i < 3 → (Array.foldl (fun cs x => cs.setIfInBounds (3 + x.snd) x.fst) base arr.zipIdx 0 100)[i]? = base[i]?) ∧ ∀ j, j < 100 → (Array.foldl (fun cs x => cs.setIfInBounds (3 + x.snd) x.fst) base arr.zipIdx 0 100)[3 + j]? = arr[j]? := by
 have e : Array.foldl (fun cs x => cs.setIfInBounds (3 + x.snd) x.fst) base arr.zipIdx 0 100 = (arr.toList.zipIdx 0).foldl (fun cs x => cs.setIfInBounds (3 + x.2) x.1) base := by
  have h : (100 : Nat) = arr.zipIdx.size := by simp [ha]
  rw [← Array.toList_zipIdx, Array.foldl_toList, ← h]
 rw [e]
 obtain ⟨h1, h2⟩ := fold_list arr.toList 0 base
 refine ⟨by rw [h1, hb], fun i hi => ?_, fun j hj => ?_⟩
 ·rw [h2 i, if_neg (by omega)]
 ·rw [h2, if_pos ⟨by omega, by simp [ha]; omega, by omega⟩]
  simp
theorem sv_row {d : FuncD} {u0 u2 : Option Addr} {c0 c2 : Nat} {arr base : Array Value} {n : Nat} (ha : arr.size = 100) (hb : base.size = 103) (hF : ∀ x y, x < 10 → y < 10 → arr[x * 10 + y]? = some (.bool (dm (succN d.blocks) n (post (succN d.blocks) none n) (post (succN d.blocks) none n).length 0 x y))) (hn : n = d.blocks.length) (h1 : 0 < n) (hS : ∀ a, ∀ s ∈ succN d.blocks a, s < n) :
  Sv d u0 c0 u2 c2 (Array.foldl (fun cs x => cs.setIfInBounds (3 + x.snd) x.fst) (((base.setIfInBounds 0 (.slice u0 d.params.length c0)).setIfInBounds 1 (.int .i64 d.ret)).setIfInBounds 2 (.slice u2 d.blocks.length c2)) arr.zipIdx 0 100) := by
 obtain ⟨k1, k2, k3⟩ := fold_row arr (((base.setIfInBounds 0 (.slice u0 d.params.length c0)).setIfInBounds 1 (.int .i64 d.ret)).setIfInBounds 2 (.slice u2 d.blocks.length c2)) ha (by simp [hb])
 generalize hsv : Array.foldl (fun cs x => cs.setIfInBounds (3 + x.snd) x.fst) (((base.setIfInBounds 0 (.slice u0 d.params.length c0)).setIfInBounds 1 (.int .i64 d.ret)).setIfInBounds 2 (.slice u2 d.blocks.length c2)) arr.zipIdx 0 100 = sv at k1 k2 k3
 have e0 : sv[0]? = some (.slice u0 d.params.length c0) := by rw [k2 0 (by omega)]; simp [Array.getElem?_setIfInBounds, hb]
 have e1 : sv[1]? = some (.int .i64 d.ret) := by rw [k2 1 (by omega)]; simp [Array.getElem?_setIfInBounds, hb]
 have e2 : sv[2]? = some (.slice u2 d.blocks.length c2) := by rw [k2 2 (by omega)]; simp [Array.getElem?_setIfInBounds, hb]
 have e3 : ∀ x y, x < 10 → y < 10 → sv[3 + x * 10 + y]? = some (.bool (dm (succN d.blocks) n (post (succN d.blocks) none n) (post (succN d.blocks) none n).length 0 x y)) := fun x y hx hy => by
  rw [Nat.add_assoc, k3 (x * 10 + y) (by omega)]; exact hF x y hx hy
 refine ⟨k1, e0, e1, e2, fun x y hx hy => ⟨_, e3 x y hx hy, dm_dom h1 hS x y⟩, ?_⟩
 rw [Array.all_eq_true]
 intro i hi
 have hg : sv[i]? = some sv[i] := Array.getElem?_eq_getElem hi
 by_cases c0 : i = 0
 ·subst c0; rw [e0] at hg; rw [← Option.some.inj hg]; rfl
 by_cases c1 : i = 1
 ·subst c1; rw [e1] at hg; rw [← Option.some.inj hg]; rfl
 by_cases c2 : i = 2
 ·subst c2; rw [e2] at hg; rw [← Option.some.inj hg]; rfl
 have h := e3 ((i - 3) / 10) ((i - 3) % 10) (by omega) (by omega)
 rw [show 3 + (i - 3) / 10 * 10 + (i - 3) % 10 = i by omega, hg] at h
 rw [Option.some.inj h]; rfl
set_option maxHeartbeats 4000000 in
set_option maxRecDepth 100000 in
theorem sightI (lo : Nat) (d : FuncD) (ua0 : Option Addr) (c0 : Nat) (ub2 : Option Addr) (c2 : Nat) (funcs : Int) (a : Addr) (w : World) (hs : SmFunc d) (k2 : BlocksAt w lo ub2 d.blocks) (hF : Form funcs d) (hP : phsB d = true) (hv : Gv w 5 (errV a)) :
  Calls Tryz.prog 51 #[.agg #[.slice ua0 d.params.length c0, .int .i64 d.ret, .slice ub2 d.blocks.length c2]] w fun e w' => (∃ v, e = .returned v ∧ ((DomsP d ∧ v = .nilIface) ∨ (¬ DomsP d ∧ v = errV a))) ∧ Below w.heap.size w w' := by
 have HS : Hid (SmFunc d) := hs
 have HF : Hid (Form funcs d) := hF
 have HK2 : Hid (BlocksAt w lo ub2 d.blocks) := k2
 have HPB : Hid (phsB d = true) := hP
 have HVV : Hid (Gv w 5 (errV a)) := hv
 have hb1 := hF.b1
 have hb10 := hF.b10
 have HSL : Hid (∀ a, ∀ s ∈ succN d.blocks a, s < d.blocks.length) := right_lt hF.right
 have F0 := FBox.start (d := d) (u0 := ua0) (u2 := ub2) (c0 := c0) (c2 := c2) (w := w) (T := 36)
 have D := graphI lo d ua0 c0 ub2 c2 _ hs (k2.keep (agree_of_below F0.below lo))
 clear hs k2 hF hP hv
 go_enter Tryz.func51, Tryz.ntmps51
 go_wp2_with (go_at_call 35; refine D.mono ?_; rintro e w1 ⟨hb1', h1⟩; obtain ⟨N, hN, rfl, hG⟩ := (h1.resolve_left (fun h => h.1 HF.out.right)).2; have HG : Hid (Graph w1 N d.blocks.length (succN d.blocks)) := hG; have HF1 : Hid (FBox d ua0 c0 ub2 c2 w w1) := F0.keep hb1'; have hN' : w.heap.size < N := (by simp at hN; omega); clear hb1' h1 hG hN F0 D)
 have hz1 := HF1.out.size
 refine wp_region_held_drew (S := fun w' => Below w1.heap.size w1 w') (by kernel_rfl) ((Below.refl _ _).drew) (fun hHeld => ?_)
 refine tkh 0 (v := ?_) rfl rfl (by kernel_rfl) (fun _ _ _ h => h) (yesH (by rfl) ?_) hHeld ?_
 rotate_left
 ·intro w9 hS9
  have g0 := (bcell hS9 _ _ (by omega)).trans HF1.out.a0
  have g1 := (bcell hS9 _ _ (by omega)).trans HF1.out.a1
  have g2 := (bcell hS9 _ _ (by omega)).trans HF1.out.a2
  go_simp
  try with_reducible rfl
 simp only [sA, sB, sC]
 refine tkh 1 (v := ?_) rfl rfl (by kernel_rfl) (fun _ _ _ h => h) (yesH (by rfl) ?_) hHeld ?_
 rotate_left
 ·intro w9 hS9
  go_simp
  try with_reducible rfl
 simp only [sA, sB, sC]
 refine wpAnyH_ready (rs := [2, 4]) (by kernel_rfl) (by simp) ?_
 refine AllReadyH.cons rfl (fun K hK => ?_) (AllReadyH.cons rfl (fun K hK => ?_) AllReadyH.nil)
 ·go_simp
  go_wp2_with (go_at_call 42; refine (domsI N d.blocks.length (succN d.blocks) _ (HG.out.keep (agree_of_below hHeld _)) (by omega) hb10 HSL.out (fun q => by have := succ_len d.blocks q; omega)).mono ?_; rintro e w3 ⟨⟨arr, rfl, ha1, ha2⟩, hb3⟩; have hb3s := hHeld.trans (hb3.mono hHeld.size))
  refine hK.out _ _ ?_ (fun hHeld2 => ?_)
  ·exact hb3s
  clear hK K hHeld
  have hHeld := hHeld2
  clear hHeld2
  have HSV : Hid _ := sv_row (d := d) (u0 := ua0) (c0 := c0) (u2 := ub2) (c2 := c2) (base := Tryz.zeroCells148) ha1 Tryz.zeroCells148_size ha2 rfl (by omega) HSL.out
  clear ha2
  refine tkh 3 (v := ?_) rfl rfl (by kernel_rfl) (fun _ _ _ h => h) (yesH (by rfl) ?_) hHeld ?_
  rotate_left
  ·intro w9 hS9
   go_simp
   try with_reducible rfl
  simp only [sA, sB, sC]
  generalize hse : Array.foldl (fun cs x => cs.setIfInBounds (3 + x.snd) x.fst) (((Tryz.zeroCells148.setIfInBounds 0 (.slice ua0 d.params.length c0)).setIfInBounds 1 (.int .i64 d.ret)).setIfInBounds 2 (.slice ub2 d.blocks.length c2)) arr.zipIdx 0 100 = sv at HSV ⊢
  clear hse ha1
  refine wpAnyH_ready (rs := [4]) (by kernel_rfl) (by simp) ?_
  refine AllReadyH.cons rfl (fun K hK => ?_) AllReadyH.nil
  go_simp
  refine hK.out _ _ ?_ (fun hHeld2 => ?_)
  ·exact hHeld.alloc hHeld.size _
  clear hK K
  refine wpAnyH_ready (rs := [5]) (by kernel_rfl) (by simp) ?_
  refine AllReadyH.cons rfl (fun K hK => ?_) AllReadyH.nil
  rw [if_pos (by rfl)]
  refine wp_store_row 148 _ _ rfl w3.heap.size _ rfl rfl 148 _ (heap_alloc_last _ _) (by rw [infoS, HSV.out.size]) (by rw [Tryz.zeroCells148_size, HSV.out.size]) HSV.out.one ?_
  refine hK.out _ _ ?_ (fun hHeld2 => ?_)
  ·exact ⟨hHeld2.os, hHeld2.tape, hHeld2.output, by simpa using hHeld2.size, fun b hb => (setRow_other _ _ _ _ (by have := hHeld.size; omega)).trans (hHeld2.block b hb)⟩
  clear hK K
  have R5 : ((w3.alloc (Obj.cells Tryz.zeroCells148 148)).setRow w3.heap.size sv).heap[w3.heap.size]? = some (.cells sv 148 (0, 0)) := setRow_heap _ _ _ _ _ _ (heap_alloc_last _ _)
  have B5 : Below w1.heap.size w1 ((w3.alloc (Obj.cells Tryz.zeroCells148 148)).setRow w3.heap.size sv) := by assumption
  generalize (w3.alloc (Obj.cells Tryz.zeroCells148 148)).setRow w3.heap.size sv = w5 at R5 B5 ⊢
  generalize w3.heap.size = g at R5 ⊢
  refine wpAnyH_done (by kernel_rfl) ?_ _
  show Exit.then _ _ Exit.normal (Act.put _ none undef) w5
  simp only [Act.put]
  have G5 : Hid (Graph w5 N d.blocks.length (succN d.blocks)) := HG.out.keep (agree_of_below B5 _)
  have HBw5 : Hid (Below w.heap.size w w5) := HF1.out.below.trans (B5.mono (by omega))
  have DT : Calls Tryz.prog 39 #[.slice (some ⟨N, 0, none⟩) d.blocks.length d.blocks.length, .pointer none] w5 fun e w' => ∃ u c, e = .returned (.slice u (post (succN d.blocks) none d.blocks.length).length c) ∧ PtrsAt w' w5.heap.size N u (post (succN d.blocks) none d.blocks.length) ∧ Below w5.heap.size w5 w' := toldI N d.blocks.length (succN d.blocks) none w5 G5.out (by omega) hb10 HSL.out (fun q => by have := succ_len d.blocks q; omega) (fun a h => by cases h)
  have TD : Hid (Told (succN d.blocks) none d.blocks.length (post (succN d.blocks) none d.blocks.length)) := post_told (succN d.blocks) none d.blocks.length (by omega) HSL.out
  have hLl : (post (succN d.blocks) none d.blocks.length).length ≤ 10 := by
   have := dfs_count (succN d.blocks) none d.blocks.length HSL.out (d.blocks.length + 1) 0 ([], []) 0 (by omega) (by simp [un_nil])
   unfold post; omega
  generalize post (succN d.blocks) none d.blocks.length = L at DT TD hLl
  have HB5 : Hid (Below w1.heap.size w1 w5) := B5
  have hg5 : g < w5.heap.size := (Array.getElem?_eq_some_iff.1 R5).1
  have HR5 : Hid (w5.heap[g]? = some (.cells sv 148 (0, 0))) := R5
  clear R5 B5
  go_wp2_with (go_at_call 39; refine DT.mono ?_; rintro e w6 ⟨pu, pc, rfl, hpt, hb6⟩; have HB6 : Hid (Below w5.heap.size w5 w6) := hb6; have HPT : Hid (PtrsAt w6 w5.heap.size N pu L) := hpt; clear hb6 hpt DT)
  go_loopw [16] (fun i wr => ∃ k : Nat, k ≤ L.length ∧ i = .int .i64 k ∧ Hid (∀ j, j < k → SeesIn d (L.getD j 0) ∧ ∀ x ∈ succN d.blocks (L.getD j 0), PhiS d (L.getD j 0) x) ∧ Hid (Below w6.heap.size w6 wr)) (fun i _ => L.length - (intOf i).toNat)
  case atStart => exact ⟨0, by omega, rfl, fun j hj => by omega, Below.refl _ _⟩
  case round =>
   obtain ⟨k, hk, rfl, HD, HB⟩ := hrel
   obtain ⟨wo, hwo⟩ : ∃ wo, wo = wr := ⟨_, rfl⟩
   subst hwo
   have HW5o : Hid (Below w5.heap.size w5 wo) := HB6.out.trans (HB.out.mono HB6.out.size)
   have HWo : Hid (Below w.heap.size w wo) := HBw5.out.trans (HW5o.out.mono HBw5.out.size)
   by_cases hlt : k < L.length
   ·rcases HPT.out with hn0 | ⟨pg, rfl, hpgN, hpgl, hpgc⟩
    ·simp [hn0] at hlt
    have z0 := (bcell HB.out _ _ hpgl).trans (hpgc k hlt)
    have hnm := getD_mem 0 L k hlt
    have hnn := TD.out.low _ hnm
    have hrc := (TD.out.mem _).1 hnm
    have NO : Hid (¬ (SeesIn d (L.getD k 0) ∧ ∀ x ∈ succN d.blocks (L.getD k 0), PhiS d (L.getD k 0) x) → ¬ DomsP d) := fun h h2 => h (h2 _ hrc)
    have YS : Hid ((SeesIn d (L.getD k 0) ∧ ∀ x ∈ succN d.blocks (L.getD k 0), PhiS d (L.getD k 0) x) → ∀ j, j < k + 1 → SeesIn d (L.getD j 0) ∧ ∀ x ∈ succN d.blocks (L.getD j 0), PhiS d (L.getD j 0) x) := fun h j hj => by
     by_cases e : j = k
     ·subst e; exact h
     ·exact HD.out j (by omega)
    generalize L.getD k 0 = nn at z0 hnm hnn hrc NO YS
    unfold ptrV at z0
    have HGo : Hid (Graph wo N d.blocks.length (succN d.blocks)) := G5.out.keep (agree_of_below HW5o.out _)
    obtain ⟨_, _, _, _, hnode, _, _⟩ := HGo.out.node nn hnn
    have c0' : wo.cell? ⟨N + 1 + nn, 0, none⟩ = some (.int .i64 nn) := (cell_of_heap hnode).trans rfl
    have hNk : N + 1 + nn < wo.heap.size := (Array.getElem?_eq_some_iff.1 hnode).1
    have ROW : wo.heap[g]? = some (.cells sv 148 (0, 0)) := (HW5o.out.block g hg5).trans HR5.out
    have hgo : g < wo.heap.size := (Array.getElem?_eq_some_iff.1 ROW).1
    have hsz := HSV.out.size
    have e0 := (HVV.out.keep HWo.out).cell
    have e1 := (HVV.out.keep HWo.out).lt
    unfold errV at e0
    clear hpgc hnode hnm hrc HD
    by_cases h1 : SeesIn d nn
    ·by_cases h2 : ∀ x ∈ succN d.blocks nn, PhiS d nn x
     ·have H1 : Hid (SeesIn d nn) := h1
      have H2 : Hid (∀ x ∈ succN d.blocks nn, PhiS d nn x) := h2
      clear h1 h2
      go_wp2_with fail
      refine wp_region_held_drew (S := fun w' => Below wo.heap.size wo w') (by kernel_rfl) ((Below.refl _ _).drew) (fun hHeld => ?_)
      refine tkh 0 (v := .agg sv) rfl rfl (by kernel_rfl) (fun _ _ _ h => h) (yieldsIf_row (by rfl) 148 _ rfl g rfl 148 sv (0, 0) _ (fun w9 hS9 => (hS9.block g (by omega)).trans ROW) Tryz.underlying148 rfl (by rw [infoS, hsz])) hHeld ?_
      simp only [sA, sB, sC]
      refine tkh 1 (v := ?_) rfl rfl (by kernel_rfl) (fun _ _ _ h => h) (yesH (by rfl) ?_) hHeld ?_
      rotate_left
      ·intro w9 hS9
       go_simp
       try with_reducible rfl
      simp only [sA, sB, sC]
      refine tkh 2 (v := ?_) rfl rfl (by kernel_rfl) (fun _ _ _ h => h) (yesH (by rfl) ?_) hHeld ?_
      rotate_left
      ·intro w9 hS9
       go_simp
       try with_reducible rfl
      simp only [sA, sB, sC]
      refine tkh 3 (v := ?_) rfl rfl (by kernel_rfl) (fun _ _ _ h => h) (yesH (by rfl) ?_) hHeld ?_
      rotate_left
      ·intro w9 hS9
       go_simp
       try with_reducible rfl
      simp only [sA, sB, sC]
      refine tkh 4 (v := ?_) rfl rfl (by kernel_rfl) (fun _ _ _ h => h) (yesH (by rfl) ?_) hHeld ?_
      rotate_left
      ·intro w9 hS9
       have g0 := (bcell hS9 _ _ hNk).trans c0'
       go_simp
       try with_reducible rfl
      simp only [sA, sB, sC]
      refine wpAnyH_ready (rs := [5]) (by kernel_rfl) (by simp) ?_
      refine AllReadyH.cons rfl (fun K hK => ?_) AllReadyH.nil
      go_simp
      go_wp2_with (go_at_call 86; refine (allOfI lo d ua0 c0 ub2 c2 sv funcs nn _ HS.out (HK2.out.keep (agree_of_below (HWo.out.trans (hHeld.mono HWo.out.size)) _)) HF.out HSV.out hnn).mono ?_; rintro e w7 ⟨⟨v7, rfl, hq7⟩, hb7⟩; have hb7s := hHeld.trans (hb7.mono hHeld.size); have hv7 : v7 = true := hq7.2 H1.out; subst hv7; clear hq7)
      refine hK.out _ _ ?_ (fun hHeld2 => ?_)
      ·exact hb7s
      clear hK K hHeld
      have hHeld := hHeld2
      clear hHeld2
      try simp only [Act.put, sA, sB, sC]
      refine tkh 6 (v := ?_) rfl rfl (by kernel_rfl) (fun _ _ _ h => h) (yesH (by rfl) ?_) hHeld ?_
      rotate_left
      ·intro w9 hS9
       go_simp
       try with_reducible rfl
      simp only [sA, sB, sC]
      refine tkh 7 (v := ?_) rfl rfl (by kernel_rfl) (fun _ _ _ h => h) (yesH (by rfl) ?_) hHeld ?_
      rotate_left
      ·intro w9 hS9
       go_simp
       try with_reducible rfl
      simp only [sA, sB, sC]
      refine tkh 8 (v := .agg sv) rfl rfl (by kernel_rfl) (fun _ _ _ h => h) (yieldsIf_row (by rfl) 148 _ rfl g rfl 148 sv (0, 0) _ (fun w9 hS9 => (hS9.block g (by omega)).trans ROW) Tryz.underlying148 rfl (by rw [infoS, hsz])) hHeld ?_
      simp only [sA, sB, sC]
      refine tkh 9 (v := ?_) rfl rfl (by kernel_rfl) (fun _ _ _ h => h) (yesH (by rfl) ?_) hHeld ?_
      rotate_left
      ·intro w9 hS9
       go_simp
       try with_reducible rfl
      simp only [sA, sB, sC]
      refine wpAnyH_ready (rs := [10]) (by kernel_rfl) (by simp) ?_
      refine AllReadyH.cons rfl (fun K hK => ?_) AllReadyH.nil
      go_simp
      go_wp2_with (go_at_call 87; refine (behindI lo N d ua0 c0 ub2 c2 sv funcs nn _ HS.out (HK2.out.keep (agree_of_below (HWo.out.trans (hHeld.mono HWo.out.size)) _)) HF.out HPB.out (HGo.out.keep (agree_of_below hHeld _)) HSV.out hnn).mono ?_; rintro e w8 ⟨⟨v8, rfl, hq8⟩, hb8'⟩; have hb8 := hHeld.trans (hb8'.mono hHeld.size); have hv8 : v8 = true := hq8.2 H2.out; subst hv8; clear hq8)
      refine hK.out _ _ ?_ (fun hHeld2 => ?_)
      ·exact hb8
      clear hK K hHeld
      have hHeld := hHeld2
      clear hHeld2
      try simp only [Act.put, sA, sB, sC]
      refine tkh 11 (v := ?_) rfl rfl (by kernel_rfl) (fun _ _ _ h => h) (yesH (by rfl) ?_) hHeld ?_
      rotate_left
      ·intro w9 hS9
       go_simp
       try with_reducible rfl
      simp only [sA, sB, sC]
      refine tkh 12 (v := ?_) rfl rfl (by kernel_rfl) (fun _ _ _ h => h) (yesH (by rfl) ?_) hHeld ?_
      rotate_left
      ·intro w9 hS9
       go_simp
       try with_reducible rfl
      simp only [sA, sB, sC]
      refine wpAnyH_done (by kernel_rfl) ?_ _
      go_wp2_with fail
      go_roundw
      case rel => exact ⟨k + 1, by omega, by go_num, YS.out ⟨H1.out, H2.out⟩, HB.out.trans (hb8.mono HB.out.size)⟩
      case measure => simp [intOf]; omega
     ·have H1 : Hid (SeesIn d nn) := h1
      have H2 : Hid (¬ ∀ x ∈ succN d.blocks nn, PhiS d nn x) := h2
      clear h1 h2
      go_wp2_with fail
      refine wp_region_held_drew (S := fun w' => Below wo.heap.size wo w') (by kernel_rfl) ((Below.refl _ _).drew) (fun hHeld => ?_)
      refine tkh 0 (v := .agg sv) rfl rfl (by kernel_rfl) (fun _ _ _ h => h) (yieldsIf_row (by rfl) 148 _ rfl g rfl 148 sv (0, 0) _ (fun w9 hS9 => (hS9.block g (by omega)).trans ROW) Tryz.underlying148 rfl (by rw [infoS, hsz])) hHeld ?_
      simp only [sA, sB, sC]
      refine tkh 1 (v := ?_) rfl rfl (by kernel_rfl) (fun _ _ _ h => h) (yesH (by rfl) ?_) hHeld ?_
      rotate_left
      ·intro w9 hS9
       go_simp
       try with_reducible rfl
      simp only [sA, sB, sC]
      refine tkh 2 (v := ?_) rfl rfl (by kernel_rfl) (fun _ _ _ h => h) (yesH (by rfl) ?_) hHeld ?_
      rotate_left
      ·intro w9 hS9
       go_simp
       try with_reducible rfl
      simp only [sA, sB, sC]
      refine tkh 3 (v := ?_) rfl rfl (by kernel_rfl) (fun _ _ _ h => h) (yesH (by rfl) ?_) hHeld ?_
      rotate_left
      ·intro w9 hS9
       go_simp
       try with_reducible rfl
      simp only [sA, sB, sC]
      refine tkh 4 (v := ?_) rfl rfl (by kernel_rfl) (fun _ _ _ h => h) (yesH (by rfl) ?_) hHeld ?_
      rotate_left
      ·intro w9 hS9
       have g0 := (bcell hS9 _ _ hNk).trans c0'
       go_simp
       try with_reducible rfl
      simp only [sA, sB, sC]
      refine wpAnyH_ready (rs := [5]) (by kernel_rfl) (by simp) ?_
      refine AllReadyH.cons rfl (fun K hK => ?_) AllReadyH.nil
      go_simp
      go_wp2_with (go_at_call 86; refine (allOfI lo d ua0 c0 ub2 c2 sv funcs nn _ HS.out (HK2.out.keep (agree_of_below (HWo.out.trans (hHeld.mono HWo.out.size)) _)) HF.out HSV.out hnn).mono ?_; rintro e w7 ⟨⟨v7, rfl, hq7⟩, hb7⟩; have hb7s := hHeld.trans (hb7.mono hHeld.size); have hv7 : v7 = true := hq7.2 H1.out; subst hv7; clear hq7)
      refine hK.out _ _ ?_ (fun hHeld2 => ?_)
      ·exact hb7s
      clear hK K hHeld
      have hHeld := hHeld2
      clear hHeld2
      try simp only [Act.put, sA, sB, sC]
      refine tkh 6 (v := ?_) rfl rfl (by kernel_rfl) (fun _ _ _ h => h) (yesH (by rfl) ?_) hHeld ?_
      rotate_left
      ·intro w9 hS9
       go_simp
       try with_reducible rfl
      simp only [sA, sB, sC]
      refine tkh 7 (v := ?_) rfl rfl (by kernel_rfl) (fun _ _ _ h => h) (yesH (by rfl) ?_) hHeld ?_
      rotate_left
      ·intro w9 hS9
       go_simp
       try with_reducible rfl
      simp only [sA, sB, sC]
      refine tkh 8 (v := .agg sv) rfl rfl (by kernel_rfl) (fun _ _ _ h => h) (yieldsIf_row (by rfl) 148 _ rfl g rfl 148 sv (0, 0) _ (fun w9 hS9 => (hS9.block g (by omega)).trans ROW) Tryz.underlying148 rfl (by rw [infoS, hsz])) hHeld ?_
      simp only [sA, sB, sC]
      refine tkh 9 (v := ?_) rfl rfl (by kernel_rfl) (fun _ _ _ h => h) (yesH (by rfl) ?_) hHeld ?_
      rotate_left
      ·intro w9 hS9
       go_simp
       try with_reducible rfl
      simp only [sA, sB, sC]
      refine wpAnyH_ready (rs := [10]) (by kernel_rfl) (by simp) ?_
      refine AllReadyH.cons rfl (fun K hK => ?_) AllReadyH.nil
      go_simp
      go_wp2_with (go_at_call 87; refine (behindI lo N d ua0 c0 ub2 c2 sv funcs nn _ HS.out (HK2.out.keep (agree_of_below (HWo.out.trans (hHeld.mono HWo.out.size)) _)) HF.out HPB.out (HGo.out.keep (agree_of_below hHeld _)) HSV.out hnn).mono ?_; rintro e w8 ⟨⟨v8, rfl, hq8⟩, hb8'⟩; have hb8 := hHeld.trans (hb8'.mono hHeld.size); have hv8 : v8 = false := (by cases v8 with | true => exact absurd (hq8.1 rfl) H2.out | false => rfl); subst hv8; clear hq8)
      refine hK.out _ _ ?_ (fun hHeld2 => ?_)
      ·exact hb8
      clear hK K hHeld
      have hHeld := hHeld2
      clear hHeld2
      try simp only [Act.put, sA, sB, sC]
      refine tkh 11 (v := ?_) rfl rfl (by kernel_rfl) (fun _ _ _ h => h) (yesH (by rfl) ?_) hHeld ?_
      rotate_left
      ·intro w9 hS9
       go_simp
       try with_reducible rfl
      simp only [sA, sB, sC]
      refine tkh 12 (v := ?_) rfl rfl (by kernel_rfl) (fun _ _ _ h => h) (yesH (by rfl) ?_) hHeld ?_
      rotate_left
      ·intro w9 hS9
       go_simp
       try with_reducible rfl
      simp only [sA, sB, sC]
      refine wpAnyH_done (by kernel_rfl) ?_ _
      have e0' := (bcell hb8 _ _ e1).trans e0
      go_wp2_with fail
      go_ret
      exact ⟨⟨_, rfl, .inr ⟨NO.out (fun h => H2.out h.2), rfl⟩⟩, HWo.out.trans (hb8.mono HWo.out.size)⟩
    ·have H1 : Hid (¬ SeesIn d nn) := h1
     clear h1
     go_wp2_with fail
     refine wp_region_held_drew (S := fun w' => Below wo.heap.size wo w') (by kernel_rfl) ((Below.refl _ _).drew) (fun hHeld => ?_)
     refine tkh 0 (v := .agg sv) rfl rfl (by kernel_rfl) (fun _ _ _ h => h) (yieldsIf_row (by rfl) 148 _ rfl g rfl 148 sv (0, 0) _ (fun w9 hS9 => (hS9.block g (by omega)).trans ROW) Tryz.underlying148 rfl (by rw [infoS, hsz])) hHeld ?_
     simp only [sA, sB, sC]
     refine tkh 1 (v := ?_) rfl rfl (by kernel_rfl) (fun _ _ _ h => h) (yesH (by rfl) ?_) hHeld ?_
     rotate_left
     ·intro w9 hS9
      go_simp
      try with_reducible rfl
     simp only [sA, sB, sC]
     refine tkh 2 (v := ?_) rfl rfl (by kernel_rfl) (fun _ _ _ h => h) (yesH (by rfl) ?_) hHeld ?_
     rotate_left
     ·intro w9 hS9
      go_simp
      try with_reducible rfl
     simp only [sA, sB, sC]
     refine tkh 3 (v := ?_) rfl rfl (by kernel_rfl) (fun _ _ _ h => h) (yesH (by rfl) ?_) hHeld ?_
     rotate_left
     ·intro w9 hS9
      go_simp
      try with_reducible rfl
     simp only [sA, sB, sC]
     refine tkh 4 (v := ?_) rfl rfl (by kernel_rfl) (fun _ _ _ h => h) (yesH (by rfl) ?_) hHeld ?_
     rotate_left
     ·intro w9 hS9
      have g0 := (bcell hS9 _ _ hNk).trans c0'
      go_simp
      try with_reducible rfl
     simp only [sA, sB, sC]
     refine wpAnyH_ready (rs := [5]) (by kernel_rfl) (by simp) ?_
     refine AllReadyH.cons rfl (fun K hK => ?_) AllReadyH.nil
     go_simp
     go_wp2_with (go_at_call 86; refine (allOfI lo d ua0 c0 ub2 c2 sv funcs nn _ HS.out (HK2.out.keep (agree_of_below (HWo.out.trans (hHeld.mono HWo.out.size)) _)) HF.out HSV.out hnn).mono ?_; rintro e w7 ⟨⟨v7, rfl, hq7⟩, hb7⟩; have hb7s := hHeld.trans (hb7.mono hHeld.size); have hv7 : v7 = false := (by cases v7 with | true => exact absurd (hq7.1 rfl) H1.out | false => rfl); subst hv7; clear hq7)
     refine hK.out _ _ ?_ (fun hHeld2 => ?_)
     ·exact hb7s
     clear hK K hHeld
     have hHeld := hHeld2
     clear hHeld2
     try simp only [Act.put, sA, sB, sC]
     refine tkh 6 (v := ?_) rfl rfl (by kernel_rfl) (fun _ _ _ h => h) (yesH (by rfl) ?_) hHeld ?_
     rotate_left
     ·intro w9 hS9
      go_simp
      try with_reducible rfl
     simp only [sA, sB, sC]
     refine tkh 7 (v := ?_) rfl rfl (by kernel_rfl) (fun _ _ _ h => h) (yesH (by rfl) ?_) hHeld ?_
     rotate_left
     ·intro w9 hS9
      go_simp
      try with_reducible rfl
     simp only [sA, sB, sC]
     refine tkh 8 (v := undef) rfl rfl (by kernel_rfl) (fun _ _ _ h => h) (Or.inr ⟨by rfl, rfl⟩) hHeld ?_
     simp only [sA, sB, sC]
     refine tkh 9 (v := undef) rfl rfl (by kernel_rfl) (fun _ _ _ h => h) (Or.inr ⟨by rfl, rfl⟩) hHeld ?_
     simp only [sA, sB, sC]
     refine tkh 10 (v := undef) rfl rfl (by kernel_rfl) (fun _ _ _ h => h) (Or.inr ⟨by rfl, rfl⟩) hHeld ?_
     simp only [sA, sB, sC]
     refine tkh 11 (v := undef) rfl rfl (by kernel_rfl) (fun _ _ _ h => h) (Or.inr ⟨by rfl, rfl⟩) hHeld ?_
     simp only [sA, sB, sC]
     refine tkh 12 (v := ?_) rfl rfl (by kernel_rfl) (fun _ _ _ h => h) (yesH (by rfl) ?_) hHeld ?_
     rotate_left
     ·intro w9 hS9
      go_simp
      try with_reducible rfl
     simp only [sA, sB, sC]
     refine wpAnyH_done (by kernel_rfl) ?_ _
     have e0' := (bcell hb7s _ _ e1).trans e0
     go_wp2_with fail
     go_ret
     exact ⟨⟨_, rfl, .inr ⟨NO.out (fun h => H1.out h.1), rfl⟩⟩, HWo.out.trans (hb7s.mono HWo.out.size)⟩
   ·have E : Hid (DomsP d) := fun n hn => by
     have hm := (TD.out.mem n).2 hn
     obtain ⟨j, hj, rfl⟩ := List.getElem_of_mem hm
     have := HD.out j (by omega)
     simp only [List.getD, List.getElem?_eq_getElem hj, Option.getD_some] at this
     exact this
    clear HD
    go_wp2_with fail
    go_ret
    exact ⟨⟨_, rfl, .inl ⟨E.out, rfl⟩⟩, HWo.out⟩
 ·go_simp
  refine hK.out _ _ ?_ (fun hHeld2 => ?_)
  ·exact (hHeld.alloc hHeld.size _)
  clear hK K hHeld
  have hHeld := hHeld2
  clear hHeld2
  have Z0 : (w1.alloc (Obj.cells Tryz.zeroCells148 148)).drew.heap[w1.heap.size]? = some (.cells Tryz.zeroCells148 148 (0, 0)) := heap_alloc_last _ _
  have zl : w1.heap.size < (w1.alloc (Obj.cells Tryz.zeroCells148 148)).drew.heap.size := by show _ < (w1.alloc _).heap.size; simp
  generalize (w1.alloc (Obj.cells Tryz.zeroCells148 148)).drew = w2 at hHeld Z0 zl ⊢
  refine wpAnyH_ready (rs := [2]) (by kernel_rfl) (by simp) ?_
  refine AllReadyH.cons rfl (fun K hK => ?_) AllReadyH.nil
  go_simp
  go_wp2_with (go_at_call 42; refine (domsI N d.blocks.length (succN d.blocks) _ (HG.out.keep (agree_of_below hHeld _)) (by omega) hb10 HSL.out (fun q => by have := succ_len d.blocks q; omega)).mono ?_; rintro e w3 ⟨⟨arr, rfl, ha1, ha2⟩, hb3⟩; have hb3s := hHeld.trans (hb3.mono hHeld.size))
  refine hK.out _ _ ?_ (fun hHeld2 => ?_)
  ·exact hb3s
  clear hK K hHeld
  have hHeld := hHeld2
  clear hHeld2
  try simp only [Act.put, sA, sB, sC]
  have HSV : Hid _ := sv_row (d := d) (u0 := ua0) (c0 := c0) (u2 := ub2) (c2 := c2) (base := Tryz.zeroCells148) ha1 Tryz.zeroCells148_size ha2 rfl (by omega) HSL.out
  clear ha2
  refine tkh 3 (v := ?_) rfl rfl (by kernel_rfl) (fun _ _ _ h => h) (yesH (by rfl) ?_) hHeld ?_
  rotate_left
  ·intro w9 hS9
   go_simp
   try with_reducible rfl
  simp only [sA, sB, sC]
  generalize hse : Array.foldl (fun cs x => cs.setIfInBounds (3 + x.snd) x.fst) (((Tryz.zeroCells148.setIfInBounds 0 (.slice ua0 d.params.length c0)).setIfInBounds 1 (.int .i64 d.ret)).setIfInBounds 2 (.slice ub2 d.blocks.length c2)) arr.zipIdx 0 100 = sv at HSV ⊢
  clear hse ha1
  refine wpAnyH_ready (rs := [5]) (by kernel_rfl) (by simp) ?_
  refine AllReadyH.cons rfl (fun K hK => ?_) AllReadyH.nil
  rw [if_pos (by rfl)]
  refine wp_store_row 148 _ _ rfl w1.heap.size _ rfl rfl 148 _ ((hb3.block _ zl).trans Z0) (by rw [infoS, HSV.out.size]) (by rw [Tryz.zeroCells148_size, HSV.out.size]) HSV.out.one ?_
  refine hK.out _ _ ?_ (fun hHeld2 => ?_)
  ·exact ⟨hHeld.os, hHeld.tape, hHeld.output, by simpa using hHeld.size, fun b hb => (setRow_other _ _ _ _ (by omega)).trans (hHeld.block b hb)⟩
  clear hK K
  have R5 : (w3.setRow w1.heap.size sv).heap[w1.heap.size]? = some (.cells sv 148 (0, 0)) := setRow_heap _ _ _ _ _ _ ((hb3.block _ zl).trans Z0)
  have B5 : Below w1.heap.size w1 (w3.setRow w1.heap.size sv) := hHeld2
  clear hHeld2
  generalize w3.setRow w1.heap.size sv = w5 at R5 B5 ⊢
  generalize hgg : w1.heap.size = g at R5 ⊢
  have HGG : Hid (w1.heap.size = g) := hgg
  clear hgg
  refine wpAnyH_done (by kernel_rfl) ?_ _
  show Exit.then _ _ Exit.normal (Act.put _ none undef) w5
  simp only [Act.put]
  have G5 : Hid (Graph w5 N d.blocks.length (succN d.blocks)) := HG.out.keep (agree_of_below B5 _)
  have HBw5 : Hid (Below w.heap.size w w5) := HF1.out.below.trans (B5.mono (by omega))
  have DT : Calls Tryz.prog 39 #[.slice (some ⟨N, 0, none⟩) d.blocks.length d.blocks.length, .pointer none] w5 fun e w' => ∃ u c, e = .returned (.slice u (post (succN d.blocks) none d.blocks.length).length c) ∧ PtrsAt w' w5.heap.size N u (post (succN d.blocks) none d.blocks.length) ∧ Below w5.heap.size w5 w' := toldI N d.blocks.length (succN d.blocks) none w5 G5.out (by omega) hb10 HSL.out (fun q => by have := succ_len d.blocks q; omega) (fun a h => by cases h)
  have TD : Hid (Told (succN d.blocks) none d.blocks.length (post (succN d.blocks) none d.blocks.length)) := post_told (succN d.blocks) none d.blocks.length (by omega) HSL.out
  have hLl : (post (succN d.blocks) none d.blocks.length).length ≤ 10 := by
   have := dfs_count (succN d.blocks) none d.blocks.length HSL.out (d.blocks.length + 1) 0 ([], []) 0 (by omega) (by simp [un_nil])
   unfold post; omega
  generalize post (succN d.blocks) none d.blocks.length = L at DT TD hLl
  have HB5 : Hid (Below w1.heap.size w1 w5) := B5
  have hg5 : g < w5.heap.size := (Array.getElem?_eq_some_iff.1 R5).1
  have HR5 : Hid (w5.heap[g]? = some (.cells sv 148 (0, 0))) := R5
  clear R5 B5
  go_wp2_with (go_at_call 39; refine DT.mono ?_; rintro e w6 ⟨pu, pc, rfl, hpt, hb6⟩; have HB6 : Hid (Below w5.heap.size w5 w6) := hb6; have HPT : Hid (PtrsAt w6 w5.heap.size N pu L) := hpt; clear hb6 hpt DT)
  go_loopw [16] (fun i wr => ∃ k : Nat, k ≤ L.length ∧ i = .int .i64 k ∧ Hid (∀ j, j < k → SeesIn d (L.getD j 0) ∧ ∀ x ∈ succN d.blocks (L.getD j 0), PhiS d (L.getD j 0) x) ∧ Hid (Below w6.heap.size w6 wr)) (fun i _ => L.length - (intOf i).toNat)
  case atStart => exact ⟨0, by omega, rfl, fun j hj => by omega, Below.refl _ _⟩
  case round =>
   obtain ⟨k, hk, rfl, HD, HB⟩ := hrel
   obtain ⟨wo, hwo⟩ : ∃ wo, wo = wr := ⟨_, rfl⟩
   subst hwo
   have HW5o : Hid (Below w5.heap.size w5 wo) := HB6.out.trans (HB.out.mono HB6.out.size)
   have HWo : Hid (Below w.heap.size w wo) := HBw5.out.trans (HW5o.out.mono HBw5.out.size)
   by_cases hlt : k < L.length
   ·rcases HPT.out with hn0 | ⟨pg, rfl, hpgN, hpgl, hpgc⟩
    ·simp [hn0] at hlt
    have z0 := (bcell HB.out _ _ hpgl).trans (hpgc k hlt)
    have hnm := getD_mem 0 L k hlt
    have hnn := TD.out.low _ hnm
    have hrc := (TD.out.mem _).1 hnm
    have NO : Hid (¬ (SeesIn d (L.getD k 0) ∧ ∀ x ∈ succN d.blocks (L.getD k 0), PhiS d (L.getD k 0) x) → ¬ DomsP d) := fun h h2 => h (h2 _ hrc)
    have YS : Hid ((SeesIn d (L.getD k 0) ∧ ∀ x ∈ succN d.blocks (L.getD k 0), PhiS d (L.getD k 0) x) → ∀ j, j < k + 1 → SeesIn d (L.getD j 0) ∧ ∀ x ∈ succN d.blocks (L.getD j 0), PhiS d (L.getD j 0) x) := fun h j hj => by
     by_cases e : j = k
     ·subst e; exact h
     ·exact HD.out j (by omega)
    generalize L.getD k 0 = nn at z0 hnm hnn hrc NO YS
    unfold ptrV at z0
    have HGo : Hid (Graph wo N d.blocks.length (succN d.blocks)) := G5.out.keep (agree_of_below HW5o.out _)
    obtain ⟨_, _, _, _, hnode, _, _⟩ := HGo.out.node nn hnn
    have c0' : wo.cell? ⟨N + 1 + nn, 0, none⟩ = some (.int .i64 nn) := (cell_of_heap hnode).trans rfl
    have hNk : N + 1 + nn < wo.heap.size := (Array.getElem?_eq_some_iff.1 hnode).1
    have ROW : wo.heap[g]? = some (.cells sv 148 (0, 0)) := (HW5o.out.block g hg5).trans HR5.out
    have hgo : g < wo.heap.size := (Array.getElem?_eq_some_iff.1 ROW).1
    have hsz := HSV.out.size
    have e0 := (HVV.out.keep HWo.out).cell
    have e1 := (HVV.out.keep HWo.out).lt
    unfold errV at e0
    clear hpgc hnode hnm hrc HD
    by_cases h1 : SeesIn d nn
    ·by_cases h2 : ∀ x ∈ succN d.blocks nn, PhiS d nn x
     ·have H1 : Hid (SeesIn d nn) := h1
      have H2 : Hid (∀ x ∈ succN d.blocks nn, PhiS d nn x) := h2
      clear h1 h2
      go_wp2_with fail
      refine wp_region_held_drew (S := fun w' => Below wo.heap.size wo w') (by kernel_rfl) ((Below.refl _ _).drew) (fun hHeld => ?_)
      refine tkh 0 (v := .agg sv) rfl rfl (by kernel_rfl) (fun _ _ _ h => h) (yieldsIf_row (by rfl) 148 _ rfl g rfl 148 sv (0, 0) _ (fun w9 hS9 => (hS9.block g (by omega)).trans ROW) Tryz.underlying148 rfl (by rw [infoS, hsz])) hHeld ?_
      simp only [sA, sB, sC]
      refine tkh 1 (v := ?_) rfl rfl (by kernel_rfl) (fun _ _ _ h => h) (yesH (by rfl) ?_) hHeld ?_
      rotate_left
      ·intro w9 hS9
       go_simp
       try with_reducible rfl
      simp only [sA, sB, sC]
      refine tkh 2 (v := ?_) rfl rfl (by kernel_rfl) (fun _ _ _ h => h) (yesH (by rfl) ?_) hHeld ?_
      rotate_left
      ·intro w9 hS9
       go_simp
       try with_reducible rfl
      simp only [sA, sB, sC]
      refine tkh 3 (v := ?_) rfl rfl (by kernel_rfl) (fun _ _ _ h => h) (yesH (by rfl) ?_) hHeld ?_
      rotate_left
      ·intro w9 hS9
       go_simp
       try with_reducible rfl
      simp only [sA, sB, sC]
      refine tkh 4 (v := ?_) rfl rfl (by kernel_rfl) (fun _ _ _ h => h) (yesH (by rfl) ?_) hHeld ?_
      rotate_left
      ·intro w9 hS9
       have g0 := (bcell hS9 _ _ hNk).trans c0'
       go_simp
       try with_reducible rfl
      simp only [sA, sB, sC]
      refine wpAnyH_ready (rs := [5]) (by kernel_rfl) (by simp) ?_
      refine AllReadyH.cons rfl (fun K hK => ?_) AllReadyH.nil
      go_simp
      go_wp2_with (go_at_call 86; refine (allOfI lo d ua0 c0 ub2 c2 sv funcs nn _ HS.out (HK2.out.keep (agree_of_below (HWo.out.trans (hHeld.mono HWo.out.size)) _)) HF.out HSV.out hnn).mono ?_; rintro e w7 ⟨⟨v7, rfl, hq7⟩, hb7⟩; have hb7s := hHeld.trans (hb7.mono hHeld.size); have hv7 : v7 = true := hq7.2 H1.out; subst hv7; clear hq7)
      refine hK.out _ _ ?_ (fun hHeld2 => ?_)
      ·exact hb7s
      clear hK K hHeld
      have hHeld := hHeld2
      clear hHeld2
      try simp only [Act.put, sA, sB, sC]
      refine tkh 6 (v := ?_) rfl rfl (by kernel_rfl) (fun _ _ _ h => h) (yesH (by rfl) ?_) hHeld ?_
      rotate_left
      ·intro w9 hS9
       go_simp
       try with_reducible rfl
      simp only [sA, sB, sC]
      refine tkh 7 (v := ?_) rfl rfl (by kernel_rfl) (fun _ _ _ h => h) (yesH (by rfl) ?_) hHeld ?_
      rotate_left
      ·intro w9 hS9
       go_simp
       try with_reducible rfl
      simp only [sA, sB, sC]
      refine tkh 8 (v := .agg sv) rfl rfl (by kernel_rfl) (fun _ _ _ h => h) (yieldsIf_row (by rfl) 148 _ rfl g rfl 148 sv (0, 0) _ (fun w9 hS9 => (hS9.block g (by omega)).trans ROW) Tryz.underlying148 rfl (by rw [infoS, hsz])) hHeld ?_
      simp only [sA, sB, sC]
      refine tkh 9 (v := ?_) rfl rfl (by kernel_rfl) (fun _ _ _ h => h) (yesH (by rfl) ?_) hHeld ?_
      rotate_left
      ·intro w9 hS9
       go_simp
       try with_reducible rfl
      simp only [sA, sB, sC]
      refine wpAnyH_ready (rs := [10]) (by kernel_rfl) (by simp) ?_
      refine AllReadyH.cons rfl (fun K hK => ?_) AllReadyH.nil
      go_simp
      go_wp2_with (go_at_call 87; refine (behindI lo N d ua0 c0 ub2 c2 sv funcs nn _ HS.out (HK2.out.keep (agree_of_below (HWo.out.trans (hHeld.mono HWo.out.size)) _)) HF.out HPB.out (HGo.out.keep (agree_of_below hHeld _)) HSV.out hnn).mono ?_; rintro e w8 ⟨⟨v8, rfl, hq8⟩, hb8'⟩; have hb8 := hHeld.trans (hb8'.mono hHeld.size); have hv8 : v8 = true := hq8.2 H2.out; subst hv8; clear hq8)
      refine hK.out _ _ ?_ (fun hHeld2 => ?_)
      ·exact hb8
      clear hK K hHeld
      have hHeld := hHeld2
      clear hHeld2
      try simp only [Act.put, sA, sB, sC]
      refine tkh 11 (v := ?_) rfl rfl (by kernel_rfl) (fun _ _ _ h => h) (yesH (by rfl) ?_) hHeld ?_
      rotate_left
      ·intro w9 hS9
       go_simp
       try with_reducible rfl
      simp only [sA, sB, sC]
      refine tkh 12 (v := ?_) rfl rfl (by kernel_rfl) (fun _ _ _ h => h) (yesH (by rfl) ?_) hHeld ?_
      rotate_left
      ·intro w9 hS9
       go_simp
       try with_reducible rfl
      simp only [sA, sB, sC]
      refine wpAnyH_done (by kernel_rfl) ?_ _
      go_wp2_with fail
      go_roundw
      case rel => exact ⟨k + 1, by omega, by go_num, YS.out ⟨H1.out, H2.out⟩, HB.out.trans (hb8.mono HB.out.size)⟩
      case measure => simp [intOf]; omega
     ·have H1 : Hid (SeesIn d nn) := h1
      have H2 : Hid (¬ ∀ x ∈ succN d.blocks nn, PhiS d nn x) := h2
      clear h1 h2
      go_wp2_with fail
      refine wp_region_held_drew (S := fun w' => Below wo.heap.size wo w') (by kernel_rfl) ((Below.refl _ _).drew) (fun hHeld => ?_)
      refine tkh 0 (v := .agg sv) rfl rfl (by kernel_rfl) (fun _ _ _ h => h) (yieldsIf_row (by rfl) 148 _ rfl g rfl 148 sv (0, 0) _ (fun w9 hS9 => (hS9.block g (by omega)).trans ROW) Tryz.underlying148 rfl (by rw [infoS, hsz])) hHeld ?_
      simp only [sA, sB, sC]
      refine tkh 1 (v := ?_) rfl rfl (by kernel_rfl) (fun _ _ _ h => h) (yesH (by rfl) ?_) hHeld ?_
      rotate_left
      ·intro w9 hS9
       go_simp
       try with_reducible rfl
      simp only [sA, sB, sC]
      refine tkh 2 (v := ?_) rfl rfl (by kernel_rfl) (fun _ _ _ h => h) (yesH (by rfl) ?_) hHeld ?_
      rotate_left
      ·intro w9 hS9
       go_simp
       try with_reducible rfl
      simp only [sA, sB, sC]
      refine tkh 3 (v := ?_) rfl rfl (by kernel_rfl) (fun _ _ _ h => h) (yesH (by rfl) ?_) hHeld ?_
      rotate_left
      ·intro w9 hS9
       go_simp
       try with_reducible rfl
      simp only [sA, sB, sC]
      refine tkh 4 (v := ?_) rfl rfl (by kernel_rfl) (fun _ _ _ h => h) (yesH (by rfl) ?_) hHeld ?_
      rotate_left
      ·intro w9 hS9
       have g0 := (bcell hS9 _ _ hNk).trans c0'
       go_simp
       try with_reducible rfl
      simp only [sA, sB, sC]
      refine wpAnyH_ready (rs := [5]) (by kernel_rfl) (by simp) ?_
      refine AllReadyH.cons rfl (fun K hK => ?_) AllReadyH.nil
      go_simp
      go_wp2_with (go_at_call 86; refine (allOfI lo d ua0 c0 ub2 c2 sv funcs nn _ HS.out (HK2.out.keep (agree_of_below (HWo.out.trans (hHeld.mono HWo.out.size)) _)) HF.out HSV.out hnn).mono ?_; rintro e w7 ⟨⟨v7, rfl, hq7⟩, hb7⟩; have hb7s := hHeld.trans (hb7.mono hHeld.size); have hv7 : v7 = true := hq7.2 H1.out; subst hv7; clear hq7)
      refine hK.out _ _ ?_ (fun hHeld2 => ?_)
      ·exact hb7s
      clear hK K hHeld
      have hHeld := hHeld2
      clear hHeld2
      try simp only [Act.put, sA, sB, sC]
      refine tkh 6 (v := ?_) rfl rfl (by kernel_rfl) (fun _ _ _ h => h) (yesH (by rfl) ?_) hHeld ?_
      rotate_left
      ·intro w9 hS9
       go_simp
       try with_reducible rfl
      simp only [sA, sB, sC]
      refine tkh 7 (v := ?_) rfl rfl (by kernel_rfl) (fun _ _ _ h => h) (yesH (by rfl) ?_) hHeld ?_
      rotate_left
      ·intro w9 hS9
       go_simp
       try with_reducible rfl
      simp only [sA, sB, sC]
      refine tkh 8 (v := .agg sv) rfl rfl (by kernel_rfl) (fun _ _ _ h => h) (yieldsIf_row (by rfl) 148 _ rfl g rfl 148 sv (0, 0) _ (fun w9 hS9 => (hS9.block g (by omega)).trans ROW) Tryz.underlying148 rfl (by rw [infoS, hsz])) hHeld ?_
      simp only [sA, sB, sC]
      refine tkh 9 (v := ?_) rfl rfl (by kernel_rfl) (fun _ _ _ h => h) (yesH (by rfl) ?_) hHeld ?_
      rotate_left
      ·intro w9 hS9
       go_simp
       try with_reducible rfl
      simp only [sA, sB, sC]
      refine wpAnyH_ready (rs := [10]) (by kernel_rfl) (by simp) ?_
      refine AllReadyH.cons rfl (fun K hK => ?_) AllReadyH.nil
      go_simp
      go_wp2_with (go_at_call 87; refine (behindI lo N d ua0 c0 ub2 c2 sv funcs nn _ HS.out (HK2.out.keep (agree_of_below (HWo.out.trans (hHeld.mono HWo.out.size)) _)) HF.out HPB.out (HGo.out.keep (agree_of_below hHeld _)) HSV.out hnn).mono ?_; rintro e w8 ⟨⟨v8, rfl, hq8⟩, hb8'⟩; have hb8 := hHeld.trans (hb8'.mono hHeld.size); have hv8 : v8 = false := (by cases v8 with | true => exact absurd (hq8.1 rfl) H2.out | false => rfl); subst hv8; clear hq8)
      refine hK.out _ _ ?_ (fun hHeld2 => ?_)
      ·exact hb8
      clear hK K hHeld
      have hHeld := hHeld2
      clear hHeld2
      try simp only [Act.put, sA, sB, sC]
      refine tkh 11 (v := ?_) rfl rfl (by kernel_rfl) (fun _ _ _ h => h) (yesH (by rfl) ?_) hHeld ?_
      rotate_left
      ·intro w9 hS9
       go_simp
       try with_reducible rfl
      simp only [sA, sB, sC]
      refine tkh 12 (v := ?_) rfl rfl (by kernel_rfl) (fun _ _ _ h => h) (yesH (by rfl) ?_) hHeld ?_
      rotate_left
      ·intro w9 hS9
       go_simp
       try with_reducible rfl
      simp only [sA, sB, sC]
      refine wpAnyH_done (by kernel_rfl) ?_ _
      have e0' := (bcell hb8 _ _ e1).trans e0
      go_wp2_with fail
      go_ret
      exact ⟨⟨_, rfl, .inr ⟨NO.out (fun h => H2.out h.2), rfl⟩⟩, HWo.out.trans (hb8.mono HWo.out.size)⟩
    ·have H1 : Hid (¬ SeesIn d nn) := h1
     clear h1
     go_wp2_with fail
     refine wp_region_held_drew (S := fun w' => Below wo.heap.size wo w') (by kernel_rfl) ((Below.refl _ _).drew) (fun hHeld => ?_)
     refine tkh 0 (v := .agg sv) rfl rfl (by kernel_rfl) (fun _ _ _ h => h) (yieldsIf_row (by rfl) 148 _ rfl g rfl 148 sv (0, 0) _ (fun w9 hS9 => (hS9.block g (by omega)).trans ROW) Tryz.underlying148 rfl (by rw [infoS, hsz])) hHeld ?_
     simp only [sA, sB, sC]
     refine tkh 1 (v := ?_) rfl rfl (by kernel_rfl) (fun _ _ _ h => h) (yesH (by rfl) ?_) hHeld ?_
     rotate_left
     ·intro w9 hS9
      go_simp
      try with_reducible rfl
     simp only [sA, sB, sC]
     refine tkh 2 (v := ?_) rfl rfl (by kernel_rfl) (fun _ _ _ h => h) (yesH (by rfl) ?_) hHeld ?_
     rotate_left
     ·intro w9 hS9
      go_simp
      try with_reducible rfl
     simp only [sA, sB, sC]
     refine tkh 3 (v := ?_) rfl rfl (by kernel_rfl) (fun _ _ _ h => h) (yesH (by rfl) ?_) hHeld ?_
     rotate_left
     ·intro w9 hS9
      go_simp
      try with_reducible rfl
     simp only [sA, sB, sC]
     refine tkh 4 (v := ?_) rfl rfl (by kernel_rfl) (fun _ _ _ h => h) (yesH (by rfl) ?_) hHeld ?_
     rotate_left
     ·intro w9 hS9
      have g0 := (bcell hS9 _ _ hNk).trans c0'
      go_simp
      try with_reducible rfl
     simp only [sA, sB, sC]
     refine wpAnyH_ready (rs := [5]) (by kernel_rfl) (by simp) ?_
     refine AllReadyH.cons rfl (fun K hK => ?_) AllReadyH.nil
     go_simp
     go_wp2_with (go_at_call 86; refine (allOfI lo d ua0 c0 ub2 c2 sv funcs nn _ HS.out (HK2.out.keep (agree_of_below (HWo.out.trans (hHeld.mono HWo.out.size)) _)) HF.out HSV.out hnn).mono ?_; rintro e w7 ⟨⟨v7, rfl, hq7⟩, hb7⟩; have hb7s := hHeld.trans (hb7.mono hHeld.size); have hv7 : v7 = false := (by cases v7 with | true => exact absurd (hq7.1 rfl) H1.out | false => rfl); subst hv7; clear hq7)
     refine hK.out _ _ ?_ (fun hHeld2 => ?_)
     ·exact hb7s
     clear hK K hHeld
     have hHeld := hHeld2
     clear hHeld2
     try simp only [Act.put, sA, sB, sC]
     refine tkh 6 (v := ?_) rfl rfl (by kernel_rfl) (fun _ _ _ h => h) (yesH (by rfl) ?_) hHeld ?_
     rotate_left
     ·intro w9 hS9
      go_simp
      try with_reducible rfl
     simp only [sA, sB, sC]
     refine tkh 7 (v := ?_) rfl rfl (by kernel_rfl) (fun _ _ _ h => h) (yesH (by rfl) ?_) hHeld ?_
     rotate_left
     ·intro w9 hS9
      go_simp
      try with_reducible rfl
     simp only [sA, sB, sC]
     refine tkh 8 (v := undef) rfl rfl (by kernel_rfl) (fun _ _ _ h => h) (Or.inr ⟨by rfl, rfl⟩) hHeld ?_
     simp only [sA, sB, sC]
     refine tkh 9 (v := undef) rfl rfl (by kernel_rfl) (fun _ _ _ h => h) (Or.inr ⟨by rfl, rfl⟩) hHeld ?_
     simp only [sA, sB, sC]
     refine tkh 10 (v := undef) rfl rfl (by kernel_rfl) (fun _ _ _ h => h) (Or.inr ⟨by rfl, rfl⟩) hHeld ?_
     simp only [sA, sB, sC]
     refine tkh 11 (v := undef) rfl rfl (by kernel_rfl) (fun _ _ _ h => h) (Or.inr ⟨by rfl, rfl⟩) hHeld ?_
     simp only [sA, sB, sC]
     refine tkh 12 (v := ?_) rfl rfl (by kernel_rfl) (fun _ _ _ h => h) (yesH (by rfl) ?_) hHeld ?_
     rotate_left
     ·intro w9 hS9
      go_simp
      try with_reducible rfl
     simp only [sA, sB, sC]
     refine wpAnyH_done (by kernel_rfl) ?_ _
     have e0' := (bcell hb7s _ _ e1).trans e0
     go_wp2_with fail
     go_ret
     exact ⟨⟨_, rfl, .inr ⟨NO.out (fun h => H1.out h.1), rfl⟩⟩, HWo.out.trans (hb7s.mono HWo.out.size)⟩
   ·have E : Hid (DomsP d) := fun n hn => by
     have hm := (TD.out.mem n).2 hn
     obtain ⟨j, hj, rfl⟩ := List.getElem_of_mem hm
     have := HD.out j (by omega)
     simp only [List.getD, List.getElem?_eq_getElem hj, Option.getD_some] at this
     exact this
    clear HD
    go_wp2_with fail
    go_ret
    exact ⟨⟨_, rfl, .inl ⟨E.out, rfl⟩⟩, HWo.out⟩
end Go.Proofs.YtgojlnclpebdcaaGreatDoor
