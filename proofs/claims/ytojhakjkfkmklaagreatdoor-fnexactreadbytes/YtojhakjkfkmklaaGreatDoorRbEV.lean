import Derived.Test.YtojhakjkfkmklaaGreatDoorRpBV
import Derived.Test.YtojhakjkfkmklaaGreatDoorCntWV
import Derived.Test.YtojhakjkfkmklaaGreatDoorFmGV
import Derived.RangeFuncBox
namespace Go.Proofs.YtojhakjkfkmklaaGreatDoor
open Go.RowKit Go.Shelf
attribute [local go_sem] Oper.semAt_some
set_option linter.unusedVariables false
set_option linter.unusedSimpArgs false
theorem numbersMk2 (s : ByteArray) (w : World) : Calls Tryz.prog 87 #[.string s] w fun e w' => e = .returned (.func (.func 120) #[] #[.pointer (some ⟨w.heap.size, 0, none⟩)]) ∧ w' = w.alloc (.cells #[.string s] 9) := by
 go_enter Tryz.func87, Tryz.ntmps87
 go_wp2_with fail
 go_ret
 exact ⟨rfl, rfl⟩
structure RowSt (w : World) (s : ByteArray) (pre : List Int) (W : World) : Prop where
 row : ∃ v, Boxed W w.heap.size 121 v ∧ Row W w.heap.size v pre
 ptr : Boxed W (w.heap.size + 1) 76 (.pointer (some ⟨w.heap.size, 0, none⟩))
 str : Boxed W (w.heap.size + 2) 9 (.string s)
 below : Below w.heap.size w W
theorem Boxed.belowB {A B : World} {b : Nat} {t : TypeId} {v : Value} (h : Boxed A b t v) (k : Below A.heap.size A B) : Boxed B b t v := (k.block b h.lt).trans h
theorem RowSt.keep {w A B : World} {s : ByteArray} {pre : List Int} (h : RowSt w s pre A) (k : Below A.heap.size A B) : RowSt w s pre B := by
 obtain ⟨⟨v, h1, h2⟩, h3, h4, h5⟩ := h
 exact ⟨⟨v, Boxed.belowB h1 k, h2.keep k⟩, Boxed.belowB h3 k, Boxed.belowB h4 k, h5.trans (k.mono h5.size)⟩
theorem Boxed.putB {A : World} {b l : Nat} {t : TypeId} {v : Value} (h : Boxed A b t v) (hn : b ≠ l) (o : Obj) : Boxed (A.putObj l o) b t v := (World.putObj_heap_other (by omega)).trans h
theorem RowSt.put {w A : World} {s : ByteArray} {pre : List Int} (h : RowSt w s pre A) {l : Nat} {o o' : Obj} (hl : w.heap.size + 3 ≤ l) (ho : A.heap[l]? = some o) (hc : o.isCells = false) : RowSt w s pre (A.putObj l o') := by
 obtain ⟨⟨v, h1, h2⟩, h3, h4, h5⟩ := h
 exact ⟨⟨v, Boxed.putB h1 (by omega) _, ownsRow_putObj h2 _ ho hc⟩, Boxed.putB h3 (by omega) _, Boxed.putB h4 (by omega) _, h5.trans (below_put _ (by omega))⟩
theorem RowSt.rw_ {w A : World} {s : ByteArray} {pre : List Int} (h : RowSt w s pre A) (hl : pre.length ≤ 1048576) : RwAt A w.heap.size pre := by
 obtain ⟨⟨v, h1, h2⟩, h3, h4, h5⟩ := h
 rcases h2.2 with ⟨hv, hn⟩ | ⟨g, cap, cur, hv, hb, hg, hnc, hcm, hcs, htk⟩
 ·exact .inl ⟨List.length_eq_zero_iff.1 hn, by rw [hv] at h1; exact h1⟩
 ·refine .inr ⟨g, 0, cap, by rw [hv] at h1; exact h1, hnc, Nat.le_trans hcm (by decide), ?_, (Array.getElem?_eq_some_iff.1 hg).1, ?_⟩
  ·intro e
   rw [e] at hg
   rw [show A.heap[w.heap.size]? = _ from h1] at hg
   cases hg
  ·obtain ⟨u, c, hv2, hi⟩ := h2.ints (by omega)
   rw [hv] at hv2
   cases hv2
   rcases hi.2 with e | ⟨b, off, he, _, _, hc⟩
   ·intro i hi; rw [e] at hi; simp at hi
   ·cases he; exact hc
def RowTold (s : ByteArray) (a : Addr) (w : World) (e : Ending) (w' : World) : Prop :=
 (∃ R L, e = .returned (.pointer (some ⟨R, 0, none⟩)) ∧ Rng L ∧ s.data.toList = ssa1.data.toList ++ toL L ∧ w.heap.size ≤ R ∧ RwAt w' R L ∧ L.length ≤ 20000) ∨ (e = .panicked [{ v := errV a, recovered := false }] ∧ ¬ ∃ L, Rng L ∧ s.data.toList = ssa1.data.toList ++ toL L)
theorem ssa1_pre {s : ByteArray} {L : List UInt8} (h : s.data.toList = ssa1.data.toList ++ L) : ssa1.size ≤ s.size ∧ s.extract 0 ssa1.size = ssa1 ∧ (s.extract ssa1.size s.size).data.toList = L := by
 have hz : s.data.toList.length = s.size := Array.length_toList
 have hl := congrArg List.length h
 have hr : ssa1.data.toList.length = 4 := rfl
 have h4 : ssa1.size = 4 := rfl
 rw [List.length_append, hr, hz] at hl
 refine ⟨by omega, ?_, ?_⟩
 ·apply ByteArray.ext
  apply Array.ext'
  rw [ByteArray.data_extract, Array.toList_extract, h, h4]
  rfl
 ·rw [ByteArray.data_extract, Array.toList_extract, h, h4]
  simp [List.extract, hr]
  exact List.take_of_length_le (by omega)
theorem ssa1_back {s : ByteArray} (h1 : ssa1.size ≤ s.size) (h2 : s.extract 0 ssa1.size = ssa1) : s.data.toList = ssa1.data.toList ++ (s.extract ssa1.size s.size).data.toList := by
 have e : ssa1.data.toList = s.data.toList.take 4 := by
  have := congrArg (fun b : ByteArray => b.data.toList) h2
  simp only [ByteArray.data_extract, Array.toList_extract] at this
  rw [← this]
  simp [List.extract, show ssa1.size = 4 from rfl]
 have e2 : (s.extract ssa1.size s.size).data.toList = s.data.toList.drop 4 := by
  have hz : s.data.toList.length = s.size := Array.length_toList
  rw [ByteArray.data_extract, Array.toList_extract, show ssa1.size = 4 from rfl]
  simp [List.extract]
  exact List.take_of_length_le (by rw [List.length_drop, hz]; exact Nat.le_refl _)
 rw [e, e2, List.take_append_drop]
theorem toL_len : ∀ (l : List Int), l.length ≤ (toL l).length
 | [] => by simp [toL]
 | x :: l => by
  rw [toL_cons, List.length_append, List.length_cons]
  have h1 := toL_len l
  have h2 : (vl x.toNat).length ≠ 0 := fun e => vl_ne _ (List.length_eq_zero_iff.1 e)
  omega
set_option maxRecDepth 100000 in
set_option maxHeartbeats 4000000 in
theorem rowI (a : Addr) (s : ByteArray) (w : World) (hs : s.size ≤ 20000) (hv : Gv w 0 (errV a)) :
  Calls Tryz.prog 51 #[.string s, .string ssa1] w fun e w' => RowTold s a w e w' ∧ Below w.heap.size w w' := by
 by_cases hp : ssa1.size ≤ s.size ∧ s.extract 0 ssa1.size = ssa1
 ·have C := cutPY s ssa1 w (by decide) (by omega) hp.1 hp.2
  have HBK : Hid (s.data.toList = ssa1.data.toList ++ (s.extract ssa1.size s.size).data.toList) := ssa1_back hp.1 hp.2
  have hbs : (s.extract ssa1.size s.size).size ≤ 20000 := by rw [ByteArray.size_extract]; omega
  generalize s.extract ssa1.size s.size = t at C HBK hbs
  have Wy := wantY w
  clear hp
  refine (callsIn_wide (n := 6)).1 ?_
  refine callsIn_of_wp_marks Tryz.func51 rfl trivial ?_ rfl
  simp only [Tryz.ntmps51, List.size_toArray, List.length_cons, List.length_nil, Nat.reduceAdd, Nat.reduceSub, Array.replicate_succ, Array.replicate_zero, List.push_toArray, List.append_toArray, List.nil_append, List.cons_append]
  gi_wp2
  refine ⟨trivial, (callsIn_wide.2 C).mono ?_⟩
  rintro e w1 ⟨rfl, h9⟩
  have h8 := h9.symm
  clear h9
  subst h8
  gi_wp2
  refine ⟨trivial, (callsIn_wide.2 Wy).mono ?_⟩
  rintro e w1 ⟨rfl, h9⟩
  have h8 := h9.symm
  clear h9
  subst h8
  gi_wp2
  refine ⟨trivial, (callsIn_wide.2 (numbersMk2 t _)).mono ?_⟩
  rintro e w3 ⟨rfl, h9⟩
  have hsz : ((w.alloc (.cells #[.slice none 0 0] 121)).alloc (.cells #[.pointer (some ⟨w.heap.size, 0, none⟩)] 76)).heap.size = w.heap.size + 2 := by simp
  rw [hsz]
  have B3 : Below w.heap.size w w3 := by
   rw [h9]
   exact (((Below.refl _ _).alloc (Nat.le_refl _) _).alloc (by simp) _).alloc (by simp; omega) _
  have z3 : w3.heap.size = w.heap.size + 3 := by rw [h9]; simp
  have h0 : RowSt w t [] w3 := by
   refine ⟨⟨.slice none 0 0, ?_, Row.nil _ _⟩, ?_, ?_, B3⟩
   ·rw [h9]; exact (Boxed.new _ _ _).alloc _ |>.alloc _
   ·have b := (Boxed.new (w.alloc (.cells #[.slice none 0 0] 121)) 76 (.pointer (some ⟨w.heap.size, 0, none⟩))).alloc (.cells #[.string t] 9)
    rw [World.size_alloc] at b
    rw [h9]
    exact b
   ·have b := Boxed.new ((w.alloc (.cells #[.slice none 0 0] 121)).alloc (.cells #[.pointer (some ⟨w.heap.size, 0, none⟩)] 76)) 9 (.string t)
    rw [hsz] at b
    rw [h9]
    exact b
  clear h9 hsz
  gi_wp2
  refine range_pan rfl (by omega) (gf := 120) (lb := #[.pointer (some ⟨w.heap.size + 2, 0, none⟩)]) rfl trivial (enters_of Tryz.func120 (by kernel_rfl) rfl)
   20000 (fun L => Rng L ∧ t.data.toList = toL L) (fun ch => ch = [{ v := errV a, recovered := false }] ∧ ¬ ∃ L, Rng L ∧ t.data.toList = toL L) (RowSt w t)
   (fun pre A B h k => h.keep k) (fun pre A l o o' hl h ho hc => h.put (by omega) ho hc) h0 rfl
   (fun x => { tmps := #[.string s, .string ssa1, undef, undef, .pointer none, .string t, .bool true, .pointer (some ⟨w.heap.size + 1, 0, none⟩), .int .i64 x, .tuple #[.string t, .bool true], .string s, .string ssa1, .tuple #[.string t, .bool true], .string t, .bool true, .bool true, .tuple #[], .agg #[.slice none 0 0], .pointer (some ⟨w.heap.size, 0, none⟩), .string t, .func (.func 120) #[] #[.pointer (some ⟨w.heap.size + 2, 0, none⟩)], .int .i64 x, undef, undef, undef, undef, undef, undef, undef, undef, undef, undef, undef], defers := [] }) ?assign ?body ?it ?done ?pan
  case assign =>
   intro l x W K hK
   gi_wp2
   exact hK
  case it =>
   intro l J W hJI hJb hY h0
   exact numsI l (w.heap.size + 2) t a 20000 J (fun pre A h => ⟨⟨(hJI pre A h).str.cell, (hJI pre A h).str.lt⟩, hv.keep (hJI pre A h).below⟩) (fun m pre x A h hl => by
    obtain ⟨fn, tmps, assign, body, hy, hR⟩ := hY pre x A h hl
    exact ⟨fn, tmps, assign, body, hy, ⟨hR.1, fun c cs _ => hR.2 c cs (fun d h => by cases h)⟩⟩) 5 W h0 hbs (Nat.le_refl _)
  case done =>
   rintro D L W hD ⟨hL, hE⟩ hst hK
   have c1 := hst.ptr.cell
   have HT : Hid (RowTold s a w (.returned (.pointer (some ⟨w.heap.size, 0, none⟩))) (W.putObj D (.deferred none))) := by
    have hz : t.data.toList.length = t.size := Array.length_toList
    have hln := toL_len L
    rw [← hE, hz] at hln
    exact .inl ⟨w.heap.size, L, rfl, hL, by rw [HBK.out, hE], Nat.le_refl _, (hst.put (by omega) hK rfl).rw_ (by omega), by omega⟩
   have HB2 : Hid (Below w.heap.size w (W.putObj D (.deferred none))) := hst.below.trans (below_put _ (by omega))
   gi_wp2
   refine ⟨by simp, .inl ⟨_, _, rfl, run_takeDeferred hK, ?_⟩⟩
   exact ⟨.pointer (some ⟨w.heap.size, 0, none⟩), (results_tmp rfl _ _ _).trans (by rfl), HT.out, HB2.out⟩
  case pan =>
   rintro D ch pre W hD ⟨rfl, hno⟩ hst hK
   have HB2 : Hid (Below w.heap.size w (W.putObj D (.deferred none))) := hst.below.trans (below_put _ (by omega))
   have HT : Hid (RowTold s a w (.panicked [{ v := errV a, recovered := false }]) (W.putObj D (.deferred none))) := .inr ⟨rfl, by
    rintro ⟨L, hL, hE⟩
    exact hno ⟨L, hL, List.append_cancel_left (HBK.out.symm.trans hE)⟩⟩
   gi_wp2
   refine ⟨by simp, .inl ⟨_, _, rfl, run_takeDeferred hK, ?_⟩⟩
   exact ⟨HT.out, HB2.out⟩
  case body =>
   rintro l pre x W hst hlen
   obtain ⟨v, hv0, hrow⟩ := hst.row
   have c0 := hv0.cell
   have c1 := hst.ptr.cell
   have hBw := hst.below.size
   have hrowd : W.drew.ownsRow w.heap.size 2 1 v pre.length (pre.map (Value.int .i64)) := hrow
   have hvd : Boxed W.drew w.heap.size 121 v := hv0
   have hpl : pre.length ≤ 20000 := by omega
   obtain ⟨i0, hi, hz0, hz1, hz2⟩ := info_parts infoI
   obtain ⟨g', cap', w1, hrun, hown', hgrow, _, _⟩ := run_append_lies (P := Tryz.prog) (W.drew.alloc (.cells #[.int .i64 x] 2)) 46 46 w.heap.size 2 i0 (.int .i64 0) 1 8 Tryz.underlying46 hi hz0 hz1 hz2 rfl (by decide) v pre.length (pre.map (Value.int .i64)) (hrowd.alloc _) ⟨W.heap.size, 0, none⟩ 1 1 [.int .i64 x] rfl (cell_one_new _ _ _) (by simp [Value.oneCell']) (by decide) (by unfold maxLen; omega) (by omega) (by simp; omega) _ rfl
   obtain ⟨hv1, hv2, hr2, hk2, hb2⟩ := hvd.appended (by decide) hrowd hBw (Nat.le_refl _) hown' hgrow
   have hc1 := hv1.cell
   have hf1 := hv1.frozen
   have hc2 : W.drew.cell? ⟨w.heap.size, 0, none⟩ = some v := c0
   have hc3 : W.drew.cell? ⟨w.heap.size + 1, 0, none⟩ = some (.pointer (some ⟨w.heap.size, 0, none⟩)) := c1
   gi_wp2
   have hgn : ∀ b, b < W.heap.size → (∃ cs T, W.heap[b]? = some (.cells cs T (0, 0)) ∧ T ≠ 2) → w1.heap[b]? = W.heap[b]? := by
    rintro b hb ⟨cs, T, hh, hT⟩
    rw [hgrow.block b (by simp; omega) ?_]
    ·exact Below.heap_alloc _ _ _ hb
    ·intro e
     rcases hrow.2 with ⟨hv, _⟩ | ⟨g, cap, cur, hv, _, hg, _⟩
     ·rw [hv] at e; cases e
     ·rw [hv] at e
      cases e
      rw [hg] at hh
      cases hh
      exact hT rfl
   have hc6 : w1.cell? ⟨w.heap.size + 1, 0, none⟩ = some (.pointer (some ⟨w.heap.size, 0, none⟩)) := (cell_block (hgn _ hst.ptr.lt ⟨_, _, hst.ptr, by decide⟩)).trans c1
   have FIN : Hid (Exit.normal = .normal ∧ RowSt w t (pre ++ [x]) (w1.setCell ⟨w.heap.size, 0, none⟩ (.slice (some ⟨g', 0, none⟩) (pre.length + 1) cap')) ∧ ∀ (j : Nat) (o : Obj), W.heap[j]? = some o → o.isCells = false → (w1.setCell ⟨w.heap.size, 0, none⟩ (.slice (some ⟨g', 0, none⟩) (pre.length + 1) cap')).heap[j]? = some o) := by
    refine ⟨rfl, ⟨⟨_, hv2, ?_⟩, ?_, ?_, hst.below.trans ⟨hb2.os, hb2.tape, hb2.output, hb2.size, hb2.block⟩⟩, hk2.same⟩
    ·show World.ownsRow _ _ _ _ _ _ _
     rw [List.length_append, List.map_append]
     exact hr2
    ·show (w1.setCell _ _).heap[w.heap.size + 1]? = _
     rw [Below.heap_setCell _ _ _ _ (by simp)]
     exact (hgn _ hst.ptr.lt ⟨_, _, hst.ptr, by decide⟩).trans hst.ptr
    ·show (w1.setCell _ _).heap[w.heap.size + 2]? = _
     rw [Below.heap_setCell _ _ _ _ (by simp)]
     exact (hgn _ hst.str.lt ⟨_, _, hst.str, by decide⟩).trans hst.str
   have hc4 : (W.alloc (.cells #[.int .i64 x] 2)).cell? ⟨w.heap.size, 0, none⟩ = some v := (cell_block (Below.heap_alloc _ _ _ hv0.lt)).trans c0
   have hc5 : (W.alloc (.cells #[.int .i64 x] 2)).cell? ⟨w.heap.size + 1, 0, none⟩ = some (.pointer (some ⟨w.heap.size, 0, none⟩)) := (cell_block (Below.heap_alloc _ _ _ hst.ptr.lt)).trans c1
   refine region_round (F := Fence.wide) rfl (by kernel_rfl) (by
    intro o ho c
    simp only [List.mem_cons, List.not_mem_nil, or_false] at ho
    rcases ho with rfl | rfl | rfl | rfl | rfl | rfl | rfl | rfl | rfl | rfl | rfl <;> (intro e; cases e)) ?_
   refine wpAnyIn_take (i := 5) (v := ?_) rfl rfl (by kernel_rfl) (by kernel_rfl) (by kernel_rfl) (fun _ _ _ h => h) ⟨Or.inl ⟨by rfl, ?_⟩, fun _ => rfl⟩ ?_
   rotate_left
   ·intro w9
    go_simp
    try with_reducible rfl
   show wpAnyIn _ _ _ _ _ _ _ _ (Act.put _ (some _) _) _
   simp only [Act.put, List.setIfInBounds_toArray, List.set_cons_zero, List.set_cons_succ]
   refine wpAnyIn_ready (rs := [0, 1, 6]) (by kernel_rfl) (by simp) ?_
   refine (AllReadyIn.cons rfl (fun K hK => ?_) (AllReadyIn.cons rfl (fun K hK => ?_) (AllReadyIn.cons rfl (fun K hK => ?_) AllReadyIn.nil)))
   ·go_simp
    refine hK _ _ ?_
    clear hK K
    refine wpAnyIn_ready (rs := [1, 6]) (by kernel_rfl) (by simp) ?_
    refine (AllReadyIn.cons rfl (fun K hK => ?_) (AllReadyIn.cons rfl (fun K hK => ?_) AllReadyIn.nil))
    ·go_simp
     refine hK _ _ ?_
     clear hK K
     refine wpAnyIn_take (i := 2) (v := ?_) rfl rfl (by kernel_rfl) (by kernel_rfl) (by kernel_rfl) (fun _ _ _ h => h) ⟨Or.inl ⟨by rfl, ?_⟩, fun _ => rfl⟩ ?_
     rotate_left
     ·intro w9
      go_simp
      try with_reducible rfl
     show wpAnyIn _ _ _ _ _ _ _ _ (Act.put _ (some _) _) _
     simp only [Act.put, List.setIfInBounds_toArray, List.set_cons_zero, List.set_cons_succ]
     refine wpAnyIn_take (i := 3) (v := ?_) rfl rfl (by kernel_rfl) (by kernel_rfl) (by kernel_rfl) (fun _ _ _ h => h) ⟨Or.inl ⟨by rfl, ?_⟩, fun _ => rfl⟩ ?_
     rotate_left
     ·intro w9
      go_simp
      try with_reducible rfl
     show wpAnyIn _ _ _ _ _ _ _ _ (Act.put _ (some _) _) _
     simp only [Act.put, List.setIfInBounds_toArray, List.set_cons_zero, List.set_cons_succ]
     refine wpAnyIn_ready (rs := [4, 6]) (by kernel_rfl) (by simp) ?_
     refine (AllReadyIn.cons rfl (fun K hK => ?_) (AllReadyIn.cons rfl (fun K hK => ?_) AllReadyIn.nil))
     ·go_simp
      refine hK _ _ ?_
      clear hK K
      refine wpAnyIn_ready (rs := [6]) (by kernel_rfl) (by simp) ?_
      refine (AllReadyIn.cons rfl (fun K hK => ?_) AllReadyIn.nil)
      ·go_simp
       refine hK _ _ ?_
       clear hK K
       refine wpAnyIn_ready (rs := [7]) (by kernel_rfl) (by simp) ?_
       refine (AllReadyIn.cons rfl (fun K hK => ?_) AllReadyIn.nil)
       ·refine step_run rfl _ _ _ rfl rfl rfl hrun ?_
        refine hK _ _ ?_
        clear hK K
        simp only [Act.put, List.setIfInBounds_toArray, List.set_cons_zero, List.set_cons_succ]
        refine wpAnyIn_take (i := 8) (v := ?_) rfl rfl (by kernel_rfl) (by kernel_rfl) (by kernel_rfl) (fun _ _ _ h => h) ⟨Or.inl ⟨by rfl, ?_⟩, fun _ => rfl⟩ ?_
        rotate_left
        ·intro w9
         go_simp
         try with_reducible rfl
        show wpAnyIn _ _ _ _ _ _ _ _ (Act.put _ (some _) _) _
        simp only [Act.put, List.setIfInBounds_toArray, List.set_cons_zero, List.set_cons_succ]
        refine wpAnyIn_take (i := 9) (v := ?_) rfl rfl (by kernel_rfl) (by kernel_rfl) (by kernel_rfl) (fun _ _ _ h => h) ⟨Or.inl ⟨by rfl, ?_⟩, fun _ => rfl⟩ ?_
        rotate_left
        ·intro w9
         go_simp
         try with_reducible rfl
        show wpAnyIn _ _ _ _ _ _ _ _ (Act.put _ (some _) _) _
        simp only [Act.put, List.setIfInBounds_toArray, List.set_cons_zero, List.set_cons_succ]
        refine wpAnyIn_ready (rs := [10]) (by kernel_rfl) (by simp) ?_
        refine (AllReadyIn.cons rfl (fun K hK => ?_) AllReadyIn.nil)
        ·go_simp
         refine hK _ _ ?_
         clear hK K
         refine wpAnyIn_done (by kernel_rfl) ?_ _
         exact FIN.out
     ·go_simp
      refine hK _ _ ?_
      clear hK K
      refine wpAnyIn_ready (rs := [4]) (by kernel_rfl) (by simp) ?_
      refine (AllReadyIn.cons rfl (fun K hK => ?_) AllReadyIn.nil)
      ·go_simp
       refine hK _ _ ?_
       clear hK K
       refine wpAnyIn_ready (rs := [7]) (by kernel_rfl) (by simp) ?_
       refine (AllReadyIn.cons rfl (fun K hK => ?_) AllReadyIn.nil)
       ·refine step_run rfl _ _ _ rfl rfl rfl hrun ?_
        refine hK _ _ ?_
        clear hK K
        simp only [Act.put, List.setIfInBounds_toArray, List.set_cons_zero, List.set_cons_succ]
        refine wpAnyIn_take (i := 8) (v := ?_) rfl rfl (by kernel_rfl) (by kernel_rfl) (by kernel_rfl) (fun _ _ _ h => h) ⟨Or.inl ⟨by rfl, ?_⟩, fun _ => rfl⟩ ?_
        rotate_left
        ·intro w9
         go_simp
         try with_reducible rfl
        show wpAnyIn _ _ _ _ _ _ _ _ (Act.put _ (some _) _) _
        simp only [Act.put, List.setIfInBounds_toArray, List.set_cons_zero, List.set_cons_succ]
        refine wpAnyIn_take (i := 9) (v := ?_) rfl rfl (by kernel_rfl) (by kernel_rfl) (by kernel_rfl) (fun _ _ _ h => h) ⟨Or.inl ⟨by rfl, ?_⟩, fun _ => rfl⟩ ?_
        rotate_left
        ·intro w9
         go_simp
         try with_reducible rfl
        show wpAnyIn _ _ _ _ _ _ _ _ (Act.put _ (some _) _) _
        simp only [Act.put, List.setIfInBounds_toArray, List.set_cons_zero, List.set_cons_succ]
        refine wpAnyIn_ready (rs := [10]) (by kernel_rfl) (by simp) ?_
        refine (AllReadyIn.cons rfl (fun K hK => ?_) AllReadyIn.nil)
        ·go_simp
         refine hK _ _ ?_
         clear hK K
         refine wpAnyIn_done (by kernel_rfl) ?_ _
         exact FIN.out
    ·go_simp
     refine hK _ _ ?_
     clear hK K
     refine wpAnyIn_ready (rs := [1]) (by kernel_rfl) (by simp) ?_
     refine (AllReadyIn.cons rfl (fun K hK => ?_) AllReadyIn.nil)
     ·go_simp
      refine hK _ _ ?_
      clear hK K
      refine wpAnyIn_take (i := 2) (v := ?_) rfl rfl (by kernel_rfl) (by kernel_rfl) (by kernel_rfl) (fun _ _ _ h => h) ⟨Or.inl ⟨by rfl, ?_⟩, fun _ => rfl⟩ ?_
      rotate_left
      ·intro w9
       go_simp
       try with_reducible rfl
      show wpAnyIn _ _ _ _ _ _ _ _ (Act.put _ (some _) _) _
      simp only [Act.put, List.setIfInBounds_toArray, List.set_cons_zero, List.set_cons_succ]
      refine wpAnyIn_take (i := 3) (v := ?_) rfl rfl (by kernel_rfl) (by kernel_rfl) (by kernel_rfl) (fun _ _ _ h => h) ⟨Or.inl ⟨by rfl, ?_⟩, fun _ => rfl⟩ ?_
      rotate_left
      ·intro w9
       go_simp
       try with_reducible rfl
      show wpAnyIn _ _ _ _ _ _ _ _ (Act.put _ (some _) _) _
      simp only [Act.put, List.setIfInBounds_toArray, List.set_cons_zero, List.set_cons_succ]
      refine wpAnyIn_ready (rs := [4]) (by kernel_rfl) (by simp) ?_
      refine (AllReadyIn.cons rfl (fun K hK => ?_) AllReadyIn.nil)
      ·go_simp
       refine hK _ _ ?_
       clear hK K
       refine wpAnyIn_ready (rs := [7]) (by kernel_rfl) (by simp) ?_
       refine (AllReadyIn.cons rfl (fun K hK => ?_) AllReadyIn.nil)
       ·refine step_run rfl _ _ _ rfl rfl rfl hrun ?_
        refine hK _ _ ?_
        clear hK K
        simp only [Act.put, List.setIfInBounds_toArray, List.set_cons_zero, List.set_cons_succ]
        refine wpAnyIn_take (i := 8) (v := ?_) rfl rfl (by kernel_rfl) (by kernel_rfl) (by kernel_rfl) (fun _ _ _ h => h) ⟨Or.inl ⟨by rfl, ?_⟩, fun _ => rfl⟩ ?_
        rotate_left
        ·intro w9
         go_simp
         try with_reducible rfl
        show wpAnyIn _ _ _ _ _ _ _ _ (Act.put _ (some _) _) _
        simp only [Act.put, List.setIfInBounds_toArray, List.set_cons_zero, List.set_cons_succ]
        refine wpAnyIn_take (i := 9) (v := ?_) rfl rfl (by kernel_rfl) (by kernel_rfl) (by kernel_rfl) (fun _ _ _ h => h) ⟨Or.inl ⟨by rfl, ?_⟩, fun _ => rfl⟩ ?_
        rotate_left
        ·intro w9
         go_simp
         try with_reducible rfl
        show wpAnyIn _ _ _ _ _ _ _ _ (Act.put _ (some _) _) _
        simp only [Act.put, List.setIfInBounds_toArray, List.set_cons_zero, List.set_cons_succ]
        refine wpAnyIn_ready (rs := [10]) (by kernel_rfl) (by simp) ?_
        refine (AllReadyIn.cons rfl (fun K hK => ?_) AllReadyIn.nil)
        ·go_simp
         refine hK _ _ ?_
         clear hK K
         refine wpAnyIn_done (by kernel_rfl) ?_ _
         exact FIN.out
   ·go_simp
    refine hK _ _ ?_
    clear hK K
    refine wpAnyIn_take (i := 2) (v := ?_) rfl rfl (by kernel_rfl) (by kernel_rfl) (by kernel_rfl) (fun _ _ _ h => h) ⟨Or.inl ⟨by rfl, ?_⟩, fun _ => rfl⟩ ?_
    rotate_left
    ·intro w9
     go_simp
     try with_reducible rfl
    show wpAnyIn _ _ _ _ _ _ _ _ (Act.put _ (some _) _) _
    simp only [Act.put, List.setIfInBounds_toArray, List.set_cons_zero, List.set_cons_succ]
    refine wpAnyIn_take (i := 3) (v := ?_) rfl rfl (by kernel_rfl) (by kernel_rfl) (by kernel_rfl) (fun _ _ _ h => h) ⟨Or.inl ⟨by rfl, ?_⟩, fun _ => rfl⟩ ?_
    rotate_left
    ·intro w9
     go_simp
     try with_reducible rfl
    show wpAnyIn _ _ _ _ _ _ _ _ (Act.put _ (some _) _) _
    simp only [Act.put, List.setIfInBounds_toArray, List.set_cons_zero, List.set_cons_succ]
    refine wpAnyIn_ready (rs := [0, 4, 6]) (by kernel_rfl) (by simp) ?_
    refine (AllReadyIn.cons rfl (fun K hK => ?_) (AllReadyIn.cons rfl (fun K hK => ?_) (AllReadyIn.cons rfl (fun K hK => ?_) AllReadyIn.nil)))
    ·go_simp
     refine hK _ _ ?_
     clear hK K
     refine wpAnyIn_ready (rs := [4, 6]) (by kernel_rfl) (by simp) ?_
     refine (AllReadyIn.cons rfl (fun K hK => ?_) (AllReadyIn.cons rfl (fun K hK => ?_) AllReadyIn.nil))
     ·go_simp
      refine hK _ _ ?_
      clear hK K
      refine wpAnyIn_ready (rs := [6]) (by kernel_rfl) (by simp) ?_
      refine (AllReadyIn.cons rfl (fun K hK => ?_) AllReadyIn.nil)
      ·go_simp
       refine hK _ _ ?_
       clear hK K
       refine wpAnyIn_ready (rs := [7]) (by kernel_rfl) (by simp) ?_
       refine (AllReadyIn.cons rfl (fun K hK => ?_) AllReadyIn.nil)
       ·refine step_run rfl _ _ _ rfl rfl rfl hrun ?_
        refine hK _ _ ?_
        clear hK K
        simp only [Act.put, List.setIfInBounds_toArray, List.set_cons_zero, List.set_cons_succ]
        refine wpAnyIn_take (i := 8) (v := ?_) rfl rfl (by kernel_rfl) (by kernel_rfl) (by kernel_rfl) (fun _ _ _ h => h) ⟨Or.inl ⟨by rfl, ?_⟩, fun _ => rfl⟩ ?_
        rotate_left
        ·intro w9
         go_simp
         try with_reducible rfl
        show wpAnyIn _ _ _ _ _ _ _ _ (Act.put _ (some _) _) _
        simp only [Act.put, List.setIfInBounds_toArray, List.set_cons_zero, List.set_cons_succ]
        refine wpAnyIn_take (i := 9) (v := ?_) rfl rfl (by kernel_rfl) (by kernel_rfl) (by kernel_rfl) (fun _ _ _ h => h) ⟨Or.inl ⟨by rfl, ?_⟩, fun _ => rfl⟩ ?_
        rotate_left
        ·intro w9
         go_simp
         try with_reducible rfl
        show wpAnyIn _ _ _ _ _ _ _ _ (Act.put _ (some _) _) _
        simp only [Act.put, List.setIfInBounds_toArray, List.set_cons_zero, List.set_cons_succ]
        refine wpAnyIn_ready (rs := [10]) (by kernel_rfl) (by simp) ?_
        refine (AllReadyIn.cons rfl (fun K hK => ?_) AllReadyIn.nil)
        ·go_simp
         refine hK _ _ ?_
         clear hK K
         refine wpAnyIn_done (by kernel_rfl) ?_ _
         exact FIN.out
     ·go_simp
      refine hK _ _ ?_
      clear hK K
      refine wpAnyIn_ready (rs := [4]) (by kernel_rfl) (by simp) ?_
      refine (AllReadyIn.cons rfl (fun K hK => ?_) AllReadyIn.nil)
      ·go_simp
       refine hK _ _ ?_
       clear hK K
       refine wpAnyIn_ready (rs := [7]) (by kernel_rfl) (by simp) ?_
       refine (AllReadyIn.cons rfl (fun K hK => ?_) AllReadyIn.nil)
       ·refine step_run rfl _ _ _ rfl rfl rfl hrun ?_
        refine hK _ _ ?_
        clear hK K
        simp only [Act.put, List.setIfInBounds_toArray, List.set_cons_zero, List.set_cons_succ]
        refine wpAnyIn_take (i := 8) (v := ?_) rfl rfl (by kernel_rfl) (by kernel_rfl) (by kernel_rfl) (fun _ _ _ h => h) ⟨Or.inl ⟨by rfl, ?_⟩, fun _ => rfl⟩ ?_
        rotate_left
        ·intro w9
         go_simp
         try with_reducible rfl
        show wpAnyIn _ _ _ _ _ _ _ _ (Act.put _ (some _) _) _
        simp only [Act.put, List.setIfInBounds_toArray, List.set_cons_zero, List.set_cons_succ]
        refine wpAnyIn_take (i := 9) (v := ?_) rfl rfl (by kernel_rfl) (by kernel_rfl) (by kernel_rfl) (fun _ _ _ h => h) ⟨Or.inl ⟨by rfl, ?_⟩, fun _ => rfl⟩ ?_
        rotate_left
        ·intro w9
         go_simp
         try with_reducible rfl
        show wpAnyIn _ _ _ _ _ _ _ _ (Act.put _ (some _) _) _
        simp only [Act.put, List.setIfInBounds_toArray, List.set_cons_zero, List.set_cons_succ]
        refine wpAnyIn_ready (rs := [10]) (by kernel_rfl) (by simp) ?_
        refine (AllReadyIn.cons rfl (fun K hK => ?_) AllReadyIn.nil)
        ·go_simp
         refine hK _ _ ?_
         clear hK K
         refine wpAnyIn_done (by kernel_rfl) ?_ _
         exact FIN.out
    ·go_simp
     refine hK _ _ ?_
     clear hK K
     refine wpAnyIn_ready (rs := [0, 6]) (by kernel_rfl) (by simp) ?_
     refine (AllReadyIn.cons rfl (fun K hK => ?_) (AllReadyIn.cons rfl (fun K hK => ?_) AllReadyIn.nil))
     ·go_simp
      refine hK _ _ ?_
      clear hK K
      refine wpAnyIn_ready (rs := [6]) (by kernel_rfl) (by simp) ?_
      refine (AllReadyIn.cons rfl (fun K hK => ?_) AllReadyIn.nil)
      ·go_simp
       refine hK _ _ ?_
       clear hK K
       refine wpAnyIn_ready (rs := [7]) (by kernel_rfl) (by simp) ?_
       refine (AllReadyIn.cons rfl (fun K hK => ?_) AllReadyIn.nil)
       ·refine step_run rfl _ _ _ rfl rfl rfl hrun ?_
        refine hK _ _ ?_
        clear hK K
        simp only [Act.put, List.setIfInBounds_toArray, List.set_cons_zero, List.set_cons_succ]
        refine wpAnyIn_take (i := 8) (v := ?_) rfl rfl (by kernel_rfl) (by kernel_rfl) (by kernel_rfl) (fun _ _ _ h => h) ⟨Or.inl ⟨by rfl, ?_⟩, fun _ => rfl⟩ ?_
        rotate_left
        ·intro w9
         go_simp
         try with_reducible rfl
        show wpAnyIn _ _ _ _ _ _ _ _ (Act.put _ (some _) _) _
        simp only [Act.put, List.setIfInBounds_toArray, List.set_cons_zero, List.set_cons_succ]
        refine wpAnyIn_take (i := 9) (v := ?_) rfl rfl (by kernel_rfl) (by kernel_rfl) (by kernel_rfl) (fun _ _ _ h => h) ⟨Or.inl ⟨by rfl, ?_⟩, fun _ => rfl⟩ ?_
        rotate_left
        ·intro w9
         go_simp
         try with_reducible rfl
        show wpAnyIn _ _ _ _ _ _ _ _ (Act.put _ (some _) _) _
        simp only [Act.put, List.setIfInBounds_toArray, List.set_cons_zero, List.set_cons_succ]
        refine wpAnyIn_ready (rs := [10]) (by kernel_rfl) (by simp) ?_
        refine (AllReadyIn.cons rfl (fun K hK => ?_) AllReadyIn.nil)
        ·go_simp
         refine hK _ _ ?_
         clear hK K
         refine wpAnyIn_done (by kernel_rfl) ?_ _
         exact FIN.out
     ·go_simp
      refine hK _ _ ?_
      clear hK K
      refine wpAnyIn_ready (rs := [0, 7]) (by kernel_rfl) (by simp) ?_
      refine (AllReadyIn.cons rfl (fun K hK => ?_) (AllReadyIn.cons rfl (fun K hK => ?_) AllReadyIn.nil))
      ·go_simp
       refine hK _ _ ?_
       clear hK K
       refine wpAnyIn_ready (rs := [7]) (by kernel_rfl) (by simp) ?_
       refine (AllReadyIn.cons rfl (fun K hK => ?_) AllReadyIn.nil)
       ·refine step_run rfl _ _ _ rfl rfl rfl hrun ?_
        refine hK _ _ ?_
        clear hK K
        simp only [Act.put, List.setIfInBounds_toArray, List.set_cons_zero, List.set_cons_succ]
        refine wpAnyIn_take (i := 8) (v := ?_) rfl rfl (by kernel_rfl) (by kernel_rfl) (by kernel_rfl) (fun _ _ _ h => h) ⟨Or.inl ⟨by rfl, ?_⟩, fun _ => rfl⟩ ?_
        rotate_left
        ·intro w9
         go_simp
         try with_reducible rfl
        show wpAnyIn _ _ _ _ _ _ _ _ (Act.put _ (some _) _) _
        simp only [Act.put, List.setIfInBounds_toArray, List.set_cons_zero, List.set_cons_succ]
        refine wpAnyIn_take (i := 9) (v := ?_) rfl rfl (by kernel_rfl) (by kernel_rfl) (by kernel_rfl) (fun _ _ _ h => h) ⟨Or.inl ⟨by rfl, ?_⟩, fun _ => rfl⟩ ?_
        rotate_left
        ·intro w9
         go_simp
         try with_reducible rfl
        show wpAnyIn _ _ _ _ _ _ _ _ (Act.put _ (some _) _) _
        simp only [Act.put, List.setIfInBounds_toArray, List.set_cons_zero, List.set_cons_succ]
        refine wpAnyIn_ready (rs := [10]) (by kernel_rfl) (by simp) ?_
        refine (AllReadyIn.cons rfl (fun K hK => ?_) AllReadyIn.nil)
        ·go_simp
         refine hK _ _ ?_
         clear hK K
         refine wpAnyIn_done (by kernel_rfl) ?_ _
         exact FIN.out
      ·refine step_run rfl _ _ _ rfl rfl rfl hrun ?_
       refine hK _ _ ?_
       clear hK K
       simp only [Act.put, List.setIfInBounds_toArray, List.set_cons_zero, List.set_cons_succ]
       refine wpAnyIn_ready (rs := [0]) (by kernel_rfl) (by simp) ?_
       refine (AllReadyIn.cons rfl (fun K hK => ?_) AllReadyIn.nil)
       ·go_simp
        refine hK _ _ ?_
        clear hK K
        refine wpAnyIn_take (i := 8) (v := ?_) rfl rfl (by kernel_rfl) (by kernel_rfl) (by kernel_rfl) (fun _ _ _ h => h) ⟨Or.inl ⟨by rfl, ?_⟩, fun _ => rfl⟩ ?_
        rotate_left
        ·intro w9
         go_simp
         try with_reducible rfl
        show wpAnyIn _ _ _ _ _ _ _ _ (Act.put _ (some _) _) _
        simp only [Act.put, List.setIfInBounds_toArray, List.set_cons_zero, List.set_cons_succ]
        refine wpAnyIn_take (i := 9) (v := ?_) rfl rfl (by kernel_rfl) (by kernel_rfl) (by kernel_rfl) (fun _ _ _ h => h) ⟨Or.inl ⟨by rfl, ?_⟩, fun _ => rfl⟩ ?_
        rotate_left
        ·intro w9
         go_simp
         try with_reducible rfl
        show wpAnyIn _ _ _ _ _ _ _ _ (Act.put _ (some _) _) _
        simp only [Act.put, List.setIfInBounds_toArray, List.set_cons_zero, List.set_cons_succ]
        refine wpAnyIn_ready (rs := [10]) (by kernel_rfl) (by simp) ?_
        refine (AllReadyIn.cons rfl (fun K hK => ?_) AllReadyIn.nil)
        ·go_simp
         refine hK _ _ ?_
         clear hK K
         refine wpAnyIn_done (by kernel_rfl) ?_ _
         exact FIN.out
    ·go_simp
     refine hK _ _ ?_
     clear hK K
     refine wpAnyIn_ready (rs := [0, 4]) (by kernel_rfl) (by simp) ?_
     refine (AllReadyIn.cons rfl (fun K hK => ?_) (AllReadyIn.cons rfl (fun K hK => ?_) AllReadyIn.nil))
     ·go_simp
      refine hK _ _ ?_
      clear hK K
      refine wpAnyIn_ready (rs := [4]) (by kernel_rfl) (by simp) ?_
      refine (AllReadyIn.cons rfl (fun K hK => ?_) AllReadyIn.nil)
      ·go_simp
       refine hK _ _ ?_
       clear hK K
       refine wpAnyIn_ready (rs := [7]) (by kernel_rfl) (by simp) ?_
       refine (AllReadyIn.cons rfl (fun K hK => ?_) AllReadyIn.nil)
       ·refine step_run rfl _ _ _ rfl rfl rfl hrun ?_
        refine hK _ _ ?_
        clear hK K
        simp only [Act.put, List.setIfInBounds_toArray, List.set_cons_zero, List.set_cons_succ]
        refine wpAnyIn_take (i := 8) (v := ?_) rfl rfl (by kernel_rfl) (by kernel_rfl) (by kernel_rfl) (fun _ _ _ h => h) ⟨Or.inl ⟨by rfl, ?_⟩, fun _ => rfl⟩ ?_
        rotate_left
        ·intro w9
         go_simp
         try with_reducible rfl
        show wpAnyIn _ _ _ _ _ _ _ _ (Act.put _ (some _) _) _
        simp only [Act.put, List.setIfInBounds_toArray, List.set_cons_zero, List.set_cons_succ]
        refine wpAnyIn_take (i := 9) (v := ?_) rfl rfl (by kernel_rfl) (by kernel_rfl) (by kernel_rfl) (fun _ _ _ h => h) ⟨Or.inl ⟨by rfl, ?_⟩, fun _ => rfl⟩ ?_
        rotate_left
        ·intro w9
         go_simp
         try with_reducible rfl
        show wpAnyIn _ _ _ _ _ _ _ _ (Act.put _ (some _) _) _
        simp only [Act.put, List.setIfInBounds_toArray, List.set_cons_zero, List.set_cons_succ]
        refine wpAnyIn_ready (rs := [10]) (by kernel_rfl) (by simp) ?_
        refine (AllReadyIn.cons rfl (fun K hK => ?_) AllReadyIn.nil)
        ·go_simp
         refine hK _ _ ?_
         clear hK K
         refine wpAnyIn_done (by kernel_rfl) ?_ _
         exact FIN.out
     ·go_simp
      refine hK _ _ ?_
      clear hK K
      refine wpAnyIn_ready (rs := [0, 7]) (by kernel_rfl) (by simp) ?_
      refine (AllReadyIn.cons rfl (fun K hK => ?_) (AllReadyIn.cons rfl (fun K hK => ?_) AllReadyIn.nil))
      ·go_simp
       refine hK _ _ ?_
       clear hK K
       refine wpAnyIn_ready (rs := [7]) (by kernel_rfl) (by simp) ?_
       refine (AllReadyIn.cons rfl (fun K hK => ?_) AllReadyIn.nil)
       ·refine step_run rfl _ _ _ rfl rfl rfl hrun ?_
        refine hK _ _ ?_
        clear hK K
        simp only [Act.put, List.setIfInBounds_toArray, List.set_cons_zero, List.set_cons_succ]
        refine wpAnyIn_take (i := 8) (v := ?_) rfl rfl (by kernel_rfl) (by kernel_rfl) (by kernel_rfl) (fun _ _ _ h => h) ⟨Or.inl ⟨by rfl, ?_⟩, fun _ => rfl⟩ ?_
        rotate_left
        ·intro w9
         go_simp
         try with_reducible rfl
        show wpAnyIn _ _ _ _ _ _ _ _ (Act.put _ (some _) _) _
        simp only [Act.put, List.setIfInBounds_toArray, List.set_cons_zero, List.set_cons_succ]
        refine wpAnyIn_take (i := 9) (v := ?_) rfl rfl (by kernel_rfl) (by kernel_rfl) (by kernel_rfl) (fun _ _ _ h => h) ⟨Or.inl ⟨by rfl, ?_⟩, fun _ => rfl⟩ ?_
        rotate_left
        ·intro w9
         go_simp
         try with_reducible rfl
        show wpAnyIn _ _ _ _ _ _ _ _ (Act.put _ (some _) _) _
        simp only [Act.put, List.setIfInBounds_toArray, List.set_cons_zero, List.set_cons_succ]
        refine wpAnyIn_ready (rs := [10]) (by kernel_rfl) (by simp) ?_
        refine (AllReadyIn.cons rfl (fun K hK => ?_) AllReadyIn.nil)
        ·go_simp
         refine hK _ _ ?_
         clear hK K
         refine wpAnyIn_done (by kernel_rfl) ?_ _
         exact FIN.out
      ·refine step_run rfl _ _ _ rfl rfl rfl hrun ?_
       refine hK _ _ ?_
       clear hK K
       simp only [Act.put, List.setIfInBounds_toArray, List.set_cons_zero, List.set_cons_succ]
       refine wpAnyIn_ready (rs := [0]) (by kernel_rfl) (by simp) ?_
       refine (AllReadyIn.cons rfl (fun K hK => ?_) AllReadyIn.nil)
       ·go_simp
        refine hK _ _ ?_
        clear hK K
        refine wpAnyIn_take (i := 8) (v := ?_) rfl rfl (by kernel_rfl) (by kernel_rfl) (by kernel_rfl) (fun _ _ _ h => h) ⟨Or.inl ⟨by rfl, ?_⟩, fun _ => rfl⟩ ?_
        rotate_left
        ·intro w9
         go_simp
         try with_reducible rfl
        show wpAnyIn _ _ _ _ _ _ _ _ (Act.put _ (some _) _) _
        simp only [Act.put, List.setIfInBounds_toArray, List.set_cons_zero, List.set_cons_succ]
        refine wpAnyIn_take (i := 9) (v := ?_) rfl rfl (by kernel_rfl) (by kernel_rfl) (by kernel_rfl) (fun _ _ _ h => h) ⟨Or.inl ⟨by rfl, ?_⟩, fun _ => rfl⟩ ?_
        rotate_left
        ·intro w9
         go_simp
         try with_reducible rfl
        show wpAnyIn _ _ _ _ _ _ _ _ (Act.put _ (some _) _) _
        simp only [Act.put, List.setIfInBounds_toArray, List.set_cons_zero, List.set_cons_succ]
        refine wpAnyIn_ready (rs := [10]) (by kernel_rfl) (by simp) ?_
        refine (AllReadyIn.cons rfl (fun K hK => ?_) AllReadyIn.nil)
        ·go_simp
         refine hK _ _ ?_
         clear hK K
         refine wpAnyIn_done (by kernel_rfl) ?_ _
         exact FIN.out
   ·go_simp
    refine hK _ _ ?_
    clear hK K
    refine wpAnyIn_ready (rs := [0, 1]) (by kernel_rfl) (by simp) ?_
    refine (AllReadyIn.cons rfl (fun K hK => ?_) (AllReadyIn.cons rfl (fun K hK => ?_) AllReadyIn.nil))
    ·go_simp
     refine hK _ _ ?_
     clear hK K
     refine wpAnyIn_ready (rs := [1]) (by kernel_rfl) (by simp) ?_
     refine (AllReadyIn.cons rfl (fun K hK => ?_) AllReadyIn.nil)
     ·go_simp
      refine hK _ _ ?_
      clear hK K
      refine wpAnyIn_take (i := 2) (v := ?_) rfl rfl (by kernel_rfl) (by kernel_rfl) (by kernel_rfl) (fun _ _ _ h => h) ⟨Or.inl ⟨by rfl, ?_⟩, fun _ => rfl⟩ ?_
      rotate_left
      ·intro w9
       go_simp
       try with_reducible rfl
      show wpAnyIn _ _ _ _ _ _ _ _ (Act.put _ (some _) _) _
      simp only [Act.put, List.setIfInBounds_toArray, List.set_cons_zero, List.set_cons_succ]
      refine wpAnyIn_take (i := 3) (v := ?_) rfl rfl (by kernel_rfl) (by kernel_rfl) (by kernel_rfl) (fun _ _ _ h => h) ⟨Or.inl ⟨by rfl, ?_⟩, fun _ => rfl⟩ ?_
      rotate_left
      ·intro w9
       go_simp
       try with_reducible rfl
      show wpAnyIn _ _ _ _ _ _ _ _ (Act.put _ (some _) _) _
      simp only [Act.put, List.setIfInBounds_toArray, List.set_cons_zero, List.set_cons_succ]
      refine wpAnyIn_ready (rs := [4]) (by kernel_rfl) (by simp) ?_
      refine (AllReadyIn.cons rfl (fun K hK => ?_) AllReadyIn.nil)
      ·go_simp
       refine hK _ _ ?_
       clear hK K
       refine wpAnyIn_ready (rs := [7]) (by kernel_rfl) (by simp) ?_
       refine (AllReadyIn.cons rfl (fun K hK => ?_) AllReadyIn.nil)
       ·refine step_run rfl _ _ _ rfl rfl rfl hrun ?_
        refine hK _ _ ?_
        clear hK K
        simp only [Act.put, List.setIfInBounds_toArray, List.set_cons_zero, List.set_cons_succ]
        refine wpAnyIn_take (i := 8) (v := ?_) rfl rfl (by kernel_rfl) (by kernel_rfl) (by kernel_rfl) (fun _ _ _ h => h) ⟨Or.inl ⟨by rfl, ?_⟩, fun _ => rfl⟩ ?_
        rotate_left
        ·intro w9
         go_simp
         try with_reducible rfl
        show wpAnyIn _ _ _ _ _ _ _ _ (Act.put _ (some _) _) _
        simp only [Act.put, List.setIfInBounds_toArray, List.set_cons_zero, List.set_cons_succ]
        refine wpAnyIn_take (i := 9) (v := ?_) rfl rfl (by kernel_rfl) (by kernel_rfl) (by kernel_rfl) (fun _ _ _ h => h) ⟨Or.inl ⟨by rfl, ?_⟩, fun _ => rfl⟩ ?_
        rotate_left
        ·intro w9
         go_simp
         try with_reducible rfl
        show wpAnyIn _ _ _ _ _ _ _ _ (Act.put _ (some _) _) _
        simp only [Act.put, List.setIfInBounds_toArray, List.set_cons_zero, List.set_cons_succ]
        refine wpAnyIn_ready (rs := [10]) (by kernel_rfl) (by simp) ?_
        refine (AllReadyIn.cons rfl (fun K hK => ?_) AllReadyIn.nil)
        ·go_simp
         refine hK _ _ ?_
         clear hK K
         refine wpAnyIn_done (by kernel_rfl) ?_ _
         exact FIN.out
    ·go_simp
     refine hK _ _ ?_
     clear hK K
     refine wpAnyIn_take (i := 2) (v := ?_) rfl rfl (by kernel_rfl) (by kernel_rfl) (by kernel_rfl) (fun _ _ _ h => h) ⟨Or.inl ⟨by rfl, ?_⟩, fun _ => rfl⟩ ?_
     rotate_left
     ·intro w9
      go_simp
      try with_reducible rfl
     show wpAnyIn _ _ _ _ _ _ _ _ (Act.put _ (some _) _) _
     simp only [Act.put, List.setIfInBounds_toArray, List.set_cons_zero, List.set_cons_succ]
     refine wpAnyIn_take (i := 3) (v := ?_) rfl rfl (by kernel_rfl) (by kernel_rfl) (by kernel_rfl) (fun _ _ _ h => h) ⟨Or.inl ⟨by rfl, ?_⟩, fun _ => rfl⟩ ?_
     rotate_left
     ·intro w9
      go_simp
      try with_reducible rfl
     show wpAnyIn _ _ _ _ _ _ _ _ (Act.put _ (some _) _) _
     simp only [Act.put, List.setIfInBounds_toArray, List.set_cons_zero, List.set_cons_succ]
     refine wpAnyIn_ready (rs := [0, 4]) (by kernel_rfl) (by simp) ?_
     refine (AllReadyIn.cons rfl (fun K hK => ?_) (AllReadyIn.cons rfl (fun K hK => ?_) AllReadyIn.nil))
     ·go_simp
      refine hK _ _ ?_
      clear hK K
      refine wpAnyIn_ready (rs := [4]) (by kernel_rfl) (by simp) ?_
      refine (AllReadyIn.cons rfl (fun K hK => ?_) AllReadyIn.nil)
      ·go_simp
       refine hK _ _ ?_
       clear hK K
       refine wpAnyIn_ready (rs := [7]) (by kernel_rfl) (by simp) ?_
       refine (AllReadyIn.cons rfl (fun K hK => ?_) AllReadyIn.nil)
       ·refine step_run rfl _ _ _ rfl rfl rfl hrun ?_
        refine hK _ _ ?_
        clear hK K
        simp only [Act.put, List.setIfInBounds_toArray, List.set_cons_zero, List.set_cons_succ]
        refine wpAnyIn_take (i := 8) (v := ?_) rfl rfl (by kernel_rfl) (by kernel_rfl) (by kernel_rfl) (fun _ _ _ h => h) ⟨Or.inl ⟨by rfl, ?_⟩, fun _ => rfl⟩ ?_
        rotate_left
        ·intro w9
         go_simp
         try with_reducible rfl
        show wpAnyIn _ _ _ _ _ _ _ _ (Act.put _ (some _) _) _
        simp only [Act.put, List.setIfInBounds_toArray, List.set_cons_zero, List.set_cons_succ]
        refine wpAnyIn_take (i := 9) (v := ?_) rfl rfl (by kernel_rfl) (by kernel_rfl) (by kernel_rfl) (fun _ _ _ h => h) ⟨Or.inl ⟨by rfl, ?_⟩, fun _ => rfl⟩ ?_
        rotate_left
        ·intro w9
         go_simp
         try with_reducible rfl
        show wpAnyIn _ _ _ _ _ _ _ _ (Act.put _ (some _) _) _
        simp only [Act.put, List.setIfInBounds_toArray, List.set_cons_zero, List.set_cons_succ]
        refine wpAnyIn_ready (rs := [10]) (by kernel_rfl) (by simp) ?_
        refine (AllReadyIn.cons rfl (fun K hK => ?_) AllReadyIn.nil)
        ·go_simp
         refine hK _ _ ?_
         clear hK K
         refine wpAnyIn_done (by kernel_rfl) ?_ _
         exact FIN.out
     ·go_simp
      refine hK _ _ ?_
      clear hK K
      refine wpAnyIn_ready (rs := [0, 7]) (by kernel_rfl) (by simp) ?_
      refine (AllReadyIn.cons rfl (fun K hK => ?_) (AllReadyIn.cons rfl (fun K hK => ?_) AllReadyIn.nil))
      ·go_simp
       refine hK _ _ ?_
       clear hK K
       refine wpAnyIn_ready (rs := [7]) (by kernel_rfl) (by simp) ?_
       refine (AllReadyIn.cons rfl (fun K hK => ?_) AllReadyIn.nil)
       ·refine step_run rfl _ _ _ rfl rfl rfl hrun ?_
        refine hK _ _ ?_
        clear hK K
        simp only [Act.put, List.setIfInBounds_toArray, List.set_cons_zero, List.set_cons_succ]
        refine wpAnyIn_take (i := 8) (v := ?_) rfl rfl (by kernel_rfl) (by kernel_rfl) (by kernel_rfl) (fun _ _ _ h => h) ⟨Or.inl ⟨by rfl, ?_⟩, fun _ => rfl⟩ ?_
        rotate_left
        ·intro w9
         go_simp
         try with_reducible rfl
        show wpAnyIn _ _ _ _ _ _ _ _ (Act.put _ (some _) _) _
        simp only [Act.put, List.setIfInBounds_toArray, List.set_cons_zero, List.set_cons_succ]
        refine wpAnyIn_take (i := 9) (v := ?_) rfl rfl (by kernel_rfl) (by kernel_rfl) (by kernel_rfl) (fun _ _ _ h => h) ⟨Or.inl ⟨by rfl, ?_⟩, fun _ => rfl⟩ ?_
        rotate_left
        ·intro w9
         go_simp
         try with_reducible rfl
        show wpAnyIn _ _ _ _ _ _ _ _ (Act.put _ (some _) _) _
        simp only [Act.put, List.setIfInBounds_toArray, List.set_cons_zero, List.set_cons_succ]
        refine wpAnyIn_ready (rs := [10]) (by kernel_rfl) (by simp) ?_
        refine (AllReadyIn.cons rfl (fun K hK => ?_) AllReadyIn.nil)
        ·go_simp
         refine hK _ _ ?_
         clear hK K
         refine wpAnyIn_done (by kernel_rfl) ?_ _
         exact FIN.out
      ·refine step_run rfl _ _ _ rfl rfl rfl hrun ?_
       refine hK _ _ ?_
       clear hK K
       simp only [Act.put, List.setIfInBounds_toArray, List.set_cons_zero, List.set_cons_succ]
       refine wpAnyIn_ready (rs := [0]) (by kernel_rfl) (by simp) ?_
       refine (AllReadyIn.cons rfl (fun K hK => ?_) AllReadyIn.nil)
       ·go_simp
        refine hK _ _ ?_
        clear hK K
        refine wpAnyIn_take (i := 8) (v := ?_) rfl rfl (by kernel_rfl) (by kernel_rfl) (by kernel_rfl) (fun _ _ _ h => h) ⟨Or.inl ⟨by rfl, ?_⟩, fun _ => rfl⟩ ?_
        rotate_left
        ·intro w9
         go_simp
         try with_reducible rfl
        show wpAnyIn _ _ _ _ _ _ _ _ (Act.put _ (some _) _) _
        simp only [Act.put, List.setIfInBounds_toArray, List.set_cons_zero, List.set_cons_succ]
        refine wpAnyIn_take (i := 9) (v := ?_) rfl rfl (by kernel_rfl) (by kernel_rfl) (by kernel_rfl) (fun _ _ _ h => h) ⟨Or.inl ⟨by rfl, ?_⟩, fun _ => rfl⟩ ?_
        rotate_left
        ·intro w9
         go_simp
         try with_reducible rfl
        show wpAnyIn _ _ _ _ _ _ _ _ (Act.put _ (some _) _) _
        simp only [Act.put, List.setIfInBounds_toArray, List.set_cons_zero, List.set_cons_succ]
        refine wpAnyIn_ready (rs := [10]) (by kernel_rfl) (by simp) ?_
        refine (AllReadyIn.cons rfl (fun K hK => ?_) AllReadyIn.nil)
        ·go_simp
         refine hK _ _ ?_
         clear hK K
         refine wpAnyIn_done (by kernel_rfl) ?_ _
         exact FIN.out
 ·have C := cutPN s ssa1 w (by decide) (by omega) hp
  have HNo : Hid (¬ ∃ L, Rng L ∧ s.data.toList = ssa1.data.toList ++ toL L) := by
   rintro ⟨L, _, hL⟩
   obtain ⟨h1, h2, _⟩ := ssa1_pre hL
   exact hp ⟨h1, h2⟩
  have Wn := wantN a w hv
  clear hp
  refine (callsIn_wide (n := 6)).1 ?_
  refine callsIn_of_wp_marks Tryz.func51 rfl trivial ?_ rfl
  simp only [Tryz.ntmps51, List.size_toArray, List.length_cons, List.length_nil, Nat.reduceAdd, Nat.reduceSub, Array.replicate_succ, Array.replicate_zero, List.push_toArray, List.append_toArray, List.nil_append, List.cons_append]
  gi_wp2
  refine ⟨trivial, (callsIn_wide.2 C).mono ?_⟩
  rintro e w1 ⟨rfl, h9⟩
  have h8 := h9.symm
  clear h9
  subst h8
  gi_wp2
  refine ⟨trivial, (callsIn_wide.2 Wn).mono ?_⟩
  rintro e w1 ⟨rfl, h9⟩
  have h8 := h9.symm
  clear h9
  subst h8
  gi_wp2
  exact ⟨.inr ⟨rfl, HNo.out⟩, Below.refl _ _⟩
end Go.Proofs.YtojhakjkfkmklaaGreatDoor
