/- headedBytes over a module's numbers; the program's ModuleBytes. -/
import Derived.Test.YtojhakjkfkmklaaGreatDoorMbGQ
import Derived.Test.YtojhakjkfkmklaaGreatDoorMbCQ
namespace Go.Proofs.YtojhakjkfkmklaaGreatDoor
open Go.RowKit Go.Shelf
attribute [local go_sem] Oper.semAt_some
set_option linter.unusedVariables false

set_option maxHeartbeats 1000000 in
theorem numbersM_stops (n lo Bp : Nat) (fs : List FuncD) (u : Option Addr) (c : Nat) (w0 w : World) (hw : Below w0.heap.size w0 w)
    (X : Box1 w0 Bp fs.length u c) (hs : SmMod fs) (hm : modB fs = true) (hk : FuncsAt w0 lo u fs) :
    SeqStopsK Fence.wide n Tryz.prog 45 #[.pointer (some ⟨Bp, 0, none⟩)] (fun x : Int => #[.int .i64 x]) (KpB w0.heap.size) (fun xs => xs = modM fs) (fun _ => True) 100000 w := by
  intro l J Jx W hW hJ hJx hY h0
  have hn0 : w0.heap.size ≤ W.heap.size := Nat.le_trans hw.size hW.size
  have hb : ∀ V, KpB w0.heap.size W V → Below w0.heap.size w0 V := fun V h => (hw.trans (hW.mono hw.size)).trans (h.2.2 hn0)
  have hL : LpM l (KpB w0.heap.size) 100000 J Jx := ⟨KpB.refl _, fun h k => KpB.trans h k, fun h => KpB.below _ h, fun h => h.2.1, fun m pre x V hj hp => yield_any m (hY pre x V hj hp), fun pre A B hj hB => hJ pre A B none hj ⟨hB.os, hB.tape, hB.output, hB.size, fun i hi _ => hB.block i hi⟩ (fun r e => by cases e)⟩
  have R := numbersMI l (KpB w0.heap.size) 100000 J Jx hL n lo Bp fs u c hs hm (by omega) W w0 h0 (fun V h => agree_of_below (hb V h) lo) (fun V h => X.below (hb V h)) hk
  refine R.mono ?_
  rintro e W' ⟨hv, h | ⟨q, h⟩⟩
  · exact ⟨hv, .inl ⟨_, rfl, h⟩⟩
  · exact ⟨hv, .inr ⟨q, trivial, h⟩⟩
set_option maxRecDepth 100000 in
set_option maxHeartbeats 4000000 in
theorem headedMI (lo Bp : Nat) (fs : List FuncD) (u : Option Addr) (c : Nat) (w : World) (X : Box1 w Bp fs.length u c) (hs : SmMod fs) (hm : modB fs = true) (hk : FuncsAt w lo u fs) :
    Calls Tryz.prog 20 #[.string ssa1, .func (.func 45) #[] #[.pointer (some ⟨Bp, 0, none⟩)]] w fun e W' => e = .returned (.string (vb ssa1 (modM fs))) ∧ Below w.heap.size w W' := by
  refine (callsIn_wide (n := 6)).1 ?_
  have hb0 : Bld (w.alloc (.cells #[.pointer none, .slice none 0 0] 64)) w.heap.size w.heap.size (.pointer none) (.slice none 0 0) [] := ⟨Nat.le_refl _, heap_alloc_last _ _, World.ownsRow_nil _ _ _ _, by simp [Value.ownBlock]⟩
  have hB0 : Below w.heap.size w (w.alloc (.cells #[.pointer none, .slice none 0 0] 64)) := (Below.refl _ _).alloc (Nat.le_refl _) _
  refine callsIn_of_wp_marks Tryz.func20 rfl trivial ?_ rfl
  simp only [Tryz.ntmps20, List.size_toArray, List.length_cons, List.length_nil, Nat.reduceAdd, Nat.reduceSub, Array.replicate_succ, Array.replicate_zero, List.push_toArray, List.append_toArray, List.nil_append, List.cons_append]
  gi_wp2
  refine ⟨trivial, (callsIn_wide.2 (writeF _ w.heap.size w.heap.size ssa1 hb0 (by decide) hB0.size)).mono ?_⟩
  rintro e w1 ⟨rfl, v1, B1, b1⟩
  have hB1 := hB0.trans b1
  clear hb0 hB0 b1
  gi_wp2
  refine wpIn_rangeFunc_ownG rfl (by omega) (gf := 45) (lb := #[.pointer (some ⟨Bp, 0, none⟩)]) rfl trivial (enters_of Tryz.func45 (by kernel_rfl) rfl)
    (numbersM_stops 5 lo Bp fs u c w w1 hB1 X hs hm hk) (fun h k => KpB.trans h k) (KpB.put hB1.size) (Below.refl _ _) (fun _ => rfl)
    (fun pre W => (∃ v, Bld W w.heap.size w.heap.size (.pointer (some ⟨w.heap.size, 0, none⟩)) v (Lib.strCells (vb ssa1 pre))) ∧ Below w.heap.size w W)
    (fun _ _ _ => False)
    (OwnFrom.and (fun s A B row hs hg hr => by obtain ⟨v, hv⟩ := hs; exact ⟨v, hv.kept hg (fun r e => (hr r e).2)⟩) (ownFrom_below (Nat.le_refl _) hB1.size))
    (fun _ _ _ _ _ hs _ _ => hs)
    ⟨⟨v1, B1⟩, hB1⟩
    (fun x => { tmps := #[.string ssa1, .func (.func 45) #[] #[.pointer (some ⟨Bp, 0, none⟩)], undef, undef, .string ⟨#[]⟩, .pointer (some ⟨w.heap.size, 0, none⟩), .int .i64 x, .string ssa1, .tuple #[.int .i64 (ssa1.size : Int), .nilIface], .func (.func 45) #[] #[.pointer (some ⟨Bp, 0, none⟩)], .int .i64 x, undef, undef, undef, undef], defers := [] }) ?assign ?body ?done ?stop
  case assign =>
    intro l x W K hK
    gi_wp2
    exact hK
  case body =>
    rintro l pre x W ⟨⟨v, hb⟩, hB⟩ hlen
    have h5 := vof_len x
    have hvs := vb_size pre ssa1
    have hr4 : ssa1.size = 4 := rfl
    gi_wp2
    refine ⟨trivial, (CallsIn.inRound l (callsIn_wide.2 (varI x W))).mono ?_⟩
    rintro e W1 ⟨rfl, b1⟩
    have g1 : W.grownBy W1 none := ⟨b1.os, b1.tape, b1.output, b1.size, fun i hi _ => b1.block i hi⟩
    have hb1 := hb.kept g1 (fun r e => by cases e)
    have hBw : w.heap.size ≤ W.heap.size := hB.size
    have P2 := writeI W1 w.heap.size w.heap.size v _ (vof x) hb1 (by rw [Lib.strCells_length]; omega) (Nat.le_trans hBw b1.size)
    have E2 : Hid (Lib.strCells (vb ssa1 pre) ++ Lib.strCells (vof x) = Lib.strCells (vb ssa1 (pre ++ [x]))) := by
      show _ = _
      rw [vb_append, vb_one]
      simp [Lib.strCells]
    generalize vof x = V at P2 h5 E2 ⊢
    gi_wp2
    refine ⟨trivial, (CallsIn.inRound l (callsIn_wide.2 P2)).mono ?_⟩
    rintro e W2 ⟨rfl, v2, W3, hb2, hg2, rfl⟩
    gi_wp2
    have hK1 : KeepsOthers W W1 := KeepsOthers.of_grownBy g1 (fun j o e => by cases e)
    have hK2 : KeepsOthers W1 W3 := KeepsOthers.of_grownBy hg2 (fun j o e ho => own_cells hb1 e ho)
    have hBl : Below w.heap.size W (W3.setCell ⟨w.heap.size, 1, none⟩ v2) := ((b1.mono hBw).grown hg2 (Nat.le_trans hBw b1.size) (fun k e => own_ge hb1 e)).setCell (p := ⟨w.heap.size, 1, none⟩) (Nat.le_refl _) _
    refine ⟨((hK1.trans hK2).trans (KeepsOthers.setCell _ _ _)).from _, ⟨hBl.size, fun i cs t hi ht1 ht2 => ?_, fun _ => hBl⟩, ⟨v2, by rw [← E2.out]; exact hb2⟩, hB.trans hBl⟩
    have hil := (Array.getElem?_eq_some_iff.1 hi).1
    have hi1 : W1.heap[i]? = some (.cells cs t (0, 0)) := (b1.block i hil).trans hi
    have hi3 : W3.heap[i]? = W1.heap[i]? := hg2.block i (Nat.lt_of_lt_of_le hil b1.size) (fun e => own_other hb1 ht1 e.symm hi1)
    rw [Below.heap_setCell _ _ _ _ (show i ≠ w.heap.size from fun e => by
      have := hb1.block
      rw [← e, hi1] at this
      cases this
      exact ht2 rfl), hi3, b1.block i hil]
  case done =>
    rintro D ys W hD rfl ⟨⟨v, hb⟩, hB⟩ hK
    have hge := vb_ge (modM fs) ssa1
    have hr4 : ssa1.size = 4 := rfl
    have hne : (vb ssa1 (modM fs)).data.toList ≠ [] := fun e => by
      have h9 : (vb ssa1 (modM fs)).size = 0 := by
        show (vb ssa1 (modM fs)).data.toList.length = 0
        rw [e]
        rfl
      omega
    have SI := stringI W w.heap.size w.heap.size _ v (vb ssa1 (modM fs)).data.toList hb hne
    rw [show (⟨(vb ssa1 (modM fs)).data.toList.toArray⟩ : ByteArray) = vb ssa1 (modM fs) from ByteArray.ext (by simp)] at SI
    generalize hY : vb ssa1 (modM fs) = Y at SI
    have HY : Hid (vb ssa1 (modM fs) = Y) := hY
    clear hY
    gi_wp2
    refine ⟨trivial, (callsIn_wide.2 SI).mono ?_⟩
    rintro e W5 ⟨rfl, g, hog, rfl⟩
    have hDg : D ≠ g := fun e => by
      obtain ⟨_, cur, hcur⟩ := hb.own hog
      rw [← e, hK] at hcur
      cases hcur
    have hK5 : (W.drew.freeze ⟨g, 0, none⟩ Y.data.toList.length).heap[D]? = some (.deferred (some [])) := (frz_other _ _ _ _ hDg).trans hK
    have hB5 : Below w.heap.size w (W.drew.freeze ⟨g, 0, none⟩ Y.data.toList.length) := Lib.below_freeze (Below.drew hB) (p := ⟨g, 0, none⟩) (own_ge hb hog) _
    generalize W.drew.freeze ⟨g, 0, none⟩ Y.data.toList.length = W6 at hK5 hB5 ⊢
    gi_wp2
    refine ⟨by simp, .inl ⟨_, _, rfl, run_takeDeferred hK5, ?_⟩⟩
    exact ⟨_, results_tmp rfl _ _ _, by rw [HY.out]; rfl, hB5.trans (belowK_b (w := w) (Nat.le_refl _) W6 D _ _ (by have := hB1.size; omega) hK5 rfl rfl)⟩
  case stop =>
    rintro D c pre W _ _ h _
    exact h.elim
theorem numbersMkM (n : Nat) (u : Option Addr) (c : Nat) (w : World) :
    Calls Tryz.prog 21 #[.agg #[.slice u n c]] w fun e w' => e = .returned (.func (.func 45) #[] #[.pointer (some ⟨w.heap.size, 0, none⟩)]) ∧ w' = w.alloc (.cells #[.slice u n c] 26) := by
  go_enter Tryz.func21, Tryz.ntmps21
  go_wp2_with fail
  go_ret
  exact ⟨rfl, rfl⟩
set_option maxHeartbeats 2000000 in
set_option maxRecDepth 100000 in
theorem modBytesI (lo : Nat) (l : List FuncD) (u : Option Addr) (c : Nat) (w : World) (hs : SmMod l) (k0 : FuncsAt w lo u l) :
    Calls Tryz.prog 8 #[.agg #[.slice u l.length c]] w fun e w' => e = .returned (.string (modT l)) ∧ Below w.heap.size w w' := by
  have X0 := Box1.new w l.length u c 26
  have hB0 : Below w.heap.size w (w.alloc (.cells #[.slice u l.length c] 26)) := (Below.refl _ w).alloc (Nat.le_refl _) _
  go_enter Tryz.func8, Tryz.ntmps8
  go_wp2_with fail
  generalize (w.alloc (.cells #[.slice u l.length c] 26)) = W at X0 hB0 ⊢
  refine (modShI lo l u c W hs (k0.keep (agree_of_below hB0 lo))).mono ?_
  rintro e w1 ⟨rfl, b1⟩
  have X1 := X0.below b1
  have hB1 := hB0.trans (b1.mono hB0.size)
  clear X0 hB0 b1
  have y0 := X1.2
  cases hok : modB l with
  | false =>
    have E : Hid (modT l = ⟨#[]⟩) := by show _ = _; unfold modT; rw [hok]; rfl
    go_wp2_with fail
    go_ret
    exact ⟨by rw [E.out]; rfl, hB1⟩
  | true =>
    have E : Hid (modT l = vb ssa1 (modM l) ++ sumT (vb ssa1 (modM l))) := by show _ = _; unfold modT; rw [if_pos hok]
    have X2 := Box1.new w1 l.length u c 26
    have hB2 := hB1.alloc hB1.size (.cells #[.slice u l.length c] 26)
    have P := headedMI lo w1.heap.size l u c _ X2 hs hok (k0.keep (agree_of_below hB2 lo))
    have hz := vb_bound (modM_len hok)
    generalize vb ssa1 (modM l) = T at E P hz
    have P2 := fun v => sumI T (by omega) v
    have h4 := sumT_size T
    generalize sumT T = U at E P2 h4
    clear hok X2
    go_wp2_with fail
    refine (numbersMkM l.length u c w1).mono ?_
    rintro e w2 ⟨rfl, rfl⟩
    go_wp2_with fail
    refine P.mono ?_
    rintro e w3 ⟨rfl, b3⟩
    have hB3 := hB2.trans (b3.mono hB2.size)
    clear P y0 b3
    go_wp2_with fail
    refine (P2 _).mono ?_
    rintro e w4 ⟨rfl, b4⟩
    have hB4 := hB3.trans (b4.mono hB3.size)
    clear P2 b4
    go_wp2_with fail
    go_ret
    exact ⟨by rw [E.out]; rfl, hB4⟩
end Go.Proofs.YtojhakjkfkmklaaGreatDoor
