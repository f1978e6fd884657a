import Derived.Test.YtojhakjkfkmklaaGreatDoorRbJV
import Derived.Deep.AppendLies
namespace Go.Proofs.YtojhakjkfkmklaaGreatDoor
open Go.RowKit
set_option linter.unusedVariables false
set_option linter.unusedSimpArgs false
structure BSt (w wr : World) (a0 : Addr) (R B : Nat) (v1 v2 : Value) (t : TermD) (L : List Int) : Prop where
 box : At wr (w.heap.size + 1) #[v1, v2, .int .i64 t.kind, .int .i64 t.a, .int .i64 t.x, .int .i64 t.y] 86
 res : At wr w.heap.size #[.slice none 0 0, .slice none 0 0, .int .i64 0, .int .i64 0, .int .i64 0, .int .i64 0] 86
 rw_ : RwIn B wr R L
 fit : Fit L
 only : OnlyR R w wr
 gv : Gv wr 0 (errV a0)
 lt : R < w.heap.size
 leB : B ≤ w.heap.size
 ne : 0 ≠ R
 ltG : 0 < w.heap.size
theorem BSt.step {w wr w2 : World} {a0 : Addr} {R B : Nat} {v1 v2 : Value} {t : TermD} {L L2 : List Int} (h : BSt w wr a0 R B v1 v2 t L) (ho : OnlyR R wr w2) (hr : RwIn B w2 R L2) (hf : Fit L2) : BSt w w2 a0 R B v1 v2 t L2 :=
 ⟨(ho.block _ h.box.lt (by have := h.lt; omega)).trans h.box, (ho.block _ h.res.lt (by have := h.lt; omega)).trans h.res, hr, hf, h.only.trans ho, h.gv.only ho h.ne, h.lt, h.leB, h.ne, h.ltG⟩
theorem BSt.keep {w wr w2 : World} {a0 : Addr} {R B : Nat} {v1 v2 : Value} {t : TermD} {L : List Int} (h : BSt w wr a0 R B v1 v2 t L) (k : Below wr.heap.size wr w2) : BSt w w2 a0 R B v1 v2 t L :=
 h.step (OnlyR.below k) (h.rw_.keep k) h.fit
theorem RwIn.lower {B R N : Nat} {w w2 : World} {L : List Int} (h : RwIn B w R L) (hR : R < N) (hB : B ≤ N) (hz : w.heap.size ≤ w2.heap.size) (k : ∀ b, b < N → w2.heap[b]? = w.heap[b]?) : RwIn B w2 R L := by
 rcases h with ⟨e, h1⟩ | ⟨b, off, c, h0, h1, h2, h3, h4, h5⟩
 ·exact .inl ⟨e, (k R hR).trans h1⟩
 ·exact .inr ⟨b, off, c, (k R hR).trans h0, h1, h2, h3, ⟨h4.1, Nat.le_trans h4.2 hz⟩, fun i hi => (cell_block (k b (by omega))).trans (h5 i hi)⟩
theorem BSt.grown {w wr w2 : World} {a0 : Addr} {R B : Nat} {v1 v2 : Value} {t : TermD} {L : List Int} {r : Option Nat} (h : BSt w wr a0 R B v1 v2 t L) (k : wr.grownBy w2 r) (hr : ∀ g, r = some g → w.heap.size + 2 ≤ g) : BSt w w2 a0 R B v1 v2 t L := by
 have low : ∀ b, b < w.heap.size + 2 → w2.heap[b]? = wr.heap[b]? := fun b hb => k.block b (by have := h.box.lt; omega) (fun e => by have := hr b e.symm; omega)
 exact ⟨(low _ (by omega)).trans h.box, (low _ (by omega)).trans h.res, h.rw_.lower (N := w.heap.size) h.lt h.leB k.size (fun b hb => low b (by omega)), h.fit,
  ⟨k.os.trans h.only.os, k.tape.trans h.only.tape, k.output.trans h.only.output, Nat.le_trans h.only.size k.size, fun i hi hn => (low i (by omega)).trans (h.only.block i hi hn)⟩,
  ⟨(cell_block (low _ (by have := h.ltG; omega))).trans h.gv.cell, Nat.lt_of_lt_of_le h.gv.lt k.size⟩, h.lt, h.leB, h.ne, h.ltG⟩
theorem BSt.set0 {w wr : World} {a0 : Addr} {R B : Nat} {v1 v2 : Value} {t : TermD} {L : List Int} (h : BSt w wr a0 R B v1 v2 t L) (v : Value) : BSt w (wr.setCell ⟨w.heap.size + 1, 0, none⟩ v) a0 R B v v2 t L :=
 ⟨heap_set (o := 0) h.box, h.res.setOther (by omega), h.rw_.set (by have := h.leB; omega) (by have := h.lt; omega), h.fit, h.only.fresh (by omega), gv_setT h.gv (by have := h.ltG; omega), h.lt, h.leB, h.ne, h.ltG⟩
theorem BSt.set1 {w wr : World} {a0 : Addr} {R B : Nat} {v1 v2 : Value} {t : TermD} {L : List Int} (h : BSt w wr a0 R B v1 v2 t L) (v : Value) : BSt w (wr.setCell ⟨w.heap.size + 1, 1, none⟩ v) a0 R B v1 v t L :=
 ⟨heap_set (o := 1) h.box, h.res.setOther (by omega), h.rw_.set (by have := h.leB; omega) (by have := h.lt; omega), h.fit, h.only.fresh (by omega), gv_setT h.gv (by have := h.ltG; omega), h.lt, h.leB, h.ne, h.ltG⟩
theorem RwIn.row_ {B R : Nat} {w : World} {l : List Int} (h : RwIn B w R l) : ∃ v, At w R #[v] 121 := by
 rcases h with ⟨_, h⟩ | ⟨b, off, c, h, _⟩
 ·exact ⟨_, h⟩
 ·exact ⟨_, h⟩
theorem Still.only {R B : Nat} {w w' : World} {l : List Int} (h : OnlyR R w w') (hR : RwIn B w R l) : Still 9 w w' := fun b cur T hb hT => by
 refine (h.block b (Array.getElem?_eq_some_iff.1 hb).1 (fun e => ?_)).trans hb
 obtain ⟨v, hv⟩ := hR.row_
 rw [e, show w.heap[R]? = _ from hv] at hb
 cases hb
 exact absurd hT (by decide)
theorem pPhi_eq (L : List Int) : pPhi L = (pNext L).bind fun x => (pList x.2).bind fun l => some (⟨x.1, l.1⟩, l.2) := by
 cases L with
 | nil => rfl
 | cons x r =>
  rw [pPhi]
  simp only [pNext, Option.bind_some]
  cases pList r with
  | none => rfl
  | some a => rfl
theorem pBlock_eq (L : List Int) : pBlock L = (pNext L).bind fun n => (pMany pPhi n.1.toNat n.2).bind fun ps => (pNext ps.2).bind fun m => (pMany pInst m.1.toNat m.2).bind fun is => (pNext is.2).bind fun k => (pTk k.1 k.2).bind fun t => some (⟨ps.1, is.1, t.1⟩, t.2) := by
 have hc : ∀ {α : Type} (p : Rdr α) (L : List Int), pCount p L = (pNext L).bind fun n => pMany p n.1.toNat n.2 := fun p L => by cases L <;> rfl
 have ht : ∀ L : List Int, pTerm L = (pNext L).bind fun k => pTk k.1 k.2 := fun L => by cases L <;> rfl
 unfold pBlock
 rw [hc]
 cases pNext L with
 | none => rfl
 | some n =>
  dsimp only [Option.bind_some]
  cases pMany pPhi n.1.toNat n.2 with
  | none => rfl
  | some ps =>
   dsimp only [Option.bind_some]
   rw [hc]
   cases pNext ps.2 with
   | none => rfl
   | some m =>
    dsimp only [Option.bind_some]
    cases pMany pInst m.1.toNat m.2 with
    | none => rfl
    | some is =>
     dsimp only [Option.bind_some]
     rw [ht]
     cases pNext is.2 with
     | none => rfl
     | some k =>
      dsimp only [Option.bind_some]
      cases pTk k.1 k.2 with
      | none => rfl
      | some t => rfl
theorem infoPh : (Tryz.prog.info? 88).map (fun i => (i.zero, i.size, i.bytes)) = some (some (.agg #[.int .i64 0, .slice none 0 0]), 2, 32) := by kernel_rfl
theorem infoIn : (Tryz.prog.info? 91).map (fun i => (i.zero, i.size, i.bytes)) = some (some (.agg #[.int .i64 0, .int .i64 0, .int .i64 0, .int .i64 0, .int .i64 0, .int .i64 0, .slice none 0 0]), 7, 72) := by kernel_rfl
theorem info_three {o : Option TypeInfo} {z : Value} {n b : Nat} (h : o.map (fun i => (i.zero, i.size, i.bytes)) = some (some z, n, b)) : ∃ i, o = some i ∧ i.zero = some z ∧ i.size = n ∧ i.bytes = b := by
 cases o with
 | none => cases h
 | some i =>
  simp only [Option.map_some, Option.some.injEq, Prod.mk.injEq] at h
  exact ⟨i, rfl, h.1, h.2.1, h.2.2⟩
set_option maxHeartbeats 8000000 in
set_option maxRecDepth 100000 in
theorem takeBlockT (a : Addr) (B R : Nat) (L : List Int) (w : World) (h : RwIn B w R L) (hf : Fit L) (hv : Gv w 0 (errV a)) (hR : 0 ≠ R) (hBw : B ≤ w.heap.size) :
  Calls Tryz.prog 90 #[.pointer (some ⟨R, 0, none⟩)] w fun e w' => Took pBlock a B R L w (fun d e w' => ∃ b : BkE, b.d = d ∧ e = .returned (.agg #[.slice b.pu b.ps.length b.pc, .slice b.iu b.is.length b.ic, .int .i64 b.t.kind, .int .i64 b.t.a, .int .i64 b.t.x, .int .i64 b.t.y]) ∧ OwnBk w' w.heap.size w'.heap.size b) e w' := by
 have hlt := h.lt
 have hgw := hv.lt
 obtain ⟨iP, hiP, zP, sP, bP⟩ := info_three infoPh
 obtain ⟨iI, hiI, zI, sI, bI⟩ := info_three infoIn
 have b1 : Below w.heap.size w ((w.alloc (.cells #[.slice none 0 0, .slice none 0 0, .int .i64 0, .int .i64 0, .int .i64 0, .int .i64 0] 86)).alloc (.cells #[.slice none 0 0, .slice none 0 0, .int .i64 0, .int .i64 0, .int .i64 0, .int .i64 0] 86)) := ((Below.refl _ _).alloc (Nat.le_refl _) _).alloc (by simp) _
 have HS0 : Hid (BSt w ((w.alloc (.cells #[.slice none 0 0, .slice none 0 0, .int .i64 0, .int .i64 0, .int .i64 0, .int .i64 0] 86)).alloc (.cells #[.slice none 0 0, .slice none 0 0, .int .i64 0, .int .i64 0, .int .i64 0, .int .i64 0] 86)) a R B (.slice none 0 0) (.slice none 0 0) term0 L) := ⟨heap_two2 _ _ _, (Below.heap_alloc _ _ _ (by simp)).trans (heap_alloc_last _ _), h.keep b1, hf, OnlyR.below b1, hv.keep b1, hlt, hBw, hR, hgw⟩
 have HP0 : Hid (pBlock L = _) := pBlock_eq L
 have N0 := nextT a B R L _ HS0.out.rw_ HS0.out.fit.len HS0.out.gv
 clear h hf hv b1
 go_enter Tryz.func90, Tryz.ntmps90
 go_wp2_with fail
 refine N0.mono ?_
 rintro e w1 ⟨o0, ⟨n, L1, p0, rfl, q0⟩ | ⟨p0, rfl⟩⟩
 rotate_left
 ·have HN : Hid (pBlock L = none) := by show _ = _; rw [HP0.out, p0]; rfl
  have HO := HS0.out.only.trans o0
  clear p0 HP0 N0
  go_wp2_with fail
  exact ⟨rfl, HO, .inr ⟨HN.out, rfl⟩⟩
 have e9 := HP0.out
 rw [p0, Option.bind_some] at e9
 have HP1 : Hid (pBlock L = _) := e9
 obtain ⟨hf1, hn0⟩ := HS0.out.fit.next p0
 have HS1 : Hid (BSt w w1 a R B (.slice none 0 0) (.slice none 0 0) term0 L1) := HS0.out.step o0 q0 hf1
 clear e9 HP0 p0 N0 o0 q0 HS0
 go_wp2_with fail
 go_loopw [7] (fun q wr => ∃ (j : Nat) (v : Value) (es : List PhE) (Lr : List Int), (j : Int) ≤ n ∧ q = .int .i64 j ∧ Hid (es.length = j) ∧ Hid (Lr.length + j ≤ 20000) ∧ Hid (pMany pPhi j L1 = some (es.map (·.1), Lr)) ∧ Hid (BSt w wr a R B v (.slice none 0 0) term0 Lr) ∧ Hid (RowS 88 2 phC wr (w.heap.size + 2) v es) ∧ Hid (Sub OwnPhE wr (w.heap.size + 2) wr.heap.size es)) (fun q _ => n.toNat - (intOf q).toNat)
 case atStart => exact ⟨0, _, [], L1, hn0, rfl, rfl, HS1.out.fit.len, rfl, HS1.out, RowS.nil _ _ _ _ _, HS1.out.box.lt⟩
 case round =>
  clear HS1
  obtain ⟨j, v, es, Lr, hj, rfl, HJ, HJ2, HM, HS, HR, HU⟩ := hrel
  obtain ⟨w2, hwo⟩ : ∃ w1, w1 = wr := ⟨_, rfl⟩
  subst hwo
  by_cases hjn : (j : Int) < n
  ·have N1 := nextT a B R Lr _ HS.out.rw_ HS.out.fit.len HS.out.gv
   go_wp2_with fail
   refine N1.mono ?_
   rintro e w3 ⟨o1, ⟨wi, L2, p1, rfl, q1⟩ | ⟨p1, rfl⟩⟩
   rotate_left
   ·have HN : Hid (pBlock L = none) := by
     show _ = _
     rw [HP1.out, pMany_stop HM.out (by rw [pPhi_eq, p1]; rfl) (show j < n.toNat by omega)]
     rfl
    have HO := HS.out.only.trans o1
    clear p1 HP1 N1
    go_wp2_with fail
    exact ⟨rfl, HO, .inr ⟨HN.out, rfl⟩⟩
   obtain ⟨hf2, _⟩ := HS.out.fit.next p1
   have HS3 : Hid (BSt w w3 a R B v (.slice none 0 0) term0 L2) := HS.out.step o1 q1 hf2
   have ST3 : Hid (Still 9 w2 w3) := Still.only o1 HS.out.rw_
   have HR3 : Hid (RowS 88 2 phC w3 (w.heap.size + 2) v es) := HR.out.still ST3.out (by decide)
   have HU3 : Hid (Sub OwnPhE w3 (w.heap.size + 2) w3.heap.size es) := (HU.out.wide (Nat.le_refl _) o1.size).still fun _ _ _ h => OwnI.still h ST3.out (by decide)
   have HPh : Hid (pPhi Lr = _) := pPhi_eq Lr
   have e9 := HPh.out
   rw [p1, Option.bind_some] at e9
   have HPi : Hid (pPhi Lr = _) := e9
   have N2 := listT a B R L2 w3.drew HS3.out.rw_ hf2.pos hf2.len ⟨HS3.out.gv.cell, HS3.out.gv.lt⟩ hR
   have c0 : w3.cell? ⟨w.heap.size + 1, 0, none⟩ = some v := HS3.out.box.cell 0
   clear e9 HPh p1 N1 o1 q1 HR HU ST3
   obtain ⟨vu, vc, rfl⟩ := HR3.out.slice
   go_wp2_with fail
   refine startX (fun w' => w'.cell? ⟨w.heap.size + 1, 0, none⟩ = some (.slice vu es.length vc)) (fun i => decide (i = 9)) (by kernel_rfl) ?_
   refine takeX 0 (v := ?_) rfl rfl (by kernel_rfl) (fun _ _ _ h => h) (yesH (by rfl) ?_) c0 ?_
   rotate_left
   ·intro w9 hS9
    go_simp
    try with_reducible rfl
   try simp only [Act.put, sA, sB, sC]
   refine takeX 1 (v := ?_) rfl rfl (by kernel_rfl) (fun _ _ _ h => h) (yesH (by rfl) ?_) c0 ?_
   rotate_left
   ·intro w9 hS9
    have g0 := hS9
    go_simp
    try with_reducible rfl
   try simp only [Act.put, sA, sB, sC]
   refine takeX 2 (v := ?_) rfl rfl (by kernel_rfl) (fun _ _ _ h => h) (yesH (by rfl) ?_) c0 ?_
   rotate_left
   ·intro w9 hS9
    go_simp
    try with_reducible rfl
   try simp only [Act.put, sA, sB, sC]
   refine takeX 3 (v := ?_) rfl rfl (by kernel_rfl) (fun _ _ _ h => h) (yesH (by rfl) ?_) c0 ?_
   rotate_left
   ·intro w9 hS9
    go_simp
    try with_reducible rfl
   try simp only [Act.put, sA, sB, sC]
   refine readyX 4 rfl (by kernel_rfl) (fun K hK => ?_)
   go_simp
   go_wp2_with fail
   refine N2.mono ?_
   rintro e w4 ⟨o2, ⟨l, L3, p2, ⟨u, c, rfl, hu⟩, q2⟩ | ⟨p2, rfl⟩⟩
   rotate_left
   ·have o3 : OnlyR R w3 w4 := ⟨o2.os, o2.tape, o2.output, o2.size, o2.block⟩
    have HN : Hid (pBlock L = none) := by
     show _ = _
     rw [HP1.out, pMany_stop HM.out (by rw [HPi.out, p2]; rfl) (show j < n.toNat by omega)]
     rfl
    have HO := HS3.out.only.trans o3
    clear hK p2 HP1 N2
    go_wp2_with fail
    exact ⟨rfl, HO, .inr ⟨HN.out, rfl⟩⟩
   have o3 : OnlyR R w3 w4 := ⟨o2.os, o2.tape, o2.output, o2.size, o2.block⟩
   obtain ⟨hf3, hl3⟩ := hf2.list p2
   have HL3 : Hid (L3.length + (j + 1) ≤ 20000) := by
    have h1 := pPhi_yes HS.out.fit.pos (show pPhi Lr = some (⟨wi, l⟩, L3) by rw [HPi.out, p2]; rfl)
    have h2 := HJ2.out
    rw [h1, List.length_append] at h2
    have h3 : 1 ≤ (phiM ⟨wi, l⟩).length := by unfold phiM; simp
    show _ ≤ _
    omega
   have HS4 : Hid (BSt w w4 a R B (.slice vu es.length vc) (.slice none 0 0) term0 L3) := HS3.out.step o3 q2 hf3
   have ST4 : Hid (Still 9 w3 w4) := Still.only o3 HS3.out.rw_
   have HR4 : Hid (RowS 88 2 phC w4 (w.heap.size + 2) (.slice vu es.length vc) es) := HR3.out.still ST4.out (by decide)
   have HU4 : Hid (Sub OwnPhE w4 (w.heap.size + 2) w4.heap.size (es ++ [(⟨wi, l⟩, u, c)])) := Sub.snoc (HU3.out.still fun _ _ _ h => OwnI.still h ST4.out (by decide)) (Nat.le_refl _) o3.size hu
   have HPj : Hid (pPhi Lr = some (⟨wi, l⟩, L3)) := by
    show _ = _
    rw [HPi.out, p2]
    rfl
   have HM4 : Hid (pMany pPhi (j + 1) L1 = some ((es ++ [((⟨wi, l⟩ : PhiD), u, c)]).map (·.1), L3)) := by
    show _ = _
    rw [List.map_append]
    exact pMany_snoc HM.out HPj.out
   have c4 : w4.cell? ⟨w.heap.size + 1, 0, none⟩ = some (.slice vu es.length vc) := HS4.out.box.cell 0
   clear N2 o2 o3 p2 q2 hu HS HS3 HR3 HU3 HPi HM ST4 HPj c0
   refine hK.out _ _ (.inr c4) ?_
   clear hK K
   try simp only [sA, sB, sC]
   refine takeX 5 (v := ?_) rfl rfl (by kernel_rfl) (fun _ _ _ h => h) (yesH (by rfl) ?_) c4 ?_
   rotate_left
   ·intro w9 hS9
    go_simp
    try with_reducible rfl
   try simp only [Act.put, sA, sB, sC]
   refine readyX 6 rfl (by kernel_rfl) (fun K hK => ?_)
   go_simp
   have b5 : Below w4.heap.size w4 (w4.alloc (.cells #[.int .i64 wi, .slice u l.length c] 88)) := (Below.refl _ _).alloc (Nat.le_refl _) _
   have HS5 : Hid (BSt w (w4.alloc (.cells #[.int .i64 wi, .slice u l.length c] 88)) a R B (.slice vu es.length vc) (.slice none 0 0) term0 L3) := HS4.out.keep b5
   have ST5 : Still 9 w4 (w4.alloc (.cells #[.int .i64 wi, .slice u l.length c] 88)) := Still.below b5
   have HR5 : Hid (RowS 88 2 phC (w4.alloc (.cells #[.int .i64 wi, .slice u l.length c] 88)) (w.heap.size + 2) (.slice vu es.length vc) es) := HR4.out.still ST5 (by decide)
   have HU5 : Hid (Sub OwnPhE (w4.alloc (.cells #[.int .i64 wi, .slice u l.length c] 88)) (w.heap.size + 2) (w4.alloc (.cells #[.int .i64 wi, .slice u l.length c] 88)).heap.size (es ++ [(⟨wi, l⟩, u, c)])) := (HU4.out.wide (Nat.le_refl _) b5.size).still fun _ _ _ h => OwnI.still h ST5 (by decide)
   have c5 : (w4.alloc (.cells #[.int .i64 wi, .slice u l.length c] 88)).cell? ⟨w.heap.size + 1, 0, none⟩ = some (.slice vu es.length vc) := HS5.out.box.cell 0
   have hj20 : j ≤ 20000 := by have h2 := HJ2.out; omega
   have hel : es.length ≤ 20000 := by have h1 := HJ.out; omega
   obtain ⟨g6, cap6, w6, hrun, hown6, hgr6, _, _⟩ := run_append_lies (P := Tryz.prog) (w4.alloc (.cells #[.int .i64 wi, .slice u l.length c] 88)) 81 81 (w.heap.size + 2) 88 iP (.agg #[.int .i64 0, .slice none 0 0]) 2 32 Tryz.underlying81 hiP zP sP bP rfl (by decide) (.slice vu es.length vc) es.length (es.flatMap phC) HR5.out ⟨w4.heap.size, 0, none⟩ 1 1 [.int .i64 wi, .slice u l.length c] rfl (World.news_of_block (At.new w4 #[.int .i64 wi, .slice u l.length c] 88)) (by simp [Value.oneCell']) (by decide) (by unfold maxLen; omega) (by omega) HS5.out.box.lt _ rfl
   have HS6 : Hid (BSt w w6 a R B (.slice vu es.length vc) (.slice none 0 0) term0 L3) := HS5.out.grown hgr6 (fun g e => (HR5.out.ge e).1)
   have ST6 : Still 1 (w4.alloc (.cells #[.int .i64 wi, .slice u l.length c] 88)) w6 := Still.grown hgr6 (fun g e => by obtain ⟨_, cur, hc⟩ := HR5.out.ge e; exact ⟨cur, _, hc, by decide⟩)
   have HR6 : Hid (RowS 88 2 phC w6 (w.heap.size + 2) (.slice (some ⟨g6, 0, none⟩) (es.length + 1) cap6) (es ++ [(⟨wi, l⟩, u, c)])) := RowS.push hown6
   have HU6 : Hid (Sub OwnPhE w6 (w.heap.size + 2) w6.heap.size (es ++ [(⟨wi, l⟩, u, c)])) := (HU5.out.wide (Nat.le_refl _) hgr6.size).still fun _ _ _ h => OwnI.still h ST6 (by decide)
   have HS7 : Hid (BSt w (w6.setCell ⟨w.heap.size + 1, 0, none⟩ (.slice (some ⟨g6, 0, none⟩) (es.length + 1) cap6)) a R B (.slice (some ⟨g6, 0, none⟩) (es.length + 1) cap6) (.slice none 0 0) term0 L3) := HS6.out.set0 _
   have ST7 : Still 3 w6 (w6.setCell ⟨w.heap.size + 1, 0, none⟩ (.slice (some ⟨g6, 0, none⟩) (es.length + 1) cap6)) := Still.set HS6.out.box (by decide)
   have HR7 : Hid (RowS 88 2 phC (w6.setCell ⟨w.heap.size + 1, 0, none⟩ (.slice (some ⟨g6, 0, none⟩) (es.length + 1) cap6)) (w.heap.size + 2) (.slice (some ⟨g6, 0, none⟩) (es.length + 1) cap6) (es ++ [(⟨wi, l⟩, u, c)])) := HR6.out.still ST7 (by decide)
   have HU7 : Hid (Sub OwnPhE (w6.setCell ⟨w.heap.size + 1, 0, none⟩ (.slice (some ⟨g6, 0, none⟩) (es.length + 1) cap6)) (w.heap.size + 2) (w6.setCell ⟨w.heap.size + 1, 0, none⟩ (.slice (some ⟨g6, 0, none⟩) (es.length + 1) cap6)).heap.size (es ++ [(⟨wi, l⟩, u, c)])) := (HU6.out.wide (Nat.le_refl _) (by simp only [World.size_setCell]; exact Nat.le_refl _)).still fun _ _ _ h => OwnI.still h ST7 (by decide)
   have c6 : w6.cell? ⟨w.heap.size + 1, 0, none⟩ = some (.slice vu es.length vc) := HS6.out.box.cell 0
   have f6 : w6.frozen? ⟨w.heap.size + 1, 0, none⟩ = false := froz_of_heap HS6.out.box
   clear b5 HS5 ST5 HR5 HU5 ST6 HR6 HU6 ST7 HS4 HR4 HU4 hown6 hgr6 HS6
   refine hK.out _ _ (.inr c5) ?_
   clear hK K
   try simp only [sA, sB, sC]
   refine readyX 7 rfl (by kernel_rfl) (fun K hK => ?_)
   refine step_runP rfl _ _ _ rfl rfl rfl hrun ?_
   refine hK.out _ _ (.inr c6) ?_
   clear hK K hrun
   try simp only [Act.put, sA, sB, sC]
   refine takeX 8 (v := ?_) rfl rfl (by kernel_rfl) (fun _ _ _ h => h) (yesH (by rfl) ?_) c6 ?_
   rotate_left
   ·intro w9 hS9
    go_simp
    try with_reducible rfl
   try simp only [Act.put, sA, sB, sC]
   refine readyX 9 rfl (by kernel_rfl) (fun K hK => ?_)
   go_simp
   refine hK.out _ _ (.inl rfl) ?_
   clear hK K
   refine doneX (by kernel_rfl) ?_ _
   go_wp2_with fail
   go_roundw
   case rel =>
    exact ⟨j + 1, _, _, L3, by omega, by go_num, (by show (es ++ [_]).length = j + 1; rw [List.length_append, HJ.out]; rfl), HL3.out, HM4.out, HS7.out, HR7.out, HU7.out⟩
   case measure => simp [intOf]; omega
  ·have hjn2 : (j : Int) = n := by omega
   have e9 := HP1.out
   rw [show n.toNat = j by omega, HM.out, Option.bind_some] at e9
   have HP2 : Hid (pBlock L = _) := e9
   have hel : es.length ≤ 20000 := by have h1 := HJ.out; have h2 := HJ2.out; omega
   obtain ⟨vu, vc, rfl⟩ := HR.out.slice
   have HW : Hid (OwnPhs w2 (w.heap.size + 2) w2.heap.size vu es) := RowS.own (fun _ => rfl) (by omega) HR.out HU.out (Nat.le_refl _) (Nat.le_refl _)
   have N3 := nextT a B R Lr w2 HS.out.rw_ HS.out.fit.len HS.out.gv
   have hz2 : w.heap.size + 2 ≤ w2.heap.size := HS.out.box.lt
   clear e9 HP1 HM HR HU HJ HJ2 hjn hj hn0
   go_wp2_with fail
   refine N3.mono ?_
   rintro e w3 ⟨o1, ⟨m, L4, p1, rfl, q1⟩ | ⟨p1, rfl⟩⟩
   rotate_left
   ·have HN : Hid (pBlock L = none) := by show _ = _; rw [HP2.out, p1]; rfl
    have HO := HS.out.only.trans o1
    clear p1 HP2 N3
    go_wp2_with fail
    exact ⟨rfl, HO, .inr ⟨HN.out, rfl⟩⟩
   obtain ⟨hf4, hm0⟩ := HS.out.fit.next p1
   have HS3 : Hid (BSt w w3 a R B (.slice vu es.length vc) (.slice none 0 0) term0 L4) := HS.out.step o1 q1 hf4
   have HW3 : Hid (OwnPhs w3 (w.heap.size + 2) w2.heap.size vu es) := OwnPhs.still HW.out (Still.only o1 HS.out.rw_) (by decide)
   have e9 := HP2.out
   rw [p1, Option.bind_some] at e9
   have HP3 : Hid (pBlock L = _) := e9
   have hz3 : w2.heap.size ≤ w3.heap.size := o1.size
   clear e9 HP2 p1 N3 o1 q1 HS HW
   go_wp2_with fail
   go_loopw [23] (fun q wr => ∃ (j : Nat) (v : Value) (is : List InE) (Lr : List Int), (j : Int) ≤ m ∧ q = .int .i64 j ∧ Hid (is.length = j) ∧ Hid (Lr.length + j ≤ 20000) ∧ Hid (pMany pInst j L4 = some (is.map (·.1), Lr)) ∧ Hid (BSt w wr a R B (.slice vu es.length vc) v term0 Lr) ∧ Hid (OwnPhs wr (w.heap.size + 2) w2.heap.size vu es) ∧ Hid (RowS 91 7 inC wr w2.heap.size v is) ∧ Hid (Sub OwnInE wr w2.heap.size wr.heap.size is)) (fun q _ => m.toNat - (intOf q).toNat)
   case atStart => exact ⟨0, _, [], L4, hm0, rfl, rfl, HS3.out.fit.len, rfl, HS3.out, HW3.out, RowS.nil _ _ _ _ _, hz3⟩
   case round =>
    clear HS3 HW3 hz3
    obtain ⟨j2, v, is, L5, hj, rfl, HJ, HJ2, HM, HS, HW, HR, HU⟩ := hrel
    obtain ⟨w4, hwo⟩ : ∃ w1, w1 = wr := ⟨_, rfl⟩
    subst hwo
    by_cases hjm : (j2 : Int) < m
    ·have hf5 := HS.out.fit
     have N1 := takeInstT a B R L5 w4.drew HS.out.rw_ hf5 ⟨HS.out.gv.cell, HS.out.gv.lt⟩ hR (by have := HS.out.only.size; show B ≤ w4.heap.size; omega)
     obtain ⟨iu, ic, rfl⟩ := HR.out.slice
     have c0 : w4.cell? ⟨w.heap.size + 1, 1, none⟩ = some (.slice iu is.length ic) := HS.out.box.cell 1
     go_wp2_with fail
     refine startX (fun w' => w'.cell? ⟨w.heap.size + 1, 1, none⟩ = some (.slice iu is.length ic)) (fun i => decide (i = 7)) (by kernel_rfl) ?_
     refine takeX 0 (v := ?_) rfl rfl (by kernel_rfl) (fun _ _ _ h => h) (yesH (by rfl) ?_) c0 ?_
     rotate_left
     ·intro w9 hS9
      go_simp
      try with_reducible rfl
     try simp only [Act.put, sA, sB, sC]
     refine takeX 1 (v := ?_) rfl rfl (by kernel_rfl) (fun _ _ _ h => h) (yesH (by rfl) ?_) c0 ?_
     rotate_left
     ·intro w9 hS9
      have g0 := hS9
      go_simp
      try with_reducible rfl
     try simp only [Act.put, sA, sB, sC]
     refine takeX 2 (v := ?_) rfl rfl (by kernel_rfl) (fun _ _ _ h => h) (yesH (by rfl) ?_) c0 ?_
     rotate_left
     ·intro w9 hS9
      go_simp
      try with_reducible rfl
     try simp only [Act.put, sA, sB, sC]
     refine readyX 3 rfl (by kernel_rfl) (fun K hK => ?_)
     go_simp
     go_wp2_with fail
     refine N1.mono ?_
     rintro e w6 ⟨o2, ⟨d, L6, p2, ⟨u, c, rfl, hu⟩, q2⟩ | ⟨p2, rfl⟩⟩
     rotate_left
     ·have o3 : OnlyR R w4 w6 := ⟨o2.os, o2.tape, o2.output, o2.size, o2.block⟩
      have HN : Hid (pBlock L = none) := by
       show _ = _
       rw [HP3.out, pMany_stop HM.out p2 (show j2 < m.toNat by omega)]
       rfl
      have HO := HS.out.only.trans o3
      clear hK p2 HP3 N1
      go_wp2_with fail
      exact ⟨rfl, HO, .inr ⟨HN.out, rfl⟩⟩
     have o3 : OnlyR R w4 w6 := ⟨o2.os, o2.tape, o2.output, o2.size, o2.block⟩
     have hyi := pInst_yes hf5.pos p2
     have hli : 2 ≤ (instM d).length := by unfold instM; simp only [List.length_append, List.length_cons]; omega
     have HL6 : Hid (L6.length + (j2 + 1) ≤ 20000) := by
      have h2 := HJ2.out
      rw [hyi, List.length_append] at h2
      show _ ≤ _
      omega
     have hf6 : Fit L6 := ⟨by have := hf5.pos; rw [hyi] at this; exact this.right, by have := HL6.out; omega⟩
     have HS4 : Hid (BSt w w6 a R B (.slice vu es.length vc) (.slice iu is.length ic) term0 L6) := HS.out.step o3 q2 hf6
     have ST4 : Hid (Still 9 w4 w6) := Still.only o3 HS.out.rw_
     have HW4 : Hid (OwnPhs w6 (w.heap.size + 2) w2.heap.size vu es) := OwnPhs.still HW.out ST4.out (by decide)
     have HR4 : Hid (RowS 91 7 inC w6 w2.heap.size (.slice iu is.length ic) is) := HR.out.still ST4.out (by decide)
     have HU4 : Hid (Sub OwnInE w6 w2.heap.size w6.heap.size (is ++ [(d, u, c)])) := Sub.snoc (HU.out.still fun _ _ _ h => OwnI.still h ST4.out (by decide)) (Nat.le_refl _) o3.size hu
     have HM4 : Hid (pMany pInst (j2 + 1) L4 = some ((is ++ [((d, u, c) : InE)]).map (·.1), L6)) := by
      show _ = _
      rw [List.map_append]
      exact pMany_snoc HM.out p2
     have c4 : w6.cell? ⟨w.heap.size + 1, 1, none⟩ = some (.slice iu is.length ic) := HS4.out.box.cell 1
     have hj20 : j2 ≤ 20000 := by have h2 := HJ2.out; omega
     have hel2 : is.length ≤ 20000 := by have h1 := HJ.out; omega
     have hb6 : w2.heap.size ≤ w6.heap.size := (HU4.out).le
     clear N1 o2 o3 p2 q2 hu HS HR HU HM HW ST4 c0 hyi hli hf5
     have b5 : Below w6.heap.size w6 (w6.alloc (.cells #[.int .i64 d.op, .int .i64 d.w, .int .i64 d.a, .int .i64 d.b, .int .i64 d.c, .int .i64 d.imm, .slice u d.args.length c] 91)) := (Below.refl _ _).alloc (Nat.le_refl _) _
     have HS5 : Hid (BSt w (w6.alloc (.cells #[.int .i64 d.op, .int .i64 d.w, .int .i64 d.a, .int .i64 d.b, .int .i64 d.c, .int .i64 d.imm, .slice u d.args.length c] 91)) a R B (.slice vu es.length vc) (.slice iu is.length ic) term0 L6) := HS4.out.keep b5
     have ST5 : Still 9 w6 (w6.alloc (.cells #[.int .i64 d.op, .int .i64 d.w, .int .i64 d.a, .int .i64 d.b, .int .i64 d.c, .int .i64 d.imm, .slice u d.args.length c] 91)) := Still.below b5
     have HW5 : Hid (OwnPhs (w6.alloc (.cells #[.int .i64 d.op, .int .i64 d.w, .int .i64 d.a, .int .i64 d.b, .int .i64 d.c, .int .i64 d.imm, .slice u d.args.length c] 91)) (w.heap.size + 2) w2.heap.size vu es) := OwnPhs.still HW4.out ST5 (by decide)
     have HR5 : Hid (RowS 91 7 inC (w6.alloc (.cells #[.int .i64 d.op, .int .i64 d.w, .int .i64 d.a, .int .i64 d.b, .int .i64 d.c, .int .i64 d.imm, .slice u d.args.length c] 91)) w2.heap.size (.slice iu is.length ic) is) := HR4.out.still ST5 (by decide)
     have HU5 : Hid (Sub OwnInE (w6.alloc (.cells #[.int .i64 d.op, .int .i64 d.w, .int .i64 d.a, .int .i64 d.b, .int .i64 d.c, .int .i64 d.imm, .slice u d.args.length c] 91)) w2.heap.size ((w6.alloc (.cells #[.int .i64 d.op, .int .i64 d.w, .int .i64 d.a, .int .i64 d.b, .int .i64 d.c, .int .i64 d.imm, .slice u d.args.length c] 91))).heap.size (is ++ [(d, u, c)])) := (HU4.out.wide (Nat.le_refl _) b5.size).still fun _ _ _ h => OwnI.still h ST5 (by decide)
     have c5 : ((w6.alloc (.cells #[.int .i64 d.op, .int .i64 d.w, .int .i64 d.a, .int .i64 d.b, .int .i64 d.c, .int .i64 d.imm, .slice u d.args.length c] 91))).cell? ⟨w.heap.size + 1, 1, none⟩ = some (.slice iu is.length ic) := HS5.out.box.cell 1
     obtain ⟨g6, cap6, w8, hrun, hown6, hgr6, _, _⟩ := run_append_lies (P := Tryz.prog) (w6.alloc (.cells #[.int .i64 d.op, .int .i64 d.w, .int .i64 d.a, .int .i64 d.b, .int .i64 d.c, .int .i64 d.imm, .slice u d.args.length c] 91)) 82 82 w2.heap.size 91 iI (.agg #[.int .i64 0, .int .i64 0, .int .i64 0, .int .i64 0, .int .i64 0, .int .i64 0, .slice none 0 0]) 7 72 Tryz.underlying82 hiI zI sI bI rfl (by decide) (.slice iu is.length ic) is.length (is.flatMap inC) HR5.out ⟨w6.heap.size, 0, none⟩ 1 1 [.int .i64 d.op, .int .i64 d.w, .int .i64 d.a, .int .i64 d.b, .int .i64 d.c, .int .i64 d.imm, .slice u d.args.length c] rfl (World.news_of_block (At.new w6 #[.int .i64 d.op, .int .i64 d.w, .int .i64 d.a, .int .i64 d.b, .int .i64 d.c, .int .i64 d.imm, .slice u d.args.length c] 91)) (by simp [Value.oneCell']) (by decide) (by unfold maxLen; omega) (by omega) (Nat.le_trans hb6 b5.size) _ rfl
     have HS6 : Hid (BSt w w8 a R B (.slice vu es.length vc) (.slice iu is.length ic) term0 L6) := HS5.out.grown hgr6 (fun g e => Nat.le_trans hz2 (HR5.out.ge e).1)
     have ST6 : Still 2 (w6.alloc (.cells #[.int .i64 d.op, .int .i64 d.w, .int .i64 d.a, .int .i64 d.b, .int .i64 d.c, .int .i64 d.imm, .slice u d.args.length c] 91)) w8 := Still.grown hgr6 (fun g e => by obtain ⟨_, cur, hc⟩ := HR5.out.ge e; exact ⟨cur, _, hc, by decide⟩)
     have HW6 : Hid (OwnPhs w8 (w.heap.size + 2) w2.heap.size vu es) := OwnPhs.still HW5.out ST6 (by decide)
     have HR6 : Hid (RowS 91 7 inC w8 w2.heap.size (.slice (some ⟨g6, 0, none⟩) (is.length + 1) cap6) (is ++ [(d, u, c)])) := RowS.push hown6
     have HU6 : Hid (Sub OwnInE w8 w2.heap.size w8.heap.size (is ++ [(d, u, c)])) := (HU5.out.wide (Nat.le_refl _) hgr6.size).still fun _ _ _ h => OwnI.still h ST6 (by decide)
     have HS7 : Hid (BSt w (w8.setCell ⟨w.heap.size + 1, 1, none⟩ (.slice (some ⟨g6, 0, none⟩) (is.length + 1) cap6)) a R B (.slice vu es.length vc) (.slice (some ⟨g6, 0, none⟩) (is.length + 1) cap6) term0 L6) := HS6.out.set1 _
     have ST7 : Still 3 w8 (w8.setCell ⟨w.heap.size + 1, 1, none⟩ (.slice (some ⟨g6, 0, none⟩) (is.length + 1) cap6)) := Still.set HS6.out.box (by decide)
     have HW7 : Hid (OwnPhs (w8.setCell ⟨w.heap.size + 1, 1, none⟩ (.slice (some ⟨g6, 0, none⟩) (is.length + 1) cap6)) (w.heap.size + 2) w2.heap.size vu es) := OwnPhs.still HW6.out ST7 (by decide)
     have HR7 : Hid (RowS 91 7 inC (w8.setCell ⟨w.heap.size + 1, 1, none⟩ (.slice (some ⟨g6, 0, none⟩) (is.length + 1) cap6)) w2.heap.size (.slice (some ⟨g6, 0, none⟩) (is.length + 1) cap6) (is ++ [(d, u, c)])) := HR6.out.still ST7 (by decide)
     have HU7 : Hid (Sub OwnInE (w8.setCell ⟨w.heap.size + 1, 1, none⟩ (.slice (some ⟨g6, 0, none⟩) (is.length + 1) cap6)) w2.heap.size ((w8.setCell ⟨w.heap.size + 1, 1, none⟩ (.slice (some ⟨g6, 0, none⟩) (is.length + 1) cap6))).heap.size (is ++ [(d, u, c)])) := (HU6.out.wide (Nat.le_refl _) (by simp only [World.size_setCell]; exact Nat.le_refl _)).still fun _ _ _ h => OwnI.still h ST7 (by decide)
     have c6 : w8.cell? ⟨w.heap.size + 1, 1, none⟩ = some (.slice iu is.length ic) := HS6.out.box.cell 1
     have f6 : w8.frozen? ⟨w.heap.size + 1, 1, none⟩ = false := froz_of_heap HS6.out.box
     clear b5 HS5 ST5 HR5 HU5 HW5 ST6 HR6 HU6 HW6 ST7 HS4 HR4 HU4 HW4 hown6 hgr6 HS6 hb6
     refine hK.out _ _ (.inr c4) ?_
     clear hK K
     try simp only [Act.put, sA, sB, sC]
     refine readyX 4 rfl (by kernel_rfl) (fun K hK => ?_)
     go_simp
     refine hK.out _ _ (.inr c5) ?_
     clear hK K
     try simp only [Act.put, sA, sB, sC]
     refine readyX 5 rfl (by kernel_rfl) (fun K hK => ?_)
     refine step_runP rfl _ _ _ rfl rfl rfl hrun ?_
     refine hK.out _ _ (.inr c6) ?_
     clear hK K hrun
     try simp only [Act.put, sA, sB, sC]
     refine takeX 6 (v := ?_) rfl rfl (by kernel_rfl) (fun _ _ _ h => h) (yesH (by rfl) ?_) c6 ?_
     rotate_left
     ·intro w9 hS9
      go_simp
      try with_reducible rfl
     try simp only [Act.put, sA, sB, sC]
     refine readyX 7 rfl (by kernel_rfl) (fun K hK => ?_)
     go_simp
     refine hK.out _ _ (.inl rfl) ?_
     clear hK K
     refine doneX (by kernel_rfl) ?_ _
     go_wp2_with fail
     go_roundw
     case rel =>
      exact ⟨j2 + 1, _, _, L6, by omega, by go_num, (by show (is ++ [_]).length = j2 + 1; rw [List.length_append, HJ.out]; rfl), HL6.out, HM4.out, HS7.out, HW7.out, HR7.out, HU7.out⟩
     case measure => simp [intOf]; omega
    ·obtain ⟨iu, ic, rfl⟩ := HR.out.slice
     have e9 := HP3.out
     rw [show m.toNat = j2 by omega, HM.out, Option.bind_some] at e9
     have HP4 : Hid (pBlock L = _) := e9
     have hel2 : is.length ≤ 20000 := by have h1 := HJ.out; have h2 := HJ2.out; omega
     have HX : Hid (OwnIns w4 w2.heap.size w4.heap.size iu is) := RowS.own (fun _ => rfl) (by omega) HR.out HU.out (Nat.le_refl _) (Nat.le_refl _)
     have N4 := nextT a B R L5 w4 HS.out.rw_ HS.out.fit.len HS.out.gv
     have hz4 : w2.heap.size ≤ w4.heap.size := HU.out.le
     clear e9 HP3 HM HR HU HJ HJ2 hj hm0
     go_wp2_with fail
     refine N4.mono ?_
     rintro e w5 ⟨o1, ⟨k, L6, p1, rfl, q1⟩ | ⟨p1, rfl⟩⟩
     rotate_left
     ·have HN : Hid (pBlock L = none) := by show _ = _; rw [HP4.out, p1]; rfl
      have HO := HS.out.only.trans o1
      clear p1 HP4 N4
      go_wp2_with fail
      exact ⟨rfl, HO, .inr ⟨HN.out, rfl⟩⟩
     obtain ⟨hf6, _⟩ := HS.out.fit.next p1
     have HS5 : Hid (BSt w w5 a R B (.slice vu es.length vc) (.slice iu is.length ic) term0 L6) := HS.out.step o1 q1 hf6
     have ST5 := Still.only o1 HS.out.rw_
     have HW5 : Hid (OwnPhs w5 (w.heap.size + 2) w2.heap.size vu es) := OwnPhs.still HW.out ST5 (by decide)
     have HX5 : Hid (OwnIns w5 w2.heap.size w4.heap.size iu is) := OwnIns.still HX.out ST5 (by decide)
     have e9 := HP4.out
     rw [p1, Option.bind_some] at e9
     have HP5 : Hid (pBlock L = _) := e9
     have hz5 : w4.heap.size ≤ w5.heap.size := o1.size
     have N5 := termT a B R k L6 w5 HS5.out.rw_ hf6 HS5.out.gv hR (by have := HS5.out.only.size; omega)
     clear e9 HP4 p1 N4 o1 q1 HS HW HX ST5 hjm
     go_wp2_with fail
     refine N5.mono ?_
     rintro e w6 ⟨o2, ⟨tt, L7, p2, rfl, q2⟩ | ⟨p2, rfl⟩⟩
     rotate_left
     ·have HN : Hid (pBlock L = none) := by show _ = _; rw [HP5.out, p2]; rfl
      have HO := HS5.out.only.trans o2
      clear p2 HP5 N5
      go_wp2_with fail
      exact ⟨rfl, HO, .inr ⟨HN.out, rfl⟩⟩
     have HN : Hid (pBlock L = some (⟨es.map (·.1), is.map (·.1), tt⟩, L7)) := by show _ = _; rw [HP5.out, p2]; rfl
     have ST6 := Still.only o2 HS5.out.rw_
     have HW6 : Hid (OwnPhs w6 (w.heap.size + 2) w2.heap.size vu es) := OwnPhs.still HW5.out ST6 (by decide)
     have HX6 : Hid (OwnIns w6 w2.heap.size w4.heap.size iu is) := OwnIns.still HX5.out ST6 (by decide)
     have hty := pTerm_yes (L := k :: L6) (show pTerm (k :: L6) = some (tt, L7) from p2)
     have hf7 : Fit L7 := by
      have hp := hf6.pos
      have hl := hf6.len
      cases hT : termM tt with
      | nil => unfold termM at hT; cases hT
      | cons y ys =>
       rw [hT, List.cons_append] at hty
       injection hty with _ h2
       rw [h2] at hp hl
       rw [List.length_append] at hl
       exact ⟨hp.right, by omega⟩
     have HS6 : Hid (BSt w w6 a R B (.slice vu es.length vc) (.slice iu is.length ic) term0 L7) := HS5.out.step o2 q2 hf7
     have hz6 : w5.heap.size ≤ w6.heap.size := o2.size
     clear HP5 p2 N5 o2 q2 HS5 HW5 HX5 ST6 hty hf6 hf7
     have c0 : w6.cell? ⟨w.heap.size + 1, 0, none⟩ = some (.slice vu es.length vc) := HS6.out.box.cell 0
     have c1 : w6.cell? ⟨w.heap.size + 1, 1, none⟩ = some (.slice iu is.length ic) := HS6.out.box.cell 1
     have c2 : w6.cell? ⟨w.heap.size + 1, 2, none⟩ = some (.int .i64 0) := HS6.out.box.cell 2
     have c3 : w6.cell? ⟨w.heap.size + 1, 3, none⟩ = some (.int .i64 0) := HS6.out.box.cell 3
     have c4 : w6.cell? ⟨w.heap.size + 1, 4, none⟩ = some (.int .i64 0) := HS6.out.box.cell 4
     have c5 : w6.cell? ⟨w.heap.size + 1, 5, none⟩ = some (.int .i64 0) := HS6.out.box.cell 5
     have cf : ∀ o, w6.frozen? ⟨w.heap.size + 1, o, none⟩ = false := fun o => froz_of_heap HS6.out.box
     have r0 : w6.cell? ⟨w.heap.size, 0, none⟩ = some (.slice none 0 0) := HS6.out.res.cell 0
     have r1 : w6.cell? ⟨w.heap.size, 1, none⟩ = some (.slice none 0 0) := HS6.out.res.cell 1
     have r2 : w6.cell? ⟨w.heap.size, 2, none⟩ = some (.int .i64 0) := HS6.out.res.cell 2
     have r3 : w6.cell? ⟨w.heap.size, 3, none⟩ = some (.int .i64 0) := HS6.out.res.cell 3
     have r4 : w6.cell? ⟨w.heap.size, 4, none⟩ = some (.int .i64 0) := HS6.out.res.cell 4
     have r5 : w6.cell? ⟨w.heap.size, 5, none⟩ = some (.int .i64 0) := HS6.out.res.cell 5
     have rf : ∀ o, w6.frozen? ⟨w.heap.size, o, none⟩ = false := fun o => froz_of_heap HS6.out.res
     go_wp2_with fail
     have hr := (heap_set (o := 5) (v := .int .i64 tt.y) (heap_set (o := 4) (v := .int .i64 tt.x) (heap_set (o := 3) (v := .int .i64 tt.a) (heap_set (o := 2) (v := .int .i64 tt.kind) (heap_set (o := 1) (v := .slice iu is.length ic) (heap_set (o := 0) (v := .slice vu es.length vc) (At.setOther (o := 5) (v := .int .i64 tt.y) (At.setOther (o := 4) (v := .int .i64 tt.x) (At.setOther (o := 3) (v := .int .i64 tt.a) (At.setOther (o := 2) (v := .int .i64 tt.kind) HS6.out.res (show w.heap.size ≠ w.heap.size + 1 by omega)) (show w.heap.size ≠ w.heap.size + 1 by omega)) (show w.heap.size ≠ w.heap.size + 1 by omega)) (show w.heap.size ≠ w.heap.size + 1 by omega))))))))
     have OO : OnlyR R w ((((((((((w6.setCell ⟨w.heap.size + 1, 2, none⟩ (.int .i64 tt.kind)).setCell ⟨w.heap.size + 1, 3, none⟩ (.int .i64 tt.a)).setCell ⟨w.heap.size + 1, 4, none⟩ (.int .i64 tt.x)).setCell ⟨w.heap.size + 1, 5, none⟩ (.int .i64 tt.y)).setCell ⟨w.heap.size, 0, none⟩ (.slice vu es.length vc)).setCell ⟨w.heap.size, 1, none⟩ (.slice iu is.length ic)).setCell ⟨w.heap.size, 2, none⟩ (.int .i64 tt.kind)).setCell ⟨w.heap.size, 3, none⟩ (.int .i64 tt.a)).setCell ⟨w.heap.size, 4, none⟩ (.int .i64 tt.x)).setCell ⟨w.heap.size, 5, none⟩ (.int .i64 tt.y)) := (OnlyR.fresh (g := w.heap.size) (o := 5) (v := .int .i64 tt.y) (OnlyR.fresh (g := w.heap.size) (o := 4) (v := .int .i64 tt.x) (OnlyR.fresh (g := w.heap.size) (o := 3) (v := .int .i64 tt.a) (OnlyR.fresh (g := w.heap.size) (o := 2) (v := .int .i64 tt.kind) (OnlyR.fresh (g := w.heap.size) (o := 1) (v := .slice iu is.length ic) (OnlyR.fresh (g := w.heap.size) (o := 0) (v := .slice vu es.length vc) (OnlyR.fresh (g := w.heap.size + 1) (o := 5) (v := .int .i64 tt.y) (OnlyR.fresh (g := w.heap.size + 1) (o := 4) (v := .int .i64 tt.x) (OnlyR.fresh (g := w.heap.size + 1) (o := 3) (v := .int .i64 tt.a) (OnlyR.fresh (g := w.heap.size + 1) (o := 2) (v := .int .i64 tt.kind) HS6.out.only (by omega)) (by omega)) (by omega)) (by omega)) (by omega)) (by omega)) (by omega)) (by omega)) (by omega)) (by omega))
     have RR : RwIn B ((((((((((w6.setCell ⟨w.heap.size + 1, 2, none⟩ (.int .i64 tt.kind)).setCell ⟨w.heap.size + 1, 3, none⟩ (.int .i64 tt.a)).setCell ⟨w.heap.size + 1, 4, none⟩ (.int .i64 tt.x)).setCell ⟨w.heap.size + 1, 5, none⟩ (.int .i64 tt.y)).setCell ⟨w.heap.size, 0, none⟩ (.slice vu es.length vc)).setCell ⟨w.heap.size, 1, none⟩ (.slice iu is.length ic)).setCell ⟨w.heap.size, 2, none⟩ (.int .i64 tt.kind)).setCell ⟨w.heap.size, 3, none⟩ (.int .i64 tt.a)).setCell ⟨w.heap.size, 4, none⟩ (.int .i64 tt.x)).setCell ⟨w.heap.size, 5, none⟩ (.int .i64 tt.y)) R L7 := (RwIn.set (g := w.heap.size) (o := 5) (v := .int .i64 tt.y) (RwIn.set (g := w.heap.size) (o := 4) (v := .int .i64 tt.x) (RwIn.set (g := w.heap.size) (o := 3) (v := .int .i64 tt.a) (RwIn.set (g := w.heap.size) (o := 2) (v := .int .i64 tt.kind) (RwIn.set (g := w.heap.size) (o := 1) (v := .slice iu is.length ic) (RwIn.set (g := w.heap.size) (o := 0) (v := .slice vu es.length vc) (RwIn.set (g := w.heap.size + 1) (o := 5) (v := .int .i64 tt.y) (RwIn.set (g := w.heap.size + 1) (o := 4) (v := .int .i64 tt.x) (RwIn.set (g := w.heap.size + 1) (o := 3) (v := .int .i64 tt.a) (RwIn.set (g := w.heap.size + 1) (o := 2) (v := .int .i64 tt.kind) HS6.out.rw_ (by omega) (by omega)) (by omega) (by omega)) (by omega) (by omega)) (by omega) (by omega)) (by omega) (by omega)) (by omega) (by omega)) (by omega) (by omega)) (by omega) (by omega)) (by omega) (by omega)) (by omega) (by omega))
     have SS : Still 3 w6 ((((((((((w6.setCell ⟨w.heap.size + 1, 2, none⟩ (.int .i64 tt.kind)).setCell ⟨w.heap.size + 1, 3, none⟩ (.int .i64 tt.a)).setCell ⟨w.heap.size + 1, 4, none⟩ (.int .i64 tt.x)).setCell ⟨w.heap.size + 1, 5, none⟩ (.int .i64 tt.y)).setCell ⟨w.heap.size, 0, none⟩ (.slice vu es.length vc)).setCell ⟨w.heap.size, 1, none⟩ (.slice iu is.length ic)).setCell ⟨w.heap.size, 2, none⟩ (.int .i64 tt.kind)).setCell ⟨w.heap.size, 3, none⟩ (.int .i64 tt.a)).setCell ⟨w.heap.size, 4, none⟩ (.int .i64 tt.x)).setCell ⟨w.heap.size, 5, none⟩ (.int .i64 tt.y)) := (Still.trans (Still.trans (Still.trans (Still.trans (Still.trans (Still.trans (Still.trans (Still.trans (Still.trans (Still.set (k := 3) (o := 2) (v := .int .i64 tt.kind) HS6.out.box (by decide)) (Still.set (k := 3) (o := 3) (v := .int .i64 tt.a) (heap_set (o := 2) (v := .int .i64 tt.kind) HS6.out.box) (by decide))) (Still.set (k := 3) (o := 4) (v := .int .i64 tt.x) (heap_set (o := 3) (v := .int .i64 tt.a) (heap_set (o := 2) (v := .int .i64 tt.kind) HS6.out.box)) (by decide))) (Still.set (k := 3) (o := 5) (v := .int .i64 tt.y) (heap_set (o := 4) (v := .int .i64 tt.x) (heap_set (o := 3) (v := .int .i64 tt.a) (heap_set (o := 2) (v := .int .i64 tt.kind) HS6.out.box))) (by decide))) (Still.set (k := 3) (o := 0) (v := .slice vu es.length vc) (At.setOther (o := 5) (v := .int .i64 tt.y) (At.setOther (o := 4) (v := .int .i64 tt.x) (At.setOther (o := 3) (v := .int .i64 tt.a) (At.setOther (o := 2) (v := .int .i64 tt.kind) HS6.out.res (show w.heap.size ≠ w.heap.size + 1 by omega)) (show w.heap.size ≠ w.heap.size + 1 by omega)) (show w.heap.size ≠ w.heap.size + 1 by omega)) (show w.heap.size ≠ w.heap.size + 1 by omega)) (by decide))) (Still.set (k := 3) (o := 1) (v := .slice iu is.length ic) (heap_set (o := 0) (v := .slice vu es.length vc) (At.setOther (o := 5) (v := .int .i64 tt.y) (At.setOther (o := 4) (v := .int .i64 tt.x) (At.setOther (o := 3) (v := .int .i64 tt.a) (At.setOther (o := 2) (v := .int .i64 tt.kind) HS6.out.res (show w.heap.size ≠ w.heap.size + 1 by omega)) (show w.heap.size ≠ w.heap.size + 1 by omega)) (show w.heap.size ≠ w.heap.size + 1 by omega)) (show w.heap.size ≠ w.heap.size + 1 by omega))) (by decide))) (Still.set (k := 3) (o := 2) (v := .int .i64 tt.kind) (heap_set (o := 1) (v := .slice iu is.length ic) (heap_set (o := 0) (v := .slice vu es.length vc) (At.setOther (o := 5) (v := .int .i64 tt.y) (At.setOther (o := 4) (v := .int .i64 tt.x) (At.setOther (o := 3) (v := .int .i64 tt.a) (At.setOther (o := 2) (v := .int .i64 tt.kind) HS6.out.res (show w.heap.size ≠ w.heap.size + 1 by omega)) (show w.heap.size ≠ w.heap.size + 1 by omega)) (show w.heap.size ≠ w.heap.size + 1 by omega)) (show w.heap.size ≠ w.heap.size + 1 by omega)))) (by decide))) (Still.set (k := 3) (o := 3) (v := .int .i64 tt.a) (heap_set (o := 2) (v := .int .i64 tt.kind) (heap_set (o := 1) (v := .slice iu is.length ic) (heap_set (o := 0) (v := .slice vu es.length vc) (At.setOther (o := 5) (v := .int .i64 tt.y) (At.setOther (o := 4) (v := .int .i64 tt.x) (At.setOther (o := 3) (v := .int .i64 tt.a) (At.setOther (o := 2) (v := .int .i64 tt.kind) HS6.out.res (show w.heap.size ≠ w.heap.size + 1 by omega)) (show w.heap.size ≠ w.heap.size + 1 by omega)) (show w.heap.size ≠ w.heap.size + 1 by omega)) (show w.heap.size ≠ w.heap.size + 1 by omega))))) (by decide))) (Still.set (k := 3) (o := 4) (v := .int .i64 tt.x) (heap_set (o := 3) (v := .int .i64 tt.a) (heap_set (o := 2) (v := .int .i64 tt.kind) (heap_set (o := 1) (v := .slice iu is.length ic) (heap_set (o := 0) (v := .slice vu es.length vc) (At.setOther (o := 5) (v := .int .i64 tt.y) (At.setOther (o := 4) (v := .int .i64 tt.x) (At.setOther (o := 3) (v := .int .i64 tt.a) (At.setOther (o := 2) (v := .int .i64 tt.kind) HS6.out.res (show w.heap.size ≠ w.heap.size + 1 by omega)) (show w.heap.size ≠ w.heap.size + 1 by omega)) (show w.heap.size ≠ w.heap.size + 1 by omega)) (show w.heap.size ≠ w.heap.size + 1 by omega)))))) (by decide))) (Still.set (k := 3) (o := 5) (v := .int .i64 tt.y) (heap_set (o := 4) (v := .int .i64 tt.x) (heap_set (o := 3) (v := .int .i64 tt.a) (heap_set (o := 2) (v := .int .i64 tt.kind) (heap_set (o := 1) (v := .slice iu is.length ic) (heap_set (o := 0) (v := .slice vu es.length vc) (At.setOther (o := 5) (v := .int .i64 tt.y) (At.setOther (o := 4) (v := .int .i64 tt.x) (At.setOther (o := 3) (v := .int .i64 tt.a) (At.setOther (o := 2) (v := .int .i64 tt.kind) HS6.out.res (show w.heap.size ≠ w.heap.size + 1 by omega)) (show w.heap.size ≠ w.heap.size + 1 by omega)) (show w.heap.size ≠ w.heap.size + 1 by omega)) (show w.heap.size ≠ w.heap.size + 1 by omega))))))) (by decide)))
     have hz9 : w6.heap.size ≤ (((((((((((w6.setCell ⟨w.heap.size + 1, 2, none⟩ (.int .i64 tt.kind)).setCell ⟨w.heap.size + 1, 3, none⟩ (.int .i64 tt.a)).setCell ⟨w.heap.size + 1, 4, none⟩ (.int .i64 tt.x)).setCell ⟨w.heap.size + 1, 5, none⟩ (.int .i64 tt.y)).setCell ⟨w.heap.size, 0, none⟩ (.slice vu es.length vc)).setCell ⟨w.heap.size, 1, none⟩ (.slice iu is.length ic)).setCell ⟨w.heap.size, 2, none⟩ (.int .i64 tt.kind)).setCell ⟨w.heap.size, 3, none⟩ (.int .i64 tt.a)).setCell ⟨w.heap.size, 4, none⟩ (.int .i64 tt.x)).setCell ⟨w.heap.size, 5, none⟩ (.int .i64 tt.y))).heap.size := by simp only [World.size_setCell]; exact Nat.le_refl _
     generalize ((((((((((w6.setCell ⟨w.heap.size + 1, 2, none⟩ (.int .i64 tt.kind)).setCell ⟨w.heap.size + 1, 3, none⟩ (.int .i64 tt.a)).setCell ⟨w.heap.size + 1, 4, none⟩ (.int .i64 tt.x)).setCell ⟨w.heap.size + 1, 5, none⟩ (.int .i64 tt.y)).setCell ⟨w.heap.size, 0, none⟩ (.slice vu es.length vc)).setCell ⟨w.heap.size, 1, none⟩ (.slice iu is.length ic)).setCell ⟨w.heap.size, 2, none⟩ (.int .i64 tt.kind)).setCell ⟨w.heap.size, 3, none⟩ (.int .i64 tt.a)).setCell ⟨w.heap.size, 4, none⟩ (.int .i64 tt.x)).setCell ⟨w.heap.size, 5, none⟩ (.int .i64 tt.y)) = W9 at *
     have UU : OwnBk W9 w.heap.size W9.heap.size ⟨es, vu, vc, is, iu, ic, tt⟩ := ⟨w2.heap.size, by omega, by have := OO.size; have := hz9; omega, (OwnPhs.still HW6.out SS (by decide)).wide (by omega) (Nat.le_refl _), (OwnIns.still HX6.out SS (by decide)).wide (Nat.le_refl _) (by omega)⟩
     exact bodyPost_ret (v := .agg #[.slice vu es.length vc, .slice iu is.length ic, .int .i64 tt.kind, .int .i64 tt.a, .int .i64 tt.x, .int .i64 tt.y]) ((results_cell_row Tryz.results90 _ _ w.heap.size 86 _ (0, 0) _ rfl hr Tryz.underlying86 rfl (by kernel_rfl)).trans (by rfl)) rfl ⟨OO, .inl ⟨_, L7, HN.out, ⟨⟨es, vu, vc, is, iu, ic, tt⟩, rfl, rfl, UU⟩, RR⟩⟩
end Go.Proofs.YtojhakjkfkmklaaGreatDoor
