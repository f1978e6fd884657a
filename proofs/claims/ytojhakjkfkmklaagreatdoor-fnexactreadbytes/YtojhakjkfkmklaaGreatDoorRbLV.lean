import Derived.Test.YtojhakjkfkmklaaGreatDoorRbKV
namespace Go.Proofs.YtojhakjkfkmklaaGreatDoor
open Go.RowKit
set_option linter.unusedVariables false
set_option linter.unusedSimpArgs false
structure XSt (w wr : World) (a0 : Addr) (R B : Nat) (T : TypeId) (cs zs : Array Value) (L : List Int) : Prop where
 box : At wr (w.heap.size + 1) cs T
 res : At wr w.heap.size zs T
 rw_ : RwIn B wr R L
 fit : Fit L
 only : OnlyR R w wr
 gv : Gv wr 0 (errV a0)
 lt : R < w.heap.size
 leB : B ≤ w.heap.size
 ne : 0 ≠ R
 ltG : 0 < w.heap.size
theorem XSt.step {w wr w2 : World} {a0 : Addr} {R B : Nat} {T : TypeId} {cs zs : Array Value} {L L2 : List Int} (h : XSt w wr a0 R B T cs zs L) (ho : OnlyR R wr w2) (hr : RwIn B w2 R L2) (hf : Fit L2) : XSt w w2 a0 R B T cs zs L2 :=
 ⟨(ho.block _ h.box.lt (by have := h.lt; omega)).trans h.box, (ho.block _ h.res.lt (by have := h.lt; omega)).trans h.res, hr, hf, h.only.trans ho, h.gv.only ho h.ne, h.lt, h.leB, h.ne, h.ltG⟩
theorem XSt.keep {w wr w2 : World} {a0 : Addr} {R B : Nat} {T : TypeId} {cs zs : Array Value} {L : List Int} (h : XSt w wr a0 R B T cs zs L) (k : Below wr.heap.size wr w2) : XSt w w2 a0 R B T cs zs L :=
 h.step (OnlyR.below k) (h.rw_.keep k) h.fit
theorem XSt.grown {w wr w2 : World} {a0 : Addr} {R B : Nat} {T : TypeId} {cs zs : Array Value} {L : List Int} {r : Option Nat} (h : XSt w wr a0 R B T cs zs L) (k : wr.grownBy w2 r) (hr : ∀ g, r = some g → w.heap.size + 2 ≤ g) : XSt w w2 a0 R B T cs zs L := by
 have low : ∀ b, b < w.heap.size + 2 → w2.heap[b]? = wr.heap[b]? := fun b hb => k.block b (by have := h.box.lt; omega) (fun e => by have := hr b e.symm; omega)
 exact ⟨(low _ (by omega)).trans h.box, (low _ (by omega)).trans h.res, h.rw_.lower (N := w.heap.size) h.lt h.leB k.size (fun b hb => low b (by omega)), h.fit,
  ⟨k.os.trans h.only.os, k.tape.trans h.only.tape, k.output.trans h.only.output, Nat.le_trans h.only.size k.size, fun i hi hn => (low i (by omega)).trans (h.only.block i hi hn)⟩,
  ⟨(cell_block (low _ (by have := h.ltG; omega))).trans h.gv.cell, Nat.lt_of_lt_of_le h.gv.lt k.size⟩, h.lt, h.leB, h.ne, h.ltG⟩
theorem XSt.set {w wr : World} {a0 : Addr} {R B : Nat} {T : TypeId} {cs zs : Array Value} {L : List Int} (h : XSt w wr a0 R B T cs zs L) (o : Nat) (v : Value) : XSt w (wr.setCell ⟨w.heap.size + 1, o, none⟩ v) a0 R B T (cs.setIfInBounds o v) zs L :=
 ⟨heap_set (o := o) h.box, h.res.setOther (by omega), h.rw_.set (by have := h.leB; omega) (by have := h.lt; omega), h.fit, h.only.fresh (by omega), gv_setT h.gv (by have := h.ltG; omega), h.lt, h.leB, h.ne, h.ltG⟩
theorem pFunc_eq (L : List Int) : pFunc L = (pNext L).bind fun x => (pList x.2).bind fun ps => (pNext ps.2).bind fun n => (pMany pBlock n.1.toNat n.2).bind fun bs => some (⟨ps.1, x.1, bs.1⟩, bs.2) := by
 have hc : ∀ {α : Type} (p : Rdr α) (L : List Int), pCount p L = (pNext L).bind fun n => pMany p n.1.toNat n.2 := fun p L => by cases L <;> rfl
 cases L with
 | nil => rfl
 | cons x r =>
  rw [pFunc]
  simp only [pNext, Option.bind_some]
  cases pList r with
  | none => rfl
  | some ps =>
   obtain ⟨l, r2⟩ := ps
   dsimp only [Option.bind_some]
   rw [hc]
   cases r2 with
   | nil => rfl
   | cons y r3 =>
    dsimp only [pNext, Option.bind_some]
    cases pMany pBlock y.toNat r3 with
    | none => rfl
    | some bs => rfl
theorem infoBk : (Tryz.prog.info? 86).map (fun i => (i.zero, i.size, i.bytes)) = some (some (.agg #[.slice none 0 0, .slice none 0 0, .int .i64 0, .int .i64 0, .int .i64 0, .int .i64 0]), 6, 80) := by kernel_rfl
theorem infoFn : (Tryz.prog.info? 49).map (fun i => (i.zero, i.size, i.bytes)) = some (some (.agg #[.slice none 0 0, .int .i64 0, .slice none 0 0]), 3, 56) := by kernel_rfl
set_option maxHeartbeats 8000000 in
set_option maxRecDepth 100000 in
theorem takeFuncT (a : Addr) (B R : Nat) (L : List Int) (w : World) (h : RwIn B w R L) (hf : Fit L) (hv : Gv w 0 (errV a)) (hR : 0 ≠ R) (hBw : B ≤ w.heap.size) :
  Calls Tryz.prog 53 #[.pointer (some ⟨R, 0, none⟩)] w fun e w' => Took pFunc a B R L w (fun d e w' => ∃ f : FnE, f.d = d ∧ e = .returned (.agg #[.slice f.pu f.pars.length f.pc, .int .i64 f.ret, .slice f.bu f.bs.length f.bc]) ∧ OwnFn w' w.heap.size w'.heap.size f) e w' := by
 have hlt := h.lt
 have hgw := hv.lt
 obtain ⟨iB, hiB, zB, sB', bB⟩ := info_three infoBk
 have b1 : Below w.heap.size w ((w.alloc (.cells #[.slice none 0 0, .int .i64 0, .slice none 0 0] 49)).alloc (.cells #[.slice none 0 0, .int .i64 0, .slice none 0 0] 49)) := ((Below.refl _ _).alloc (Nat.le_refl _) _).alloc (by simp) _
 have HS0 : Hid (XSt w ((w.alloc (.cells #[.slice none 0 0, .int .i64 0, .slice none 0 0] 49)).alloc (.cells #[.slice none 0 0, .int .i64 0, .slice none 0 0] 49)) a R B 49 #[.slice none 0 0, .int .i64 0, .slice none 0 0] #[.slice none 0 0, .int .i64 0, .slice none 0 0] L) := ⟨heap_two2 _ _ _, (Below.heap_alloc _ _ _ (by simp)).trans (heap_alloc_last _ _), h.keep b1, hf, OnlyR.below b1, hv.keep b1, hlt, hBw, hR, hgw⟩
 have HP0 : Hid (pFunc L = _) := pFunc_eq L
 have N0 := nextT a B R L _ HS0.out.rw_ HS0.out.fit.len HS0.out.gv
 clear h hf hv b1
 go_enter Tryz.func53, Tryz.ntmps53
 go_wp2_with fail
 refine N0.mono ?_
 rintro e w1 ⟨o0, ⟨ret, L1, p0, rfl, q0⟩ | ⟨p0, rfl⟩⟩
 rotate_left
 ·have HN : Hid (pFunc L = none) := by show _ = _; rw [HP0.out, p0]; rfl
  have HO := HS0.out.only.trans o0
  clear p0 HP0 N0
  go_wp2_with fail
  exact ⟨rfl, HO, .inr ⟨HN.out, rfl⟩⟩
 have e9 := HP0.out
 rw [p0, Option.bind_some] at e9
 have HP1 : Hid (pFunc L = _) := e9
 obtain ⟨hf1, _⟩ := HS0.out.fit.next p0
 have HS1 : Hid (XSt w w1 a R B 49 #[.slice none 0 0, .int .i64 0, .slice none 0 0] #[.slice none 0 0, .int .i64 0, .slice none 0 0] L1) := HS0.out.step o0 q0 hf1
 have c0 : w1.cell? ⟨w.heap.size + 1, 1, none⟩ = some (.int .i64 0) := HS1.out.box.cell 1
 have f0 : w1.frozen? ⟨w.heap.size + 1, 1, none⟩ = false := froz_of_heap HS1.out.box
 have HS2 : Hid (XSt w (w1.setCell ⟨w.heap.size + 1, 1, none⟩ (.int .i64 ret)) a R B 49 #[.slice none 0 0, .int .i64 ret, .slice none 0 0] #[.slice none 0 0, .int .i64 0, .slice none 0 0] L1) := HS1.out.set 1 _
 have N1 := listT a B R L1 _ HS2.out.rw_ hf1.pos hf1.len HS2.out.gv hR
 clear e9 HP0 p0 N0 o0 q0 HS0 HS1
 go_wp2_with fail
 refine N1.mono ?_
 rintro e w2 ⟨o1, ⟨l, L2, p1, ⟨u, c, rfl, hu⟩, q1⟩ | ⟨p1, rfl⟩⟩
 rotate_left
 ·have HN : Hid (pFunc L = none) := by show _ = _; rw [HP1.out, p1]; rfl
  have HO := HS2.out.only.trans o1
  clear p1 HP1 N1
  go_wp2_with fail
  exact ⟨rfl, HO, .inr ⟨HN.out, rfl⟩⟩
 have e9 := HP1.out
 rw [p1, Option.bind_some] at e9
 have HP2 : Hid (pFunc L = _) := e9
 obtain ⟨hf2, hl2⟩ := HS2.out.fit.list p1
 have HS3 : Hid (XSt w w2 a R B 49 #[.slice none 0 0, .int .i64 ret, .slice none 0 0] #[.slice none 0 0, .int .i64 0, .slice none 0 0] L2) := HS2.out.step o1 q1 hf2
 have d0 : w2.cell? ⟨w.heap.size + 1, 0, none⟩ = some (.slice none 0 0) := HS3.out.box.cell 0
 have g0 : w2.frozen? ⟨w.heap.size + 1, 0, none⟩ = false := froz_of_heap HS3.out.box
 have HS4 : Hid (XSt w (w2.setCell ⟨w.heap.size + 1, 0, none⟩ (.slice u l.length c)) a R B 49 #[.slice u l.length c, .int .i64 ret, .slice none 0 0] #[.slice none 0 0, .int .i64 0, .slice none 0 0] L2) := HS3.out.set 0 _
 have hz1 : w.heap.size + 2 ≤ (w1.setCell ⟨w.heap.size + 1, 1, none⟩ (.int .i64 ret)).heap.size := HS2.out.box.lt
 have HI4 : Hid (OwnI (w2.setCell ⟨w.heap.size + 1, 0, none⟩ (.slice u l.length c)) (w.heap.size + 2) w2.heap.size u l) := (hu.still (Still.set (k := 3) HS3.out.box (by decide)) (by decide)).wide hz1 (Nat.le_refl _)
 have N2 := nextT a B R L2 _ HS4.out.rw_ HS4.out.fit.len HS4.out.gv
 have hz2 : w.heap.size + 2 ≤ w2.heap.size := HS3.out.box.lt
 clear e9 HP1 p1 N1 o1 q1 HS2 HS3 hu hz1 c0 f0
 go_wp2_with fail
 refine N2.mono ?_
 rintro e w3 ⟨o2, ⟨n, L3, p2, rfl, q2⟩ | ⟨p2, rfl⟩⟩
 rotate_left
 ·have HN : Hid (pFunc L = none) := by show _ = _; rw [HP2.out, p2]; rfl
  have HO := HS4.out.only.trans o2
  clear p2 HP2 N2
  go_wp2_with fail
  exact ⟨rfl, HO, .inr ⟨HN.out, rfl⟩⟩
 have e9 := HP2.out
 rw [p2, Option.bind_some] at e9
 have HP3 : Hid (pFunc L = _) := e9
 obtain ⟨hf3, hn0⟩ := HS4.out.fit.next p2
 have HS5 : Hid (XSt w w3 a R B 49 #[.slice u l.length c, .int .i64 ret, .slice none 0 0] #[.slice none 0 0, .int .i64 0, .slice none 0 0] L3) := HS4.out.step o2 q2 hf3
 have HI5 : Hid (OwnI w3 (w.heap.size + 2) w2.heap.size u l) := HI4.out.still (Still.only o2 HS4.out.rw_) (by decide)
 have hz3 : w2.heap.size ≤ w3.heap.size := by have := o2.size; simpa using this
 clear e9 HP2 p2 N2 o2 q2 HS4 HI4 d0 g0
 go_wp2_with fail
 go_loopw [12] (fun q wr => ∃ (j : Nat) (v : Value) (es : List BkE) (Lr : List Int), (j : Int) ≤ n ∧ q = .int .i64 j ∧ Hid (es.length = j) ∧ Hid (Lr.length + j ≤ 20000) ∧ Hid (pMany pBlock j L3 = some (es.map BkE.d, Lr)) ∧ Hid (XSt w wr a R B 49 #[.slice u l.length c, .int .i64 ret, v] #[.slice none 0 0, .int .i64 0, .slice none 0 0] Lr) ∧ Hid (OwnI wr (w.heap.size + 2) w2.heap.size u l) ∧ Hid (RowS 86 6 bkC wr w2.heap.size v es) ∧ Hid (Sub OwnBk wr w2.heap.size wr.heap.size es)) (fun q _ => n.toNat - (intOf q).toNat)
 case atStart => exact ⟨0, _, [], L3, hn0, rfl, rfl, hf3.len, rfl, HS5.out, HI5.out, RowS.nil _ _ _ _ _, hz3⟩
 case round =>
  clear HS5 HI5 hz3 hf3
  obtain ⟨j, v, es, Lr, hj, rfl, HJ, HJ2, HM, HS, HI, HR, HU⟩ := hrel
  obtain ⟨w4, hwo⟩ : ∃ w1, w1 = wr := ⟨_, rfl⟩
  subst hwo
  obtain ⟨vu, vc, rfl⟩ := HR.out.slice
  by_cases hjn : (j : Int) < n
  ·have hf4 := HS.out.fit
   have N3 := takeBlockT a B R Lr w4.drew HS.out.rw_ hf4 ⟨HS.out.gv.cell, HS.out.gv.lt⟩ hR (by have := HS.out.only.size; show B ≤ w4.heap.size; omega)
   have c0 : w4.cell? ⟨w.heap.size + 1, 2, none⟩ = some (.slice vu es.length vc) := HS.out.box.cell 2
   go_wp2_with fail
   refine startX (fun w' => w'.cell? ⟨w.heap.size + 1, 2, none⟩ = some (.slice vu es.length vc)) (fun i => decide (i = 7)) (by kernel_rfl) ?_
   refine takeX 0 (v := ?_) rfl rfl (by kernel_rfl) (fun _ _ _ h => h) (yesH (by rfl) ?_) c0 ?_
   rotate_left
   ·intro w9 hS9
    go_simp
    try with_reducible rfl
   try simp only [Act.put, sA, sB, sC]
   refine takeX 1 (v := ?_) rfl rfl (by kernel_rfl) (fun _ _ _ h => h) (yesH (by rfl) ?_) c0 ?_
   rotate_left
   ·intro w9 hS9
    have g0 := hS9
    go_simp
    try with_reducible rfl
   try simp only [Act.put, sA, sB, sC]
   refine takeX 2 (v := ?_) rfl rfl (by kernel_rfl) (fun _ _ _ h => h) (yesH (by rfl) ?_) c0 ?_
   rotate_left
   ·intro w9 hS9
    go_simp
    try with_reducible rfl
   try simp only [Act.put, sA, sB, sC]
   refine readyX 3 rfl (by kernel_rfl) (fun K hK => ?_)
   go_simp
   go_wp2_with fail
   refine N3.mono ?_
   rintro e w6 ⟨o2, ⟨d, L6, p2, ⟨b, hbd, rfl, hu⟩, q2⟩ | ⟨p2, rfl⟩⟩
   rotate_left
   ·have o3 : OnlyR R w4 w6 := ⟨o2.os, o2.tape, o2.output, o2.size, o2.block⟩
    have HN : Hid (pFunc L = none) := by
     show _ = _
     rw [HP3.out, pMany_stop HM.out p2 (show j < n.toNat by omega)]
     rfl
    have HO := HS.out.only.trans o3
    clear hK p2 HP3 N3
    go_wp2_with fail
    exact ⟨rfl, HO, .inr ⟨HN.out, rfl⟩⟩
   subst hbd
   have o3 : OnlyR R w4 w6 := ⟨o2.os, o2.tape, o2.output, o2.size, o2.block⟩
   have hyi := pBlock_yes hf4.pos p2
   have hli : 2 ≤ (blockM b.d).length := by unfold blockM phisM instsM; simp only [List.length_append, List.length_cons]; omega
   have HL6 : Hid (L6.length + (j + 1) ≤ 20000) := by
    have h2 := HJ2.out
    rw [hyi, List.length_append] at h2
    show _ ≤ _
    omega
   have hf6 : Fit L6 := ⟨by have := hf4.pos; rw [hyi] at this; exact this.right, by have := HL6.out; omega⟩
   have HS4 : Hid (XSt w w6 a R B 49 #[.slice u l.length c, .int .i64 ret, (.slice vu es.length vc)] #[.slice none 0 0, .int .i64 0, .slice none 0 0] L6) := HS.out.step o3 q2 hf6
   have ST4 : Hid (Still 9 w4 w6) := Still.only o3 HS.out.rw_
   have HI4 : Hid (OwnI w6 (w.heap.size + 2) w2.heap.size u l) := HI.out.still ST4.out (by decide)
   have HR4 : Hid (RowS 86 6 bkC w6 w2.heap.size (.slice vu es.length vc) es) := HR.out.still ST4.out (by decide)
   have HU4 : Hid (Sub OwnBk w6 w2.heap.size w6.heap.size (es ++ [b])) := Sub.snoc (HU.out.still fun _ _ _ h => OwnBk.still h ST4.out (by decide)) (Nat.le_refl _) o3.size hu
   have HM4 : Hid (pMany pBlock (j + 1) L3 = some ((es ++ [b]).map BkE.d, L6)) := by
    show _ = _
    rw [List.map_append]
    exact pMany_snoc HM.out p2
   have c4 : w6.cell? ⟨w.heap.size + 1, 2, none⟩ = some (.slice vu es.length vc) := HS4.out.box.cell 2
   have hj20 : j ≤ 20000 := by have h2 := HJ2.out; omega
   have hel2 : es.length ≤ 20000 := by have h1 := HJ.out; omega
   have hb6 : w2.heap.size ≤ w6.heap.size := HU4.out.le
   clear N3 o2 o3 p2 q2 hu HS HR HU HM HI ST4 c0 hyi hli hf4
   have b5 : Below w6.heap.size w6 (w6.alloc (.cells #[.slice b.pu b.ps.length b.pc, .slice b.iu b.is.length b.ic, .int .i64 b.t.kind, .int .i64 b.t.a, .int .i64 b.t.x, .int .i64 b.t.y] 86)) := (Below.refl _ _).alloc (Nat.le_refl _) _
   have HS5 : Hid (XSt w (w6.alloc (.cells #[.slice b.pu b.ps.length b.pc, .slice b.iu b.is.length b.ic, .int .i64 b.t.kind, .int .i64 b.t.a, .int .i64 b.t.x, .int .i64 b.t.y] 86)) a R B 49 #[.slice u l.length c, .int .i64 ret, (.slice vu es.length vc)] #[.slice none 0 0, .int .i64 0, .slice none 0 0] L6) := HS4.out.keep b5
   have ST5 : Still 9 w6 (w6.alloc (.cells #[.slice b.pu b.ps.length b.pc, .slice b.iu b.is.length b.ic, .int .i64 b.t.kind, .int .i64 b.t.a, .int .i64 b.t.x, .int .i64 b.t.y] 86)) := Still.below b5
   have HI5 : Hid (OwnI (w6.alloc (.cells #[.slice b.pu b.ps.length b.pc, .slice b.iu b.is.length b.ic, .int .i64 b.t.kind, .int .i64 b.t.a, .int .i64 b.t.x, .int .i64 b.t.y] 86)) (w.heap.size + 2) w2.heap.size u l) := HI4.out.still ST5 (by decide)
   have HR5 : Hid (RowS 86 6 bkC (w6.alloc (.cells #[.slice b.pu b.ps.length b.pc, .slice b.iu b.is.length b.ic, .int .i64 b.t.kind, .int .i64 b.t.a, .int .i64 b.t.x, .int .i64 b.t.y] 86)) w2.heap.size (.slice vu es.length vc) es) := HR4.out.still ST5 (by decide)
   have HU5 : Hid (Sub OwnBk (w6.alloc (.cells #[.slice b.pu b.ps.length b.pc, .slice b.iu b.is.length b.ic, .int .i64 b.t.kind, .int .i64 b.t.a, .int .i64 b.t.x, .int .i64 b.t.y] 86)) w2.heap.size ((w6.alloc (.cells #[.slice b.pu b.ps.length b.pc, .slice b.iu b.is.length b.ic, .int .i64 b.t.kind, .int .i64 b.t.a, .int .i64 b.t.x, .int .i64 b.t.y] 86))).heap.size (es ++ [b])) := (HU4.out.wide (Nat.le_refl _) b5.size).still fun _ _ _ h => OwnBk.still h ST5 (by decide)
   have c5 : ((w6.alloc (.cells #[.slice b.pu b.ps.length b.pc, .slice b.iu b.is.length b.ic, .int .i64 b.t.kind, .int .i64 b.t.a, .int .i64 b.t.x, .int .i64 b.t.y] 86))).cell? ⟨w.heap.size + 1, 2, none⟩ = some (.slice vu es.length vc) := HS5.out.box.cell 2
   obtain ⟨g6, cap6, w8, hrun, hown6, hgr6, _, _⟩ := run_append_lies (P := Tryz.prog) (w6.alloc (.cells #[.slice b.pu b.ps.length b.pc, .slice b.iu b.is.length b.ic, .int .i64 b.t.kind, .int .i64 b.t.a, .int .i64 b.t.x, .int .i64 b.t.y] 86)) 47 47 w2.heap.size 86 iB (.agg #[.slice none 0 0, .slice none 0 0, .int .i64 0, .int .i64 0, .int .i64 0, .int .i64 0]) 6 80 Tryz.underlying47 hiB zB sB' bB rfl (by decide) (.slice vu es.length vc) es.length (es.flatMap bkC) HR5.out ⟨w6.heap.size, 0, none⟩ 1 1 [.slice b.pu b.ps.length b.pc, .slice b.iu b.is.length b.ic, .int .i64 b.t.kind, .int .i64 b.t.a, .int .i64 b.t.x, .int .i64 b.t.y] rfl (World.news_of_block (At.new w6 #[.slice b.pu b.ps.length b.pc, .slice b.iu b.is.length b.ic, .int .i64 b.t.kind, .int .i64 b.t.a, .int .i64 b.t.x, .int .i64 b.t.y] 86)) (by simp [Value.oneCell']) (by decide) (by unfold maxLen; omega) (by omega) (Nat.le_trans hb6 b5.size) _ rfl
   have HS6 : Hid (XSt w w8 a R B 49 #[.slice u l.length c, .int .i64 ret, (.slice vu es.length vc)] #[.slice none 0 0, .int .i64 0, .slice none 0 0] L6) := HS5.out.grown hgr6 (fun g e => Nat.le_trans hz2 (HR5.out.ge e).1)
   have ST6 : Still 3 (w6.alloc (.cells #[.slice b.pu b.ps.length b.pc, .slice b.iu b.is.length b.ic, .int .i64 b.t.kind, .int .i64 b.t.a, .int .i64 b.t.x, .int .i64 b.t.y] 86)) w8 := Still.grown hgr6 (fun g e => by obtain ⟨_, cur, hc⟩ := HR5.out.ge e; exact ⟨cur, _, hc, by decide⟩)
   have HI6 : Hid (OwnI w8 (w.heap.size + 2) w2.heap.size u l) := HI5.out.still ST6 (by decide)
   have HR6 : Hid (RowS 86 6 bkC w8 w2.heap.size (.slice (some ⟨g6, 0, none⟩) (es.length + 1) cap6) (es ++ [b])) := RowS.push hown6
   have HU6 : Hid (Sub OwnBk w8 w2.heap.size w8.heap.size (es ++ [b])) := (HU5.out.wide (Nat.le_refl _) hgr6.size).still fun _ _ _ h => OwnBk.still h ST6 (by decide)
   have HS7 : Hid (XSt w (w8.setCell ⟨w.heap.size + 1, 2, none⟩ (.slice (some ⟨g6, 0, none⟩) (es.length + 1) cap6)) a R B 49 #[.slice u l.length c, .int .i64 ret, (.slice (some ⟨g6, 0, none⟩) (es.length + 1) cap6)] #[.slice none 0 0, .int .i64 0, .slice none 0 0] L6) := HS6.out.set 2 _
   have ST7 : Still 4 w8 (w8.setCell ⟨w.heap.size + 1, 2, none⟩ (.slice (some ⟨g6, 0, none⟩) (es.length + 1) cap6)) := Still.set HS6.out.box (by decide)
   have HI7 : Hid (OwnI (w8.setCell ⟨w.heap.size + 1, 2, none⟩ (.slice (some ⟨g6, 0, none⟩) (es.length + 1) cap6)) (w.heap.size + 2) w2.heap.size u l) := HI6.out.still ST7 (by decide)
   have HR7 : Hid (RowS 86 6 bkC (w8.setCell ⟨w.heap.size + 1, 2, none⟩ (.slice (some ⟨g6, 0, none⟩) (es.length + 1) cap6)) w2.heap.size (.slice (some ⟨g6, 0, none⟩) (es.length + 1) cap6) (es ++ [b])) := HR6.out.still ST7 (by decide)
   have HU7 : Hid (Sub OwnBk (w8.setCell ⟨w.heap.size + 1, 2, none⟩ (.slice (some ⟨g6, 0, none⟩) (es.length + 1) cap6)) w2.heap.size ((w8.setCell ⟨w.heap.size + 1, 2, none⟩ (.slice (some ⟨g6, 0, none⟩) (es.length + 1) cap6))).heap.size (es ++ [b])) := (HU6.out.wide (Nat.le_refl _) (by simp only [World.size_setCell]; exact Nat.le_refl _)).still fun _ _ _ h => OwnBk.still h ST7 (by decide)
   have c6 : w8.cell? ⟨w.heap.size + 1, 2, none⟩ = some (.slice vu es.length vc) := HS6.out.box.cell 2
   have f6 : w8.frozen? ⟨w.heap.size + 1, 2, none⟩ = false := froz_of_heap HS6.out.box
   clear b5 HS5 ST5 HR5 HU5 HI5 ST6 HR6 HU6 HI6 ST7 HS4 HR4 HU4 HI4 hown6 hgr6 HS6 hb6
   refine hK.out _ _ (.inr c4) ?_
   clear hK K
   try simp only [Act.put, sA, sB, sC]
   refine readyX 4 rfl (by kernel_rfl) (fun K hK => ?_)
   go_simp
   refine hK.out _ _ (.inr c5) ?_
   clear hK K
   try simp only [Act.put, sA, sB, sC]
   refine readyX 5 rfl (by kernel_rfl) (fun K hK => ?_)
   refine step_runP rfl _ _ _ rfl rfl rfl hrun ?_
   refine hK.out _ _ (.inr c6) ?_
   clear hK K hrun
   try simp only [Act.put, sA, sB, sC]
   refine takeX 6 (v := ?_) rfl rfl (by kernel_rfl) (fun _ _ _ h => h) (yesH (by rfl) ?_) c6 ?_
   rotate_left
   ·intro w9 hS9
    go_simp
    try with_reducible rfl
   try simp only [Act.put, sA, sB, sC]
   refine readyX 7 rfl (by kernel_rfl) (fun K hK => ?_)
   go_simp
   refine hK.out _ _ (.inl rfl) ?_
   clear hK K
   refine doneX (by kernel_rfl) ?_ _
   go_wp2_with fail
   go_roundw
   case rel =>
    exact ⟨j + 1, _, _, L6, by omega, by go_num, (by show (es ++ [_]).length = j + 1; rw [List.length_append, HJ.out]; rfl), HL6.out, HM4.out, HS7.out, HI7.out, HR7.out, HU7.out⟩
   case measure => simp [intOf]; omega
  ·have e9 := HP3.out
   rw [show n.toNat = j by omega, HM.out, Option.bind_some] at e9
   have HN : Hid (pFunc L = some (⟨l, ret, es.map BkE.d⟩, Lr)) := e9
   have hel2 : es.length ≤ 20000 := by have h1 := HJ.out; have h2 := HJ2.out; omega
   have HX : Hid (OwnBks w4 w2.heap.size w4.heap.size vu es) := RowS.own (fun _ => rfl) (by omega) HR.out HU.out (Nat.le_refl _) (Nat.le_refl _)
   have hz4 : w2.heap.size ≤ w4.heap.size := HU.out.le
   clear e9 HP3 HM HR HU HJ HJ2
   have c0 : w4.cell? ⟨w.heap.size + 1, 0, none⟩ = some (.slice u l.length c) := HS.out.box.cell 0
   have c1 : w4.cell? ⟨w.heap.size + 1, 1, none⟩ = some (.int .i64 ret) := HS.out.box.cell 1
   have c2 : w4.cell? ⟨w.heap.size + 1, 2, none⟩ = some (.slice vu es.length vc) := HS.out.box.cell 2
   have r0 : w4.cell? ⟨w.heap.size, 0, none⟩ = some (.slice none 0 0) := HS.out.res.cell 0
   have r1 : w4.cell? ⟨w.heap.size, 1, none⟩ = some (.int .i64 0) := HS.out.res.cell 1
   have r2 : w4.cell? ⟨w.heap.size, 2, none⟩ = some (.slice none 0 0) := HS.out.res.cell 2
   have rf : ∀ o, w4.frozen? ⟨w.heap.size, o, none⟩ = false := fun o => froz_of_heap HS.out.res
   go_wp2_with fail
   have hr := (heap_set (o := 2) (v := .slice vu es.length vc) (heap_set (o := 1) (v := .int .i64 ret) (heap_set (o := 0) (v := .slice u l.length c) HS.out.res)))
   have OO : OnlyR R w (((w4.setCell ⟨w.heap.size, 0, none⟩ (.slice u l.length c)).setCell ⟨w.heap.size, 1, none⟩ (.int .i64 ret)).setCell ⟨w.heap.size, 2, none⟩ (.slice vu es.length vc)) := (OnlyR.fresh (g := w.heap.size) (o := 2) (v := .slice vu es.length vc) (OnlyR.fresh (g := w.heap.size) (o := 1) (v := .int .i64 ret) (OnlyR.fresh (g := w.heap.size) (o := 0) (v := .slice u l.length c) HS.out.only (by omega)) (by omega)) (by omega))
   have RR : RwIn B (((w4.setCell ⟨w.heap.size, 0, none⟩ (.slice u l.length c)).setCell ⟨w.heap.size, 1, none⟩ (.int .i64 ret)).setCell ⟨w.heap.size, 2, none⟩ (.slice vu es.length vc)) R Lr := (RwIn.set (g := w.heap.size) (o := 2) (v := .slice vu es.length vc) (RwIn.set (g := w.heap.size) (o := 1) (v := .int .i64 ret) (RwIn.set (g := w.heap.size) (o := 0) (v := .slice u l.length c) HS.out.rw_ (by omega) (by omega)) (by omega) (by omega)) (by omega) (by omega))
   have SS : Still 4 w4 (((w4.setCell ⟨w.heap.size, 0, none⟩ (.slice u l.length c)).setCell ⟨w.heap.size, 1, none⟩ (.int .i64 ret)).setCell ⟨w.heap.size, 2, none⟩ (.slice vu es.length vc)) := (Still.trans (Still.trans (Still.set (k := 4) (o := 0) (v := .slice u l.length c) HS.out.res (by decide)) (Still.set (k := 4) (o := 1) (v := .int .i64 ret) (heap_set (o := 0) (v := .slice u l.length c) HS.out.res) (by decide))) (Still.set (k := 4) (o := 2) (v := .slice vu es.length vc) (heap_set (o := 1) (v := .int .i64 ret) (heap_set (o := 0) (v := .slice u l.length c) HS.out.res)) (by decide)))
   have hz9 : w4.heap.size ≤ ((((w4.setCell ⟨w.heap.size, 0, none⟩ (.slice u l.length c)).setCell ⟨w.heap.size, 1, none⟩ (.int .i64 ret)).setCell ⟨w.heap.size, 2, none⟩ (.slice vu es.length vc))).heap.size := by simp only [World.size_setCell]; exact Nat.le_refl _
   generalize (((w4.setCell ⟨w.heap.size, 0, none⟩ (.slice u l.length c)).setCell ⟨w.heap.size, 1, none⟩ (.int .i64 ret)).setCell ⟨w.heap.size, 2, none⟩ (.slice vu es.length vc)) = W9 at *
   have UU : OwnFn W9 w.heap.size W9.heap.size ⟨l, u, c, ret, es, vu, vc⟩ := ⟨w2.heap.size, by omega, by omega, (HI.out.still SS (by decide)).wide (by omega) (Nat.le_refl _), (OwnBks.still HX.out SS (by decide)).wide (Nat.le_refl _) (by omega)⟩
   exact bodyPost_ret (v := .agg #[.slice u l.length c, .int .i64 ret, .slice vu es.length vc]) ((results_cell_row Tryz.results53 _ _ w.heap.size 49 _ (0, 0) _ rfl hr Tryz.underlying49 rfl (by kernel_rfl)).trans (by rfl)) rfl ⟨OO, .inl ⟨_, Lr, HN.out, ⟨⟨l, u, c, ret, es, vu, vc⟩, rfl, rfl, UU⟩, RR⟩⟩
end Go.Proofs.YtojhakjkfkmklaaGreatDoor
