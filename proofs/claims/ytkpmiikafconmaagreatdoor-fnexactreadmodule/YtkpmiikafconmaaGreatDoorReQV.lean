import Derived.Test.YtkpmiikafconmaaGreatDoorRePV
namespace Go.Proofs.YtkpmiikafconmaaGreatDoor
open Go.RowKit
set_option linter.unusedVariables false
set_option linter.unusedSimpArgs false
theorem terms_but {x : List UInt8} (h1 : x ≠ [114, 101, 116]) (h2 : x ≠ [106, 117, 109, 112]) (h3 : x ≠ [98, 114, 97, 110, 99, 104]) (h4 : x ≠ [116, 114, 97, 112]) : ∀ k : Fin 5, 1 ≤ k.1 → x ≠ tmWL.getD k.1 [] := by
 have key : ∀ k : Fin 5, 1 ≤ k.1 → tmWL.getD k.1 [] = [114, 101, 116] ∨ tmWL.getD k.1 [] = [106, 117, 109, 112] ∨ tmWL.getD k.1 [] = [98, 114, 97, 110, 99, 104] ∨ tmWL.getD k.1 [] = [116, 114, 97, 112] := by decide
 intro k hk e
 rcases key k hk with h | h | h | h <;> rw [h] at e
 ·exact h1 e
 ·exact h2 e
 ·exact h3 e
 ·exact h4 e
theorem line_read {s : ByteArray} {i : InstD} (h : LineIs s (insL i)) (hi : instB i 60 3 = true) : ReadOk s i := by
 obtain ⟨w0, ws, h1, h2, h3⟩ := h
 exact read_back h1 h2 h3 hi
theorem setCells_three (w : World) (g o : Nat) (a b c : Value) : w.setCells g o [a, b, c] = ((w.setCell ⟨g, o, none⟩ a).setCell ⟨g, o + 1, none⟩ b).setCell ⟨g, o + 2, none⟩ c := rfl
theorem setCells_six (w : World) (g o : Nat) (a b c d e f : Value) : w.setCells g o [a, b, c, d, e, f] = (((((w.setCell ⟨g, o, none⟩ a).setCell ⟨g, o + 1, none⟩ b).setCell ⟨g, o + 2, none⟩ c).setCell ⟨g, o + 3, none⟩ d).setCell ⟨g, o + 4, none⟩ e).setCell ⟨g, o + 5, none⟩ f := rfl
theorem drew_set (w : World) (a : Addr) (v : Value) : (w.setCell a v).drew = w.drew.setCell a v := rfl
set_option maxHeartbeats 8000000 in
set_option maxRecDepth 100000 in
theorem lineO (R T n : Nat) (fs : List FnE) (f : FnE) (bs' : List BkE) (x : BkE) (v : Value) (s : ByteArray) (w : World) (h : OpS w R T n fs f bs' x v) (hn : n ≤ 20000) (hs : s.size ≤ 1048576) :
  Calls Tryz.prog 33 #[.pointer (some ⟨R, 0, none⟩), .string s] w fun e w' => LineT R n s (stO fs f bs' x) w e w' := by
 obtain ⟨vu, vc, hv⟩ := h.row.slice
 have e0 : (fs ++ [f]).length = fs.length + 1 := by simp
 rw [e0] at hv
 subst hv
 have hfl := h.len
 have hR : R < w.heap.size := h.box.lt
 have HS : Hid (OpS w R T n fs f bs' x (.slice vu (fs.length + 1) vc)) := h
 have SP := splitL s w hs
 clear h
 go_enter Tryz.func33, Tryz.ntmps33
 go_wp2_with fail
 refine SP.mono ?_
 rintro e w1 ⟨⟨word, l, lu, lc, ok, rfl, hrow, hll, _, hT⟩, b1⟩
 have HT : Hid (LnTold s word l ok) := hT
 have HB1 : Hid (Below w.heap.size w w1) := b1
 have HA1 : Hid (At w1 R #[.slice vu (fs.length + 1) vc, .bool true] 62) := HS.out.box.below b1
 have z1 : w.heap.size ≤ w1.heap.size := b1.size
 obtain ⟨HI0, hlc, hcm⟩ := IntsB2.of hrow
 have HI : Hid (IntsB2 w1 w.heap.size w1.heap.size lu l) := HI0
 clear SP hrow hT b1 HI0
 have LS := lastS R vu (fs.length + 1) vc true w1 HA1.out (by omega)
 rw [show (((fs.length + 1 : Nat) : Int) - 1) = ((fs.length : Nat) : Int) by omega] at LS
 go_wp2_with fail
 refine LS.mono ?_
 rintro e w2 ⟨rfl, h9⟩
 have h8 := h9.symm
 clear h9 LS
 subst h8
 have c1 : w1.cell? ⟨R, 1, none⟩ = some (.bool true) := HA1.out.cell 1
 have HBR : Hid (Below R w w1) := HB1.out.mono (by omega)
 have hk0 : ¬ (fs.length : Int) < 0 := by omega
 cases hok : ok
 ·subst hok
  have HNo : Hid (∀ y q', LineIs s y → LnOk y → ¬ Step (stO fs f bs' x) y q') := fun y q' hy hk _ => absurd (HT.out y hy hk).1 (by simp)
  go_wp2_with fail
  go_ret
  exact ⟨.inr ⟨rfl, HNo.out⟩, HBR.out⟩
 subst hok
 by_cases hf : word = bs wFun
 ·have q1 : (word.toList == [102, 117, 110, 99]) = true := wd_yes (u := wFun) hf
  have HNo : Hid (∀ y q', LineIs s y → LnOk y → ¬ Step (stO fs f bs' x) y q') := fun y q' hy hk hst => by
   have h3 := (HT.out y hy hk).2.1
   rw [hf] at h3
   exact (st_op_no hst).1 (bs_inj h3).symm
  clear hf
  go_wp2_with fail
  go_ret
  exact ⟨.inr ⟨rfl, HNo.out⟩, HBR.out⟩
 by_cases hb : word = bs wBlk
 ·have q1 : (word.toList == [102, 117, 110, 99]) = false := wd_no (u := wFun) hf
  have q3 : (word.toList == [98, 108, 111, 99, 107]) = true := wd_yes (u := wBlk) hb
  have HNo : Hid (∀ y q', LineIs s y → LnOk y → ¬ Step (stO fs f bs' x) y q') := fun y q' hy hk hst => by
   have h3 := (HT.out y hy hk).2.1
   rw [hb] at h3
   exact (st_op_no hst).2 (bs_inj h3).symm
  clear hb hf
  go_wp2_with fail
  go_ret
  exact ⟨.inr ⟨rfl, HNo.out⟩, HBR.out⟩
 have q1 : (word.toList == [102, 117, 110, 99]) = false := wd_no (u := wFun) hf
 have q3 : (word.toList == [98, 108, 111, 99, 107]) = false := wd_no (u := wBlk) hb
 have HS1 : Hid (OpS w1 R T n fs f bs' x (.slice vu (fs.length + 1) vc)) := HS.out.keep HB1.out
 obtain ⟨g, gcur, hgv, hgb, hgh, hgc⟩ := RowS.cellAt (C := fnC) (s := 3) (fun _ => rfl) HS1.out.row (i := fs.length) (e := f) (by simp)
 subst hgv
 have eb : f.bs.length = bs'.length + 1 := by rw [HS1.out.fbs]; simp
 have HKr := HS1.out.blk
 rw [eb] at HKr
 obtain ⟨q, qcur, hqv, hqb, hqh, hqc⟩ := RowS.cellAt (C := bkC) (s := 6) (fun _ => rfl) HKr (i := bs'.length) (e := x) (by rw [HS1.out.fbs]; simp)
 have x0 : w1.cell? ⟨g, fs.length * 3, none⟩ = some (.slice f.pu f.pars.length f.pc) := hgc 0 (by decide)
 have x1 : w1.cell? ⟨g, fs.length * 3 + 1, none⟩ = some (.int .i64 f.ret) := hgc 1 (by decide)
 have x2 : w1.cell? ⟨g, fs.length * 3 + 2, none⟩ = some (.slice (some ⟨q, 0, none⟩) (bs'.length + 1) f.bc) := by
  have := hgc 2 (by decide)
  rw [this]
  show some (Value.slice f.bu f.bs.length f.bc) = _
  rw [hqv, eb]
 have y0 : w1.cell? ⟨q, bs'.length * 6, none⟩ = some (.slice x.pu x.ps.length x.pc) := hqc 0 (by decide)
 have y1 : w1.cell? ⟨q, bs'.length * 6 + 1, none⟩ = some (.slice x.iu x.is.length x.ic) := hqc 1 (by decide)
 have y2 : w1.cell? ⟨q, bs'.length * 6 + 2, none⟩ = some (.int .i64 0) := by have := hqc 2 (by decide); rw [this]; show some (Value.int .i64 x.t.kind) = _; rw [HS1.out.tk]
 have y3 : w1.cell? ⟨q, bs'.length * 6 + 3, none⟩ = some (.int .i64 0) := by have := hqc 3 (by decide); rw [this]; show some (Value.int .i64 x.t.a) = _; rw [HS1.out.tk]
 have y4 : w1.cell? ⟨q, bs'.length * 6 + 4, none⟩ = some (.int .i64 0) := by have := hqc 4 (by decide); rw [this]; show some (Value.int .i64 x.t.x) = _; rw [HS1.out.tk]
 have y5 : w1.cell? ⟨q, bs'.length * 6 + 5, none⟩ = some (.int .i64 0) := by have := hqc 5 (by decide); rw [this]; show some (Value.int .i64 x.t.y) = _; rw [HS1.out.tk]
 have hgl : g < w1.heap.size := (Array.getElem?_eq_some_iff.1 hgh).1
 have hql : q < w1.heap.size := (Array.getElem?_eq_some_iff.1 hqh).1
 have BF : Below w1.heap.size w1 (w1.alloc (.cells #[.slice f.pu f.pars.length f.pc, .int .i64 f.ret, .slice (some ⟨q, 0, none⟩) (bs'.length + 1) f.bc] 55)) := (Below.refl _ _).alloc (Nat.le_refl _) _
 have y0A : (w1.alloc (.cells #[.slice f.pu f.pars.length f.pc, .int .i64 f.ret, .slice (some ⟨q, 0, none⟩) (bs'.length + 1) f.bc] 55)).cell? ⟨q, bs'.length * 6, none⟩ = some (.slice x.pu x.ps.length x.pc) := (BF.cell hql).trans y0
 have y1A : (w1.alloc (.cells #[.slice f.pu f.pars.length f.pc, .int .i64 f.ret, .slice (some ⟨q, 0, none⟩) (bs'.length + 1) f.bc] 55)).cell? ⟨q, bs'.length * 6 + 1, none⟩ = some (.slice x.iu x.is.length x.ic) := (BF.cell hql).trans y1
 have y2A : (w1.alloc (.cells #[.slice f.pu f.pars.length f.pc, .int .i64 f.ret, .slice (some ⟨q, 0, none⟩) (bs'.length + 1) f.bc] 55)).cell? ⟨q, bs'.length * 6 + 2, none⟩ = some (.int .i64 0) := (BF.cell hql).trans y2
 have y3A : (w1.alloc (.cells #[.slice f.pu f.pars.length f.pc, .int .i64 f.ret, .slice (some ⟨q, 0, none⟩) (bs'.length + 1) f.bc] 55)).cell? ⟨q, bs'.length * 6 + 3, none⟩ = some (.int .i64 0) := (BF.cell hql).trans y3
 have y4A : (w1.alloc (.cells #[.slice f.pu f.pars.length f.pc, .int .i64 f.ret, .slice (some ⟨q, 0, none⟩) (bs'.length + 1) f.bc] 55)).cell? ⟨q, bs'.length * 6 + 4, none⟩ = some (.int .i64 0) := (BF.cell hql).trans y4
 have y5A : (w1.alloc (.cells #[.slice f.pu f.pars.length f.pc, .int .i64 f.ret, .slice (some ⟨q, 0, none⟩) (bs'.length + 1) f.bc] 55)).cell? ⟨q, bs'.length * 6 + 5, none⟩ = some (.int .i64 0) := (BF.cell hql).trans y5
 have hqR : q ≠ R := by have := HS1.out.hR; omega
 have hgR : g ≠ R := by omega
 have hgq : g ≠ q := ne_types hgh hqh (by decide)
 have hRl : R < w1.heap.size := by omega
 have c0 : w1.cell? ⟨R, 0, none⟩ = some (.slice (some ⟨g, 0, none⟩) (fs.length + 1) vc) := HA1.out.cell 0
 have hk2 : (fs.length : Int) < (fs.length : Int) + 1 := by omega
 have hk3 : (0 : Int) ≤ (fs.length : Int) := Int.natCast_nonneg _
 have hj1 : (bs'.length : Int) + 1 - 1 = (bs'.length : Int) := by omega
 have hj2 : (bs'.length : Int) < (bs'.length : Int) + 1 := by omega
 have hj3 : (0 : Int) ≤ (bs'.length : Int) := Int.natCast_nonneg _
 have hbn : bs'.length ≤ 20000 := by have := HS1.out.lb; omega
 have HQV : Hid (f.bu = some ⟨q, 0, none⟩) := hqv
 have HF : Hid (¬ word = bs wFun) := hf
 have HBk : Hid (¬ word = bs wBlk) := hb
 have eX : (w1.alloc (.cells #[.slice f.pu f.pars.length f.pc, .int .i64 f.ret, .slice (some ⟨q, 0, none⟩) (bs'.length + 1) f.bc] 55)).heap.size = w1.heap.size + 1 := by simp
 have hAF : Hid (At ((w1.alloc (.cells #[.slice f.pu f.pars.length f.pc, .int .i64 f.ret, .slice (some ⟨q, 0, none⟩) (bs'.length + 1) f.bc] 55)).alloc (.cells #[.slice x.pu x.ps.length x.pc, .slice x.iu x.is.length x.ic, .int .i64 0, .int .i64 0, .int .i64 0, .int .i64 0] 74)) w1.heap.size #[.slice f.pu f.pars.length f.pc, .int .i64 f.ret, .slice (some ⟨q, 0, none⟩) (bs'.length + 1) f.bc] 55) := (At.new w1 _ _).below ((Below.refl _ _).alloc (by simp) _)
 have hAX : Hid (At ((w1.alloc (.cells #[.slice f.pu f.pars.length f.pc, .int .i64 f.ret, .slice (some ⟨q, 0, none⟩) (bs'.length + 1) f.bc] 55)).alloc (.cells #[.slice x.pu x.ps.length x.pc, .slice x.iu x.is.length x.ic, .int .i64 0, .int .i64 0, .int .i64 0, .int .i64 0] 74)) (w1.heap.size + 1) #[.slice x.pu x.ps.length x.pc, .slice x.iu x.is.length x.ic, .int .i64 0, .int .i64 0, .int .i64 0, .int .i64 0] 74) := by
  have := At.new (w1.alloc (.cells #[.slice f.pu f.pars.length f.pc, .int .i64 f.ret, .slice (some ⟨q, 0, none⟩) (bs'.length + 1) f.bc] 55)) #[.slice x.pu x.ps.length x.pc, .slice x.iu x.is.length x.ic, .int .i64 0, .int .i64 0, .int .i64 0, .int .i64 0] 74
  rwa [eX] at this
 have hBX : Hid (Below w1.heap.size w1 ((w1.alloc (.cells #[.slice f.pu f.pars.length f.pc, .int .i64 f.ret, .slice (some ⟨q, 0, none⟩) (bs'.length + 1) f.bc] 55)).alloc (.cells #[.slice x.pu x.ps.length x.pc, .slice x.iu x.is.length x.ic, .int .i64 0, .int .i64 0, .int .i64 0, .int .i64 0] 74))) := BF.alloc (by simp) _
 have hzX : ((w1.alloc (.cells #[.slice f.pu f.pars.length f.pc, .int .i64 f.ret, .slice (some ⟨q, 0, none⟩) (bs'.length + 1) f.bc] 55)).alloc (.cells #[.slice x.pu x.ps.length x.pc, .slice x.iu x.is.length x.ic, .int .i64 0, .int .i64 0, .int .i64 0, .int .i64 0] 74)).heap.size = w1.heap.size + 2 := by simp
 clear BF hf hb hgh hgc hqh hqc hqv eb HKr e0 eX
 go_upto_block 0 with fail
 clear y0A y1A y2A y3A y4A y5A y0 y1 y2 y3 y4 y5 x0 x1 x2 c0 c1 q1 q3 hk0 hj1 hbn
 obtain ⟨W2, hW2⟩ : ∃ W, ((w1.alloc (.cells #[.slice f.pu f.pars.length f.pc, .int .i64 f.ret, .slice (some ⟨q, 0, none⟩) (bs'.length + 1) f.bc] 55)).alloc (.cells #[.slice x.pu x.ps.length x.pc, .slice x.iu x.is.length x.ic, .int .i64 0, .int .i64 0, .int .i64 0, .int .i64 0] 74)) = W := ⟨_, rfl⟩
 rw [hW2] at hAF hAX hBX hzX ⊢
 clear hW2
 have HB2 : Hid (Below R w W2) := HBR.out.trans (hBX.out.mono (by omega))
 go_cut [] (fun wc => ∃ y : BkE, Hid (MidS wc R T n fs f bs' x y (.slice (some ⟨g, 0, none⟩) (fs.length + 1) vc)) ∧ Hid (At wc w1.heap.size #[.slice f.pu f.pars.length f.pc, .int .i64 f.ret, .slice (some ⟨q, 0, none⟩) (bs'.length + 1) f.bc] 55) ∧ Hid (At wc (w1.heap.size + 1) #[.slice y.pu y.ps.length y.pc, .slice y.iu y.is.length y.ic, .int .i64 y.t.kind, .int .i64 y.t.a, .int .i64 y.t.x, .int .i64 y.t.y] 74) ∧ Hid (Below R w wc) ∧ Hid (∀ z q', LineIs s z → LnOk z → Step (stO fs f bs' x) z q' → q' = nxtO fs f bs' y))
 case first =>
  by_cases hph : word = bs wPhi
  ·have p1 : (word.toList == [112, 104, 105]) = true := wd_yes (u := wPhi) hph
   have HP : Hid (word = bs wPhi) := hph
   clear hph
   by_cases hl0 : l = []
   ·have HNo : Hid (∀ z q', LineIs s z → LnOk z → ¬ Step (stO fs f bs' x) z q') := fun z q' hz hk hst => by
     have h3 := (HT.out z hz hk).2.1
     rw [HP.out] at h3
     obtain ⟨p, h4, _⟩ := st_phi hst (bs_inj h3).symm
     rw [← (HT.out z hz hk).2.2, hl0] at h4
     cases h4
    have q2 : ((l.length : Int) == 0) = true := by rw [hl0]; rfl
    clear hl0
    go_wp2_with fail
    go_ret
    exact ⟨.inr ⟨rfl, HNo.out⟩, HB2.out⟩
   ·obtain ⟨iP, hiP, zP, sP, bP⟩ := info_three infoPh
    obtain ⟨r, ps, hlr⟩ : ∃ r ps, l = r :: ps := by
     cases l with
     | nil => exact absurd rfl hl0
     | cons r ps => exact ⟨r, ps, rfl⟩
    have HL : Hid (l = r :: ps) := hlr
    have hl1 : l.length - 1 = ps.length := by rw [hlr]; simp
    have hl2 : 0 < l.length := by rw [hlr]; simp
    have hl3 : (1 : Int) ≤ (l.length : Int) := by omega
    obtain ⟨b, lcur, rfl, hb1, hb2, _, hb3, hb4⟩ : ∃ b cur, lu = some ⟨b, 0, none⟩ ∧ w.heap.size ≤ b ∧ b < w1.heap.size ∧ w1.heap.size ≤ w1.heap.size ∧ w1.heap[b]? = some (.cells cur 2 (0, 0)) ∧ ∀ i, i < l.length → cur[i]? = some (.int .i64 (l.getD i 0)) := by
     rcases HI.out with h | h
     ·exact absurd h hl0
     ·exact h
    have hb5 : W2.heap[b]? = some (.cells lcur 2 (0, 0)) := (hBX.out.block b hb2).trans hb3
    have cb : W2.cell? ⟨b, 0, none⟩ = some (.int .i64 r) := by rw [cell_of_heap hb5, hb4 0 (by omega), hlr]; rfl
    obtain ⟨pu, hpu⟩ : ∃ pu : Option Addr, (if lc = 1 then some (⟨b, 0, none⟩ : Addr) else some ⟨b, 1, none⟩) = pu := ⟨_, rfl⟩
    have HTl : Hid (IntA2 W2 w.heap.size pu ps) := by
     have k : IntA2 w1 w.heap.size (some ⟨b, 1, none⟩) ps := IntsB2.tail1 (x := r) (by have := HI.out; rw [hlr] at this; exact this) (by omega)
     by_cases h1 : lc = 1
     ·have e : ps = [] := List.eq_nil_of_length_eq_zero (by omega)
      rw [e]
      exact IntO.nil _ _ _ _
     ·rw [← hpu, if_neg h1]
      exact k.kp hBX.out
    have q2 : ((l.length : Int) == 0) = false := by simp; omega
    have m0 : W2.cell? ⟨w1.heap.size + 1, 0, none⟩ = some (.slice x.pu x.ps.length x.pc) := hAX.out.cell 0
    have HLb1 : Hid (W2.heap[b]? = some (.cells lcur 2 (0, 0))) := hb5
    clear hlr hl0 hb3 hb4 hb5 HI HS
    go_wp2_with fail
    refine startX (fun w' => w'.cell? ⟨w1.heap.size + 1, 0, none⟩ = some (.slice x.pu x.ps.length x.pc) ∧ w'.cell? ⟨b, 0, none⟩ = some (.int .i64 r)) (fun i => decide (i = 11)) (by kernel_rfl) ?_
    refine takeX 0 (v := ?_) rfl rfl (by kernel_rfl) (fun _ _ _ h => h) (yesH (by rfl) ?_) ⟨m0, cb⟩ ?_
    rotate_left
    ·intro w9 hS9
     obtain ⟨g0, g1⟩ := hS9
     go_simp
     try with_reducible rfl
    try simp only [Act.put, sA, sB, sC]
    refine takeX 1 (v := ?_) rfl rfl (by kernel_rfl) (fun _ _ _ h => h) (yesH (by rfl) ?_) ⟨m0, cb⟩ ?_
    rotate_left
    ·intro w9 hS9
     obtain ⟨g0, g1⟩ := hS9
     go_simp
     try with_reducible rfl
    try simp only [Act.put, sA, sB, sC]
    refine takeX 2 (v := ?_) rfl rfl (by kernel_rfl) (fun _ _ _ h => h) (yesH (by rfl) ?_) ⟨m0, cb⟩ ?_
    rotate_left
    ·intro w9 hS9
     obtain ⟨g0, g1⟩ := hS9
     go_simp
     try with_reducible rfl
    try simp only [Act.put, sA, sB, sC]
    refine takeX 3 (v := ?_) rfl rfl (by kernel_rfl) (fun _ _ _ h => h) (yesH (by rfl) ?_) ⟨m0, cb⟩ ?_
    rotate_left
    ·intro w9 hS9
     obtain ⟨g0, g1⟩ := hS9
     go_simp
     try with_reducible rfl
    try simp only [Act.put, sA, sB, sC]
    refine takeX 4 (v := ?_) rfl rfl (by kernel_rfl) (fun _ _ _ h => h) (yesH (by rfl) ?_) ⟨m0, cb⟩ ?_
    rotate_left
    ·intro w9 hS9
     obtain ⟨g0, g1⟩ := hS9
     go_simp
     try with_reducible rfl
    try simp only [Act.put, sA, sB, sC]
    refine takeX 5 (v := ?_) rfl rfl (by kernel_rfl) (fun _ _ _ h => h) (yesH (by rfl) ?_) ⟨m0, cb⟩ ?_
    rotate_left
    ·intro w9 hS9
     obtain ⟨g0, g1⟩ := hS9
     go_simp
     try with_reducible rfl
    try simp only [Act.put, sA, sB, sC]
    refine takeX 6 (v := ?_) rfl rfl (by kernel_rfl) (fun _ _ _ h => h) (yesH (by rfl) ?_) ⟨m0, cb⟩ ?_
    rotate_left
    ·intro w9 hS9
     obtain ⟨g0, g1⟩ := hS9
     go_simp
     try with_reducible rfl
    try simp only [Act.put, sA, sB, sC]
    refine takeX 7 (v := ?_) rfl rfl (by kernel_rfl) (fun _ _ _ h => h) (yesH (by rfl) ?_) ⟨m0, cb⟩ ?_
    rotate_left
    ·intro w9 hS9
     obtain ⟨g0, g1⟩ := hS9
     go_simp
     try with_reducible rfl
    try simp only [Act.put, sA, sB, sC]
    have HW3 : Hid (Below w1.heap.size w1 W2.drew) := hBX.out.drew
    have HAF3 : Hid (At W2.drew w1.heap.size #[.slice f.pu f.pars.length f.pc, .int .i64 f.ret, .slice (some ⟨q, 0, none⟩) (bs'.length + 1) f.bc] 55) := hAF.out
    have HAX3 : Hid (At W2.drew (w1.heap.size + 1) #[.slice x.pu x.ps.length x.pc, .slice x.iu x.is.length x.ic, .int .i64 0, .int .i64 0, .int .i64 0, .int .i64 0] 74) := hAX.out
    have HT2 : Hid (IntA2 W2.drew w.heap.size pu ps) := HTl.out
    have HB3 : Hid (Below R w W2.drew) := HB2.out.drew
    have d0 : W2.drew.cell? ⟨w1.heap.size + 1, 0, none⟩ = some (.slice x.pu x.ps.length x.pc) := m0
    have d1 : W2.drew.cell? ⟨b, 0, none⟩ = some (.int .i64 r) := cb
    have hz3 : W2.drew.heap.size = w1.heap.size + 2 := hzX
    have HLb : Hid (W2.drew.heap[b]? = some (.cells lcur 2 (0, 0))) := HLb1.out
    clear HLb1 HTl HB2 cb m0 hBX hAF hAX hzX
    generalize W2.drew = W3 at *
    have hT := HS1.out.hT
    have hRT := HS1.out.hR
    have hxl := HS1.out.lp
    have b6 : Below W3.heap.size W3 (W3.alloc (.cells #[.int .i64 r, .slice pu ps.length (lc - 1)] 92)) := (Below.refl _ _).alloc (Nat.le_refl _) _
    have HP3 : RowS 92 2 phC W3 T (.slice x.pu x.ps.length x.pc) x.ps := HS1.out.phr.stay (Stay.below (Stay.refl [] _) HW3.out) (fun _ _ hm => by cases hm)
    have HR6 : Hid (RowS 92 2 phC (W3.alloc (.cells #[.int .i64 r, .slice pu ps.length (lc - 1)] 92)) T (.slice x.pu x.ps.length x.pc) x.ps) := HP3.stay (Stay.below (Stay.refl [] _) b6) (fun _ _ hm => by cases hm)
    have c5 : (W3.alloc (.cells #[.int .i64 r, .slice pu ps.length (lc - 1)] 92)).cell? ⟨w1.heap.size + 1, 0, none⟩ = some (.slice x.pu x.ps.length x.pc) := (b6.cell (by show w1.heap.size + 1 < _; omega)).trans d0
    have c6 : (W3.alloc (.cells #[.int .i64 r, .slice pu ps.length (lc - 1)] 92)).cell? ⟨b, 0, none⟩ = some (.int .i64 r) := (b6.cell (by show b < _; omega)).trans d1
    obtain ⟨g6, cap6, wa, hrun, hown6, hgr6, _, _⟩ := run_append_lies (P := Tryz.prog) (W3.alloc (.cells #[.int .i64 r, .slice pu ps.length (lc - 1)] 92)) 69 69 T 92 iP (.agg #[.int .i64 0, .slice none 0 0]) 2 32 Tryz.underlying69 hiP zP sP bP rfl (by decide) (.slice x.pu x.ps.length x.pc) x.ps.length (x.ps.flatMap phC) HR6.out ⟨W3.heap.size, 0, none⟩ 1 1 [.int .i64 r, .slice pu ps.length (lc - 1)] rfl (World.news_of_block (At.new W3 #[.int .i64 r, .slice pu ps.length (lc - 1)] 92)) (by simp [Value.oneCell']) (by decide) (by unfold maxLen; omega) (by omega) (by have := b6.size; omega) _ rfl
    have hz6 := b6.size
    have hP1 : ∀ q', (Value.slice x.pu x.ps.length x.pc).ownBlock = some q' → T ≤ q' ∧ q' < w1.heap.size ∧ ∃ cur, W3.heap[q']? = some (.cells cur 92 (0, 0)) := fun q' e => by
     obtain ⟨h1, cur, h2⟩ := HS1.out.phr.ge e
     have hl := (Array.getElem?_eq_some_iff.1 h2).1
     exact ⟨h1, hl, cur, (HW3.out.block q' hl).trans h2⟩
    have hbo : ∀ q', (Value.slice x.pu x.ps.length x.pc).ownBlock = some q' → q' ≠ b := fun q' e => by
     obtain ⟨_, _, cur, h2⟩ := hP1 q' e
     exact ne_types h2 HLb.out (by decide)
    have HAXa : Hid (At wa (w1.heap.size + 1) #[.slice x.pu x.ps.length x.pc, .slice x.iu x.is.length x.ic, .int .i64 0, .int .i64 0, .int .i64 0, .int .i64 0] 74) := (hgr6.block _ (by omega) (fun e => by have := (hP1 _ e.symm).2.1; omega)).trans (HAX3.out.below b6)
    have HAFa : Hid (At wa w1.heap.size #[.slice f.pu f.pars.length f.pc, .int .i64 f.ret, .slice (some ⟨q, 0, none⟩) (bs'.length + 1) f.bc] 55) := (hgr6.block _ (by omega) (fun e => by have := (hP1 _ e.symm).2.1; omega)).trans (HAF3.out.below b6)
    have e0 : wa.cell? ⟨w1.heap.size + 1, 0, none⟩ = some (.slice x.pu x.ps.length x.pc) := HAXa.out.cell 0
    have ef : ∀ o, wa.frozen? ⟨w1.heap.size + 1, o, none⟩ = false := fun o => froz_of_heap HAXa.out
    have e1 : wa.cell? ⟨b, 0, none⟩ = some (.int .i64 r) := (cell_block (hgr6.block b (by omega) (fun e => hbo b e.symm rfl))).trans c6
    have ST1 : Stay (Value.slice x.pu x.ps.length x.pc).ownBlock.toList w1 (wa.setCell ⟨w1.heap.size + 1, 0, none⟩ (.slice (some ⟨g6, 0, none⟩) (x.ps.length + 1) cap6)) := (Stay.grown (Stay.below (Stay.below (Stay.refl _ _) HW3.out) b6) hgr6 fun q' e => .inl (by rw [e]; simp)).set (.inr (by omega))
    have ST3 : Stay ((w1.heap.size + 1) :: (Value.slice x.pu x.ps.length x.pc).ownBlock.toList) W3 (wa.setCell ⟨w1.heap.size + 1, 0, none⟩ (.slice (some ⟨g6, 0, none⟩) (x.ps.length + 1) cap6)) := (Stay.grown (Stay.below (Stay.refl _ _) b6) hgr6 fun q' e => .inl (by rw [e]; simp)).set (.inl (by simp))
    have HRa : RowS 92 2 phC wa T (.slice (some ⟨g6, 0, none⟩) (x.ps.length + 1) cap6) (x.ps ++ [((⟨r, ps⟩, pu, lc - 1) : PhE)]) := RowS.push hown6
    have HRf : RowS 92 2 phC (wa.setCell ⟨w1.heap.size + 1, 0, none⟩ (.slice (some ⟨g6, 0, none⟩) (x.ps.length + 1) cap6)) T (.slice (some ⟨g6, 0, none⟩) (x.ps.length + 1) cap6) (x.ps ++ [((⟨r, ps⟩, pu, lc - 1) : PhE)]) := HRa.stay (S := [w1.heap.size + 1]) ((Stay.refl _ _).set (.inl (by simp))) (fun q' e hm => by
     obtain ⟨_, cur, h2⟩ := HRa.ge e
     have := List.mem_singleton.1 hm
     exact ne_types h2 HAXa.out (by decide) this)
    have HMid : Hid (MidS (wa.setCell ⟨w1.heap.size + 1, 0, none⟩ (.slice (some ⟨g6, 0, none⟩) (x.ps.length + 1) cap6)) R T n fs f bs' x ⟨x.ps ++ [((⟨r, ps⟩, pu, lc - 1) : PhE)], some ⟨g6, 0, none⟩, cap6, x.is, x.iu, x.ic, x.t⟩ (.slice (some ⟨g, 0, none⟩) (fs.length + 1) vc)) := HS1.out.phi ST1 (fun q' hq => by simpa [Option.mem_toList] using hq) HRf (IntO.wide (IntO.stay HT2.out ST3 (fun q' hq => .inr (by
     rcases List.mem_cons.1 hq with rfl | hq
     ·exact Lv.of HAX3.out (by decide)
     ·obtain ⟨_, _, cur, h2⟩ := hP1 q' (by simpa [Option.mem_toList] using hq)
      exact Lv.of h2 (by decide)))) (by omega) ST3.size)
    have HAFf : Hid (At (wa.setCell ⟨w1.heap.size + 1, 0, none⟩ (.slice (some ⟨g6, 0, none⟩) (x.ps.length + 1) cap6)) w1.heap.size #[.slice f.pu f.pars.length f.pc, .int .i64 f.ret, .slice (some ⟨q, 0, none⟩) (bs'.length + 1) f.bc] 55) := At.setOther HAFa.out (by omega)
    have HAXf : Hid (At (wa.setCell ⟨w1.heap.size + 1, 0, none⟩ (.slice (some ⟨g6, 0, none⟩) (x.ps.length + 1) cap6)) (w1.heap.size + 1) #[.slice (some ⟨g6, 0, none⟩) (x.ps.length + 1) cap6, .slice x.iu x.is.length x.ic, .int .i64 0, .int .i64 0, .int .i64 0, .int .i64 0] 74) := heap_set (o := 0) HAXa.out
    have HBf : Hid (Below R w (wa.setCell ⟨w1.heap.size + 1, 0, none⟩ (.slice (some ⟨g6, 0, none⟩) (x.ps.length + 1) cap6))) := ((HB3.out.trans (b6.mono (by omega))).grown hgr6 (by omega) (fun q' e => by have := (hP1 q' e).1; omega)).setCell (by dsimp only; omega) _
    have HQ : Hid (∀ z q', LineIs s z → LnOk z → Step (stO fs f bs' x) z q' → q' = nxtO fs f bs' ⟨x.ps ++ [((⟨r, ps⟩, pu, lc - 1) : PhE)], some ⟨g6, 0, none⟩, cap6, x.is, x.iu, x.ic, x.t⟩) := fun z q' hz hk hst => by
     have h3 := (HT.out z hz hk).2.1
     rw [HP.out] at h3
     obtain ⟨p, h4, h5⟩ := st_phi hst (bs_inj h3).symm
     rw [← (HT.out z hz hk).2.2, HL.out] at h4
     obtain ⟨h6, h7⟩ := List.cons.inj h4
     have h8 : p = ⟨r, ps⟩ := by cases p; dsimp only at h6 h7; rw [h6, h7]
     unfold nxtO
     rw [if_pos (by show x.t.kind = 0; rw [HS1.out.tk]), h5, h8]
     simp [stO]
    clear hz3 hz6 HLb b6 HR6 hown6 hgr6 HRa HRf ST1 ST3 HW3 HT2 HP3 hP1 hbo HAXa HAFa HAX3 HAF3
    refine readyX 8 rfl (by kernel_rfl) (fun K hK => ?_)
    go_simp
    refine hK.out _ _ (.inr ⟨c5, c6⟩) ?_
    clear hK K
    try simp only [Act.put, sA, sB, sC]
    refine readyX 9 rfl (by kernel_rfl) (fun K hK => ?_)
    refine step_runP rfl _ _ _ rfl rfl rfl hrun ?_
    refine hK.out _ _ (.inr ⟨e0, e1⟩) ?_
    clear hK K hrun
    try simp only [Act.put, sA, sB, sC]
    refine readyX 10 rfl (by kernel_rfl) (fun K hK => ?_)
    go_simp
    refine hK.out _ _ (.inr ⟨e0, e1⟩) ?_
    clear hK K
    try simp only [Act.put, sA, sB, sC]
    refine readyX 11 rfl (by kernel_rfl) (fun K hK => ?_)
    go_simp
    refine hK.out _ _ (.inl rfl) ?_
    clear hK K
    refine doneX (by kernel_rfl) ?_ _
    go_wp2_with fail
    go_meet
    case rel =>
     have e9 : (x.ps ++ [((⟨r, ps⟩, pu, lc - 1) : PhE)]).length = x.ps.length + 1 := by simp
     refine ⟨⟨x.ps ++ [((⟨r, ps⟩, pu, lc - 1) : PhE)], some ⟨g6, 0, none⟩, cap6, x.is, x.iu, x.ic, x.t⟩, HMid.out, HAFf.out, ?_, HBf.out, HQ.out⟩
     dsimp only
     rw [e9, HS1.out.tk]
     exact HAXf.out
  have p1 : (word.toList == [112, 104, 105]) = false := wd_no (u := wPhi) hph
  by_cases ht1 : word = bs [114, 101, 116]
  ·have px : (word.toList == [114, 101, 116]) = true := wd_yes ht1
   have HQ : Hid (∀ z q', LineIs s z → LnOk z → Step (stO fs f bs' x) z q' → q' = nxtO fs f bs' ⟨x.ps, x.pu, x.pc, x.is, x.iu, x.ic, ⟨1, (l.getD 0 0), 0, 0⟩⟩) := fun z q' hz hk hst => by
    have h3 := (HT.out z hz hk).2.1
    rw [ht1] at h3
    rw [st_term (1 : Fin 5) hst (bs_inj h3).symm, ← (HT.out z hz hk).2.2]
    unfold nxtO
    rw [if_neg (by dsimp only; decide)]
    first
     | (simp [stC, FnE.d, BkE.d, modelT, putB]; done)
     | (simp [stC, FnE.d, BkE.d, modelT, putB]; rfl)
   have HI2 : Hid (IntsB2 W2 w.heap.size w1.heap.size lu l) := HI.out.keep hBX.out
   have P0 := atS w.heap.size w1.heap.size lu lc l 0 W2 HI2.out.bt (by omega) (by omega)
   have xf : ∀ o, W2.frozen? ⟨w1.heap.size + 1, o, none⟩ = false := fun o => froz_of_heap hAX.out
   have m2 : W2.cell? ⟨w1.heap.size + 1, 2, none⟩ = some (.int .i64 0) := hAX.out.cell 2
   have m3 : W2.cell? ⟨w1.heap.size + 1, 3, none⟩ = some (.int .i64 0) := hAX.out.cell 3
   have m4 : W2.cell? ⟨w1.heap.size + 1, 4, none⟩ = some (.int .i64 0) := hAX.out.cell 4
   have m5 : W2.cell? ⟨w1.heap.size + 1, 5, none⟩ = some (.int .i64 0) := hAX.out.cell 5
   clear hph ht1
   go_wp2_with fail
   refine P0.mono ?_
   rintro e w9 ⟨rfl, h9⟩
   have h8 := h9.symm
   clear h9 P0
   subst h8
   go_wp2_with fail
   go_meet
   case rel =>
    have B3 : Below w1.heap.size w1 ((((W2.setCell ⟨w1.heap.size + 1, 2, none⟩ (.int .i64 1)).setCell ⟨w1.heap.size + 1, 3, none⟩ (.int .i64 (l.getD 0 0))).setCell ⟨w1.heap.size + 1, 4, none⟩ (.int .i64 0)).setCell ⟨w1.heap.size + 1, 5, none⟩ (.int .i64 0)) := (((hBX.out.setCell (by dsimp only; omega) _).setCell (by dsimp only; omega) _).setCell (by dsimp only; omega) _).setCell (by dsimp only; omega) _
    exact ⟨⟨x.ps, x.pu, x.pc, x.is, x.iu, x.ic, ⟨1, (l.getD 0 0), 0, 0⟩⟩, HS1.out.term B3 (by dsimp only; decide), At.setOther (At.setOther (At.setOther (At.setOther hAF.out (by omega)) (by omega)) (by omega)) (by omega), heap_set (o := 5) (heap_set (o := 4) (heap_set (o := 3) (heap_set (o := 2) hAX.out))), HBR.out.trans (B3.mono (by omega)), HQ.out⟩
  have p2 : (word.toList == [114, 101, 116]) = false := wd_no ht1
  by_cases ht2 : word = bs [106, 117, 109, 112]
  ·have px : (word.toList == [106, 117, 109, 112]) = true := wd_yes ht2
   have HQ : Hid (∀ z q', LineIs s z → LnOk z → Step (stO fs f bs' x) z q' → q' = nxtO fs f bs' ⟨x.ps, x.pu, x.pc, x.is, x.iu, x.ic, ⟨2, 0, (l.getD 0 0), 0⟩⟩) := fun z q' hz hk hst => by
    have h3 := (HT.out z hz hk).2.1
    rw [ht2] at h3
    rw [st_term (2 : Fin 5) hst (bs_inj h3).symm, ← (HT.out z hz hk).2.2]
    unfold nxtO
    rw [if_neg (by dsimp only; decide)]
    first
     | (simp [stC, FnE.d, BkE.d, modelT, putB]; done)
     | (simp [stC, FnE.d, BkE.d, modelT, putB]; rfl)
   have HI2 : Hid (IntsB2 W2 w.heap.size w1.heap.size lu l) := HI.out.keep hBX.out
   have P0 := atS w.heap.size w1.heap.size lu lc l 0 W2 HI2.out.bt (by omega) (by omega)
   have xf : ∀ o, W2.frozen? ⟨w1.heap.size + 1, o, none⟩ = false := fun o => froz_of_heap hAX.out
   have m2 : W2.cell? ⟨w1.heap.size + 1, 2, none⟩ = some (.int .i64 0) := hAX.out.cell 2
   have m3 : W2.cell? ⟨w1.heap.size + 1, 3, none⟩ = some (.int .i64 0) := hAX.out.cell 3
   have m4 : W2.cell? ⟨w1.heap.size + 1, 4, none⟩ = some (.int .i64 0) := hAX.out.cell 4
   have m5 : W2.cell? ⟨w1.heap.size + 1, 5, none⟩ = some (.int .i64 0) := hAX.out.cell 5
   clear hph ht1 ht2
   go_wp2_with fail
   refine P0.mono ?_
   rintro e w9 ⟨rfl, h9⟩
   have h8 := h9.symm
   clear h9 P0
   subst h8
   go_wp2_with fail
   go_meet
   case rel =>
    have B3 : Below w1.heap.size w1 ((((W2.setCell ⟨w1.heap.size + 1, 2, none⟩ (.int .i64 2)).setCell ⟨w1.heap.size + 1, 3, none⟩ (.int .i64 0)).setCell ⟨w1.heap.size + 1, 4, none⟩ (.int .i64 (l.getD 0 0))).setCell ⟨w1.heap.size + 1, 5, none⟩ (.int .i64 0)) := (((hBX.out.setCell (by dsimp only; omega) _).setCell (by dsimp only; omega) _).setCell (by dsimp only; omega) _).setCell (by dsimp only; omega) _
    exact ⟨⟨x.ps, x.pu, x.pc, x.is, x.iu, x.ic, ⟨2, 0, (l.getD 0 0), 0⟩⟩, HS1.out.term B3 (by dsimp only; decide), At.setOther (At.setOther (At.setOther (At.setOther hAF.out (by omega)) (by omega)) (by omega)) (by omega), heap_set (o := 5) (heap_set (o := 4) (heap_set (o := 3) (heap_set (o := 2) hAX.out))), HBR.out.trans (B3.mono (by omega)), HQ.out⟩
  have p3 : (word.toList == [106, 117, 109, 112]) = false := wd_no ht2
  by_cases ht3 : word = bs [98, 114, 97, 110, 99, 104]
  ·have px : (word.toList == [98, 114, 97, 110, 99, 104]) = true := wd_yes ht3
   have HQ : Hid (∀ z q', LineIs s z → LnOk z → Step (stO fs f bs' x) z q' → q' = nxtO fs f bs' ⟨x.ps, x.pu, x.pc, x.is, x.iu, x.ic, ⟨3, (l.getD 0 0), (l.getD 1 0), (l.getD 2 0)⟩⟩) := fun z q' hz hk hst => by
    have h3 := (HT.out z hz hk).2.1
    rw [ht3] at h3
    rw [st_term (3 : Fin 5) hst (bs_inj h3).symm, ← (HT.out z hz hk).2.2]
    unfold nxtO
    rw [if_neg (by dsimp only; decide)]
    first
     | (simp [stC, FnE.d, BkE.d, modelT, putB]; done)
     | (simp [stC, FnE.d, BkE.d, modelT, putB]; rfl)
   have HI2 : Hid (IntsB2 W2 w.heap.size w1.heap.size lu l) := HI.out.keep hBX.out
   have P0 := atS w.heap.size w1.heap.size lu lc l 0 W2 HI2.out.bt (by omega) (by omega)
   have P1 := atS w.heap.size w1.heap.size lu lc l 1 W2 HI2.out.bt (by omega) (by omega)
   have P2 := atS w.heap.size w1.heap.size lu lc l 2 W2 HI2.out.bt (by omega) (by omega)
   have xf : ∀ o, W2.frozen? ⟨w1.heap.size + 1, o, none⟩ = false := fun o => froz_of_heap hAX.out
   have m2 : W2.cell? ⟨w1.heap.size + 1, 2, none⟩ = some (.int .i64 0) := hAX.out.cell 2
   have m3 : W2.cell? ⟨w1.heap.size + 1, 3, none⟩ = some (.int .i64 0) := hAX.out.cell 3
   have m4 : W2.cell? ⟨w1.heap.size + 1, 4, none⟩ = some (.int .i64 0) := hAX.out.cell 4
   have m5 : W2.cell? ⟨w1.heap.size + 1, 5, none⟩ = some (.int .i64 0) := hAX.out.cell 5
   clear hph ht1 ht2 ht3
   go_wp2_with fail
   refine P0.mono ?_
   rintro e w9 ⟨rfl, h9⟩
   have h8 := h9.symm
   clear h9 P0
   subst h8
   go_wp2_with fail
   refine P1.mono ?_
   rintro e w9 ⟨rfl, h9⟩
   have h8 := h9.symm
   clear h9 P1
   subst h8
   go_wp2_with fail
   refine P2.mono ?_
   rintro e w9 ⟨rfl, h9⟩
   have h8 := h9.symm
   clear h9 P2
   subst h8
   go_wp2_with fail
   go_meet
   case rel =>
    have B3 : Below w1.heap.size w1 ((((W2.setCell ⟨w1.heap.size + 1, 2, none⟩ (.int .i64 3)).setCell ⟨w1.heap.size + 1, 3, none⟩ (.int .i64 (l.getD 0 0))).setCell ⟨w1.heap.size + 1, 4, none⟩ (.int .i64 (l.getD 1 0))).setCell ⟨w1.heap.size + 1, 5, none⟩ (.int .i64 (l.getD 2 0))) := (((hBX.out.setCell (by dsimp only; omega) _).setCell (by dsimp only; omega) _).setCell (by dsimp only; omega) _).setCell (by dsimp only; omega) _
    exact ⟨⟨x.ps, x.pu, x.pc, x.is, x.iu, x.ic, ⟨3, (l.getD 0 0), (l.getD 1 0), (l.getD 2 0)⟩⟩, HS1.out.term B3 (by dsimp only; decide), At.setOther (At.setOther (At.setOther (At.setOther hAF.out (by omega)) (by omega)) (by omega)) (by omega), heap_set (o := 5) (heap_set (o := 4) (heap_set (o := 3) (heap_set (o := 2) hAX.out))), HBR.out.trans (B3.mono (by omega)), HQ.out⟩
  have p4 : (word.toList == [98, 114, 97, 110, 99, 104]) = false := wd_no ht3
  by_cases ht4 : word = bs [116, 114, 97, 112]
  ·have px : (word.toList == [116, 114, 97, 112]) = true := wd_yes ht4
   have HQ : Hid (∀ z q', LineIs s z → LnOk z → Step (stO fs f bs' x) z q' → q' = nxtO fs f bs' ⟨x.ps, x.pu, x.pc, x.is, x.iu, x.ic, ⟨4, 0, 0, 0⟩⟩) := fun z q' hz hk hst => by
    have h3 := (HT.out z hz hk).2.1
    rw [ht4] at h3
    rw [st_term (4 : Fin 5) hst (bs_inj h3).symm, ← (HT.out z hz hk).2.2]
    unfold nxtO
    rw [if_neg (by dsimp only; decide)]
    first
     | (simp [stC, FnE.d, BkE.d, modelT, putB]; done)
     | (simp [stC, FnE.d, BkE.d, modelT, putB]; rfl)
   skip
   have xf : ∀ o, W2.frozen? ⟨w1.heap.size + 1, o, none⟩ = false := fun o => froz_of_heap hAX.out
   have m2 : W2.cell? ⟨w1.heap.size + 1, 2, none⟩ = some (.int .i64 0) := hAX.out.cell 2
   have m3 : W2.cell? ⟨w1.heap.size + 1, 3, none⟩ = some (.int .i64 0) := hAX.out.cell 3
   have m4 : W2.cell? ⟨w1.heap.size + 1, 4, none⟩ = some (.int .i64 0) := hAX.out.cell 4
   have m5 : W2.cell? ⟨w1.heap.size + 1, 5, none⟩ = some (.int .i64 0) := hAX.out.cell 5
   clear hph ht1 ht2 ht3 ht4
   go_wp2_with fail
   go_meet
   case rel =>
    have B3 : Below w1.heap.size w1 ((((W2.setCell ⟨w1.heap.size + 1, 2, none⟩ (.int .i64 4)).setCell ⟨w1.heap.size + 1, 3, none⟩ (.int .i64 0)).setCell ⟨w1.heap.size + 1, 4, none⟩ (.int .i64 0)).setCell ⟨w1.heap.size + 1, 5, none⟩ (.int .i64 0)) := (((hBX.out.setCell (by dsimp only; omega) _).setCell (by dsimp only; omega) _).setCell (by dsimp only; omega) _).setCell (by dsimp only; omega) _
    exact ⟨⟨x.ps, x.pu, x.pc, x.is, x.iu, x.ic, ⟨4, 0, 0, 0⟩⟩, HS1.out.term B3 (by dsimp only; decide), At.setOther (At.setOther (At.setOther (At.setOther hAF.out (by omega)) (by omega)) (by omega)) (by omega), heap_set (o := 5) (heap_set (o := 4) (heap_set (o := 3) (heap_set (o := 2) hAX.out))), HBR.out.trans (B3.mono (by omega)), HQ.out⟩
  have p5 : (word.toList == [116, 114, 97, 112]) = false := wd_no ht4
  have HNW : Hid (¬ word = bs wPhi ∧ ¬ word = bs [114, 101, 116] ∧ ¬ word = bs [106, 117, 109, 112] ∧ ¬ word = bs [98, 114, 97, 110, 99, 104] ∧ ¬ word = bs [116, 114, 97, 112]) := ⟨hph, ht1, ht2, ht3, ht4⟩
  have HST : Hid (∀ z q', LineIs s z → LnOk z → Step (stO fs f bs' x) z q' → ∃ i, ReadOk s i ∧ q' = .op (fs.map FnE.d) f.pars f.ret (bs'.map BkE.d) (x.ps.map (·.1)) (x.is.map (·.1) ++ [i])) := fun z q' hz hk hst => by
   have h3 := (HT.out z hz hk).2.1
   have no : ∀ u, ¬ word = bs u → z.1 ≠ u := fun u hu e => hu (by rw [h3, e])
   obtain ⟨i, h5, h6, h7⟩ := st_inst hst (no _ HNW.out.1) (terms_but (no _ HNW.out.2.1) (no _ HNW.out.2.2.1) (no _ HNW.out.2.2.2.1) (no _ HNW.out.2.2.2.2))
   subst h6
   exact ⟨i, line_read hz h5, h7⟩
  have RD := readT s W2 hs
  clear hph ht1 ht2 ht3 ht4 HI HS HNW
  go_wp2_with fail
  refine RD.mono ?_
  rintro e w3 ⟨hc, b3⟩
  have HB3 : Hid (Below W2.heap.size W2 w3) := b3
  have hz3 : W2.heap.size ≤ w3.heap.size := b3.size
  clear RD b3
  rcases hc with ⟨i, u, qi, hok, rfl, hI⟩ | ⟨hno, rfl⟩
  ·obtain ⟨iI, hiI, zI, sI, bI⟩ := info_three infoIn
   have HIo : Hid (IntA2 w3 W2.heap.size u i.args) := hI
   have HOk : Hid (ReadOk s i) := hok
   clear hok hI
   have HB4 : Hid (Below w1.heap.size w1 w3) := hBX.out.trans (HB3.out.mono (by omega))
   have hT := HS1.out.hT
   have hRT := HS1.out.hR
   have hxl := HS1.out.li
   have B5 : Below w3.heap.size w3 (w3.alloc (.cells #[.int .i64 i.op, .int .i64 i.w, .int .i64 i.a, .int .i64 i.b, .int .i64 i.c, .int .i64 i.imm, .slice u i.args.length qi] 95)) := (Below.refl _ _).alloc (Nat.le_refl _) _
   have eI : (w3.alloc (.cells #[.int .i64 i.op, .int .i64 i.w, .int .i64 i.a, .int .i64 i.b, .int .i64 i.c, .int .i64 i.imm, .slice u i.args.length qi] 95)).heap.size = w3.heap.size + 1 := by simp
   have B6 : Below w3.heap.size w3 ((w3.alloc (.cells #[.int .i64 i.op, .int .i64 i.w, .int .i64 i.a, .int .i64 i.b, .int .i64 i.c, .int .i64 i.imm, .slice u i.args.length qi] 95)).alloc (.cells #[.int .i64 i.op, .int .i64 i.w, .int .i64 i.a, .int .i64 i.b, .int .i64 i.c, .int .i64 i.imm, .slice u i.args.length qi] 95)) := B5.alloc (by simp) _
   have eA : ((w3.alloc (.cells #[.int .i64 i.op, .int .i64 i.w, .int .i64 i.a, .int .i64 i.b, .int .i64 i.c, .int .i64 i.imm, .slice u i.args.length qi] 95)).alloc (.cells #[.int .i64 i.op, .int .i64 i.w, .int .i64 i.a, .int .i64 i.b, .int .i64 i.c, .int .i64 i.imm, .slice u i.args.length qi] 95)).heap.size = w3.heap.size + 2 := by simp
   have hAI : At ((w3.alloc (.cells #[.int .i64 i.op, .int .i64 i.w, .int .i64 i.a, .int .i64 i.b, .int .i64 i.c, .int .i64 i.imm, .slice u i.args.length qi] 95)).alloc (.cells #[.int .i64 i.op, .int .i64 i.w, .int .i64 i.a, .int .i64 i.b, .int .i64 i.c, .int .i64 i.imm, .slice u i.args.length qi] 95)) (w3.heap.size + 1) #[.int .i64 i.op, .int .i64 i.w, .int .i64 i.a, .int .i64 i.b, .int .i64 i.c, .int .i64 i.imm, .slice u i.args.length qi] 95 := by
    have := At.new (w3.alloc (.cells #[.int .i64 i.op, .int .i64 i.w, .int .i64 i.a, .int .i64 i.b, .int .i64 i.c, .int .i64 i.imm, .slice u i.args.length qi] 95)) #[.int .i64 i.op, .int .i64 i.w, .int .i64 i.a, .int .i64 i.b, .int .i64 i.c, .int .i64 i.imm, .slice u i.args.length qi] 95
    rwa [eI] at this
   have AX3 : At w3 (w1.heap.size + 1) #[.slice x.pu x.ps.length x.pc, .slice x.iu x.is.length x.ic, .int .i64 0, .int .i64 0, .int .i64 0, .int .i64 0] 74 := hAX.out.below HB3.out
   have AF3 : At w3 w1.heap.size #[.slice f.pu f.pars.length f.pc, .int .i64 f.ret, .slice (some ⟨q, 0, none⟩) (bs'.length + 1) f.bc] 55 := hAF.out.below HB3.out
   have m1 : (w3.alloc (.cells #[.int .i64 i.op, .int .i64 i.w, .int .i64 i.a, .int .i64 i.b, .int .i64 i.c, .int .i64 i.imm, .slice u i.args.length qi] 95)).cell? ⟨w1.heap.size + 1, 1, none⟩ = some (.slice x.iu x.is.length x.ic) := (AX3.below B5).cell 1
   have AX6 : At ((w3.alloc (.cells #[.int .i64 i.op, .int .i64 i.w, .int .i64 i.a, .int .i64 i.b, .int .i64 i.c, .int .i64 i.imm, .slice u i.args.length qi] 95)).alloc (.cells #[.int .i64 i.op, .int .i64 i.w, .int .i64 i.a, .int .i64 i.b, .int .i64 i.c, .int .i64 i.imm, .slice u i.args.length qi] 95)) (w1.heap.size + 1) #[.slice x.pu x.ps.length x.pc, .slice x.iu x.is.length x.ic, .int .i64 0, .int .i64 0, .int .i64 0, .int .i64 0] 74 := AX3.below B6
   have AF6 : At ((w3.alloc (.cells #[.int .i64 i.op, .int .i64 i.w, .int .i64 i.a, .int .i64 i.b, .int .i64 i.c, .int .i64 i.imm, .slice u i.args.length qi] 95)).alloc (.cells #[.int .i64 i.op, .int .i64 i.w, .int .i64 i.a, .int .i64 i.b, .int .i64 i.c, .int .i64 i.imm, .slice u i.args.length qi] 95)) w1.heap.size #[.slice f.pu f.pars.length f.pc, .int .i64 f.ret, .slice (some ⟨q, 0, none⟩) (bs'.length + 1) f.bc] 55 := AF3.below B6
   have HR6 : RowS 95 7 inC ((w3.alloc (.cells #[.int .i64 i.op, .int .i64 i.w, .int .i64 i.a, .int .i64 i.b, .int .i64 i.c, .int .i64 i.imm, .slice u i.args.length qi] 95)).alloc (.cells #[.int .i64 i.op, .int .i64 i.w, .int .i64 i.a, .int .i64 i.b, .int .i64 i.c, .int .i64 i.imm, .slice u i.args.length qi] 95)) T (.slice x.iu x.is.length x.ic) x.is := HS1.out.isr.stay (Stay.below (Stay.below (Stay.refl [] _) HB4.out) B6) (fun _ _ hm => by cases hm)
   obtain ⟨g6, cap6, wa, hrun, hown6, hgr6, _, _⟩ := run_append_lies (P := Tryz.prog) ((w3.alloc (.cells #[.int .i64 i.op, .int .i64 i.w, .int .i64 i.a, .int .i64 i.b, .int .i64 i.c, .int .i64 i.imm, .slice u i.args.length qi] 95)).alloc (.cells #[.int .i64 i.op, .int .i64 i.w, .int .i64 i.a, .int .i64 i.b, .int .i64 i.c, .int .i64 i.imm, .slice u i.args.length qi] 95)) 70 70 T 95 iI (.agg #[.int .i64 0, .int .i64 0, .int .i64 0, .int .i64 0, .int .i64 0, .int .i64 0, .slice none 0 0]) 7 72 Tryz.underlying70 hiI zI sI bI rfl (by decide) (.slice x.iu x.is.length x.ic) x.is.length (x.is.flatMap inC) HR6 ⟨w3.heap.size + 1, 0, none⟩ 1 1 [.int .i64 i.op, .int .i64 i.w, .int .i64 i.a, .int .i64 i.b, .int .i64 i.c, .int .i64 i.imm, .slice u i.args.length qi] rfl (World.news_of_block hAI) (by simp [Value.oneCell']) (by decide) (by unfold maxLen; omega) (by omega) (by omega) _ rfl
   have hP1 : ∀ q', (Value.slice x.iu x.is.length x.ic).ownBlock = some q' → T ≤ q' ∧ q' < w1.heap.size ∧ ∃ cur, w3.heap[q']? = some (.cells cur 95 (0, 0)) := fun q' e => by
    obtain ⟨h1, cur, h2⟩ := HS1.out.isr.ge e
    have hl := (Array.getElem?_eq_some_iff.1 h2).1
    exact ⟨h1, hl, cur, (HB4.out.block q' hl).trans h2⟩
   have HAXa : Hid (At wa (w1.heap.size + 1) #[.slice x.pu x.ps.length x.pc, .slice x.iu x.is.length x.ic, .int .i64 0, .int .i64 0, .int .i64 0, .int .i64 0] 74) := (hgr6.block _ (by omega) (fun e => by have := (hP1 _ e.symm).2.1; omega)).trans AX6
   have HAFa : Hid (At wa w1.heap.size #[.slice f.pu f.pars.length f.pc, .int .i64 f.ret, .slice (some ⟨q, 0, none⟩) (bs'.length + 1) f.bc] 55) := (hgr6.block _ (by omega) (fun e => by have := (hP1 _ e.symm).2.1; omega)).trans AF6
   have e1 : wa.cell? ⟨w1.heap.size + 1, 1, none⟩ = some (.slice x.iu x.is.length x.ic) := HAXa.out.cell 1
   have ef : ∀ o, wa.frozen? ⟨w1.heap.size + 1, o, none⟩ = false := fun o => froz_of_heap HAXa.out
   have ST1 : Stay (Value.slice x.iu x.is.length x.ic).ownBlock.toList w1 (wa.setCell ⟨w1.heap.size + 1, 1, none⟩ (.slice (some ⟨g6, 0, none⟩) (x.is.length + 1) cap6)) := (Stay.grown (Stay.below (Stay.below (Stay.refl _ _) HB4.out) B6) hgr6 fun q' e => .inl (by rw [e]; simp)).set (.inr (by omega))
   have ST3 : Stay ((w1.heap.size + 1) :: (Value.slice x.iu x.is.length x.ic).ownBlock.toList) w3 (wa.setCell ⟨w1.heap.size + 1, 1, none⟩ (.slice (some ⟨g6, 0, none⟩) (x.is.length + 1) cap6)) := (Stay.grown (Stay.below (Stay.refl _ _) B6) hgr6 fun q' e => .inl (by rw [e]; simp)).set (.inl (by simp))
   have HRa : RowS 95 7 inC wa T (.slice (some ⟨g6, 0, none⟩) (x.is.length + 1) cap6) (x.is ++ [((i, u, qi) : InE)]) := RowS.push hown6
   have HRf : RowS 95 7 inC (wa.setCell ⟨w1.heap.size + 1, 1, none⟩ (.slice (some ⟨g6, 0, none⟩) (x.is.length + 1) cap6)) T (.slice (some ⟨g6, 0, none⟩) (x.is.length + 1) cap6) (x.is ++ [((i, u, qi) : InE)]) := HRa.stay (S := [w1.heap.size + 1]) ((Stay.refl _ _).set (.inl (by simp))) (fun q' e hm => by
    obtain ⟨_, cur, h2⟩ := HRa.ge e
    have := List.mem_singleton.1 hm
    exact ne_types h2 HAXa.out (by decide) this)
   have HMid : Hid (MidS (wa.setCell ⟨w1.heap.size + 1, 1, none⟩ (.slice (some ⟨g6, 0, none⟩) (x.is.length + 1) cap6)) R T n fs f bs' x ⟨x.ps, x.pu, x.pc, x.is ++ [((i, u, qi) : InE)], some ⟨g6, 0, none⟩, cap6, x.t⟩ (.slice (some ⟨g, 0, none⟩) (fs.length + 1) vc)) := HS1.out.ins ST1 (fun q' hq => by simpa [Option.mem_toList] using hq) HRf (IntO.wide (IntO.stay HIo.out ST3 (fun q' hq => .inr (by
    rcases List.mem_cons.1 hq with rfl | hq
    ·exact Lv.of AX3 (by decide)
    ·obtain ⟨_, _, cur, h2⟩ := hP1 q' (by simpa [Option.mem_toList] using hq)
     exact Lv.of h2 (by decide)))) (by omega) ST3.size)
   have HAFf : Hid (At (wa.setCell ⟨w1.heap.size + 1, 1, none⟩ (.slice (some ⟨g6, 0, none⟩) (x.is.length + 1) cap6)) w1.heap.size #[.slice f.pu f.pars.length f.pc, .int .i64 f.ret, .slice (some ⟨q, 0, none⟩) (bs'.length + 1) f.bc] 55) := At.setOther HAFa.out (by omega)
   have HAXf : Hid (At (wa.setCell ⟨w1.heap.size + 1, 1, none⟩ (.slice (some ⟨g6, 0, none⟩) (x.is.length + 1) cap6)) (w1.heap.size + 1) #[.slice x.pu x.ps.length x.pc, .slice (some ⟨g6, 0, none⟩) (x.is.length + 1) cap6, .int .i64 0, .int .i64 0, .int .i64 0, .int .i64 0] 74) := heap_set (o := 1) HAXa.out
   have HBf : Hid (Below R w (wa.setCell ⟨w1.heap.size + 1, 1, none⟩ (.slice (some ⟨g6, 0, none⟩) (x.is.length + 1) cap6))) := ((HBR.out.trans ((HB4.out.trans (B6.mono (by omega))).mono (by omega))).grown hgr6 (by omega) (fun q' e => by have := (hP1 q' e).1; omega)).setCell (by dsimp only; omega) _
   have HQ : Hid (∀ z q', LineIs s z → LnOk z → Step (stO fs f bs' x) z q' → q' = nxtO fs f bs' ⟨x.ps, x.pu, x.pc, x.is ++ [((i, u, qi) : InE)], some ⟨g6, 0, none⟩, cap6, x.t⟩) := fun z q' hz hk hst => by
    obtain ⟨j, h5, h6⟩ := HST.out z q' hz hk hst
    unfold nxtO
    rw [if_pos (by show x.t.kind = 0; rw [HS1.out.tk]), h6, read_one h5 HOk.out]
    simp [stO]
   clear HR6 hown6 hgr6 HRa HRf ST1 ST3 HIo hP1 HAXa HAFa HB3 HB4 AX3 AF3 AX6 AF6 hAI B5 B6 HST HBR HB2 eI eA hAX hAF hBX
   go_wp2_with (at_builtin; refine list_runP rfl _ _ _ rfl rfl rfl hrun ?_; clear hrun)
   go_meet
   case rel =>
    have e9 : (x.is ++ [((i, u, qi) : InE)]).length = x.is.length + 1 := by simp
    refine ⟨⟨x.ps, x.pu, x.pc, x.is ++ [((i, u, qi) : InE)], some ⟨g6, 0, none⟩, cap6, x.t⟩, HMid.out, HAFf.out, ?_, HBf.out, HQ.out⟩
    dsimp only
    rw [e9, HS1.out.tk]
    exact HAXf.out
  ·have HNo : Hid (∀ z q', LineIs s z → LnOk z → ¬ Step (stO fs f bs' x) z q') := fun z q' hz hk hst => by
    obtain ⟨j, h5, h6⟩ := HST.out z q' hz hk hst
    exact hno ⟨j, h5⟩
   have HB5 : Hid (Below R w w3) := HB2.out.trans (HB3.out.mono (by omega))
   have hRl3 : R ≤ w3.heap.size := by omega
   clear hno HST HB3 hAX hAF hBX HB2 HBR
   go_wp2_with fail
   go_ret
   exact ⟨.inr ⟨rfl, HNo.out⟩, HB5.out.alloc hRl3 _⟩
 case rest =>
  obtain ⟨y, HM, HAF, HAX, HBw, HQ⟩ := hcut
  obtain ⟨W3, hW3⟩ : ∃ W, W = wc := ⟨_, rfl⟩
  subst hW3
  clear hAF hAX hBX hzX HB2 HS HS1 HT HI HBR HF HBk HB1 HA1
  have hT := HM.out.hT
  have hz3 : w1.heap.size + 1 < W3.heap.size := HAX.out.lt
  have m2 : W3.cell? ⟨w1.heap.size + 1, 2, none⟩ = some (.int .i64 y.t.kind) := HAX.out.cell 2
  have r1 : W3.cell? ⟨R, 1, none⟩ = some (.bool true) := HM.out.box.cell 1
  have rf : ∀ o, W3.frozen? ⟨R, o, none⟩ = false := fun o => froz_of_heap HM.out.box
  have A4 : At (W3.setCell ⟨R, 1, none⟩ (.bool (y.t.kind == 0))) R #[.slice (some ⟨g, 0, none⟩) (fs.length + 1) vc, .bool (y.t.kind == 0)] 62 := heap_set (o := 1) HM.out.box
  have AF4 : At (W3.setCell ⟨R, 1, none⟩ (.bool (y.t.kind == 0))) w1.heap.size #[.slice f.pu f.pars.length f.pc, .int .i64 f.ret, .slice (some ⟨q, 0, none⟩) (bs'.length + 1) f.bc] 55 := At.setOther HAF.out (by omega)
  have AX4 : At (W3.setCell ⟨R, 1, none⟩ (.bool (y.t.kind == 0))) (w1.heap.size + 1) #[.slice y.pu y.ps.length y.pc, .slice y.iu y.is.length y.ic, .int .i64 y.t.kind, .int .i64 y.t.a, .int .i64 y.t.x, .int .i64 y.t.y] 74 := At.setOther HAX.out (by omega)
  have S4 : Stay [R] W3 (W3.setCell ⟨R, 1, none⟩ (.bool (y.t.kind == 0))) := (Stay.refl _ _).set (.inl (by simp))
  obtain ⟨g', gcur', hgv', _, hgh, hgc⟩ := RowS.cellAt (C := fnC) (s := 3) (fun _ => rfl) HM.out.row (i := fs.length) (e := f) (by simp)
  obtain rfl : g = g' := by
   injection hgv' with h1
   injection h1 with h1
  have hKr := HM.out.blk
  have eb : f.bs.length = bs'.length + 1 := by rw [HM.out.fbs]; simp
  rw [eb] at hKr
  obtain ⟨q', qcur', hqv', _, hqh, hqc⟩ := RowS.cellAt (C := bkC) (s := 6) (fun _ => rfl) hKr (i := bs'.length) (e := x) (by rw [HM.out.fbs]; simp)
  obtain rfl : q = q' := by
   have h1 := HQV.out.symm.trans hqv'
   injection h1 with h1
   injection h1 with h1
  have eg4 : (W3.setCell ⟨R, 1, none⟩ (.bool (y.t.kind == 0))).heap[g]? = W3.heap[g]? := S4.block g (by omega) (by simpa using hgR)
  have eq4 : (W3.setCell ⟨R, 1, none⟩ (.bool (y.t.kind == 0))).heap[q]? = W3.heap[q]? := S4.block q (by omega) (by simpa using hqR)
  have k2 : (W3.setCell ⟨R, 1, none⟩ (.bool (y.t.kind == 0))).cell? ⟨w1.heap.size, 2, none⟩ = some (.slice (some ⟨q, 0, none⟩) (bs'.length + 1) f.bc) := AF4.cell 2
  have m0 : (W3.setCell ⟨R, 1, none⟩ (.bool (y.t.kind == 0))).cell? ⟨w1.heap.size + 1, 0, none⟩ = some (.slice y.pu y.ps.length y.pc) := AX4.cell 0
  have m1 : (W3.setCell ⟨R, 1, none⟩ (.bool (y.t.kind == 0))).cell? ⟨w1.heap.size + 1, 1, none⟩ = some (.slice y.iu y.is.length y.ic) := AX4.cell 1
  have m2' : (W3.setCell ⟨R, 1, none⟩ (.bool (y.t.kind == 0))).cell? ⟨w1.heap.size + 1, 2, none⟩ = some (.int .i64 y.t.kind) := AX4.cell 2
  have m3 : (W3.setCell ⟨R, 1, none⟩ (.bool (y.t.kind == 0))).cell? ⟨w1.heap.size + 1, 3, none⟩ = some (.int .i64 y.t.a) := AX4.cell 3
  have m4 : (W3.setCell ⟨R, 1, none⟩ (.bool (y.t.kind == 0))).cell? ⟨w1.heap.size + 1, 4, none⟩ = some (.int .i64 y.t.x) := AX4.cell 4
  have m5 : (W3.setCell ⟨R, 1, none⟩ (.bool (y.t.kind == 0))).cell? ⟨w1.heap.size + 1, 5, none⟩ = some (.int .i64 y.t.y) := AX4.cell 5
  have qf : ∀ o, (W3.setCell ⟨R, 1, none⟩ (.bool (y.t.kind == 0))).frozen? ⟨q, o, none⟩ = false := fun o => froz_of_heap (eq4.trans hqh)
  have n0 : (W3.setCell ⟨R, 1, none⟩ (.bool (y.t.kind == 0))).cell? ⟨q, bs'.length * 6, none⟩ = some (.slice x.pu x.ps.length x.pc) := (cell_block eq4).trans (hqc 0 (by decide))
  have n1 : (W3.setCell ⟨R, 1, none⟩ (.bool (y.t.kind == 0))).cell? ⟨q, bs'.length * 6 + 1, none⟩ = some (.slice x.iu x.is.length x.ic) := (cell_block eq4).trans (hqc 1 (by decide))
  have n2 : (W3.setCell ⟨R, 1, none⟩ (.bool (y.t.kind == 0))).cell? ⟨q, bs'.length * 6 + 2, none⟩ = some (.int .i64 x.t.kind) := (cell_block eq4).trans (hqc 2 (by decide))
  have n3 : (W3.setCell ⟨R, 1, none⟩ (.bool (y.t.kind == 0))).cell? ⟨q, bs'.length * 6 + 3, none⟩ = some (.int .i64 x.t.a) := (cell_block eq4).trans (hqc 3 (by decide))
  have n4 : (W3.setCell ⟨R, 1, none⟩ (.bool (y.t.kind == 0))).cell? ⟨q, bs'.length * 6 + 4, none⟩ = some (.int .i64 x.t.x) := (cell_block eq4).trans (hqc 4 (by decide))
  have n5 : (W3.setCell ⟨R, 1, none⟩ (.bool (y.t.kind == 0))).cell? ⟨q, bs'.length * 6 + 5, none⟩ = some (.int .i64 x.t.y) := (cell_block eq4).trans (hqc 5 (by decide))
  obtain ⟨W5, hW5⟩ : ∃ W, (((((((W3.setCell ⟨R, 1, none⟩ (.bool (y.t.kind == 0))).setCell ⟨q, bs'.length * 6, none⟩ (.slice y.pu y.ps.length y.pc)).setCell ⟨q, bs'.length * 6 + 1, none⟩ (.slice y.iu y.is.length y.ic)).setCell ⟨q, bs'.length * 6 + 2, none⟩ (.int .i64 y.t.kind)).setCell ⟨q, bs'.length * 6 + 3, none⟩ (.int .i64 y.t.a)).setCell ⟨q, bs'.length * 6 + 4, none⟩ (.int .i64 y.t.x)).setCell ⟨q, bs'.length * 6 + 5, none⟩ (.int .i64 y.t.y)) = W := ⟨_, rfl⟩
  have S5 : Stay [q] (W3.setCell ⟨R, 1, none⟩ (.bool (y.t.kind == 0))) W5 := by
   rw [← hW5]
   exact ((((((Stay.refl _ _).set (.inl (by simp))).set (.inl (by simp))).set (.inl (by simp))).set (.inl (by simp))).set (.inl (by simp))).set (.inl (by simp))
  have eg5 : W5.heap[g]? = W3.heap[g]? := (S5.block g (by have := S4.size; omega) (by simpa using hgq)).trans eg4
  have AR5 : At W5.drew R #[.slice (some ⟨g, 0, none⟩) (fs.length + 1) vc, .bool (y.t.kind == 0)] 62 := (S5.block R (by have := S4.size; omega) (by simpa using hqR.symm)).trans A4
  have AF5 : At W5.drew w1.heap.size #[.slice f.pu f.pars.length f.pc, .int .i64 f.ret, .slice (some ⟨q, 0, none⟩) (bs'.length + 1) f.bc] 55 := (S5.block w1.heap.size (by have := S4.size; omega) (by simp; omega)).trans AF4
  have d0 : W5.drew.cell? ⟨R, 0, none⟩ = some (.slice (some ⟨g, 0, none⟩) (fs.length + 1) vc) := AR5.cell 0
  have f0 : W5.drew.cell? ⟨w1.heap.size, 0, none⟩ = some (.slice f.pu f.pars.length f.pc) := AF5.cell 0
  have f1 : W5.drew.cell? ⟨w1.heap.size, 1, none⟩ = some (.int .i64 f.ret) := AF5.cell 1
  have f2 : W5.drew.cell? ⟨w1.heap.size, 2, none⟩ = some (.slice (some ⟨q, 0, none⟩) (bs'.length + 1) f.bc) := AF5.cell 2
  have y0 : W5.drew.cell? ⟨g, fs.length * 3, none⟩ = some (.slice f.pu f.pars.length f.pc) := (cell_block eg5).trans (hgc 0 (by decide))
  have y1 : W5.drew.cell? ⟨g, fs.length * 3 + 1, none⟩ = some (.int .i64 f.ret) := (cell_block eg5).trans (hgc 1 (by decide))
  have y3 : W5.drew.cell? ⟨g, fs.length * 3 + 2, none⟩ = some (.slice f.bu f.bs.length f.bc) := (cell_block eg5).trans (hgc 2 (by decide))
  have gf : ∀ o, W5.drew.frozen? ⟨g, o, none⟩ = false := fun o => froz_of_heap (eg5.trans hgh)
  have eP : (putW W3 R q g fs f bs' y).drew = (((W5.drew.setCell ⟨g, fs.length * 3, none⟩ (.slice f.pu f.pars.length f.pc)).setCell ⟨g, fs.length * 3 + 1, none⟩ (.int .i64 f.ret)).setCell ⟨g, fs.length * 3 + 2, none⟩ (.slice (some ⟨q, 0, none⟩) (bs'.length + 1) f.bc)) := by
   have e : (bs' ++ [y]).length = bs'.length + 1 := by simp
   unfold putW
   rw [show bkC y = [.slice y.pu y.ps.length y.pc, .slice y.iu y.is.length y.ic, .int .i64 y.t.kind, .int .i64 y.t.a, .int .i64 y.t.x, .int .i64 y.t.y] from rfl, setCells_six, hW5, show fnC (putB f bs' y) = [.slice f.pu f.pars.length f.pc, .int .i64 f.ret, .slice f.bu (bs' ++ [y]).length f.bc] from rfl, setCells_three, drew_set, drew_set, drew_set, HQV.out, e]
  have HFin : Hid (StH (((W5.drew.setCell ⟨g, fs.length * 3, none⟩ (.slice f.pu f.pars.length f.pc)).setCell ⟨g, fs.length * 3 + 1, none⟩ (.int .i64 f.ret)).setCell ⟨g, fs.length * 3 + 2, none⟩ (.slice (some ⟨q, 0, none⟩) (bs'.length + 1) f.bc)) R (n + 1) (nxtO fs f bs' y)) := by
   have k := StH.keep (MidS.stH hn HM.out HQV.out) ((Below.refl _ _).drew)
   rw [eP] at k
   exact k
  have HLow : Hid (Below R W3 (((W5.drew.setCell ⟨g, fs.length * 3, none⟩ (.slice f.pu f.pars.length f.pc)).setCell ⟨g, fs.length * 3 + 1, none⟩ (.int .i64 f.ret)).setCell ⟨g, fs.length * 3 + 2, none⟩ (.slice (some ⟨q, 0, none⟩) (bs'.length + 1) f.bc))) := by
   have k := (MidS.low HM.out HQV.out).drew
   rw [eP] at k
   exact k
  have HW5 : Hid (W5.drew.cell? ⟨R, 0, none⟩ = some (.slice (some ⟨g, 0, none⟩) (fs.length + 1) vc) ∧ W5.drew.cell? ⟨w1.heap.size, 0, none⟩ = some (.slice f.pu f.pars.length f.pc) ∧ W5.drew.cell? ⟨w1.heap.size, 1, none⟩ = some (.int .i64 f.ret) ∧ W5.drew.cell? ⟨w1.heap.size, 2, none⟩ = some (.slice (some ⟨q, 0, none⟩) (bs'.length + 1) f.bc) ∧ W5.drew.cell? ⟨g, fs.length * 3, none⟩ = some (.slice f.pu f.pars.length f.pc) ∧ W5.drew.cell? ⟨g, fs.length * 3 + 1, none⟩ = some (.int .i64 f.ret) ∧ W5.drew.cell? ⟨g, fs.length * 3 + 2, none⟩ = some (.slice f.bu f.bs.length f.bc) ∧ (∀ o, W5.drew.frozen? ⟨g, o, none⟩ = false)) := ⟨d0, f0, f1, f2, y0, y1, y3, gf⟩
  have hgW : g ≠ w1.heap.size := by omega
  have hRW : R ≠ w1.heap.size := by omega
  clear d0 f0 f1 f2 y0 y1 y3 gf eP AR5 AF5 eg5 S5 eg4 eq4 hgh hgc hqh hqc A4 AF4 AX4 S4 hgv' hqv' hKr eb HM HAF HAX HQV hT
  go_wp2_with fail
  skip
  try rw [hW5]
  clear hW5
  obtain ⟨d0, f0, f1, f2, y0, y1, y3, gf⟩ := HW5.out
  clear HW5 m0 m1 m2' m3 m4 m5 n0 n1 n2 n3 n4 n5 qf k2 m2 r1 rf
  refine startX (fun w' => w'.cell? ⟨R, 0, none⟩ = some (.slice (some ⟨g, 0, none⟩) (fs.length + 1) vc) ∧ w'.cell? ⟨w1.heap.size, 0, none⟩ = some (.slice f.pu f.pars.length f.pc) ∧ w'.cell? ⟨w1.heap.size, 1, none⟩ = some (.int .i64 f.ret) ∧ w'.cell? ⟨w1.heap.size, 2, none⟩ = some (.slice (some ⟨q, 0, none⟩) (bs'.length + 1) f.bc)) (fun i => decide (7 ≤ i)) (by kernel_rfl) ?_
  obtain ⟨WG, hWG⟩ : ∃ W, W5.drew = W := ⟨_, rfl⟩
  rw [hWG] at d0 f0 f1 f2 y0 y1 y3 gf HFin HLow ⊢
  clear hWG
  refine takeX 0 (v := ?_) rfl rfl (by kernel_rfl) (fun _ _ _ h => h) (yesH (by rfl) ?_) ⟨d0, f0, f1, f2⟩ ?_
  rotate_left
  ·intro w9 hS9
   obtain ⟨g0, g1, g2, g3⟩ := hS9
   go_simp
   try with_reducible rfl
  try simp only [Act.put, sA, sB, sC]
  refine takeX 1 (v := ?_) rfl rfl (by kernel_rfl) (fun _ _ _ h => h) (yesH (by rfl) ?_) ⟨d0, f0, f1, f2⟩ ?_
  rotate_left
  ·intro w9 hS9
   obtain ⟨g0, g1, g2, g3⟩ := hS9
   go_simp
   try with_reducible rfl
  try simp only [Act.put, sA, sB, sC]
  refine takeX 2 (v := ?_) rfl rfl (by kernel_rfl) (fun _ _ _ h => h) (yesH (by rfl) ?_) ⟨d0, f0, f1, f2⟩ ?_
  rotate_left
  ·intro w9 hS9
   obtain ⟨g0, g1, g2, g3⟩ := hS9
   go_simp
   try with_reducible rfl
  try simp only [Act.put, sA, sB, sC]
  refine takeX 3 (v := ?_) rfl rfl (by kernel_rfl) (fun _ _ _ h => h) (yesH (by rfl) ?_) ⟨d0, f0, f1, f2⟩ ?_
  rotate_left
  ·intro w9 hS9
   obtain ⟨g0, g1, g2, g3⟩ := hS9
   go_simp
   try with_reducible rfl
  try simp only [Act.put, sA, sB, sC]
  refine takeX 4 (v := ?_) rfl rfl (by kernel_rfl) (fun _ _ _ h => h) (yesH (by rfl) ?_) ⟨d0, f0, f1, f2⟩ ?_
  rotate_left
  ·intro w9 hS9
   obtain ⟨g0, g1, g2, g3⟩ := hS9
   go_simp
   try with_reducible rfl
  try simp only [Act.put, sA, sB, sC]
  refine takeX 5 (v := ?_) rfl rfl (by kernel_rfl) (fun _ _ _ h => h) (yesH (by rfl) ?_) ⟨d0, f0, f1, f2⟩ ?_
  rotate_left
  ·intro w9 hS9
   obtain ⟨g0, g1, g2, g3⟩ := hS9
   go_simp
   try with_reducible rfl
  try simp only [Act.put, sA, sB, sC]
  refine takeX 6 (v := ?_) rfl rfl (by kernel_rfl) (fun _ _ _ h => h) (yesH (by rfl) ?_) ⟨d0, f0, f1, f2⟩ ?_
  rotate_left
  ·intro w9 hS9
   obtain ⟨g0, g1, g2, g3⟩ := hS9
   go_simp
   try with_reducible rfl
  try simp only [Act.put, sA, sB, sC]
  refine readyX 7 rfl (by kernel_rfl) (fun K hK => ?_)
  go_simp
  refine hK.out _ _ (.inl rfl) ?_
  clear hK K
  try simp only [Act.put, sA, sB, sC]
  refine readyX 8 rfl (by kernel_rfl) (fun K hK => ?_)
  go_simp
  refine hK.out _ _ (.inl rfl) ?_
  clear hK K
  refine doneX (by kernel_rfl) ?_ _
  go_wp2_with fail
  go_ret
  exact ⟨.inl ⟨_, rfl, HFin.out, HQ.out⟩, HBw.out.trans HLow.out⟩
end Go.Proofs.YtkpmiikafconmaaGreatDoor
