import Derived.Test.YtojhakjkfkmklaaGreatDoorRbTV
import Derived.Test.YtojhakjkfkmklaaGreatDoorRbMV
import Derived.Test.YtojhakjkfkmklaaGreatDoorFmGV
namespace Go.Proofs.YtojhakjkfkmklaaGreatDoor
open Go.RowKit
set_option linter.unusedVariables false
set_option linter.unusedSimpArgs false
theorem fit_mod {l : List FuncD} (h : modB l = true) : ∀ d ∈ l, FitF d := fun d hd => by
 have hp := plain_mod h d hd
 obtain ⟨_, h2⟩ := modB_parts h
 have h3 := h2 d hd
 simp only [funcB, Bool.and_eq_true, decide_eq_true_eq] at h3
 obtain ⟨⟨⟨⟨⟨⟨k1, _⟩, _⟩, _⟩, k5⟩, k6⟩, k7⟩ := h3
 refine ⟨k1, k5, fun b hb => ?_⟩
 have hc := cnt_parts b hb
 have h4 := List.all_eq_true.1 k7 b hb
 simp only [blockB, Bool.and_eq_true] at h4
 refine ⟨by omega, fun p hpp => ?_, by omega, fun i hi => ⟨(hp b hb).1 i hi, ops_len4 (List.all_eq_true.1 h4.1.2 i hi)⟩, (hp b hb).2⟩
 have h5 := List.all_eq_true.1 h4.1.1 p hpp
 simp only [phiB, Bool.and_eq_true, decide_eq_true_eq] at h5
 exact h5.1.2
def MdIs (s t : ByteArray) (es : List FuncD) (q k : Nat) (bad : Bool) : Prop := ∀ l, OkM s l → ∃ r, l = es ++ r ∧ r.length = q ∧ On t k bad (r.flatMap funcM)
theorem okm_ssa {s : ByteArray} {l : List FuncD} (h : OkM s l) : 9 ≤ s.size ∧ s.extract 0 4 = ssa1 := by
 have e := okm_body h
 have hd := vb_data (modM l) ssa1 (mod_rng h.1)
 have hs : (sumT (vb ssa1 (modM l))).size = 4 := sumT_size _
 have hz : (vb ssa1 (modM l)).size = (ssa1.data.toList ++ toL (modM l)).length := by rw [← hd]; exact Array.length_toList.symm
 have h4 : ssa1.data.toList.length = 4 := rfl
 have h1 : 1 ≤ (toL (modM l)).length := by
  unfold modM
  rw [toL_cons, List.length_append]
  have := List.length_pos_iff.2 (vl_ne ((l.length : Int)).toNat)
  omega
 rw [List.length_append] at hz
 refine ⟨by rw [e, ByteArray.size_append]; omega, ?_⟩
 apply ByteArray.ext
 apply Array.ext'
 rw [ext_list, List.drop_zero, e, ByteArray.data_append, Array.toList_append, hd]
 rw [List.append_assoc]
 exact List.take_left (l₁ := ssa1.data.toList)
theorem okm_on {s : ByteArray} {l : List FuncD} (h : OkM s l) : On (s.extract 0 (s.size - 4)) 4 false (modM l) := by
 obtain ⟨_, h2, _⟩ := okm_size h
 refine ⟨rfl, mod_rng h.1, ?_⟩
 rw [h2, vb_data _ _ (mod_rng h.1)]
 exact List.drop_left (l₁ := ssa1.data.toList)
theorem md_start {s : ByteArray} {n k2 : Nat} {b2 : Bool} (h : HeadIs 3 (s.extract 0 (s.size - 4)) 4 false n k2 b2) : MdIs s (s.extract 0 (s.size - 4)) [] n k2 b2 := fun l hl => by
 have ho := okm_on hl
 unfold modM at ho
 obtain ⟨e1, e2⟩ := h _ _ ho (by have := (modB_parts hl.1).1; omega)
 exact ⟨l, rfl, by omega, e2⟩
theorem md_next {s t : ByteArray} {es : List FuncD} {q k k2 : Nat} {bad b2 : Bool} {d : FuncD} (h : MdIs s t es q k bad) (hq : 0 < q) (h1 : FdIs t k bad d k2 b2) : MdIs s t (es ++ [d]) (q - 1) k2 b2 := fun l hl => by
 obtain ⟨r, e1, e2, e3⟩ := h l hl
 cases r with
 | nil => simp at e2; omega
 | cons p r =>
  rw [List.flatMap_cons] at e3
  obtain ⟨f1, f2⟩ := h1 p _ (fit_mod hl.1 p (by rw [e1]; simp)) e3
  refine ⟨r, ?_, by simp at e2; omega, f2⟩
  rw [e1, f1]
  simp
theorem md_bad {s t : ByteArray} {es : List FuncD} {q k : Nat} (h : MdIs s t es q k true) : ¬ ∃ l, OkM s l := fun ⟨l, hl⟩ => by
 obtain ⟨_, _, _, e⟩ := h l hl
 exact on_bad e
theorem md_end {s t : ByteArray} {es : List FuncD} {k : Nat} {bad : Bool} (h : MdIs s t es 0 k bad) : ∀ l, OkM s l → l = es := fun l hl => by
 obtain ⟨r, e1, e2, _⟩ := h l hl
 rw [e1, List.length_eq_zero_iff.1 e2, List.append_nil]
theorem okm_back {s : ByteArray} {l : List FuncD} (h9 : 9 ≤ s.size) (hz : s.size ≤ 20000) (h : modT l = s) : OkM s l := by
 refine ⟨?_, h.symm, hz⟩
 unfold modT at h
 by_cases hb : modB l = true
 ·exact hb
 ·rw [if_neg hb] at h
  rw [← h] at h9
  exact absurd h9 (by decide)
theorem ssa_list : ssa1.toList = [83, 83, 65, 49] := by rw [ByteArray.toList_eq]; rfl
structure JSt (w wr : World) (Bp G : Nat) (s : ByteArray) (k : Nat) (bad : Bool) (v : Value) : Prop where
 box : At wr Bp #[v] 26
 res : At wr w.heap.size #[.slice none 0 0] 26
 rd : RdM wr G s k bad
 below : Below w.heap.size w wr
 ltG : w.heap.size < G
 ltB : G < Bp
theorem JSt.step {w wr w2 : World} {Bp G : Nat} {s : ByteArray} {k k2 : Nat} {bad bad2 : Bool} {v : Value} (h : JSt w wr Bp G s k bad v) (ho : OnlyR G wr w2) (hr : RdM w2 G s k2 bad2) : JSt w w2 Bp G s k2 bad2 v :=
 ⟨(ho.block _ h.box.lt (by have := h.ltB; omega)).trans h.box, (ho.block _ h.res.lt (by have := h.ltG; omega)).trans h.res, hr, h.below.trans (ho.down (Nat.le_of_lt h.ltG) h.below.size), h.ltG, h.ltB⟩
theorem JSt.keep {w wr w2 : World} {Bp G : Nat} {s : ByteArray} {k : Nat} {bad : Bool} {v : Value} (h : JSt w wr Bp G s k bad v) (b : Below wr.heap.size wr w2) : JSt w w2 Bp G s k bad v :=
 h.step (OnlyR.below b) (At.below h.rd b)
theorem JSt.grown {w wr w2 : World} {Bp G : Nat} {s : ByteArray} {k : Nat} {bad : Bool} {v : Value} {r : Option Nat} (h : JSt w wr Bp G s k bad v) (g : wr.grownBy w2 r) (hr : ∀ g, r = some g → Bp < g) : JSt w w2 Bp G s k bad v :=
 ⟨(g.block _ h.box.lt (fun e => by have := hr _ e.symm; omega)).trans h.box, (g.block _ h.res.lt (fun e => by have := hr _ e.symm; have := h.ltG; have := h.ltB; omega)).trans h.res, (g.block _ (At.lt h.rd) (fun e => by have := hr _ e.symm; have := h.ltB; omega)).trans h.rd,
  ⟨g.os.trans h.below.os, g.tape.trans h.below.tape, g.output.trans h.below.output, Nat.le_trans h.below.size g.size, fun i hi => (g.block i (by have := h.below.size; omega) (fun e => by have := hr i e.symm; have := h.ltG; have := h.ltB; omega)).trans (h.below.block i hi)⟩, h.ltG, h.ltB⟩
theorem JSt.set0 {w wr : World} {Bp G : Nat} {s : ByteArray} {k : Nat} {bad : Bool} {v : Value} (h : JSt w wr Bp G s k bad v) (x : Value) : JSt w (wr.setCell ⟨Bp, 0, none⟩ x) Bp G s k bad x :=
 ⟨heap_set (o := 0) h.box, h.res.setOther (by have := h.ltG; have := h.ltB; omega), At.setOther h.rd (by have := h.ltB; omega), h.below.setCell (by have := h.ltG; have := h.ltB; dsimp only; omega) _, h.ltG, h.ltB⟩
def BytesToldS (s : ByteArray) (base : Nat) (e : Ending) (w' : World) : Prop :=
 (∃ (l : List FuncD) (u : Option Addr) (c : Nat), OkM s l ∧ e = .returned (.tuple #[.agg #[.slice u l.length c], .bool true]) ∧ FuncsAt w' base u l ∧ SmMod l) ∨ ((¬ ∃ l, OkM s l) ∧ e = .returned (.tuple #[.agg #[.slice none 0 0], .bool false]))
theorem infoFn2 : (Tryz.prog.info? 49).map (fun i => (i.zero, i.size, i.bytes)) = some (some (.agg #[.slice none 0 0, .int .i64 0, .slice none 0 0]), 3, 56) := by kernel_rfl
set_option maxHeartbeats 8000000 in
set_option maxRecDepth 100000 in
theorem readBS (s : ByteArray) (w : World) (hs : s.size ≤ 1048576) :
  Calls Tryz.prog 13 #[.string s] w fun e w' => BytesToldS s w.heap.size e w' ∧ Below w.heap.size w w' := by
 have B0 : Below w.heap.size w (w.alloc (.cells #[.slice none 0 0] 26)) := (Below.refl _ _).alloc (Nat.le_refl _) _
 have A0 := At.new w #[.slice none 0 0] 26
 have z0 : (w.alloc (.cells #[.slice none 0 0] 26)).heap.size = w.heap.size + 1 := by simp
 have HB0 : Hid (Below w.heap.size w (w.alloc (.cells #[.slice none 0 0] 26))) := B0
 have HA0 : Hid (At (w.alloc (.cells #[.slice none 0 0] 26)) w.heap.size #[.slice none 0 0] 26) := A0
 clear B0 A0
 obtain ⟨iF, hiF, zF, sF', bF⟩ := info_three infoFn2
 by_cases hok : 9 ≤ s.size ∧ s.size ≤ 20000 ∧ s.extract 0 4 = ssa1
 ·obtain ⟨h9, hz, he⟩ := hok
  have h1I : ¬ (s.size : Int) < 9 := by omega
  have h2I : ¬ (20000 : Int) < (s.size : Int) := by omega
  have h4I : (4 : Int) ≤ (s.size : Int) := by omega
  have E : ((s.extract 0 4).toList == [83, 83, 65, 49]) = true := ssa_list ▸ str_eqq he
  clear he
  have h5 : 0 ≤ (s.size : Int) - 4 := by omega
  have h6 : (s.size : Int) - 4 ≤ (s.size : Int) := by omega
  have h7 : ((s.size : Int) - 4).toNat = s.size - 4 := by omega
  obtain ⟨t, HT⟩ : ∃ t, Hid (s.extract 0 (s.size - 4) = t) := ⟨_, rfl⟩
  have hts : t.size = s.size - 4 := by rw [← HT.out, ByteArray.size_extract]; omega
  have hsl : ∀ v : World, (Instr.slice 9 (.string s) none (some (.int .i64 ((s.size : Int) - 4))) none).run Tryz.prog v = .ok (.string t) v := fun v => by
   rw [run_slice_string_to_if (h := Tryz.underlying9), if_pos (by omega), h7, HT.out]
  have B1 : Below (w.alloc (.cells #[.slice none 0 0] 26)).heap.size (w.alloc (.cells #[.slice none 0 0] 26)) ((w.alloc (.cells #[.slice none 0 0] 26)).alloc (.cells #[.string t, .int .i64 4, .bool false] 55)) := (Below.refl _ _).alloc (Nat.le_refl _) _
  have A1 := At.new (w.alloc (.cells #[.slice none 0 0] 26)) #[.string t, .int .i64 4, .bool false] 55
  rw [z0] at A1
  have z1 : ((w.alloc (.cells #[.slice none 0 0] 26)).alloc (.cells #[.string t, .int .i64 4, .bool false] 55)).heap.size = w.heap.size + 2 := by simp
  have B2 : Below ((w.alloc (.cells #[.slice none 0 0] 26)).alloc (.cells #[.string t, .int .i64 4, .bool false] 55)).heap.size ((w.alloc (.cells #[.slice none 0 0] 26)).alloc (.cells #[.string t, .int .i64 4, .bool false] 55)) (((w.alloc (.cells #[.slice none 0 0] 26)).alloc (.cells #[.string t, .int .i64 4, .bool false] 55)).alloc (.cells #[.slice none 0 0] 26)) := (Below.refl _ _).alloc (Nat.le_refl _) _
  have A2 := At.new ((w.alloc (.cells #[.slice none 0 0] 26)).alloc (.cells #[.string t, .int .i64 4, .bool false] 55)) #[.slice none 0 0] 26
  rw [z1] at A2
  have z2 : (((w.alloc (.cells #[.slice none 0 0] 26)).alloc (.cells #[.string t, .int .i64 4, .bool false] 55)).alloc (.cells #[.slice none 0 0] 26)).heap.size = w.heap.size + 3 := by simp
  have HS2 : Hid (JSt w (((w.alloc (.cells #[.slice none 0 0] 26)).alloc (.cells #[.string t, .int .i64 4, .bool false] 55)).alloc (.cells #[.slice none 0 0] 26)) (w.heap.size + 2) (w.heap.size + 1) t 4 false (.slice none 0 0)) :=
   ⟨A2, (HA0.out.below B1).below B2, At.below A1 B2, (HB0.out.trans (B1.mono HB0.out.size)).trans (B2.mono (by rw [z1]; omega)), by omega, by omega⟩
  have M1 := manyS 3 (w.heap.size + 1) t 4 false _ HS2.out.rd (by omega) (by omega) (by omega)
  clear B1 A1 B2 A2 HB0 HA0
  go_enter Tryz.func13, Tryz.ntmps13
  go_wp2_with fail
  generalize (((w.alloc (.cells #[.slice none 0 0] 26)).alloc (.cells #[.string t, .int .i64 4, .bool false] 55)).alloc (.cells #[.slice none 0 0] 26)) = W2 at *
  refine M1.mono ?_
  rintro e w3 ⟨n, k3, b3, rfl, hn, hk3, hon, hr3, ko3⟩
  have HX3 : Hid (MdIs s t [] n k3 b3) := by
   rw [← HT.out] at hon ⊢
   exact md_start hon
  have HS3 : Hid (JSt w w3 (w.heap.size + 2) (w.heap.size + 1) t k3 b3 (.slice none 0 0)) := HS2.out.step ko3 hr3
  have hf3 : w.heap.size + 3 ≤ w3.heap.size := HS3.out.box.lt
  clear M1 hon hr3 ko3 HS2 z0 z1 z2 hsl
  generalize hGG : w.heap.size + 1 = G at *
  generalize hBB : w.heap.size + 2 = Bp at *
  have hf3' : Bp + 1 ≤ w3.heap.size := by omega
  clear hf3
  go_upto_block 0 with fail
  go_cut [6] (fun i wc => ∃ (q : Nat) (v : Value) (es : List FnE) (k4 : Nat) (b4 : Bool), i = .int .i64 (q : Int) ∧ (q = 0 ∨ b4 = true) ∧ es.length ≤ 3 ∧ k4 ≤ t.size ∧ Hid (JSt w wc Bp G t k4 b4 v) ∧ Hid (RowS 49 3 fnC wc (Bp + 1) v es) ∧ Hid (Sub OwnFn wc (Bp + 1) wc.heap.size es) ∧ Hid (MdIs s t (es.map FnE.d) q k4 b4))
  case first =>
   go_wp2_with fail
   go_loopg [6] 4 (fun gk i wr => ∃ (q : Nat) (v : Value) (es : List FnE) (k4 : Nat) (b4 : Bool), i = .int .i64 (q : Int) ∧ q < gk ∧ es.length + q ≤ 3 ∧ k4 ≤ t.size ∧ Hid (JSt w wr Bp G t k4 b4 v) ∧ Hid (RowS 49 3 fnC wr (Bp + 1) v es) ∧ Hid (Sub OwnFn wr (Bp + 1) wr.heap.size es) ∧ Hid (MdIs s t (es.map FnE.d) q k4 b4))
   case atStart => exact ⟨n, _, [], k3, b3, rfl, by omega, by simp; omega, hk3, HS3.out, RowS.nil _ _ _ _ _, hf3', HX3.out⟩
   case round =>
    clear HS3 HX3 hf3'
    obtain ⟨q, v, es, k4, b4, rfl, hqg, hes, hk4, HS, HR, HU, HX⟩ := hrel
    obtain ⟨w4, hwo⟩ : ∃ w1, w1 = wr := ⟨_, rfl⟩
    subst hwo
    have c9 : w4.cell? ⟨G, 2, none⟩ = some (.bool b4) := HS.out.rd.cell 2
    by_cases hq : 0 < q
    ·have hqI : (0 : Int) < (q : Int) := by omega
     cases b4
     ·have N8 := fnS6 G t k4 false w4.drew HS.out.rd (by omega) hk4
      have c0 : w4.cell? ⟨Bp, 0, none⟩ = some v := HS.out.box.cell 0
      obtain ⟨vu, vc, rfl⟩ := HR.out.slice
      go_wp2_with fail
      clear c9
      refine startX (fun w' => w'.cell? ⟨Bp, 0, none⟩ = some (.slice vu es.length vc)) (fun i => decide (i = 7)) (by kernel_rfl) ?_
      refine takeX 0 (v := ?_) rfl rfl (by kernel_rfl) (fun _ _ _ h => h) (yesH (by rfl) ?_) c0 ?_
      rotate_left
      ·intro w9 hS9
       go_simp
       try with_reducible rfl
      try simp only [Act.put, sA, sB, sC]
      refine takeX 1 (v := ?_) rfl rfl (by kernel_rfl) (fun _ _ _ h => h) (yesH (by rfl) ?_) c0 ?_
      rotate_left
      ·intro w9 hS9
       have g0 := hS9
       go_simp
       try with_reducible rfl
      try simp only [Act.put, sA, sB, sC]
      refine takeX 2 (v := ?_) rfl rfl (by kernel_rfl) (fun _ _ _ h => h) (yesH (by rfl) ?_) c0 ?_
      rotate_left
      ·intro w9 hS9
       go_simp
       try with_reducible rfl
      try simp only [Act.put, sA, sB, sC]
      refine readyX 3 rfl (by kernel_rfl) (fun K hK => ?_)
      go_simp
      go_wp2_with fail
      refine N8.mono ?_
      rintro e w5 ⟨f, ka, ba, rfl, hu, hka, hxa, hra, koa'⟩
      have koa : OnlyR G w4 w5 := ⟨koa'.os, koa'.tape, koa'.output, koa'.size, koa'.block⟩
      have HXa : Hid (MdIs s t ((es ++ [f]).map FnE.d) (q - 1) ka ba) := by
       show MdIs _ _ _ _ _ _
       rw [List.map_append]
       exact md_next HX.out hq hxa
      have HSa : Hid (JSt w w5 Bp G t ka ba (.slice vu es.length vc)) := HS.out.step koa hra
      have STa := Still.onlyM koa HS.out.rd
      have HRa : Hid (RowS 49 3 fnC w5 (Bp + 1) (.slice vu es.length vc) es) := HR.out.still STa (by decide)
      have HUa : Hid (Sub OwnFn w5 (Bp + 1) w5.heap.size (es ++ [f])) := Sub.snoc (HU.out.still fun _ _ _ h => OwnFn.still h STa (by decide)) (Nat.le_refl _) koa.size hu
      have c4 : w5.cell? ⟨Bp, 0, none⟩ = some (.slice vu es.length vc) := HSa.out.box.cell 0
      have hmz : Bp + 1 ≤ w5.heap.size := HUa.out.le
      clear N8 hxa hra koa koa' HS HR HU HX STa hu c0
      refine hK.out _ _ (.inr c4) ?_
      clear hK K
      try simp only [sA, sB, sC]
      have bb : Below w5.heap.size w5 (w5.alloc (.cells #[.slice f.pu f.pars.length f.pc, .int .i64 f.ret, .slice f.bu f.bs.length f.bc] 49)) := (Below.refl _ _).alloc (Nat.le_refl _) _
      have HSb : Hid (JSt w (w5.alloc (.cells #[.slice f.pu f.pars.length f.pc, .int .i64 f.ret, .slice f.bu f.bs.length f.bc] 49)) Bp G t ka ba (.slice vu es.length vc)) := HSa.out.keep bb
      have STb : Still 9 w5 (w5.alloc (.cells #[.slice f.pu f.pars.length f.pc, .int .i64 f.ret, .slice f.bu f.bs.length f.bc] 49)) := Still.below bb
      have HRb : Hid (RowS 49 3 fnC (w5.alloc (.cells #[.slice f.pu f.pars.length f.pc, .int .i64 f.ret, .slice f.bu f.bs.length f.bc] 49)) (Bp + 1) (.slice vu es.length vc) es) := HRa.out.still STb (by decide)
      have HUb : Hid (Sub OwnFn (w5.alloc (.cells #[.slice f.pu f.pars.length f.pc, .int .i64 f.ret, .slice f.bu f.bs.length f.bc] 49)) (Bp + 1) (w5.alloc (.cells #[.slice f.pu f.pars.length f.pc, .int .i64 f.ret, .slice f.bu f.bs.length f.bc] 49)).heap.size (es ++ [f])) := (HUa.out.wide (Nat.le_refl _) bb.size).still fun _ _ _ h => OwnFn.still h STb (by decide)
      have c5 : (w5.alloc (.cells #[.slice f.pu f.pars.length f.pc, .int .i64 f.ret, .slice f.bu f.bs.length f.bc] 49)).cell? ⟨Bp, 0, none⟩ = some (.slice vu es.length vc) := HSb.out.box.cell 0
      obtain ⟨g6, cap6, wa, hrun, hown6, hgr6, _, _⟩ := run_append_lies (P := Tryz.prog) (w5.alloc (.cells #[.slice f.pu f.pars.length f.pc, .int .i64 f.ret, .slice f.bu f.bs.length f.bc] 49)) 24 24 (Bp + 1) 49 iF (.agg #[.slice none 0 0, .int .i64 0, .slice none 0 0]) 3 56 Tryz.underlying24 hiF zF sF' bF rfl (by decide) (.slice vu es.length vc) es.length (es.flatMap fnC) HRb.out ⟨w5.heap.size, 0, none⟩ 1 1 [.slice f.pu f.pars.length f.pc, .int .i64 f.ret, .slice f.bu f.bs.length f.bc] rfl (World.news_of_block (At.new w5 #[.slice f.pu f.pars.length f.pc, .int .i64 f.ret, .slice f.bu f.bs.length f.bc] 49)) (by simp [Value.oneCell']) (by decide) (by unfold maxLen; omega) (by omega) (Nat.le_trans hmz bb.size) _ rfl
      have HSc : Hid (JSt w wa Bp G t ka ba (.slice vu es.length vc)) := HSb.out.grown hgr6 (fun g e => (HRb.out.ge e).1)
      have STc : Still 4 (w5.alloc (.cells #[.slice f.pu f.pars.length f.pc, .int .i64 f.ret, .slice f.bu f.bs.length f.bc] 49)) wa := Still.grown hgr6 (fun g e => by obtain ⟨_, cur, hc⟩ := HRb.out.ge e; exact ⟨cur, _, hc, by decide⟩)
      have HRc : Hid (RowS 49 3 fnC wa (Bp + 1) (.slice (some ⟨g6, 0, none⟩) (es.length + 1) cap6) (es ++ [f])) := RowS.push hown6
      have HUc : Hid (Sub OwnFn wa (Bp + 1) wa.heap.size (es ++ [f])) := (HUb.out.wide (Nat.le_refl _) hgr6.size).still fun _ _ _ h => OwnFn.still h STc (by decide)
      have HSd : Hid (JSt w (wa.setCell ⟨Bp, 0, none⟩ (.slice (some ⟨g6, 0, none⟩) (es.length + 1) cap6)) Bp G t ka ba (.slice (some ⟨g6, 0, none⟩) (es.length + 1) cap6)) := HSc.out.set0 _
      have STd : Still 9 wa (wa.setCell ⟨Bp, 0, none⟩ (.slice (some ⟨g6, 0, none⟩) (es.length + 1) cap6)) := Still.set HSc.out.box (by decide)
      have HRd : Hid (RowS 49 3 fnC (wa.setCell ⟨Bp, 0, none⟩ (.slice (some ⟨g6, 0, none⟩) (es.length + 1) cap6)) (Bp + 1) (.slice (some ⟨g6, 0, none⟩) (es.length + 1) cap6) (es ++ [f])) := HRc.out.still STd (by decide)
      have HUd : Hid (Sub OwnFn (wa.setCell ⟨Bp, 0, none⟩ (.slice (some ⟨g6, 0, none⟩) (es.length + 1) cap6)) (Bp + 1) (wa.setCell ⟨Bp, 0, none⟩ (.slice (some ⟨g6, 0, none⟩) (es.length + 1) cap6)).heap.size (es ++ [f])) := (HUc.out.wide (Nat.le_refl _) (by simp only [World.size_setCell]; exact Nat.le_refl _)).still fun _ _ _ h => OwnFn.still h STd (by decide)
      have c6 : wa.cell? ⟨Bp, 0, none⟩ = some (.slice vu es.length vc) := HSc.out.box.cell 0
      have f6 : wa.frozen? ⟨Bp, 0, none⟩ = false := froz_of_heap HSc.out.box
      clear bb HSb STb HRb HUb STc HRc HUc STd HSa HRa HUa hown6 hgr6 HSc hmz
      refine readyX 4 rfl (by kernel_rfl) (fun K hK => ?_)
      go_simp
      refine hK.out _ _ (.inr c5) ?_
      clear hK K
      try simp only [Act.put, sA, sB, sC]
      refine readyX 5 rfl (by kernel_rfl) (fun K hK => ?_)
      refine step_runP rfl _ _ _ rfl rfl rfl hrun ?_
      refine hK.out _ _ (.inr c6) ?_
      clear hK K hrun
      try simp only [Act.put, sA, sB, sC]
      refine takeX 6 (v := ?_) rfl rfl (by kernel_rfl) (fun _ _ _ h => h) (yesH (by rfl) ?_) c6 ?_
      rotate_left
      ·intro w9 hS9
       go_simp
       try with_reducible rfl
      try simp only [Act.put, sA, sB, sC]
      refine readyX 7 rfl (by kernel_rfl) (fun K hK => ?_)
      go_simp
      refine hK.out _ _ (.inl rfl) ?_
      clear hK K
      refine doneX (by kernel_rfl) ?_ _
      go_wp2_with fail
      go_roundg (gk - 1)
      case measure => omega
      case rel => exact ⟨q - 1, _, _, ka, ba, by go_num, by omega, (by rw [List.length_append]; simp; omega), hka, HSd.out, HRd.out, HUd.out, HXa.out⟩
     ·go_wp2_with fail
      go_meet
      case rel => exact ⟨q, v, es, k4, true, rfl, .inr rfl, by omega, hk4, HS.out, HR.out, HU.out, HX.out⟩
    ·have hqI : ¬ (0 : Int) < (q : Int) := by omega
     go_wp2_with fail
     go_meet
     case rel => exact ⟨q, v, es, k4, b4, rfl, .inl (by omega), by omega, hk4, HS.out, HR.out, HU.out, HX.out⟩
  case rest =>
   clear HS3 HX3 hf3'
   obtain ⟨q, v, es, k4, b4, rfl, hqb, hes, hk4, HS, HR, HU, HX⟩ := hcut
   obtain ⟨vu, vc, rfl⟩ := HR.out.slice
   have c9 : wc.cell? ⟨G, 2, none⟩ = some (.bool b4) := HS.out.rd.cell 2
   have y0 : wc.cell? ⟨w.heap.size, 0, none⟩ = some (.slice none 0 0) := HS.out.res.cell 0
   have yf : ∀ o, wc.frozen? ⟨w.heap.size, o, none⟩ = false := fun o => froz_of_heap HS.out.res
   cases b4
   ·have hq0 : q = 0 := by simpa using hqb
    subst hq0
    have HME : Hid (∀ l, OkM s l → l = es.map FnE.d) := md_end HX.out
    have HW : Hid (OwnFns wc (Bp + 1) wc.heap.size vu es) := RowS.own (fun _ => rfl) (by omega) HR.out HU.out (Nat.le_refl _) (Nat.le_refl _)
    have hll : (es.map FnE.d).length = es.length := List.length_map ..
    have PB := modBytesS (Bp + 1) (es.map FnE.d) vu vc wc HW.out.sm HW.out.at_
    rw [hll] at PB
    have HSM : Hid (SmMod (es.map FnE.d)) := HW.out.sm
    have HFA : Hid (FuncsAt wc (Bp + 1) vu (es.map FnE.d)) := HW.out.at_
    have HBK : Hid (modT (es.map FnE.d) = s → OkM s (es.map FnE.d)) := okm_back h9 hz
    have HFR : Hid (OkM s (es.map FnE.d) → modT (es.map FnE.d) = s) := fun h => h.2.1.symm
    generalize modT (es.map FnE.d) = tb at PB HBK HFR
    have c0 : wc.cell? ⟨Bp, 0, none⟩ = some (.slice vu es.length vc) := HS.out.box.cell 0
    clear HX HR HU HW
    go_wp2_with fail
    refine PB.mono ?_
    rintro e w9 ⟨rfl, b9⟩
    have HS9 : Hid (JSt w w9 Bp G t k4 false (.slice vu es.length vc)) := HS.out.keep b9
    have HF9 : Hid (FuncsAt w9 (Bp + 1) vu (es.map FnE.d)) := HFA.out.keep (agree_of_below b9 _)
    clear PB b9 HS HFA c0 c9 y0 yf
    have y0 : w9.cell? ⟨w.heap.size, 0, none⟩ = some (.slice none 0 0) := HS9.out.res.cell 0
    have yf : ∀ o, w9.frozen? ⟨w.heap.size, o, none⟩ = false := fun o => froz_of_heap HS9.out.res
    have hwB : w.heap.size < Bp := by have := HS9.out.ltG; have := HS9.out.ltB; omega
    by_cases heq : tb = s
    ·have E2 : (tb.toList == s.toList) = true := str_eqq heq
     have HOk : Hid (OkM s (es.map FnE.d)) := HBK.out heq
     clear heq HBK HFR
     have c0 : w9.cell? ⟨Bp, 0, none⟩ = some (.slice vu es.length vc) := HS9.out.box.cell 0
     go_wp2_with fail
     have s0 := heap_set (o := 0) (v := .slice vu es.length vc) HS9.out.res
     have BW : Below w.heap.size w (w9.setCell ⟨w.heap.size, 0, none⟩ (.slice vu es.length vc)) := HS9.out.below.setCell (Nat.le_refl _) _
     have FF : FuncsAt (w9.setCell ⟨w.heap.size, 0, none⟩ (.slice vu es.length vc)) (Bp + 1) vu (es.map FnE.d) := HF9.out.keep ⟨by simp only [World.size_setCell]; exact Nat.le_refl _, fun b h1 h2 => Below.heap_setCell _ _ _ _ (by show b ≠ w.heap.size; omega)⟩
     exact bodyPost_ret (v := .tuple #[.agg #[.slice vu es.length vc], .bool true]) ((results_row_tmp Tryz.results13 _ _ w.heap.size _ rfl (run_loadVar_row _ _ 26 _ _ (0, 0) _ s0 Tryz.underlying26 rfl (by kernel_rfl))).trans (by rfl)) rfl ⟨.inl ⟨es.map FnE.d, vu, vc, HOk.out, by rw [hll], FF.low (by omega), HSM.out⟩, BW⟩
    ·have E2 : (tb.toList == s.toList) = false := str_neq heq
     have HNo : Hid (¬ ∃ l, OkM s l) := by
      rintro ⟨l, hl⟩
      have h1 := HME.out l hl
      subst h1
      exact heq (HFR.out hl)
     clear heq HBK HFR
     go_wp2_with fail
     have s0 := heap_set (o := 0) (v := .slice none 0 0) HS9.out.res
     have BW : Below w.heap.size w (w9.setCell ⟨w.heap.size, 0, none⟩ (.slice none 0 0)) := HS9.out.below.setCell (Nat.le_refl _) _
     exact bodyPost_ret (v := .tuple #[.agg #[.slice none 0 0], .bool false]) ((results_row_tmp Tryz.results13 _ _ w.heap.size _ rfl (run_loadVar_row _ _ 26 _ _ (0, 0) _ s0 Tryz.underlying26 rfl (by kernel_rfl))).trans (by rfl)) rfl ⟨.inr ⟨HNo.out, rfl⟩, BW⟩
   ·have HNo : Hid (¬ ∃ l, OkM s l) := md_bad HX.out
    go_wp2_with fail
    have s0 := heap_set (o := 0) (v := .slice none 0 0) HS.out.res
    have BW : Below w.heap.size w (wc.setCell ⟨w.heap.size, 0, none⟩ (.slice none 0 0)) := HS.out.below.setCell (Nat.le_refl _) _
    exact bodyPost_ret (v := .tuple #[.agg #[.slice none 0 0], .bool false]) ((results_row_tmp Tryz.results13 _ _ w.heap.size _ rfl (run_loadVar_row _ _ 26 _ _ (0, 0) _ s0 Tryz.underlying26 rfl (by kernel_rfl))).trans (by rfl)) rfl ⟨.inr ⟨HNo.out, rfl⟩, BW⟩
 ·have HNo : Hid (¬ ∃ l, OkM s l) := by
   rintro ⟨l, hl⟩
   exact hok ⟨(okm_ssa hl).1, hl.2.2, (okm_ssa hl).2⟩
  by_cases h1 : s.size < 9
  ·have h1I : (s.size : Int) < 9 := by omega
   clear hok
   go_enter Tryz.func13, Tryz.ntmps13
   go_wp2_with fail
   exact bodyPost_ret (v := .tuple #[.agg #[.slice none 0 0], .bool false]) ((results_row_tmp Tryz.results13 _ _ w.heap.size _ rfl (run_loadVar_row _ _ 26 _ _ (0, 0) _ HA0.out Tryz.underlying26 rfl (by kernel_rfl))).trans (by rfl)) rfl ⟨.inr ⟨HNo.out, rfl⟩, HB0.out⟩
  ·have h1I : ¬ (s.size : Int) < 9 := by omega
   by_cases h2 : 20000 < s.size
   ·have h2I : (20000 : Int) < (s.size : Int) := by omega
    clear hok
    go_enter Tryz.func13, Tryz.ntmps13
    go_wp2_with fail
    exact bodyPost_ret (v := .tuple #[.agg #[.slice none 0 0], .bool false]) ((results_row_tmp Tryz.results13 _ _ w.heap.size _ rfl (run_loadVar_row _ _ 26 _ _ (0, 0) _ HA0.out Tryz.underlying26 rfl (by kernel_rfl))).trans (by rfl)) rfl ⟨.inr ⟨HNo.out, rfl⟩, HB0.out⟩
   ·have h2I : ¬ (20000 : Int) < (s.size : Int) := by omega
    have h4I : (4 : Int) ≤ (s.size : Int) := by omega
    have E : ((s.extract 0 4).toList == [83, 83, 65, 49]) = false := ssa_list ▸ str_neq (fun e => hok ⟨by omega, by omega, e⟩)
    clear hok
    go_enter Tryz.func13, Tryz.ntmps13
    go_wp2_with fail
    exact bodyPost_ret (v := .tuple #[.agg #[.slice none 0 0], .bool false]) ((results_row_tmp Tryz.results13 _ _ w.heap.size _ rfl (run_loadVar_row _ _ 26 _ _ (0, 0) _ HA0.out Tryz.underlying26 rfl (by kernel_rfl))).trans (by rfl)) rfl ⟨.inr ⟨HNo.out, rfl⟩, HB0.out⟩
end Go.Proofs.YtojhakjkfkmklaaGreatDoor
