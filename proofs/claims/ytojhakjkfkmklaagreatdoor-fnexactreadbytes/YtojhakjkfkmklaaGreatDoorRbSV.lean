import Derived.Test.YtojhakjkfkmklaaGreatDoorRbRV
import Derived.Test.YtojhakjkfkmklaaGreatDoorRbKV
namespace Go.Proofs.YtojhakjkfkmklaaGreatDoor
open Go.RowKit
set_option linter.unusedVariables false
set_option linter.unusedSimpArgs false
def HeadIs (most : Int) (s : ByteArray) (k : Nat) (bad : Bool) (n k' : Nat) (bad' : Bool) : Prop := ∀ x L, On s k bad (x :: L) → x ≤ most → (n : Int) = x ∧ On s k' bad' L
def RowIs (most : Int) (s : ByteArray) (k : Nat) (bad : Bool) (l : List Int) (k' : Nat) (bad' : Bool) : Prop := ∀ l' L, On s k bad (listN l' ++ L) → (l'.length : Int) ≤ most → l = l' ∧ On s k' bad' L
def FitB (b : BlockD) : Prop := b.phis.length ≤ 60 ∧ (∀ p ∈ b.phis, p.ins.length ≤ 10) ∧ b.insts.length ≤ 60 ∧ (∀ i ∈ b.insts, Plain i ∧ (opsD i).length ≤ 4) ∧ PlainT b.term
def FitF (d : FuncD) : Prop := d.params.length ≤ 4 ∧ d.blocks.length ≤ 10 ∧ ∀ b ∈ d.blocks, FitB b
def PhIs (s : ByteArray) (k : Nat) (bad : Bool) (ps : List PhiD) (q k2 : Nat) (b2 : Bool) : Prop := ∀ b L, FitB b → On s k bad (blockM b ++ L) → ∃ r, b.phis = ps ++ r ∧ r.length = q ∧ On s k2 b2 (r.flatMap phiM ++ (instsM b.insts ++ (termM b.term ++ L)))
def InIs (s : ByteArray) (k : Nat) (bad : Bool) (ps : List PhiD) (is : List InstD) (q k2 : Nat) (b2 : Bool) : Prop := ∀ b L, FitB b → On s k bad (blockM b ++ L) → b.phis = ps ∧ ∃ r, b.insts = is ++ r ∧ r.length = q ∧ On s k2 b2 (r.flatMap instM ++ (termM b.term ++ L))
def BkIs (s : ByteArray) (k : Nat) (bad : Bool) (b' : BlockD) (k2 : Nat) (b2 : Bool) : Prop := ∀ b L, FitB b → On s k bad (blockM b ++ L) → b' = b ∧ On s k2 b2 L
def FhIs (s : ByteArray) (k : Nat) (bad : Bool) (ret : Int) (ps : List Int) (k2 : Nat) (b2 : Bool) : Prop := ∀ d L, FitF d → On s k bad (funcM d ++ L) → d.ret = ret ∧ d.params = ps ∧ On s k2 b2 ((d.blocks.length : Int) :: (d.blocks.flatMap blockM ++ L))
def FnIs (s : ByteArray) (k : Nat) (bad : Bool) (ret : Int) (ps : List Int) (bs : List BlockD) (q k2 : Nat) (b2 : Bool) : Prop := ∀ d L, FitF d → On s k bad (funcM d ++ L) → d.ret = ret ∧ d.params = ps ∧ ∃ r, d.blocks = bs ++ r ∧ r.length = q ∧ On s k2 b2 (r.flatMap blockM ++ L)
def FdIs (s : ByteArray) (k : Nat) (bad : Bool) (d' : FuncD) (k2 : Nat) (b2 : Bool) : Prop := ∀ d L, FitF d → On s k bad (funcM d ++ L) → d' = d ∧ On s k2 b2 L
theorem ph_start {s : ByteArray} {k n k2 : Nat} {bad b2 : Bool} (h : HeadIs 60 s k bad n k2 b2) : PhIs s k bad [] n k2 b2 := fun b L hb ho => by
 unfold blockM phisM at ho
 rw [List.append_assoc, List.append_assoc, List.cons_append] at ho
 obtain ⟨e1, e2⟩ := h _ _ ho (by have := hb.1; omega)
 exact ⟨b.phis, rfl, by omega, e2⟩
theorem ph_next {s : ByteArray} {k q k2 k3 k4 : Nat} {bad b2 b3 b4 : Bool} {ps : List PhiD} {wi : Int} {l : List Int} (h : PhIs s k bad ps q k2 b2) (hq : 0 < q) (h1 : NumIs s k2 b2 wi k3 b3) (h2 : RowIs 10 s k3 b3 l k4 b4) : PhIs s k bad (ps ++ [⟨wi, l⟩]) (q - 1) k4 b4 := fun b L hb ho => by
 obtain ⟨r, e1, e2, e3⟩ := h b L hb ho
 cases r with
 | nil => simp at e2; omega
 | cons p r =>
  rw [List.flatMap_cons] at e3
  unfold phiM at e3
  rw [List.append_assoc, List.cons_append] at e3
  obtain ⟨f1, f2⟩ := h1.2.2.2 _ _ e3
  obtain ⟨f3, f4⟩ := h2 _ _ f2 (by have := hb.2.1 p (by rw [e1]; simp); omega)
  refine ⟨r, ?_, by simp at e2; omega, f4⟩
  rw [e1, f1, f3]
  simp
theorem on_bad {s : ByteArray} {k : Nat} {L : List Int} (h : On s k true L) : False := by cases h.1
theorem in_start {s : ByteArray} {k q k2 n k3 : Nat} {bad b2 b3 : Bool} {ps : List PhiD} (h : PhIs s k bad ps q k2 b2) (hq : q = 0 ∨ b2 = true) (h1 : HeadIs 60 s k2 b2 n k3 b3) : InIs s k bad ps [] n k3 b3 := fun b L hb ho => by
 obtain ⟨r, e1, e2, e3⟩ := h b L hb ho
 rcases hq with hq | hq
 ·have : r = [] := List.length_eq_zero_iff.1 (by omega)
  subst this
  unfold instsM at e3
  obtain ⟨f1, f2⟩ := h1 _ _ e3 (by have := hb.2.2.1; omega)
  exact ⟨by rw [e1]; simp, b.insts, rfl, by omega, f2⟩
 ·subst hq
  exact (on_bad e3).elim
theorem in_next {s : ByteArray} {k q k2 k3 : Nat} {bad b2 b3 : Bool} {ps : List PhiD} {is : List InstD} {i : InstD} (h : InIs s k bad ps is q k2 b2) (hq : 0 < q) (h1 : InstIs s k2 b2 i k3 b3) : InIs s k bad ps (is ++ [i]) (q - 1) k3 b3 := fun b L hb ho => by
 obtain ⟨e0, r, e1, e2, e3⟩ := h b L hb ho
 cases r with
 | nil => simp at e2; omega
 | cons p r =>
  rw [List.flatMap_cons, List.append_assoc] at e3
  obtain ⟨p1, p2⟩ := hb.2.2.2.1 p (by rw [e1]; simp)
  obtain ⟨f1, f2⟩ := h1.2 _ _ p1 p2 e3
  refine ⟨e0, r, ?_, by simp at e2; omega, f2⟩
  rw [e1, f1]
  simp
theorem bk_done {s : ByteArray} {k q k2 k3 : Nat} {bad b2 b3 : Bool} {ps : List PhiD} {is : List InstD} {t : TermD} (h : InIs s k bad ps is q k2 b2) (hq : q = 0 ∨ b2 = true) (h1 : TermIs s k2 b2 t k3 b3) : BkIs s k bad ⟨ps, is, t⟩ k3 b3 := fun b L hb ho => by
 obtain ⟨e0, r, e1, e2, e3⟩ := h b L hb ho
 rcases hq with hq | hq
 ·have : r = [] := List.length_eq_zero_iff.1 (by omega)
  subst this
  obtain ⟨f1, f2⟩ := h1.2 _ _ hb.2.2.2.2 e3
  refine ⟨?_, f2⟩
  cases b
  simp only at e0 e1 f1 ⊢
  rw [e0, e1, f1]
  simp
 ·subst hq
  exact (on_bad e3).elim
theorem fh_start {s : ByteArray} {k k2 k3 : Nat} {bad b2 b3 : Bool} {ret : Int} {l : List Int} (h1 : NumIs s k bad ret k2 b2) (h2 : RowIs 4 s k2 b2 l k3 b3) : FhIs s k bad ret l k3 b3 := fun d L hd ho => by
 unfold funcM fheadM at ho
 rw [List.append_assoc, List.cons_append, List.append_assoc] at ho
 obtain ⟨f1, f2⟩ := h1.2.2.2 _ _ ho
 obtain ⟨f3, f4⟩ := h2 _ _ f2 (by have := hd.1; omega)
 exact ⟨f1.symm, f3.symm, f4⟩
theorem fn_start {s : ByteArray} {k k2 n k3 : Nat} {bad b2 b3 : Bool} {ret : Int} {l : List Int} (h : FhIs s k bad ret l k2 b2) (h1 : HeadIs 10 s k2 b2 n k3 b3) : FnIs s k bad ret l [] n k3 b3 := fun d L hd ho => by
 obtain ⟨e1, e2, e3⟩ := h d L hd ho
 obtain ⟨f1, f2⟩ := h1 _ _ e3 (by have := hd.2.1; omega)
 exact ⟨e1, e2, d.blocks, rfl, by omega, f2⟩
theorem fn_next {s : ByteArray} {k q k2 k3 : Nat} {bad b2 b3 : Bool} {ret : Int} {l : List Int} {bs : List BlockD} {b : BlockD} (h : FnIs s k bad ret l bs q k2 b2) (hq : 0 < q) (h1 : BkIs s k2 b2 b k3 b3) : FnIs s k bad ret l (bs ++ [b]) (q - 1) k3 b3 := fun d L hd ho => by
 obtain ⟨e1, e2, r, e3, e4, e5⟩ := h d L hd ho
 cases r with
 | nil => simp at e4; omega
 | cons p r =>
  rw [List.flatMap_cons, List.append_assoc] at e5
  obtain ⟨f1, f2⟩ := h1 _ _ (hd.2.2 p (by rw [e3]; simp)) e5
  refine ⟨e1, e2, r, ?_, by simp at e4; omega, f2⟩
  rw [e3, f1]
  simp
theorem fn_done {s : ByteArray} {k q k2 : Nat} {bad b2 : Bool} {ret : Int} {l : List Int} {bs : List BlockD} (h : FnIs s k bad ret l bs q k2 b2) (hq : q = 0 ∨ b2 = true) : FdIs s k bad ⟨l, ret, bs⟩ k2 b2 := fun d L hd ho => by
 obtain ⟨e1, e2, r, e3, e4, e5⟩ := h d L hd ho
 rcases hq with hq | hq
 ·have : r = [] := List.length_eq_zero_iff.1 (by omega)
  subst this
  refine ⟨?_, e5⟩
  cases d
  simp only at e1 e2 e3 ⊢
  rw [e1, e2, e3]
  simp
 ·subst hq
  exact (on_bad e5).elim
theorem Still.onlyM {G k : Nat} {bad : Bool} {s : ByteArray} {w w' : World} (h : OnlyR G w w') (hG : RdM w G s k bad) : Still 9 w w' := fun b cur T hb hT => by
 refine (h.block b (Array.getElem?_eq_some_iff.1 hb).1 (fun e => ?_)).trans hb
 rw [e, show w.heap[G]? = _ from hG] at hb
 cases hb
 exact absurd hT (by decide)
theorem OnlyR.grow {G : Nat} {w w1 w2 : World} {r : Option Nat} (h : OnlyR G w w1) (hg : w1.grownBy w2 r) (hr : ∀ g, r = some g → w.heap.size ≤ g) : OnlyR G w w2 :=
 ⟨hg.os.trans h.os, hg.tape.trans h.tape, hg.output.trans h.output, Nat.le_trans h.size hg.size, fun i hi hn => (hg.block i (by have := h.size; omega) (fun e => by have := hr i e.symm; omega)).trans (h.block i hi hn)⟩
structure KSt (w wr : World) (G : Nat) (s : ByteArray) (k : Nat) (bad : Bool) (v1 v2 : Value) (t : TermD) : Prop where
 box : At wr w.heap.size #[v1, v2, .int .i64 t.kind, .int .i64 t.a, .int .i64 t.x, .int .i64 t.y] 86
 rd : RdM wr G s k bad
 only : OnlyR G w wr
 lt : G < w.heap.size
theorem KSt.step {w wr w2 : World} {G : Nat} {s : ByteArray} {k k2 : Nat} {bad bad2 : Bool} {v1 v2 : Value} {t : TermD} (h : KSt w wr G s k bad v1 v2 t) (ho : OnlyR G wr w2) (hr : RdM w2 G s k2 bad2) : KSt w w2 G s k2 bad2 v1 v2 t :=
 ⟨(ho.block _ h.box.lt (by have := h.lt; omega)).trans h.box, hr, h.only.trans ho, h.lt⟩
theorem KSt.keep {w wr w2 : World} {G : Nat} {s : ByteArray} {k : Nat} {bad : Bool} {v1 v2 : Value} {t : TermD} (h : KSt w wr G s k bad v1 v2 t) (b : Below wr.heap.size wr w2) : KSt w w2 G s k bad v1 v2 t :=
 h.step (OnlyR.below b) (At.below h.rd b)
theorem KSt.grown {w wr w2 : World} {G : Nat} {s : ByteArray} {k : Nat} {bad : Bool} {v1 v2 : Value} {t : TermD} {r : Option Nat} (h : KSt w wr G s k bad v1 v2 t) (g : wr.grownBy w2 r) (hr : ∀ g, r = some g → w.heap.size < g) : KSt w w2 G s k bad v1 v2 t :=
 ⟨(g.block _ h.box.lt (fun e => by have := hr _ e.symm; omega)).trans h.box, (g.block _ (At.lt h.rd) (fun e => by have := hr _ e.symm; have := h.lt; omega)).trans h.rd, h.only.grow g (fun q e => by have := hr q e; omega), h.lt⟩
theorem KSt.set0 {w wr : World} {G : Nat} {s : ByteArray} {k : Nat} {bad : Bool} {v1 v2 : Value} {t : TermD} (h : KSt w wr G s k bad v1 v2 t) (v : Value) : KSt w (wr.setCell ⟨w.heap.size, 0, none⟩ v) G s k bad v v2 t :=
 ⟨heap_set (o := 0) h.box, At.setOther h.rd (by have := h.lt; omega), h.only.fresh (by omega), h.lt⟩
theorem KSt.set1 {w wr : World} {G : Nat} {s : ByteArray} {k : Nat} {bad : Bool} {v1 v2 : Value} {t : TermD} (h : KSt w wr G s k bad v1 v2 t) (v : Value) : KSt w (wr.setCell ⟨w.heap.size, 1, none⟩ v) G s k bad v1 v t :=
 ⟨heap_set (o := 1) h.box, At.setOther h.rd (by have := h.lt; omega), h.only.fresh (by omega), h.lt⟩
structure FSt (w wr : World) (F G : Nat) (s : ByteArray) (k : Nat) (bad : Bool) (cs : Array Value) : Prop where
 box : At wr F cs 49
 res : At wr w.heap.size #[.slice none 0 0, .int .i64 0, .slice none 0 0] 49
 rd : RdM wr G s k bad
 only : OnlyR G w wr
 lt : G < w.heap.size
 ltF : w.heap.size < F
theorem FSt.step {w wr w2 : World} {F G : Nat} {s : ByteArray} {k k2 : Nat} {bad bad2 : Bool} {cs : Array Value} (h : FSt w wr F G s k bad cs) (ho : OnlyR G wr w2) (hr : RdM w2 G s k2 bad2) : FSt w w2 F G s k2 bad2 cs :=
 ⟨(ho.block _ h.box.lt (by have := h.lt; have := h.ltF; omega)).trans h.box, (ho.block _ h.res.lt (by have := h.lt; omega)).trans h.res, hr, h.only.trans ho, h.lt, h.ltF⟩
theorem FSt.keep {w wr w2 : World} {F G : Nat} {s : ByteArray} {k : Nat} {bad : Bool} {cs : Array Value} (h : FSt w wr F G s k bad cs) (b : Below wr.heap.size wr w2) : FSt w w2 F G s k bad cs :=
 h.step (OnlyR.below b) (At.below h.rd b)
theorem FSt.grown {w wr w2 : World} {F G : Nat} {s : ByteArray} {k : Nat} {bad : Bool} {cs : Array Value} {r : Option Nat} (h : FSt w wr F G s k bad cs) (g : wr.grownBy w2 r) (hr : ∀ g, r = some g → F < g) : FSt w w2 F G s k bad cs :=
 ⟨(g.block _ h.box.lt (fun e => by have := hr _ e.symm; omega)).trans h.box, (g.block _ h.res.lt (fun e => by have := hr _ e.symm; have := h.ltF; omega)).trans h.res, (g.block _ (At.lt h.rd) (fun e => by have := hr _ e.symm; have := h.lt; have := h.ltF; omega)).trans h.rd, h.only.grow g (fun q e => by have := hr q e; have := h.ltF; omega), h.lt, h.ltF⟩
theorem FSt.set {w wr : World} {F G : Nat} {s : ByteArray} {k : Nat} {bad : Bool} {cs : Array Value} (h : FSt w wr F G s k bad cs) (o : Nat) (v : Value) : FSt w (wr.setCell ⟨F, o, none⟩ v) F G s k bad (cs.setIfInBounds o v) :=
 ⟨heap_set (o := o) h.box, h.res.setOther (by have := h.ltF; omega), At.setOther h.rd (by have := h.lt; have := h.ltF; omega), h.only.fresh (by have := h.ltF; omega), h.lt, h.ltF⟩
end Go.Proofs.YtojhakjkfkmklaaGreatDoor
