import Derived.Test.YtenbodghkpbghaaDoorMemQ
import Derived.ProofKit
import Derived.OpenShut
import Derived.Deep.Slices
import Derived.Lib.SmallJoins
namespace Go.Proofs.YtenbodghkpbghaaDoor
open Go.ChangeShapes Go.WideShapes Go.ChangeAt Go.RowKit Go.Deep
section
variable {H : Type} {enc : TypeId × Value → H} {w : World}
theorem slice_of {α : Type} (z : α) {t e : TypeId} {sz fuel : Nat} {c : Value} {x : DataW H × List MemPlace} (Rep : List Value → α → Prop) (ht : Tryd.prog.underlying t = some (.slice e)) (hsz : Tryd.prog.cellsOf e = sz) (h0 : 0 < sz)
  (hrep : ∀ fuel cs x, DataW.trod enc Tryd.prog w 0 (fun _ => true) true fuel e cs = some x → ∃ d, Rep cs d) (h : DataW.trod enc Tryd.prog w 0 (fun _ => true) true fuel t [c] = some x) :
  ∃ (a : Option Addr) (l : List α) (cap : Nat), c = .slice a l.length cap ∧ l.length ≤ 9223372036854775807 ∧ (l = [] ∨ ∃ b off, a = some ⟨b, off, none⟩ ∧ 0 ≤ b ∧ b < w.heap.size ∧ ∀ i, i < l.length → ∃ cs : List Value, cs.length = sz ∧ (∀ j, j < sz → w.cell? ⟨b, off + i * sz + j, none⟩ = cs[j]?) ∧ Rep cs (l.getD i z)) := by
 rcases open_slice ht h with ⟨hc, _⟩ | ⟨a, len, cap, m, n, D, Pl, hc, _, hl, hm, hmm, _, hx⟩
 ·simp at hc
  exact ⟨none, [], 0, by simpa using hc, by simp, .inl rfl⟩
 ·simp at hc
  have hml : len ≤ m := by simp at hmm; omega
  rw [hsz] at hx
  have hy : ∀ i, i < len → ∃ d : α, ∃ cs' : List Value, w.cells? 0 (a.add (i * sz)) sz = some cs' ∧ Rep cs' d := fun i hi => by
   obtain ⟨cs', h1, h2⟩ := hx i (by omega)
   obtain ⟨d, hd⟩ := hrep _ _ _ h2
   exact ⟨d, cs', h1, hd⟩
  have hin : Inhabited α := ⟨z⟩
  obtain ⟨f, hf⟩ := choose_lt hy
  have hlen : ((List.range len).map f).length = len := by simp
  refine ⟨some a, (List.range len).map f, cap, by rw [hlen]; exact hc, ?_, ?_⟩
  ·rw [hlen]; unfold maxLen at hm; omega
  ·rw [hlen]
   by_cases hz : len = 0
   ·left; simp [hz]
   right
   obtain ⟨b, off, spot⟩ := a
   have hcell : ∀ i, i < len → ∃ cs : List Value, cs.length = sz ∧ (∀ j, j < sz → w.cell? ((⟨b, off, spot⟩ : Addr).add (i * sz + j)) = cs[j]?) ∧ Rep cs (f i) := fun i hi => by
    obtain ⟨cs', h1, h2⟩ := hf i hi
    obtain ⟨_, h3, h4⟩ := World.cells?_some h1
    exact ⟨cs', h3, fun j hj => by rw [← add_add]; exact h4 j hj, h2⟩
   have hspot : spot = none := by
    obtain ⟨cs, h3, h4, _⟩ := hcell 0 (by omega)
    have h5 := h4 0 h0
    rw [List.getElem?_eq_getElem (by omega)] at h5
    simpa [Addr.add] using World.cell?_spot h5
   subst hspot
   have hat : ∀ k, (⟨b, off, none⟩ : Addr).add k = ⟨b, off + k, none⟩ := fun k => by unfold Addr.add; split <;> simp_all
   have hbl : b < w.heap.size := by
    obtain ⟨cs, h3, h4, _⟩ := hcell 0 (by omega)
    have h5 := h4 0 h0
    rw [hat, List.getElem?_eq_getElem (by omega)] at h5
    unfold World.cell? at h5
    cases hb : w.heap[b]? with
    | none => simp [hb] at h5
    | some x => exact (Array.getElem?_eq_some_iff.1 hb).1
   refine ⟨b, off, rfl, Nat.zero_le _, hbl, fun i hi => ?_⟩
   obtain ⟨cs, h3, h4, h5⟩ := hcell i hi
   refine ⟨cs, h3, fun j hj => ?_, ?_⟩
   ·have := h4 j hj
    rw [hat] at this
    rw [Nat.add_assoc]; exact this
   ·have e : ((List.range len).map f).getD i z = f i := by simp [List.getD, hi]
    rw [e]; exact h5
theorem int_of {fuel : Nat} {cs : List Value} {x : DataW H × List MemPlace} (h : DataW.trod enc Tryd.prog w 0 (fun _ => true) true fuel 2 cs = some x) : ∃ n : Int, cs = [.int .i64 n] := by
 obtain ⟨n, e, _⟩ := DataW.trod_int Tryd.underlying2 h
 exact ⟨n, e⟩
theorem ints_of {fuel : Nat} {c : Value} {x : DataW H × List MemPlace} (h : DataW.trod enc Tryd.prog w 0 (fun _ => true) true fuel 24 [c] = some x) : ∃ (u : Option Addr) (l : List Int) (q : Nat), c = .slice u l.length q ∧ IntsAt w 0 u l := by
 obtain ⟨a, l, cap, hc, hm, hl⟩ := slice_of (α := Int) 0 (sz := 1) (fun cs n => cs = [.int .i64 n]) Tryd.underlying24 (by kernel_rfl) (by omega) (fun _ _ _ h => int_of h) h
 refine ⟨a, l, cap, hc, hm, ?_⟩
 rcases hl with hl | ⟨b, off, ha, h0, hb, hcell⟩
 ·exact .inl hl
 ·refine .inr ⟨b, off, ha, h0, hb, fun i hi => ?_⟩
  obtain ⟨cs, _, h4, rfl⟩ := hcell i hi
  have := h4 0 (by omega)
  simpa using this
theorem list2 {l : List Value} (h : l.length = 2) : ∃ a b, l = [a, b] := by
 match l, h with
 | [a, b], _ => exact ⟨a, b, rfl⟩
theorem list3 {l : List Value} (h : l.length = 3) : ∃ a b c, l = [a, b, c] := by
 match l, h with
 | [a, b, c], _ => exact ⟨a, b, c, rfl⟩
theorem list4 {l : List Value} (h : l.length = 4) : ∃ a b c d, l = [a, b, c, d] := by
 match l, h with
 | [a, b, c, d], _ => exact ⟨a, b, c, d, rfl⟩
theorem list6 {l : List Value} (h : l.length = 6) : ∃ a b c d e f, l = [a, b, c, d, e, f] := by
 match l, h with
 | [a, b, c, d, e, f], _ => exact ⟨a, b, c, d, e, f, rfl⟩
theorem list7 {l : List Value} (h : l.length = 7) : ∃ a b c d e f g, l = [a, b, c, d, e, f, g] := by
 match l, h with
 | [a, b, c, d, e, f, g], _ => exact ⟨a, b, c, d, e, f, g, rfl⟩
theorem some_at {α : Type} {l : List α} {n i : Nat} (h : l.length = n) (hi : i < n) : ∃ y, l[i]? = some y := ⟨l[i]'(by omega), List.getElem?_eq_getElem (by omega)⟩
def PhiRep (w : World) (cs : List Value) (d : PhiD) : Prop := ∃ u1 q1, cs = [.int .i64 d.w, .slice u1 d.ins.length q1] ∧ IntsAt w 0 u1 d.ins
set_option maxRecDepth 100000 in
theorem ofPhi {fuel : Nat} {cs : List Value} {x : DataW H × List MemPlace} (h : DataW.trod enc Tryd.prog w 0 (fun _ => true) true fuel 151 cs = some x) : ∃ d, PhiRep w cs d := by
 obtain ⟨xs, n, _, _, hl, hlen, hf⟩ := DataW.trod_struct Tryd.underlying151 h
 have hl : cs.length = 2 := hl.trans (by kernel_rfl)
 obtain ⟨x0, x1, rfl⟩ := list2 hl
 have hlen : xs.length = 2 := hlen
 obtain ⟨y0, hy0⟩ := some_at hlen (show 0 < 2 by omega)
 have t0 : DataW.trod enc Tryd.prog w 0 (fun _ => true) true n 2 [x0] = some y0 := (hf 0 _ rfl).trans hy0
 obtain ⟨z0, hz0⟩ := int_of t0
 simp only [List.cons.injEq, and_true] at hz0
 subst hz0
 obtain ⟨y1, hy1⟩ := some_at hlen (show 1 < 2 by omega)
 have t1 : DataW.trod enc Tryd.prog w 0 (fun _ => true) true n 24 [x1] = some y1 := (hf 1 _ rfl).trans hy1
 obtain ⟨u1, l1, q1, rfl, m1⟩ := ints_of t1
 exact ⟨⟨z0, l1⟩, u1, q1, rfl, m1⟩
theorem ofPhis {fuel : Nat} {c : Value} {x : DataW H × List MemPlace} (h : DataW.trod enc Tryd.prog w 0 (fun _ => true) true fuel 111 [c] = some x) : ∃ (u : Option Addr) (l : List PhiD) (q : Nat), c = .slice u l.length q ∧ PhisAt w 0 u l := by
 obtain ⟨a, l, cap, hc, hm, hl⟩ := slice_of (α := PhiD) phi0 (sz := 2) (PhiRep w) Tryd.underlying111 (by kernel_rfl) (by omega) (fun _ _ _ h => ofPhi h) h
 refine ⟨a, l, cap, hc, hm, ?_⟩
 rcases hl with hl | ⟨b, off, ha, h0, hb, hcell⟩
 ·exact .inl hl
 ·refine .inr ⟨b, off, ha, h0, hb, fun i hi => ?_⟩
  obtain ⟨cs, _, h4, u1, q1, rfl, m1⟩ := hcell i hi
  exact ⟨by have := h4 0 (by omega); simpa using this, ⟨u1, q1, by have := h4 1 (by omega); simpa using this, m1⟩⟩
def InstRep (w : World) (cs : List Value) (d : InstD) : Prop := ∃ u6 q6, cs = [.int .i64 d.op, .int .i64 d.w, .int .i64 d.a, .int .i64 d.b, .int .i64 d.c, .int .i64 d.imm, .slice u6 d.args.length q6] ∧ IntsAt w 0 u6 d.args
set_option maxRecDepth 100000 in
theorem ofInst {fuel : Nat} {cs : List Value} {x : DataW H × List MemPlace} (h : DataW.trod enc Tryd.prog w 0 (fun _ => true) true fuel 153 cs = some x) : ∃ d, InstRep w cs d := by
 obtain ⟨xs, n, _, _, hl, hlen, hf⟩ := DataW.trod_struct Tryd.underlying153 h
 have hl : cs.length = 7 := hl.trans (by kernel_rfl)
 obtain ⟨x0, x1, x2, x3, x4, x5, x6, rfl⟩ := list7 hl
 have hlen : xs.length = 7 := hlen
 obtain ⟨y0, hy0⟩ := some_at hlen (show 0 < 7 by omega)
 have t0 : DataW.trod enc Tryd.prog w 0 (fun _ => true) true n 2 [x0] = some y0 := (hf 0 _ rfl).trans hy0
 obtain ⟨z0, hz0⟩ := int_of t0
 simp only [List.cons.injEq, and_true] at hz0
 subst hz0
 obtain ⟨y1, hy1⟩ := some_at hlen (show 1 < 7 by omega)
 have t1 : DataW.trod enc Tryd.prog w 0 (fun _ => true) true n 2 [x1] = some y1 := (hf 1 _ rfl).trans hy1
 obtain ⟨z1, hz1⟩ := int_of t1
 simp only [List.cons.injEq, and_true] at hz1
 subst hz1
 obtain ⟨y2, hy2⟩ := some_at hlen (show 2 < 7 by omega)
 have t2 : DataW.trod enc Tryd.prog w 0 (fun _ => true) true n 2 [x2] = some y2 := (hf 2 _ rfl).trans hy2
 obtain ⟨z2, hz2⟩ := int_of t2
 simp only [List.cons.injEq, and_true] at hz2
 subst hz2
 obtain ⟨y3, hy3⟩ := some_at hlen (show 3 < 7 by omega)
 have t3 : DataW.trod enc Tryd.prog w 0 (fun _ => true) true n 2 [x3] = some y3 := (hf 3 _ rfl).trans hy3
 obtain ⟨z3, hz3⟩ := int_of t3
 simp only [List.cons.injEq, and_true] at hz3
 subst hz3
 obtain ⟨y4, hy4⟩ := some_at hlen (show 4 < 7 by omega)
 have t4 : DataW.trod enc Tryd.prog w 0 (fun _ => true) true n 2 [x4] = some y4 := (hf 4 _ rfl).trans hy4
 obtain ⟨z4, hz4⟩ := int_of t4
 simp only [List.cons.injEq, and_true] at hz4
 subst hz4
 obtain ⟨y5, hy5⟩ := some_at hlen (show 5 < 7 by omega)
 have t5 : DataW.trod enc Tryd.prog w 0 (fun _ => true) true n 2 [x5] = some y5 := (hf 5 _ rfl).trans hy5
 obtain ⟨z5, hz5⟩ := int_of t5
 simp only [List.cons.injEq, and_true] at hz5
 subst hz5
 obtain ⟨y6, hy6⟩ := some_at hlen (show 6 < 7 by omega)
 have t6 : DataW.trod enc Tryd.prog w 0 (fun _ => true) true n 24 [x6] = some y6 := (hf 6 _ rfl).trans hy6
 obtain ⟨u6, l6, q6, rfl, m6⟩ := ints_of t6
 exact ⟨⟨z0, z1, z2, z3, z4, z5, l6⟩, u6, q6, rfl, m6⟩
theorem ofInsts {fuel : Nat} {c : Value} {x : DataW H × List MemPlace} (h : DataW.trod enc Tryd.prog w 0 (fun _ => true) true fuel 112 [c] = some x) : ∃ (u : Option Addr) (l : List InstD) (q : Nat), c = .slice u l.length q ∧ InstsAt w 0 u l := by
 obtain ⟨a, l, cap, hc, hm, hl⟩ := slice_of (α := InstD) inst0 (sz := 7) (InstRep w) Tryd.underlying112 (by kernel_rfl) (by omega) (fun _ _ _ h => ofInst h) h
 refine ⟨a, l, cap, hc, hm, ?_⟩
 rcases hl with hl | ⟨b, off, ha, h0, hb, hcell⟩
 ·exact .inl hl
 ·refine .inr ⟨b, off, ha, h0, hb, fun i hi => ?_⟩
  obtain ⟨cs, _, h4, u6, q6, rfl, m6⟩ := hcell i hi
  exact ⟨by have := h4 0 (by omega); simpa using this, by have := h4 1 (by omega); simpa using this, by have := h4 2 (by omega); simpa using this, by have := h4 3 (by omega); simpa using this, by have := h4 4 (by omega); simpa using this, by have := h4 5 (by omega); simpa using this, ⟨u6, q6, by have := h4 6 (by omega); simpa using this, m6⟩⟩
set_option maxRecDepth 100000 in
theorem ofTerm {fuel : Nat} {cs : List Value} {x : DataW H × List MemPlace} (h : DataW.trod enc Tryd.prog w 0 (fun _ => true) true fuel 113 cs = some x) : ∃ k a x y : Int, cs = [.int .i64 k, .int .i64 a, .int .i64 x, .int .i64 y] := by
 obtain ⟨xs, n, _, _, hl, hlen, hf⟩ := DataW.trod_struct Tryd.underlying113 h
 have hl : cs.length = 4 := hl.trans (by kernel_rfl)
 obtain ⟨x0, x1, x2, x3, rfl⟩ := list4 hl
 have hlen : xs.length = 4 := hlen
 obtain ⟨y0, hy0⟩ := some_at hlen (show 0 < 4 by omega)
 have t0 : DataW.trod enc Tryd.prog w 0 (fun _ => true) true n 2 [x0] = some y0 := (hf 0 _ rfl).trans hy0
 obtain ⟨z0, hz0⟩ := int_of t0
 simp only [List.cons.injEq, and_true] at hz0
 subst hz0
 obtain ⟨y1, hy1⟩ := some_at hlen (show 1 < 4 by omega)
 have t1 : DataW.trod enc Tryd.prog w 0 (fun _ => true) true n 2 [x1] = some y1 := (hf 1 _ rfl).trans hy1
 obtain ⟨z1, hz1⟩ := int_of t1
 simp only [List.cons.injEq, and_true] at hz1
 subst hz1
 obtain ⟨y2, hy2⟩ := some_at hlen (show 2 < 4 by omega)
 have t2 : DataW.trod enc Tryd.prog w 0 (fun _ => true) true n 2 [x2] = some y2 := (hf 2 _ rfl).trans hy2
 obtain ⟨z2, hz2⟩ := int_of t2
 simp only [List.cons.injEq, and_true] at hz2
 subst hz2
 obtain ⟨y3, hy3⟩ := some_at hlen (show 3 < 4 by omega)
 have t3 : DataW.trod enc Tryd.prog w 0 (fun _ => true) true n 2 [x3] = some y3 := (hf 3 _ rfl).trans hy3
 obtain ⟨z3, hz3⟩ := int_of t3
 simp only [List.cons.injEq, and_true] at hz3
 subst hz3
 exact ⟨z0, z1, z2, z3, rfl⟩
def BlockRep (w : World) (cs : List Value) (d : BlockD) : Prop := ∃ u0 q0 u1 q1, cs = [.slice u0 d.phis.length q0, .slice u1 d.insts.length q1, .int .i64 d.term.kind, .int .i64 d.term.a, .int .i64 d.term.x, .int .i64 d.term.y] ∧ PhisAt w 0 u0 d.phis ∧ InstsAt w 0 u1 d.insts
set_option maxRecDepth 100000 in
theorem ofBlock {fuel : Nat} {cs : List Value} {x : DataW H × List MemPlace} (h : DataW.trod enc Tryd.prog w 0 (fun _ => true) true fuel 115 cs = some x) : ∃ d, BlockRep w cs d := by
 obtain ⟨xs, n, _, _, hl, hlen, hf⟩ := DataW.trod_struct Tryd.underlying115 h
 have hl : cs.length = 6 := hl.trans (by kernel_rfl)
 obtain ⟨x0, x1, x2, x3, x4, x5, rfl⟩ := list6 hl
 have hlen : xs.length = 3 := hlen
 obtain ⟨y0, hy0⟩ := some_at hlen (show 0 < 3 by omega)
 have t0 : DataW.trod enc Tryd.prog w 0 (fun _ => true) true n 111 [x0] = some y0 := (hf 0 _ rfl).trans hy0
 obtain ⟨u0, l0, q0, rfl, m0⟩ := ofPhis t0
 obtain ⟨y1, hy1⟩ := some_at hlen (show 1 < 3 by omega)
 have t1 : DataW.trod enc Tryd.prog w 0 (fun _ => true) true n 112 [x1] = some y1 := (hf 1 _ rfl).trans hy1
 obtain ⟨u1, l1, q1, rfl, m1⟩ := ofInsts t1
 obtain ⟨y2, hy2⟩ := some_at hlen (show 2 < 3 by omega)
 have t2 : DataW.trod enc Tryd.prog w 0 (fun _ => true) true n 113 [x2, x3, x4, x5] = some y2 := (hf 2 _ rfl).trans hy2
 obtain ⟨tk, ta, tx, ty, ht⟩ := ofTerm t2
 simp only [List.cons.injEq, and_true] at ht
 obtain ⟨rfl, rfl, rfl, rfl⟩ := ht
 exact ⟨⟨l0, l1, ⟨tk, ta, tx, ty⟩⟩, u0, q0, u1, q1, rfl, m0, m1⟩
theorem ofBlocks {fuel : Nat} {c : Value} {x : DataW H × List MemPlace} (h : DataW.trod enc Tryd.prog w 0 (fun _ => true) true fuel 45 [c] = some x) : ∃ (u : Option Addr) (l : List BlockD) (q : Nat), c = .slice u l.length q ∧ BlocksAt w 0 u l := by
 obtain ⟨a, l, cap, hc, hm, hl⟩ := slice_of (α := BlockD) block0 (sz := 6) (BlockRep w) Tryd.underlying45 (by kernel_rfl) (by omega) (fun _ _ _ h => ofBlock h) h
 refine ⟨a, l, cap, hc, hm, ?_⟩
 rcases hl with hl | ⟨b, off, ha, h0, hb, hcell⟩
 ·exact .inl hl
 ·refine .inr ⟨b, off, ha, h0, hb, fun i hi => ?_⟩
  obtain ⟨cs, _, h4, u0, q0, u1, q1, rfl, m0, m1⟩ := hcell i hi
  exact ⟨⟨u0, q0, by have := h4 0 (by omega); simpa using this, m0⟩, ⟨u1, q1, by have := h4 1 (by omega); simpa using this, m1⟩, by have := h4 2 (by omega); simpa using this, by have := h4 3 (by omega); simpa using this, by have := h4 4 (by omega); simpa using this, by have := h4 5 (by omega); simpa using this⟩
def FuncRep (w : World) (cs : List Value) (d : FuncD) : Prop := ∃ u0 q0 u2 q2, cs = [.slice u0 d.params.length q0, .int .i64 d.ret, .slice u2 d.blocks.length q2] ∧ IntsAt w 0 u0 d.params ∧ BlocksAt w 0 u2 d.blocks
set_option maxRecDepth 100000 in
theorem ofFunc {fuel : Nat} {cs : List Value} {x : DataW H × List MemPlace} (h : DataW.trod enc Tryd.prog w 0 (fun _ => true) true fuel 47 cs = some x) : ∃ d, FuncRep w cs d := by
 obtain ⟨xs, n, _, _, hl, hlen, hf⟩ := DataW.trod_struct Tryd.underlying47 h
 have hl : cs.length = 3 := hl.trans (by kernel_rfl)
 obtain ⟨x0, x1, x2, rfl⟩ := list3 hl
 have hlen : xs.length = 3 := hlen
 obtain ⟨y0, hy0⟩ := some_at hlen (show 0 < 3 by omega)
 have t0 : DataW.trod enc Tryd.prog w 0 (fun _ => true) true n 24 [x0] = some y0 := (hf 0 _ rfl).trans hy0
 obtain ⟨u0, l0, q0, rfl, m0⟩ := ints_of t0
 obtain ⟨y1, hy1⟩ := some_at hlen (show 1 < 3 by omega)
 have t1 : DataW.trod enc Tryd.prog w 0 (fun _ => true) true n 2 [x1] = some y1 := (hf 1 _ rfl).trans hy1
 obtain ⟨z1, hz1⟩ := int_of t1
 simp only [List.cons.injEq, and_true] at hz1
 subst hz1
 obtain ⟨y2, hy2⟩ := some_at hlen (show 2 < 3 by omega)
 have t2 : DataW.trod enc Tryd.prog w 0 (fun _ => true) true n 45 [x2] = some y2 := (hf 2 _ rfl).trans hy2
 obtain ⟨u2, l2, q2, rfl, m2⟩ := ofBlocks t2
 exact ⟨⟨l0, z1, l2⟩, u0, q0, u2, q2, rfl, m0, m2⟩
end
end Go.Proofs.YtenbodghkpbghaaDoor
