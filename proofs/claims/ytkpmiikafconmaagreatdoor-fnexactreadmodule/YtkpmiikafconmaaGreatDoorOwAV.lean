import Derived.Test.YtkpmiikafconmaaGreatDoorSzV
import Derived.Test.YtkpmiikafconmaaGreatDoorFmE3V
import Derived.Test.YtkpmiikafconmaaGreatDoorFmC2V
namespace Go.Proofs.YtkpmiikafconmaaGreatDoor
open Go.RowKit
set_option linter.unusedVariables false
set_option linter.unusedSimpArgs false
def lvT (T : TypeId) : Nat := if T = 2 then 0 else if T = 92 then 1 else if T = 95 then 2 else if T = 74 then 3 else if T = 55 then 4 else 9
def Still (k : Nat) (w w' : World) : Prop := ∀ (b : Nat) (cur : Array Value) (T : TypeId), w.heap[b]? = some (.cells cur T (0, 0)) → lvT T < k → w'.heap[b]? = some (.cells cur T (0, 0))
theorem Still.refl (k : Nat) (w : World) : Still k w w := fun _ _ _ h _ => h
theorem Still.trans {k : Nat} {x y z : World} (h : Still k x y) (h2 : Still k y z) : Still k x z := fun b cur T hb hT => h2 b cur T (h b cur T hb hT) hT
theorem Still.low {k j : Nat} {w w' : World} (h : Still k w w') (hj : j ≤ k) : Still j w w' := fun b cur T hb hT => h b cur T hb (by omega)
theorem Still.below {k : Nat} {w w' : World} (h : Below w.heap.size w w') : Still k w w' := fun b cur T hb _ => (h.block b (Array.getElem?_eq_some_iff.1 hb).1).trans hb
theorem Still.set {k g o : Nat} {w : World} {cs : Array Value} {T : TypeId} {v : Value} (h : At w g cs T) (hT : k ≤ lvT T) : Still k w (w.setCell ⟨g, o, none⟩ v) := fun b cur T' hb hT' => by
 have hn : b ≠ g := fun e => by
  rw [e, show w.heap[g]? = _ from h] at hb
  cases hb
  omega
 exact (Below.heap_setCell _ _ _ _ (by show b ≠ g; exact hn)).trans hb
theorem Still.grown {k : Nat} {w w' : World} {r : Option Nat} (h : w.grownBy w' r) (hr : ∀ g, r = some g → ∃ cur T, w.heap[g]? = some (.cells cur T (0, 0)) ∧ k ≤ lvT T) : Still k w w' := fun b cur T hb hT =>
 (h.block b (Array.getElem?_eq_some_iff.1 hb).1 (fun e => by
  obtain ⟨cur2, T2, h1, h2⟩ := hr b e.symm
  rw [hb] at h1
  cases h1
  omega)).trans hb
theorem Still.drew {k : Nat} {w w' : World} (h : Still k w w') : Still k w w'.drew := h
def OwnI (w : World) (lo hi : Nat) (u : Option Addr) (l : List Int) : Prop := l.length ≤ 1048576 ∧ (l = [] ∨ ∃ g cur, u = some ⟨g, 0, none⟩ ∧ lo ≤ g ∧ g < hi ∧ w.heap[g]? = some (.cells cur 2 (0, 0)) ∧ ∀ i, i < l.length → cur[i]? = some (.int .i64 (l.getD i 0)))
theorem OwnI.still {w w' : World} {lo hi : Nat} {u : Option Addr} {l : List Int} {k : Nat} (h : OwnI w lo hi u l) (s : Still k w w') (hk : 0 < k) : OwnI w' lo hi u l := by
 refine ⟨h.1, ?_⟩
 rcases h.2 with h | ⟨g, cur, e, h1, h2, h3, h4⟩
 ·exact .inl h
 ·exact .inr ⟨g, cur, e, h1, h2, s g cur _ h3 (by rw [show lvT 2 = 0 by decide]; exact hk), h4⟩
theorem OwnI.wide {w : World} {lo hi lo' hi' : Nat} {u : Option Addr} {l : List Int} (h : OwnI w lo hi u l) (h1 : lo' ≤ lo) (h2 : hi ≤ hi') : OwnI w lo' hi' u l := by
 refine ⟨h.1, ?_⟩
 rcases h.2 with h | ⟨g, cur, e, k1, k2, k3⟩
 ·exact .inl h
 ·exact .inr ⟨g, cur, e, by omega, by omega, k3⟩
theorem OwnI.row {w : World} {base : Nat} {u : Option Addr} {c : Nat} {l : List Int} (hm : l.length ≤ 1048576) (h : Row w base (.slice u l.length c) l) : OwnI w base w.heap.size u l := by
 refine ⟨hm, ?_⟩
 rcases h.2 with ⟨_, hn⟩ | ⟨g, cap, cur, hv, hb, hg, hnc, _, hcs, htk⟩
 ·exact .inl (List.length_eq_zero_iff.1 hn)
 ·cases hv
  refine .inr ⟨g, cur, rfl, hb, (Array.getElem?_eq_some_iff.1 hg).1, hg, fun i hi => ?_⟩
  have h1 : (l.map (Value.int .i64))[i]? = some (.int .i64 (l.getD i 0)) := by simp [List.getD, hi]
  rw [← htk, List.getElem?_take, if_pos (by omega)] at h1
  simpa using h1
theorem OwnI.ints {w : World} {lo hi : Nat} {u : Option Addr} {l : List Int} (h : OwnI w lo hi u l) : IntsAt w lo u l := by
 refine ⟨by have := h.1; omega, ?_⟩
 rcases h.2 with h | ⟨g, cur, e, h1, h2, h3, h4⟩
 ·exact .inl h
 ·exact .inr ⟨g, 0, e, h1, (Array.getElem?_eq_some_iff.1 h3).1, fun i hi => by rw [Nat.zero_add, cell_of_heap h3]; exact h4 i hi⟩
def Sub {α : Type} (O : World → Nat → Nat → α → Prop) (w : World) : Nat → Nat → List α → Prop
 | lo, hi, [] => lo ≤ hi
 | lo, hi, e :: es => ∃ a m, lo ≤ a ∧ a ≤ m ∧ O w a m e ∧ Sub O w m hi es
theorem Sub.le {α : Type} {O : World → Nat → Nat → α → Prop} {w : World} : ∀ {es : List α} {lo hi : Nat}, Sub O w lo hi es → lo ≤ hi
 | [], _, _, h => h
 | _ :: _, _, _, ⟨a, m, h1, h2, _, h3⟩ => Nat.le_trans h1 (Nat.le_trans h2 h3.le)
theorem Sub.wide {α : Type} {O : World → Nat → Nat → α → Prop} {w : World} : ∀ {es : List α} {lo hi lo' hi' : Nat}, Sub O w lo hi es → lo' ≤ lo → hi ≤ hi' → Sub O w lo' hi' es
 | [], _, _, _, _, h, h1, h2 => Nat.le_trans h1 (Nat.le_trans h h2)
 | _ :: _, _, _, _, _, ⟨a, m, k1, k2, k3, k4⟩, h1, h2 => ⟨a, m, Nat.le_trans h1 k1, k2, k3, k4.wide (Nat.le_refl _) h2⟩
theorem Sub.snoc {α : Type} {O : World → Nat → Nat → α → Prop} {w : World} {e : α} : ∀ {es : List α} {lo m a hi : Nat}, Sub O w lo m es → m ≤ a → a ≤ hi → O w a hi e → Sub O w lo hi (es ++ [e])
 | [], lo, m, a, hi, h, h1, h2, h3 => ⟨a, hi, Nat.le_trans h h1, h2, h3, Nat.le_refl _⟩
 | x :: es, lo, m, a, hi, ⟨p, q, h1, h2, h3, h4⟩, k1, k2, k3 => ⟨p, q, h1, h2, h3, h4.snoc k1 k2 k3⟩
theorem Sub.still {α : Type} {O : World → Nat → Nat → α → Prop} {w w' : World} (hO : ∀ lo hi e, O w lo hi e → O w' lo hi e) : ∀ {es : List α} {lo hi : Nat}, Sub O w lo hi es → Sub O w' lo hi es
 | [], _, _, h => h
 | _ :: _, _, _, ⟨a, m, h1, h2, h3, h4⟩ => ⟨a, m, h1, h2, hO _ _ _ h3, h4.still hO⟩
def RowS {α : Type} (T : TypeId) (s : Nat) (C : α → List Value) (w : World) (base : Nat) (v : Value) (es : List α) : Prop := w.ownsRow base T s v es.length (es.flatMap C)
theorem RowS.nil {α : Type} (T : TypeId) (s : Nat) (C : α → List Value) (w : World) (base : Nat) : RowS T s C w base (.slice none 0 0) [] := World.ownsRow_nil _ _ _ _
theorem RowS.slice {α : Type} {T : TypeId} {s : Nat} {C : α → List Value} {w : World} {base : Nat} {v : Value} {es : List α} (h : RowS T s C w base v es) : ∃ u c, v = .slice u es.length c := by
 rcases h.2 with ⟨rfl, hn⟩ | ⟨g, cap, cur, rfl, _⟩
 ·exact ⟨none, 0, by rw [hn]⟩
 ·exact ⟨_, cap, rfl⟩
theorem RowS.ge {α : Type} {T : TypeId} {s : Nat} {C : α → List Value} {w : World} {base : Nat} {v : Value} {es : List α} (h : RowS T s C w base v es) {g : Nat} (hv : v.ownBlock = some g) : base ≤ g ∧ ∃ cur, w.heap[g]? = some (.cells cur T (0, 0)) := by
 rcases h.2 with ⟨e, _⟩ | ⟨g', cap, cur, e, hb, hg, _⟩
 ·rw [e] at hv; cases hv
 ·rw [e] at hv; cases hv; exact ⟨hb, cur, hg⟩
theorem RowS.still {α : Type} {T : TypeId} {s : Nat} {C : α → List Value} {w w' : World} {base : Nat} {v : Value} {es : List α} {k : Nat} (h : RowS T s C w base v es) (st : Still k w w') (hk : lvT T < k) : RowS T s C w' base v es := by
 refine ⟨h.1, ?_⟩
 rcases h.2 with h2 | ⟨g, cap, cur, hv, hb, hg, r⟩
 ·exact .inl h2
 ·exact .inr ⟨g, cap, cur, hv, hb, st g cur T hg hk, r⟩
theorem RowS.push {α : Type} {T : TypeId} {s : Nat} {C : α → List Value} {w : World} {base : Nat} {v : Value} {es : List α} {e : α} (h : w.ownsRow base T s v (es.length + 1) (es.flatMap C ++ C e)) : RowS T s C w base v (es ++ [e]) := by
 unfold RowS
 rw [List.length_append, List.flatMap_append]
 simpa using h
def OwnL {α : Type} (T : TypeId) (s : Nat) (C : α → List Value) (O : World → Nat → Nat → α → Prop) (w : World) (lo hi : Nat) (u : Option Addr) (es : List α) : Prop :=
 es.length ≤ 1048576 ∧ (es = [] ∨ ∃ g cur, u = some ⟨g, 0, none⟩ ∧ lo ≤ g ∧ g < hi ∧ w.heap[g]? = some (.cells cur T (0, 0)) ∧ ∀ i e, es[i]? = some e → ∀ j, j < s → cur[i * s + j]? = (C e)[j]?) ∧ Sub O w lo hi es
theorem OwnL.wide {α : Type} {T : TypeId} {s : Nat} {C : α → List Value} {O : World → Nat → Nat → α → Prop} {w : World} {lo hi lo' hi' : Nat} {u : Option Addr} {es : List α} (h : OwnL T s C O w lo hi u es) (h1 : lo' ≤ lo) (h2 : hi ≤ hi') : OwnL T s C O w lo' hi' u es := by
 refine ⟨h.1, ?_, h.2.2.wide h1 h2⟩
 rcases h.2.1 with h | ⟨g, cur, e, k1, k2, k3⟩
 ·exact .inl h
 ·exact .inr ⟨g, cur, e, by omega, by omega, k3⟩
theorem OwnL.still {α : Type} {T : TypeId} {s : Nat} {C : α → List Value} {O : World → Nat → Nat → α → Prop} {w w' : World} {lo hi : Nat} {u : Option Addr} {es : List α} {k : Nat} (h : OwnL T s C O w lo hi u es) (st : Still k w w') (hk : lvT T < k) (hO : ∀ lo hi e, O w lo hi e → O w' lo hi e) : OwnL T s C O w' lo hi u es := by
 refine ⟨h.1, ?_, h.2.2.still hO⟩
 rcases h.2.1 with h | ⟨g, cur, e, k1, k2, k3, k4⟩
 ·exact .inl h
 ·exact .inr ⟨g, cur, e, k1, k2, st g cur T k3 hk, k4⟩
theorem OwnL.none {α : Type} {T : TypeId} {s : Nat} {C : α → List Value} {O : World → Nat → Nat → α → Prop} {w : World} {lo hi : Nat} {u : Option Addr} (h : lo ≤ hi) : OwnL T s C O w lo hi u [] := ⟨by simp, .inl rfl, h⟩
theorem flat_at {α : Type} {C : α → List Value} {s : Nat} (hC : ∀ e, (C e).length = s) : ∀ (l : List α) (i j : Nat) (e : α), l[i]? = some e → j < s → (l.flatMap C)[i * s + j]? = (C e)[j]?
 | [], i, j, e, h, _ => by simp at h
 | x :: l, 0, j, e, h, hj => by
  cases h
  rw [List.flatMap_cons, Nat.zero_mul, Nat.zero_add, List.getElem?_append_left (by rw [hC]; exact hj)]
 | x :: l, i + 1, j, e, h, hj => by
  have ih := flat_at hC l i j e (by simpa using h) hj
  rw [List.flatMap_cons, List.getElem?_append_right (by rw [hC, Nat.succ_mul]; omega), hC]
  rw [show (i + 1) * s + j - s = i * s + j by rw [Nat.succ_mul]; omega]
  exact ih
theorem RowS.own {α : Type} {T : TypeId} {s : Nat} {C : α → List Value} {O : World → Nat → Nat → α → Prop} {w : World} {base lo hi : Nat} {u : Option Addr} {c : Nat} {es : List α} (hC : ∀ e, (C e).length = s) (hm : es.length ≤ 1048576) (h : RowS T s C w base (.slice u es.length c) es) (hs : Sub O w lo hi es) (h1 : lo ≤ base) (h2 : w.heap.size ≤ hi) : OwnL T s C O w lo hi u es := by
 refine ⟨hm, ?_, hs⟩
 rcases h.2 with ⟨_, hn⟩ | ⟨g, cap, cur, hv, hb, hg, hnc, _, hcs, htk⟩
 ·exact .inl (List.length_eq_zero_iff.1 hn)
 ·cases hv
  have hlt := (Array.getElem?_eq_some_iff.1 hg).1
  refine .inr ⟨g, cur, rfl, by omega, by omega, hg, fun i e he j hj => ?_⟩
  have hil := (List.getElem?_eq_some_iff.1 he).1
  rw [← flat_at hC es i j e he hj, ← htk, List.getElem?_take, if_pos (by
   have := Nat.mul_le_mul_right s (show i + 1 ≤ es.length from hil)
   rw [Nat.succ_mul] at this
   omega)]
  simp
abbrev PhE := PhiD × Option Addr × Nat
def phC (e : PhE) : List Value := [.int .i64 e.1.w, .slice e.2.1 e.1.ins.length e.2.2]
def OwnPhE (w : World) (lo hi : Nat) (e : PhE) : Prop := OwnI w lo hi e.2.1 e.1.ins
abbrev InE := InstD × Option Addr × Nat
def inC (e : InE) : List Value := [.int .i64 e.1.op, .int .i64 e.1.w, .int .i64 e.1.a, .int .i64 e.1.b, .int .i64 e.1.c, .int .i64 e.1.imm, .slice e.2.1 e.1.args.length e.2.2]
def OwnInE (w : World) (lo hi : Nat) (e : InE) : Prop := OwnI w lo hi e.2.1 e.1.args
structure BkE where
 ps : List PhE
 pu : Option Addr
 pc : Nat
 is : List InE
 iu : Option Addr
 ic : Nat
 t : TermD
def bkC (b : BkE) : List Value := [.slice b.pu b.ps.length b.pc, .slice b.iu b.is.length b.ic, .int .i64 b.t.kind, .int .i64 b.t.a, .int .i64 b.t.x, .int .i64 b.t.y]
abbrev OwnPhs := OwnL 92 2 phC OwnPhE
abbrev OwnIns := OwnL 95 7 inC OwnInE
def OwnBk (w : World) (lo hi : Nat) (b : BkE) : Prop := ∃ m, lo ≤ m ∧ m ≤ hi ∧ OwnPhs w lo m b.pu b.ps ∧ OwnIns w m hi b.iu b.is
structure FnE where
 pars : List Int
 pu : Option Addr
 pc : Nat
 ret : Int
 bs : List BkE
 bu : Option Addr
 bc : Nat
def fnC (f : FnE) : List Value := [.slice f.pu f.pars.length f.pc, .int .i64 f.ret, .slice f.bu f.bs.length f.bc]
abbrev OwnBks := OwnL 74 6 bkC OwnBk
def OwnFn (w : World) (lo hi : Nat) (f : FnE) : Prop := ∃ m, lo ≤ m ∧ m ≤ hi ∧ OwnI w lo m f.pu f.pars ∧ OwnBks w m hi f.bu f.bs
abbrev OwnFns := OwnL 55 3 fnC OwnFn
theorem OwnPhs.still {w w' : World} {lo hi : Nat} {u : Option Addr} {es : List PhE} {k : Nat} (h : OwnPhs w lo hi u es) (st : Still k w w') (hk : 1 < k) : OwnPhs w' lo hi u es := OwnL.still h st (by rw [show lvT 92 = 1 by decide]; exact hk) fun _ _ _ h => OwnI.still h st (by omega)
theorem OwnIns.still {w w' : World} {lo hi : Nat} {u : Option Addr} {es : List InE} {k : Nat} (h : OwnIns w lo hi u es) (st : Still k w w') (hk : 2 < k) : OwnIns w' lo hi u es := OwnL.still h st (by rw [show lvT 95 = 2 by decide]; exact hk) fun _ _ _ h => OwnI.still h st (by omega)
theorem OwnBk.still {w w' : World} {lo hi : Nat} {b : BkE} {k : Nat} (h : OwnBk w lo hi b) (st : Still k w w') (hk : 2 < k) : OwnBk w' lo hi b := by
 obtain ⟨m, h1, h2, h3, h4⟩ := h
 exact ⟨m, h1, h2, OwnPhs.still h3 st (by omega), OwnIns.still h4 st hk⟩
theorem OwnBks.still {w w' : World} {lo hi : Nat} {u : Option Addr} {es : List BkE} {k : Nat} (h : OwnBks w lo hi u es) (st : Still k w w') (hk : 3 < k) : OwnBks w' lo hi u es := OwnL.still h st (by rw [show lvT 74 = 3 by decide]; exact hk) fun _ _ _ h => OwnBk.still h st (by omega)
theorem OwnFn.still {w w' : World} {lo hi : Nat} {f : FnE} {k : Nat} (h : OwnFn w lo hi f) (st : Still k w w') (hk : 3 < k) : OwnFn w' lo hi f := by
 obtain ⟨m, h1, h2, h3, h4⟩ := h
 exact ⟨m, h1, h2, OwnI.still h3 st (by omega), OwnBks.still h4 st hk⟩
theorem OwnFns.still {w w' : World} {lo hi : Nat} {u : Option Addr} {es : List FnE} {k : Nat} (h : OwnFns w lo hi u es) (st : Still k w w') (hk : 4 < k) : OwnFns w' lo hi u es := OwnL.still h st (by rw [show lvT 55 = 4 by decide]; exact hk) fun _ _ _ h => OwnFn.still h st (by omega)
def BkE.d (b : BkE) : BlockD := ⟨b.ps.map (·.1), b.is.map (·.1), b.t⟩
def FnE.d (f : FnE) : FuncD := ⟨f.pars, f.ret, f.bs.map BkE.d⟩
end Go.Proofs.YtkpmiikafconmaaGreatDoor
namespace Go.Proofs.YtkpmiikafconmaaGreatDoor
open Go.RowKit
set_option linter.unusedVariables false
def ResB (w w1 : World) : Prop := w1.heap[w.heap.size + 1]? = some (.cells #[.string ⟨#[]⟩, .slice none 0 0] 43 (0, 0))
theorem ResB.keep {w w1 w2 : World} (h : ResB w w1) (k : Below (w.heap.size + 2) w1 w2) : ResB w w2 := (k.block _ (by omega)).trans h
theorem ResB.c0 {w w1 : World} (h : ResB w w1) : w1.cell? ⟨w.heap.size + 1, 0, none⟩ = some (.string ⟨#[]⟩) := (cell_of_heap h).trans rfl
theorem ResB.c1 {w w1 : World} (h : ResB w w1) : w1.cell? ⟨w.heap.size + 1, 1, none⟩ = some (.slice none 0 0) := (cell_of_heap h).trans rfl
theorem ResB.f {w w1 : World} (h : ResB w w1) (o : Nat) : w1.frozen? ⟨w.heap.size + 1, o, none⟩ = false := by
 unfold World.frozen?
 rw [show w1.heap[w.heap.size + 1]? = _ from h]
 simp
structure LSt (d : InstD) (u : Option Addr) (q : Nat) (n : Nat) (g c : Nat) (L : List Int) (w W : World) : Prop where
 box : IBox d u q w W
 res : ResB w W
 row : Row W (w.heap.size + 2) (.slice (some ⟨g, 0, none⟩) L.length c) L
 cap : L.length ≤ c
 glo : W.cell? ⟨2, n, none⟩ = some (.string (opW n))
 size : w.heap.size + 2 ≤ W.heap.size
end Go.Proofs.YtkpmiikafconmaaGreatDoor
namespace Go.Proofs.YtkpmiikafconmaaGreatDoor
open Go.RowKit
set_option linter.unusedVariables false
def phiB (ids : Int) (p : PhiD) : Bool := widthB p.w && decide (p.ins.length ≤ 10) && p.ins.all fun n => belowB n ids
def blockB (ids blocks funcs : Int) (b : BlockD) : Bool := b.phis.all (phiB ids) && b.insts.all (fun i => instB i ids funcs) && termB b.term ids blocks
def funcB (funcs : Int) (d : FuncD) : Bool := decide (d.params.length ≤ 4) && d.params.all widthB && widthB d.ret && decide (1 ≤ d.blocks.length) && decide (d.blocks.length ≤ 10) && decide (cntF d ≤ 60) && d.blocks.all (blockB (cntF d) d.blocks.length funcs)
def modB (l : List FuncD) : Bool := decide (1 ≤ l.length) && decide (l.length ≤ 3) && l.all (funcB l.length)
theorem phiB_w {ids : Int} {p : PhiD} (h : widthB p.w = false) : ¬ phiB ids p = true := by simp [phiB, h]
theorem phiB_l {ids : Int} {p : PhiD} (h : ¬ p.ins.length ≤ 10) : ¬ phiB ids p = true := by simp [phiB, h]
theorem phiB_a {ids : Int} {p : PhiD} (h : (p.ins.all fun n => belowB n ids) = false) : ¬ phiB ids p = true := by simp [phiB, h]
theorem phiB_t {ids : Int} {p : PhiD} (h : widthB p.w = true) (h1 : p.ins.length ≤ 10) (h2 : (p.ins.all fun n => belowB n ids) = true) : phiB ids p = true := by simp [phiB, h, h1, h2]
structure RoomB (x : BlockD) (v0 : Option Addr) (q0 : Nat) (v1 : Option Addr) (q1 : Nat) (ids blocks funcs : Int) (w w1 : World) : Prop where
 cells : w1.cell? ⟨w.heap.size, 0, none⟩ = some (.slice v0 x.phis.length q0) ∧ w1.cell? ⟨w.heap.size, 1, none⟩ = some (.slice v1 x.insts.length q1) ∧ w1.cell? ⟨w.heap.size, 2, none⟩ = some (.int .i64 x.term.kind) ∧ w1.cell? ⟨w.heap.size, 3, none⟩ = some (.int .i64 x.term.a) ∧ w1.cell? ⟨w.heap.size, 4, none⟩ = some (.int .i64 x.term.x) ∧ w1.cell? ⟨w.heap.size, 5, none⟩ = some (.int .i64 x.term.y) ∧ w1.cell? ⟨w.heap.size + 1, 0, none⟩ = some (.int .i64 ids) ∧ w1.cell? ⟨w.heap.size + 1, 1, none⟩ = some (.int .i64 blocks) ∧ w1.cell? ⟨w.heap.size + 1, 2, none⟩ = some (.int .i64 funcs)
 below : Below w.heap.size w w1
 size : w.heap.size + 2 ≤ w1.heap.size
theorem RoomB.keep {x : BlockD} {v0 v1 : Option Addr} {q0 q1 : Nat} {ids blocks funcs : Int} {w w1 w2 : World} (h : RoomB x v0 q0 v1 q1 ids blocks funcs w w1) (k : Below w1.heap.size w1 w2) : RoomB x v0 q0 v1 q1 ids blocks funcs w w2 := by
 have hz := h.size
 have e0 : ∀ o, w2.cell? ⟨w.heap.size, o, none⟩ = w1.cell? ⟨w.heap.size, o, none⟩ := fun o => cell_block (k.block _ (by omega))
 have e1 : ∀ o, w2.cell? ⟨w.heap.size + 1, o, none⟩ = w1.cell? ⟨w.heap.size + 1, o, none⟩ := fun o => cell_block (k.block _ (by omega))
 refine ⟨?_, h.below.trans (k.mono (by omega)), Nat.le_trans hz k.size⟩
 simp only [e0, e1]
 exact h.cells
theorem RoomB.start {x : BlockD} {v0 v1 : Option Addr} {q0 q1 : Nat} {ids blocks funcs : Int} {w : World} : RoomB x v0 q0 v1 q1 ids blocks funcs w ((w.alloc (.cells #[.slice v0 x.phis.length q0, .slice v1 x.insts.length q1, .int .i64 x.term.kind, .int .i64 x.term.a, .int .i64 x.term.x, .int .i64 x.term.y] 74)).alloc (.cells #[.int .i64 ids, .int .i64 blocks, .int .i64 funcs] 117)) := by
 refine ⟨?_, ((Below.refl _ _).alloc (Nat.le_refl _) _).alloc (by simp) _, by simp⟩
 have hb := (Below.heap_alloc _ (.cells #[.int .i64 ids, .int .i64 blocks, .int .i64 funcs] 117) _ (by simp)).trans (heap_alloc_last w (.cells #[.slice v0 x.phis.length q0, .slice v1 x.insts.length q1, .int .i64 x.term.kind, .int .i64 x.term.a, .int .i64 x.term.x, .int .i64 x.term.y] 74))
 have hl := heap_alloc_last (w.alloc (.cells #[.slice v0 x.phis.length q0, .slice v1 x.insts.length q1, .int .i64 x.term.kind, .int .i64 x.term.a, .int .i64 x.term.x, .int .i64 x.term.y] 74)) (.cells #[.int .i64 ids, .int .i64 blocks, .int .i64 funcs] 117)
 have e : (w.alloc (.cells #[.slice v0 x.phis.length q0, .slice v1 x.insts.length q1, .int .i64 x.term.kind, .int .i64 x.term.a, .int .i64 x.term.x, .int .i64 x.term.y] 74)).heap.size = w.heap.size + 1 := by simp
 rw [e] at hl
 exact ⟨(cell_of_heap hb).trans rfl, (cell_of_heap hb).trans rfl, (cell_of_heap hb).trans rfl, (cell_of_heap hb).trans rfl, (cell_of_heap hb).trans rfl, (cell_of_heap hb).trans rfl, (cell_of_heap hl).trans rfl, (cell_of_heap hl).trans rfl, (cell_of_heap hl).trans rfl⟩
theorem RoomB.alloc {x : BlockD} {v0 v1 : Option Addr} {q0 q1 : Nat} {ids blocks funcs : Int} {w w1 : World} (h : RoomB x v0 q0 v1 q1 ids blocks funcs w w1) (o : Obj) : RoomB x v0 q0 v1 q1 ids blocks funcs w (w1.alloc o) := h.keep ((Below.refl _ _).alloc (Nat.le_refl _) o)
set_option maxHeartbeats 4000000 in
set_option maxRecDepth 100000 in
theorem blockShI (lo : Nat) (x : BlockD) (v0 : Option Addr) (q0 : Nat) (v1 : Option Addr) (q1 : Nat) (ids blocks funcs : Int) (w : World) (hs : SmBlock x) (m0 : PhisAt w lo v0 x.phis) (m1 : InstsAt w lo v1 x.insts) :
  Calls Tryz.prog 73 #[.agg #[.slice v0 x.phis.length q0, .slice v1 x.insts.length q1, .int .i64 x.term.kind, .int .i64 x.term.a, .int .i64 x.term.x, .int .i64 x.term.y], .agg #[.int .i64 ids, .int .i64 blocks, .int .i64 funcs]] w fun e w' => e = .returned (.bool (blockB ids blocks funcs x)) ∧ Below w.heap.size w w' := by
 have s0 := hs.1.1
 have s1 := hs.2.1
 have SP : Hid (∀ p ∈ x.phis, SmPhi p) := hs.1.2
 have SN : Hid (∀ p ∈ x.insts, SmInst p) := hs.2.2
 have HP : Hid ((x.phis.all (phiB ids)) = false → false = blockB ids blocks funcs x) := fun h => by simp [blockB, h]
 have HI : Hid ((x.insts.all (fun i => instB i ids funcs)) = false → false = blockB ids blocks funcs x) := fun h => by simp [blockB, h]
 have HT : Hid ((x.phis.all (phiB ids)) = true → (x.insts.all (fun i => instB i ids funcs)) = true → termB x.term ids blocks = blockB ids blocks funcs x) := fun h h' => by simp [blockB, h, h']
 clear hs
 go_enter Tryz.func73, Tryz.ntmps73
 go_wp2_with fail
 go_loopw [12] (fun i wr => ∃ j : Nat, j ≤ x.phis.length ∧ i = .int .i64 j ∧ Hid (∀ k, k < j → phiB ids (x.phis.getD k phi0) = true) ∧ RoomB x v0 q0 v1 q1 ids blocks funcs w wr) (fun i _ => x.phis.length - (intOf i).toNat)
 case atStart => exact ⟨0, by omega, rfl, fun k hk => by omega, RoomB.start⟩
 case round =>
  obtain ⟨j, hj, rfl, HD, hR⟩ := hrel
  obtain ⟨wp, hwp⟩ : ∃ wp, wp = wr := ⟨_, rfl⟩
  subst hwp
  obtain ⟨y0, y1, y2, y3, y4, y5, r0, r1, r2⟩ := hR.cells
  have hW := hR.below
  by_cases hjl : j < x.phis.length
  ·rcases m0.2 with hn | ⟨pb, po, rfl, hplo, hpb, hpc⟩
   ·simp [hn] at hjl
   obtain ⟨hi0, ⟨iu, iq, hi1, im⟩⟩ := hpc j hjl
   have hsp := SP.out _ (getD_mem phi0 x.phis j hjl)
   generalize hp : x.phis.getD j phi0 = p at hi0 hi1 im hsp
   have HPj : Hid (x.phis.getD j phi0 = p) := hp
   have f0 : wp.cell? ⟨pb, po + j * 2, none⟩ = some (.int .i64 p.w) := (cell_block (hW.block pb hpb)).trans hi0
   have f1 : wp.cell? ⟨pb, po + j * 2 + 1, none⟩ = some (.slice iu p.ins.length iq) := (cell_block (hW.block pb hpb)).trans hi1
   have IM := (im.keep (agree_of_below hW lo)).keep (agree_alloc wp (.cells #[.int .i64 p.w, .slice iu p.ins.length iq] 92) _)
   have hsp' : p.ins.length ≤ 1048576 := hsp
   have RR : Hid (RoomB x (some ⟨pb, po, none⟩) q0 v1 q1 ids blocks funcs w (wp.alloc (.cells #[.int .i64 p.w, .slice iu p.ins.length iq] 92))) := hR.alloc _
   have NO : Hid (¬ phiB ids p = true → false = blockB ids blocks funcs x) := fun h => HP.out (all_no phi0 x.phis j hjl (by rw [HPj.out]; exact h))
   have YES : Hid (phiB ids p = true → ∀ k, k < j + 1 → phiB ids (x.phis.getD k phi0) = true) := fun h k hk => by
    by_cases e : k = j
    ·subst e; rw [HPj.out]; exact h
    ·exact HD.out k (by omega)
   obtain ⟨_, _, _, _, _, _, t0, t1, t2⟩ := RR.out.cells
   clear hpc hi0 hi1 im hsp hp m0 m1 hR HD HP HI HT
   cases hw : widthB p.w with
   | false =>
    have HF : Hid (false = blockB ids blocks funcs x) := NO.out (phiB_w hw)
    go_wp2_with (go_at_call 71; refine (widthI _ _).mono ?_; rintro e w' ⟨rfl, rfl⟩)
    go_ret
    exact ⟨ret_bool HF.out, RR.out.below⟩
   | true =>
    by_cases hl : p.ins.length ≤ 10
    ·have hl2 : ¬ (10 : Int) < p.ins.length := by omega
     cases ha : (p.ins.all fun n => belowB n ids) with
     | false =>
      have HF : Hid (false = blockB ids blocks funcs x) := NO.out (phiB_a ha)
      go_wp2_with (first | (go_at_call 71; refine (widthI _ _).mono ?_; rintro e w' ⟨rfl, rfl⟩) | (go_at_call 108; refine (allBelowI lo _ _ _ _ _ IM).mono ?_; rw [ha]; rintro e w' ⟨rfl, rfl⟩))
      go_ret
      exact ⟨ret_bool HF.out, RR.out.below⟩
     | true =>
      have HF : Hid (phiB ids p = true) := phiB_t hw hl ha
      go_wp2_with (first | (go_at_call 71; refine (widthI _ _).mono ?_; rintro e w' ⟨rfl, rfl⟩) | (go_at_call 108; refine (allBelowI lo _ _ _ _ _ IM).mono ?_; rw [ha]; rintro e w' ⟨rfl, rfl⟩))
      go_roundw
      case rel => exact ⟨j + 1, by omega, by go_num, YES.out HF.out, RR.out⟩
      case measure => simp [intOf]; omega
    ·have HF : Hid (false = blockB ids blocks funcs x) := NO.out (phiB_l hl)
     have hl2 : (10 : Int) < p.ins.length := by omega
     go_wp2_with (go_at_call 71; refine (widthI _ _).mono ?_; rintro e w' ⟨rfl, rfl⟩)
     go_ret
     exact ⟨ret_bool HF.out, RR.out.below⟩
  ·have HPA : Hid ((x.phis.all (phiB ids)) = true) := all_yes phi0 x.phis (fun k hk => HD.out k (by omega))
   have RR : Hid (RoomB x v0 q0 v1 q1 ids blocks funcs w wp) := hR
   clear hR HD HP m0
   go_wp2_with fail
   clear y0 y1 y2 y3 y4 y5 r0 r1 r2
   go_loopw [38] (fun i wr => ∃ j : Nat, j ≤ x.insts.length ∧ i = .int .i64 j ∧ Hid (∀ k, k < j → instB (x.insts.getD k inst0) ids funcs = true) ∧ RoomB x v0 q0 v1 q1 ids blocks funcs w wr) (fun i _ => x.insts.length - (intOf i).toNat)
   case atStart => exact ⟨0, by omega, rfl, fun k hk => by omega, RR.out⟩
   case round =>
    obtain ⟨j, hj, rfl, HD, hR⟩ := hrel
    obtain ⟨wq, hwq⟩ : ∃ wq, wq = wr := ⟨_, rfl⟩
    subst hwq
    clear RR
    obtain ⟨y0, y1, y2, y3, y4, y5, r0, r1, r2⟩ := hR.cells
    have hW := hR.below
    by_cases hjl : j < x.insts.length
    ·rcases m1.2 with hn | ⟨pb, po, rfl, hplo, hpb, hpc⟩
     ·simp [hn] at hjl
     obtain ⟨i0, i1, i2, i3, i4, i5, ⟨iu, iq, i6, im⟩⟩ := hpc j hjl
     have hsp := SN.out _ (getD_mem inst0 x.insts j hjl)
     generalize hp : x.insts.getD j inst0 = p at i0 i1 i2 i3 i4 i5 i6 im hsp
     have HPj : Hid (x.insts.getD j inst0 = p) := hp
     have f0 : wq.cell? ⟨pb, po + j * 7, none⟩ = some (.int .i64 p.op) := (cell_block (hW.block pb hpb)).trans i0
     have f1 : wq.cell? ⟨pb, po + j * 7 + 1, none⟩ = some (.int .i64 p.w) := (cell_block (hW.block pb hpb)).trans i1
     have f2 : wq.cell? ⟨pb, po + j * 7 + 2, none⟩ = some (.int .i64 p.a) := (cell_block (hW.block pb hpb)).trans i2
     have f3 : wq.cell? ⟨pb, po + j * 7 + 3, none⟩ = some (.int .i64 p.b) := (cell_block (hW.block pb hpb)).trans i3
     have f4 : wq.cell? ⟨pb, po + j * 7 + 4, none⟩ = some (.int .i64 p.c) := (cell_block (hW.block pb hpb)).trans i4
     have f5 : wq.cell? ⟨pb, po + j * 7 + 5, none⟩ = some (.int .i64 p.imm) := (cell_block (hW.block pb hpb)).trans i5
     have f6 : wq.cell? ⟨pb, po + j * 7 + 6, none⟩ = some (.slice iu p.args.length iq) := (cell_block (hW.block pb hpb)).trans i6
     have IM := (im.keep (agree_of_below hW lo)).keep (agree_alloc wq (.cells #[.int .i64 p.op, .int .i64 p.w, .int .i64 p.a, .int .i64 p.b, .int .i64 p.c, .int .i64 p.imm, .slice iu p.args.length iq] 95) _)
     have hsp' : p.args.length ≤ 1048576 := hsp
     have RR : Hid (RoomB x v0 q0 (some ⟨pb, po, none⟩) q1 ids blocks funcs w (wq.alloc (.cells #[.int .i64 p.op, .int .i64 p.w, .int .i64 p.a, .int .i64 p.b, .int .i64 p.c, .int .i64 p.imm, .slice iu p.args.length iq] 95))) := hR.alloc _
     have NO : Hid (instB p ids funcs = false → false = blockB ids blocks funcs x) := fun h => HI.out (all_no inst0 x.insts j hjl (by rw [HPj.out, h]; decide))
     have YES : Hid (instB p ids funcs = true → ∀ k, k < j + 1 → instB (x.insts.getD k inst0) ids funcs = true) := fun h k hk => by
      by_cases e : k = j
      ·subst e; rw [HPj.out]; exact h
      ·exact HD.out k (by omega)
     have B : ∀ B, instB p ids funcs = B → Calls Tryz.prog 109 #[.agg #[.int .i64 p.op, .int .i64 p.w, .int .i64 p.a, .int .i64 p.b, .int .i64 p.c, .int .i64 p.imm, .slice iu p.args.length iq], .agg #[.int .i64 ids, .int .i64 blocks, .int .i64 funcs]] (wq.alloc (.cells #[.int .i64 p.op, .int .i64 p.w, .int .i64 p.a, .int .i64 p.b, .int .i64 p.c, .int .i64 p.imm, .slice iu p.args.length iq] 95)) fun e w' => e = .returned (.bool B) ∧ Below (wq.alloc (.cells #[.int .i64 p.op, .int .i64 p.w, .int .i64 p.a, .int .i64 p.b, .int .i64 p.c, .int .i64 p.imm, .slice iu p.args.length iq] 95)).heap.size (wq.alloc (.cells #[.int .i64 p.op, .int .i64 p.w, .int .i64 p.a, .int .i64 p.b, .int .i64 p.c, .int .i64 p.imm, .slice iu p.args.length iq] 95)) w' := fun B h => by
      rw [← h]; exact instShI lo p iu iq ids blocks funcs _ hsp' IM
     have RA := hR.alloc (.cells #[.int .i64 p.op, .int .i64 p.w, .int .i64 p.a, .int .i64 p.b, .int .i64 p.c, .int .i64 p.imm, .slice iu p.args.length iq] 95)
     obtain ⟨_, _, _, _, _, _, t0, t1, t2⟩ := RA.cells
     clear hpc i0 i1 i2 i3 i4 i5 i6 im hsp hp m1 hR HD HI HT IM RA
     cases hb : instB p ids funcs with
     | false =>
      have HF : Hid (false = blockB ids blocks funcs x) := NO.out hb
      have BB := B _ hb
      clear B
      go_wp2_with (go_at_call 109; refine BB.mono ?_; rintro e w2 ⟨rfl, hb2⟩)
      go_ret
      exact ⟨ret_bool HF.out, (RR.out.keep hb2).below⟩
     | true =>
      have HF : Hid (instB p ids funcs = true) := hb
      have BB := B _ hb
      clear B
      go_wp2_with (go_at_call 109; refine BB.mono ?_; rintro e w2 ⟨rfl, hb2⟩)
      go_roundw
      case rel => exact ⟨j + 1, by omega, by go_num, YES.out HF.out, RR.out.keep hb2⟩
      case measure => simp [intOf]; omega
    ·have HF : Hid (termB x.term ids blocks = blockB ids blocks funcs x) := HT.out HPA.out (all_yes inst0 x.insts (fun k hk => HD.out k (by omega)))
     have RR : Hid (RoomB x v0 q0 v1 q1 ids blocks funcs w wq) := hR
     clear hR HD HI HT m1
     go_wp2_with (go_at_call 110; refine (termShI x.term _ _ _ _).mono ?_; rintro e w2 ⟨rfl, hb2⟩)
     go_ret
     exact ⟨ret_bool HF.out, (RR.out.keep hb2).below⟩
end Go.Proofs.YtkpmiikafconmaaGreatDoor
