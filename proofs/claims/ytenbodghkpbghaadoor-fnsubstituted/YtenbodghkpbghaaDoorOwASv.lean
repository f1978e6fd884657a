import Derived.Test.YtenbodghkpbghaaDoorGnYSv
import Derived.Test.YtenbodghkpbghaaDoorOps3Sv
import Derived.Test.YtenbodghkpbghaaDoorFmHSv
import Derived.Test.YtenbodghkpbghaaDoorXhoSv
import Derived.Deep.AppendLies
namespace Go.Proofs.YtenbodghkpbghaaDoor
open Go.RowKit
set_option linter.unusedVariables false
set_option linter.unusedSimpArgs false
def lvT (T : TypeId) : Nat := if T = 2 then 0 else if T = 89 then 1 else if T = 44 then 2 else if T = 41 then 3 else if T = 27 then 4 else 9
def Still (k : Nat) (w w' : World) : Prop := ∀ (b : Nat) (cur : Array Value) (T : TypeId), w.heap[b]? = some (.cells cur T (0, 0)) → lvT T < k → w'.heap[b]? = some (.cells cur T (0, 0))
theorem Still.refl (k : Nat) (w : World) : Still k w w := fun _ _ _ h _ => h
theorem Still.trans {k : Nat} {x y z : World} (h : Still k x y) (h2 : Still k y z) : Still k x z := fun b cur T hb hT => h2 b cur T (h b cur T hb hT) hT
theorem Still.low {k j : Nat} {w w' : World} (h : Still k w w') (hj : j ≤ k) : Still j w w' := fun b cur T hb hT => h b cur T hb (by omega)
theorem Still.below {k : Nat} {w w' : World} (h : Below w.heap.size w w') : Still k w w' := fun b cur T hb _ => (h.block b (Array.getElem?_eq_some_iff.1 hb).1).trans hb
theorem Still.set {k g o : Nat} {w : World} {cs : Array Value} {T : TypeId} {v : Value} (h : At w g cs T) (hT : k ≤ lvT T) : Still k w (w.setCell ⟨g, o, none⟩ v) := fun b cur T' hb hT' => by
 have hn : b ≠ g := fun e => by
  rw [e, show w.heap[g]? = _ from h] at hb
  cases hb
  omega
 exact (Below.heap_setCell _ _ _ _ (by show b ≠ g; exact hn)).trans hb
theorem Still.grown {k : Nat} {w w' : World} {r : Option Nat} (h : w.grownBy w' r) (hr : ∀ g, r = some g → ∃ cur T, w.heap[g]? = some (.cells cur T (0, 0)) ∧ k ≤ lvT T) : Still k w w' := fun b cur T hb hT =>
 (h.block b (Array.getElem?_eq_some_iff.1 hb).1 (fun e => by
  obtain ⟨cur2, T2, h1, h2⟩ := hr b e.symm
  rw [hb] at h1
  cases h1
  omega)).trans hb
theorem Still.drew {k : Nat} {w w' : World} (h : Still k w w') : Still k w w'.drew := h
def OwnI (w : World) (lo hi : Nat) (u : Option Addr) (l : List Int) : Prop := l.length ≤ 1048576 ∧ (l = [] ∨ ∃ g cur, u = some ⟨g, 0, none⟩ ∧ lo ≤ g ∧ g < hi ∧ w.heap[g]? = some (.cells cur 2 (0, 0)) ∧ ∀ i, i < l.length → cur[i]? = some (.int .i64 (l.getD i 0)))
theorem OwnI.still {w w' : World} {lo hi : Nat} {u : Option Addr} {l : List Int} {k : Nat} (h : OwnI w lo hi u l) (s : Still k w w') (hk : 0 < k) : OwnI w' lo hi u l := by
 refine ⟨h.1, ?_⟩
 rcases h.2 with h | ⟨g, cur, e, h1, h2, h3, h4⟩
 ·exact .inl h
 ·exact .inr ⟨g, cur, e, h1, h2, s g cur _ h3 (by rw [show lvT 2 = 0 by decide]; exact hk), h4⟩
theorem OwnI.wide {w : World} {lo hi lo' hi' : Nat} {u : Option Addr} {l : List Int} (h : OwnI w lo hi u l) (h1 : lo' ≤ lo) (h2 : hi ≤ hi') : OwnI w lo' hi' u l := by
 refine ⟨h.1, ?_⟩
 rcases h.2 with h | ⟨g, cur, e, k1, k2, k3⟩
 ·exact .inl h
 ·exact .inr ⟨g, cur, e, by omega, by omega, k3⟩
theorem OwnI.row {w : World} {base : Nat} {u : Option Addr} {c : Nat} {l : List Int} (hm : l.length ≤ 1048576) (h : Row w base (.slice u l.length c) l) : OwnI w base w.heap.size u l := by
 refine ⟨hm, ?_⟩
 rcases h.2 with ⟨_, hn⟩ | ⟨g, cap, cur, hv, hb, hg, hnc, _, hcs, htk⟩
 ·exact .inl (List.length_eq_zero_iff.1 hn)
 ·cases hv
  refine .inr ⟨g, cur, rfl, hb, (Array.getElem?_eq_some_iff.1 hg).1, hg, fun i hi => ?_⟩
  have h1 : (l.map (Value.int .i64))[i]? = some (.int .i64 (l.getD i 0)) := by simp [List.getD, hi]
  rw [← htk, List.getElem?_take, if_pos (by omega)] at h1
  simpa using h1
theorem OwnI.ints {w : World} {lo hi : Nat} {u : Option Addr} {l : List Int} (h : OwnI w lo hi u l) : IntsAt w lo u l := by
 refine ⟨by have := h.1; omega, ?_⟩
 rcases h.2 with h | ⟨g, cur, e, h1, h2, h3, h4⟩
 ·exact .inl h
 ·exact .inr ⟨g, 0, e, h1, (Array.getElem?_eq_some_iff.1 h3).1, fun i hi => by rw [Nat.zero_add, cell_of_heap h3]; exact h4 i hi⟩
def Sub {α : Type} (O : World → Nat → Nat → α → Prop) (w : World) : Nat → Nat → List α → Prop
 | lo, hi, [] => lo ≤ hi
 | lo, hi, e :: es => ∃ a m, lo ≤ a ∧ a ≤ m ∧ O w a m e ∧ Sub O w m hi es
theorem Sub.le {α : Type} {O : World → Nat → Nat → α → Prop} {w : World} : ∀ {es : List α} {lo hi : Nat}, Sub O w lo hi es → lo ≤ hi
 | [], _, _, h => h
 | _ :: _, _, _, ⟨a, m, h1, h2, _, h3⟩ => Nat.le_trans h1 (Nat.le_trans h2 h3.le)
theorem Sub.wide {α : Type} {O : World → Nat → Nat → α → Prop} {w : World} : ∀ {es : List α} {lo hi lo' hi' : Nat}, Sub O w lo hi es → lo' ≤ lo → hi ≤ hi' → Sub O w lo' hi' es
 | [], _, _, _, _, h, h1, h2 => Nat.le_trans h1 (Nat.le_trans h h2)
 | _ :: _, _, _, _, _, ⟨a, m, k1, k2, k3, k4⟩, h1, h2 => ⟨a, m, Nat.le_trans h1 k1, k2, k3, k4.wide (Nat.le_refl _) h2⟩
theorem Sub.snoc {α : Type} {O : World → Nat → Nat → α → Prop} {w : World} {e : α} : ∀ {es : List α} {lo m a hi : Nat}, Sub O w lo m es → m ≤ a → a ≤ hi → O w a hi e → Sub O w lo hi (es ++ [e])
 | [], lo, m, a, hi, h, h1, h2, h3 => ⟨a, hi, Nat.le_trans h h1, h2, h3, Nat.le_refl _⟩
 | x :: es, lo, m, a, hi, ⟨p, q, h1, h2, h3, h4⟩, k1, k2, k3 => ⟨p, q, h1, h2, h3, h4.snoc k1 k2 k3⟩
theorem Sub.still {α : Type} {O : World → Nat → Nat → α → Prop} {w w' : World} (hO : ∀ lo hi e, O w lo hi e → O w' lo hi e) : ∀ {es : List α} {lo hi : Nat}, Sub O w lo hi es → Sub O w' lo hi es
 | [], _, _, h => h
 | _ :: _, _, _, ⟨a, m, h1, h2, h3, h4⟩ => ⟨a, m, h1, h2, hO _ _ _ h3, h4.still hO⟩
def RowS {α : Type} (T : TypeId) (s : Nat) (C : α → List Value) (w : World) (base : Nat) (v : Value) (es : List α) : Prop := w.ownsRow base T s v es.length (es.flatMap C)
theorem RowS.nil {α : Type} (T : TypeId) (s : Nat) (C : α → List Value) (w : World) (base : Nat) : RowS T s C w base (.slice none 0 0) [] := World.ownsRow_nil _ _ _ _
theorem RowS.slice {α : Type} {T : TypeId} {s : Nat} {C : α → List Value} {w : World} {base : Nat} {v : Value} {es : List α} (h : RowS T s C w base v es) : ∃ u c, v = .slice u es.length c := by
 rcases h.2 with ⟨rfl, hn⟩ | ⟨g, cap, cur, rfl, _⟩
 ·exact ⟨none, 0, by rw [hn]⟩
 ·exact ⟨_, cap, rfl⟩
theorem RowS.ge {α : Type} {T : TypeId} {s : Nat} {C : α → List Value} {w : World} {base : Nat} {v : Value} {es : List α} (h : RowS T s C w base v es) {g : Nat} (hv : v.ownBlock = some g) : base ≤ g ∧ ∃ cur, w.heap[g]? = some (.cells cur T (0, 0)) := by
 rcases h.2 with ⟨e, _⟩ | ⟨g', cap, cur, e, hb, hg, _⟩
 ·rw [e] at hv; cases hv
 ·rw [e] at hv; cases hv; exact ⟨hb, cur, hg⟩
theorem RowS.still {α : Type} {T : TypeId} {s : Nat} {C : α → List Value} {w w' : World} {base : Nat} {v : Value} {es : List α} {k : Nat} (h : RowS T s C w base v es) (st : Still k w w') (hk : lvT T < k) : RowS T s C w' base v es := by
 refine ⟨h.1, ?_⟩
 rcases h.2 with h2 | ⟨g, cap, cur, hv, hb, hg, r⟩
 ·exact .inl h2
 ·exact .inr ⟨g, cap, cur, hv, hb, st g cur T hg hk, r⟩
theorem RowS.push {α : Type} {T : TypeId} {s : Nat} {C : α → List Value} {w : World} {base : Nat} {v : Value} {es : List α} {e : α} (h : w.ownsRow base T s v (es.length + 1) (es.flatMap C ++ C e)) : RowS T s C w base v (es ++ [e]) := by
 unfold RowS
 rw [List.length_append, List.flatMap_append]
 simpa using h
def OwnL {α : Type} (T : TypeId) (s : Nat) (C : α → List Value) (O : World → Nat → Nat → α → Prop) (w : World) (lo hi : Nat) (u : Option Addr) (es : List α) : Prop :=
 es.length ≤ 1048576 ∧ (es = [] ∨ ∃ g cur, u = some ⟨g, 0, none⟩ ∧ lo ≤ g ∧ g < hi ∧ w.heap[g]? = some (.cells cur T (0, 0)) ∧ ∀ i e, es[i]? = some e → ∀ j, j < s → cur[i * s + j]? = (C e)[j]?) ∧ Sub O w lo hi es
theorem OwnL.wide {α : Type} {T : TypeId} {s : Nat} {C : α → List Value} {O : World → Nat → Nat → α → Prop} {w : World} {lo hi lo' hi' : Nat} {u : Option Addr} {es : List α} (h : OwnL T s C O w lo hi u es) (h1 : lo' ≤ lo) (h2 : hi ≤ hi') : OwnL T s C O w lo' hi' u es := by
 refine ⟨h.1, ?_, h.2.2.wide h1 h2⟩
 rcases h.2.1 with h | ⟨g, cur, e, k1, k2, k3⟩
 ·exact .inl h
 ·exact .inr ⟨g, cur, e, by omega, by omega, k3⟩
theorem OwnL.still {α : Type} {T : TypeId} {s : Nat} {C : α → List Value} {O : World → Nat → Nat → α → Prop} {w w' : World} {lo hi : Nat} {u : Option Addr} {es : List α} {k : Nat} (h : OwnL T s C O w lo hi u es) (st : Still k w w') (hk : lvT T < k) (hO : ∀ lo hi e, O w lo hi e → O w' lo hi e) : OwnL T s C O w' lo hi u es := by
 refine ⟨h.1, ?_, h.2.2.still hO⟩
 rcases h.2.1 with h | ⟨g, cur, e, k1, k2, k3, k4⟩
 ·exact .inl h
 ·exact .inr ⟨g, cur, e, k1, k2, st g cur T k3 hk, k4⟩
theorem OwnL.none {α : Type} {T : TypeId} {s : Nat} {C : α → List Value} {O : World → Nat → Nat → α → Prop} {w : World} {lo hi : Nat} {u : Option Addr} (h : lo ≤ hi) : OwnL T s C O w lo hi u [] := ⟨by simp, .inl rfl, h⟩
theorem flat_at {α : Type} {C : α → List Value} {s : Nat} (hC : ∀ e, (C e).length = s) : ∀ (l : List α) (i j : Nat) (e : α), l[i]? = some e → j < s → (l.flatMap C)[i * s + j]? = (C e)[j]?
 | [], i, j, e, h, _ => by simp at h
 | x :: l, 0, j, e, h, hj => by
  cases h
  rw [List.flatMap_cons, Nat.zero_mul, Nat.zero_add, List.getElem?_append_left (by rw [hC]; exact hj)]
 | x :: l, i + 1, j, e, h, hj => by
  have ih := flat_at hC l i j e (by simpa using h) hj
  rw [List.flatMap_cons, List.getElem?_append_right (by rw [hC, Nat.succ_mul]; omega), hC]
  rw [show (i + 1) * s + j - s = i * s + j by rw [Nat.succ_mul]; omega]
  exact ih
theorem RowS.own {α : Type} {T : TypeId} {s : Nat} {C : α → List Value} {O : World → Nat → Nat → α → Prop} {w : World} {base lo hi : Nat} {u : Option Addr} {c : Nat} {es : List α} (hC : ∀ e, (C e).length = s) (hm : es.length ≤ 1048576) (h : RowS T s C w base (.slice u es.length c) es) (hs : Sub O w lo hi es) (h1 : lo ≤ base) (h2 : w.heap.size ≤ hi) : OwnL T s C O w lo hi u es := by
 refine ⟨hm, ?_, hs⟩
 rcases h.2 with ⟨_, hn⟩ | ⟨g, cap, cur, hv, hb, hg, hnc, _, hcs, htk⟩
 ·exact .inl (List.length_eq_zero_iff.1 hn)
 ·cases hv
  have hlt := (Array.getElem?_eq_some_iff.1 hg).1
  refine .inr ⟨g, cur, rfl, by omega, by omega, hg, fun i e he j hj => ?_⟩
  have hil := (List.getElem?_eq_some_iff.1 he).1
  rw [← flat_at hC es i j e he hj, ← htk, List.getElem?_take, if_pos (by
   have := Nat.mul_le_mul_right s (show i + 1 ≤ es.length from hil)
   rw [Nat.succ_mul] at this
   omega)]
  simp
abbrev PhE := PhiD × Option Addr × Nat
def phC (e : PhE) : List Value := [.int .i64 e.1.w, .slice e.2.1 e.1.ins.length e.2.2]
def OwnPhE (w : World) (lo hi : Nat) (e : PhE) : Prop := OwnI w lo hi e.2.1 e.1.ins
abbrev InE := InstD × Option Addr × Nat
def inC (e : InE) : List Value := [.int .i64 e.1.op, .int .i64 e.1.w, .int .i64 e.1.a, .int .i64 e.1.b, .int .i64 e.1.c, .int .i64 e.1.imm, .slice e.2.1 e.1.args.length e.2.2]
def OwnInE (w : World) (lo hi : Nat) (e : InE) : Prop := OwnI w lo hi e.2.1 e.1.args
structure BkE where
 ps : List PhE
 pu : Option Addr
 pc : Nat
 is : List InE
 iu : Option Addr
 ic : Nat
 t : TermD
def bkC (b : BkE) : List Value := [.slice b.pu b.ps.length b.pc, .slice b.iu b.is.length b.ic, .int .i64 b.t.kind, .int .i64 b.t.a, .int .i64 b.t.x, .int .i64 b.t.y]
abbrev OwnPhs := OwnL 89 2 phC OwnPhE
abbrev OwnIns := OwnL 44 7 inC OwnInE
def OwnBk (w : World) (lo hi : Nat) (b : BkE) : Prop := ∃ m, lo ≤ m ∧ m ≤ hi ∧ OwnPhs w lo m b.pu b.ps ∧ OwnIns w m hi b.iu b.is
structure FnE where
 pars : List Int
 pu : Option Addr
 pc : Nat
 ret : Int
 bs : List BkE
 bu : Option Addr
 bc : Nat
def fnC (f : FnE) : List Value := [.slice f.pu f.pars.length f.pc, .int .i64 f.ret, .slice f.bu f.bs.length f.bc]
abbrev OwnBks := OwnL 41 6 bkC OwnBk
def OwnFn (w : World) (lo hi : Nat) (f : FnE) : Prop := ∃ m, lo ≤ m ∧ m ≤ hi ∧ OwnI w lo m f.pu f.pars ∧ OwnBks w m hi f.bu f.bs
abbrev OwnFns := OwnL 27 3 fnC OwnFn
theorem OwnPhs.still {w w' : World} {lo hi : Nat} {u : Option Addr} {es : List PhE} {k : Nat} (h : OwnPhs w lo hi u es) (st : Still k w w') (hk : 1 < k) : OwnPhs w' lo hi u es := OwnL.still h st (by rw [show lvT 89 = 1 by decide]; exact hk) fun _ _ _ h => OwnI.still h st (by omega)
theorem OwnIns.still {w w' : World} {lo hi : Nat} {u : Option Addr} {es : List InE} {k : Nat} (h : OwnIns w lo hi u es) (st : Still k w w') (hk : 2 < k) : OwnIns w' lo hi u es := OwnL.still h st (by rw [show lvT 44 = 2 by decide]; exact hk) fun _ _ _ h => OwnI.still h st (by omega)
theorem OwnBk.still {w w' : World} {lo hi : Nat} {b : BkE} {k : Nat} (h : OwnBk w lo hi b) (st : Still k w w') (hk : 2 < k) : OwnBk w' lo hi b := by
 obtain ⟨m, h1, h2, h3, h4⟩ := h
 exact ⟨m, h1, h2, OwnPhs.still h3 st (by omega), OwnIns.still h4 st hk⟩
theorem OwnBks.still {w w' : World} {lo hi : Nat} {u : Option Addr} {es : List BkE} {k : Nat} (h : OwnBks w lo hi u es) (st : Still k w w') (hk : 3 < k) : OwnBks w' lo hi u es := OwnL.still h st (by rw [show lvT 41 = 3 by decide]; exact hk) fun _ _ _ h => OwnBk.still h st (by omega)
theorem OwnFn.still {w w' : World} {lo hi : Nat} {f : FnE} {k : Nat} (h : OwnFn w lo hi f) (st : Still k w w') (hk : 3 < k) : OwnFn w' lo hi f := by
 obtain ⟨m, h1, h2, h3, h4⟩ := h
 exact ⟨m, h1, h2, OwnI.still h3 st (by omega), OwnBks.still h4 st hk⟩
theorem OwnFns.still {w w' : World} {lo hi : Nat} {u : Option Addr} {es : List FnE} {k : Nat} (h : OwnFns w lo hi u es) (st : Still k w w') (hk : 4 < k) : OwnFns w' lo hi u es := OwnL.still h st (by rw [show lvT 27 = 4 by decide]; exact hk) fun _ _ _ h => OwnFn.still h st (by omega)
def BkE.d (b : BkE) : BlockD := ⟨b.ps.map (·.1), b.is.map (·.1), b.t⟩
def FnE.d (f : FnE) : FuncD := ⟨f.pars, f.ret, f.bs.map BkE.d⟩
end Go.Proofs.YtenbodghkpbghaaDoor
namespace Go.Proofs.YtenbodghkpbghaaDoor
open Go.RowKit
set_option linter.unusedVariables false
set_option linter.unusedSimpArgs false
def sbTerm (ρ : Int → Int) (t : TermD) : TermD := if t.kind = 1 ∨ t.kind = 3 then ⟨t.kind, ρ t.a, t.x, t.y⟩ else t
def sbInst (ρ : Int → Int) (i : InstD) : InstD := mkD i.op i.w i.imm ((opsD i).map ρ)
def sbPhi (ρ : Int → Int) (p : PhiD) : PhiD := ⟨p.w, p.ins.map ρ⟩
def sbBlock (ρ : Int → Int) (b : BlockD) : BlockD := ⟨b.phis.map (sbPhi ρ), b.insts.map (sbInst ρ), sbTerm ρ b.term⟩
def sbFunc (ρ : Int → Int) (f : FuncD) : FuncD := ⟨f.params, f.ret, f.blocks.map (sbBlock ρ)⟩
def Idn (l : List Int) : Prop := ∀ x ∈ l, 0 ≤ x ∧ x ≤ 100000
structure OkBk (d : BlockD) : Prop where
 pl : d.phis.length ≤ 1000
 il : d.insts.length ≤ 1000
 ph : ∀ p ∈ d.phis, p.ins.length ≤ 1000 ∧ Idn p.ins
 is : ∀ i ∈ d.insts, i.args.length ≤ 1000 ∧ (opsD i).length ≤ 1000 ∧ Idn (opsD i)
 tm : Idn (namesT d.term)
structure OkFn (d : FuncD) : Prop where
 pr : d.params.length ≤ 1000
 bl : d.blocks.length ≤ 1000
 bk : ∀ b ∈ d.blocks, OkBk b
theorem ops_back (i : InstD) (ρ : Int → Int) : i.op = 26 ∨ (((opsD i).map ρ).length ≤ 3 ∧ opsD (mkD i.op i.w i.imm ((opsD i).map ρ)) = (opsD i).map ρ) := by
 by_cases ho : i.op = 26
 ·exact .inl ho
 right
 by_cases h1 : opB i.op = true ∨ i.op = 24
 ·have e : opsD i = [i.a, i.b] := by unfold opsD; rw [if_pos h1]
  rw [e]
  refine ⟨by simp, ?_⟩
  unfold mkD; rw [if_neg ho]; unfold opsD; rw [if_pos h1]; simp
 by_cases h2 : i.op = 18 ∨ i.op = 19 ∨ i.op = 20 ∨ i.op = 23 ∨ i.op = 25 ∨ i.op = 27
 ·have e : opsD i = [i.a] := by unfold opsD; rw [if_neg h1, if_pos h2]
  rw [e]
  refine ⟨by simp, ?_⟩
  unfold mkD; rw [if_neg ho]; unfold opsD; rw [if_neg h1, if_pos h2]; simp
 by_cases h3 : i.op = 22
 ·have e : opsD i = [i.a, i.b, i.c] := by unfold opsD; rw [if_neg h1, if_neg h2, if_pos h3]
  rw [e]
  refine ⟨by simp, ?_⟩
  unfold mkD; rw [if_neg ho]; unfold opsD; rw [if_neg h1, if_neg h2, if_pos h3]; simp
 ·have e : opsD i = [] := by unfold opsD; rw [if_neg h1, if_neg h2, if_neg h3, if_neg ho]
  rw [e]
  refine ⟨by simp, ?_⟩
  unfold mkD; rw [if_neg ho]; unfold opsD; rw [if_neg h1, if_neg h2, if_neg h3, if_neg ho]; simp
structure SSt (w wr : World) (X : Nat) (T : TypeId) (ps cs zs : Array Value) : Prop where
 par : At wr w.heap.size ps T
 res : At wr (w.heap.size + 1) zs T
 box : At wr X cs T
 bel : Below w.heap.size w wr
 ltX : w.heap.size + 1 < X
theorem SSt.low {w wr w2 : World} {X n : Nat} {T : TypeId} {ps cs zs : Array Value} (h : SSt w wr X T ps cs zs) (k : Below n wr w2) (hn : X < n) : SSt w w2 X T ps cs zs := by
 have h1 := h.ltX
 exact ⟨(k.block _ (by omega)).trans h.par, (k.block _ (by omega)).trans h.res, (k.block _ hn).trans h.box, h.bel.trans (k.mono (by omega)), h1⟩
theorem SSt.keep {w wr w2 : World} {X : Nat} {T : TypeId} {ps cs zs : Array Value} (h : SSt w wr X T ps cs zs) (k : Below wr.heap.size wr w2) : SSt w w2 X T ps cs zs := h.low k h.box.lt
theorem SSt.grown {w wr w2 : World} {X : Nat} {T : TypeId} {ps cs zs : Array Value} {r : Option Nat} (h : SSt w wr X T ps cs zs) (k : wr.grownBy w2 r) (hr : ∀ g, r = some g → X < g) : SSt w w2 X T ps cs zs :=
 h.low (n := X + 1) ⟨k.os, k.tape, k.output, k.size, fun b hb => k.block b (by have := h.box.lt; omega) (fun e => by have := hr b e.symm; omega)⟩ (by omega)
theorem SSt.set {w wr : World} {X : Nat} {T : TypeId} {ps cs zs : Array Value} (h : SSt w wr X T ps cs zs) (o : Nat) (v : Value) : SSt w (wr.setCell ⟨X, o, none⟩ v) X T ps (cs.setIfInBounds o v) zs := by
 have h1 := h.ltX
 exact ⟨h.par.setOther (by omega), h.res.setOther (by omega), heap_set (o := o) h.box, h.bel.setCell (by dsimp only; omega) _, h1⟩
theorem SSt.drew {w wr : World} {X : Nat} {T : TypeId} {ps cs zs : Array Value} (h : SSt w wr X T ps cs zs) : SSt w wr.drew X T ps cs zs := ⟨h.par, h.res, h.box, h.bel.drew, h.ltX⟩
set_option maxHeartbeats 4000000 in
set_option maxRecDepth 100000 in
theorem ofTermI (B : Nat) (ρ : Int → Int) (t : TermD) (w : World) (h : RenAt w B ρ) (ht : Idn (namesT t)) :
  Calls Tryd.prog 74 #[.map (some B), .agg #[.int .i64 t.kind, .int .i64 t.a, .int .i64 t.x, .int .i64 t.y]] w fun e w' => e = .returned (.agg #[.int .i64 (sbTerm ρ t).kind, .int .i64 (sbTerm ρ t).a, .int .i64 (sbTerm ρ t).x, .int .i64 (sbTerm ρ t).y]) ∧ Below w.heap.size w w' := by
 have HR : Hid (RenAt w B ρ) := h
 have HT : Hid (Idn (namesT t)) := ht
 obtain ⟨tm, htm⟩ : ∃ tm, termI t = tm := ⟨_, rfl⟩
 have TI := fun W => termI t W
 clear htm tm h ht
 have b0 : Below w.heap.size w ((w.alloc (.cells #[.int .i64 t.kind, .int .i64 t.a, .int .i64 t.x, .int .i64 t.y] 39)).alloc (.cells #[.int .i64 0, .int .i64 0, .int .i64 0, .int .i64 0] 39)) := ((Below.refl _ _).alloc (Nat.le_refl _) _).alloc (by simp) _
 have A0 : At ((w.alloc (.cells #[.int .i64 t.kind, .int .i64 t.a, .int .i64 t.x, .int .i64 t.y] 39)).alloc (.cells #[.int .i64 0, .int .i64 0, .int .i64 0, .int .i64 0] 39)) w.heap.size #[.int .i64 t.kind, .int .i64 t.a, .int .i64 t.x, .int .i64 t.y] 39 := (Below.heap_alloc _ _ _ (by simp)).trans (heap_alloc_last _ _)
 have A1 : At ((w.alloc (.cells #[.int .i64 t.kind, .int .i64 t.a, .int .i64 t.x, .int .i64 t.y] 39)).alloc (.cells #[.int .i64 0, .int .i64 0, .int .i64 0, .int .i64 0] 39)) (w.heap.size + 1) #[.int .i64 0, .int .i64 0, .int .i64 0, .int .i64 0] 39 := heap_two2 _ _ _
 have H0 : Hid (Below w.heap.size w _) := b0
 have HA : Hid (At _ w.heap.size _ _) := A0
 have HZ : Hid (At _ (w.heap.size + 1) _ _) := A1
 have hz : ((w.alloc (.cells #[.int .i64 t.kind, .int .i64 t.a, .int .i64 t.x, .int .i64 t.y] 39)).alloc (.cells #[.int .i64 0, .int .i64 0, .int .i64 0, .int .i64 0] 39)).heap.size = w.heap.size + 2 := by simp
 have P := TI ((w.alloc (.cells #[.int .i64 t.kind, .int .i64 t.a, .int .i64 t.x, .int .i64 t.y] 39)).alloc (.cells #[.int .i64 0, .int .i64 0, .int .i64 0, .int .i64 0] 39))
 clear b0 A0 A1 TI
 go_enter Tryd.func74, Tryd.ntmps74
 go_wp2_with fail
 generalize ((w.alloc (.cells #[.int .i64 t.kind, .int .i64 t.a, .int .i64 t.x, .int .i64 t.y] 39)).alloc (.cells #[.int .i64 0, .int .i64 0, .int .i64 0, .int .i64 0] 39)) = W1 at *
 refine P.mono ?_
 rintro e w2 ⟨v, r, rfl, ho, b2⟩
 have HO : Hid (IntsAt w2 W1.heap.size v (namesT t)) := ho.ints
 have HB : Hid (Below w.heap.size w w2) := H0.out.trans (b2.mono (by omega))
 have HA2 : Hid (At w2 w.heap.size #[.int .i64 t.kind, .int .i64 t.a, .int .i64 t.x, .int .i64 t.y] 39) := HA.out.below b2
 have HZ2 : Hid (At w2 (w.heap.size + 1) #[.int .i64 0, .int .i64 0, .int .i64 0, .int .i64 0] 39) := HZ.out.below b2
 have hL : (namesT t).length ≤ 1 := by unfold namesT; split <;> simp
 have hz2 : w.heap.size + 2 ≤ w2.heap.size := by have := b2.size; omega
 have hzW : w.heap.size + 2 ≤ W1.heap.size := by omega
 clear P ho b2 H0 HA HZ hz
 go_wp2_with fail
 go_loopw [6, 10] (fun _ i wr => ∃ k : Nat, k ≤ (namesT t).length ∧ i = .int .i64 k ∧ Hid (At wr w.heap.size #[.int .i64 t.kind, .int .i64 (if k = 0 then t.a else ρ t.a), .int .i64 t.x, .int .i64 t.y] 39) ∧ Hid (At wr (w.heap.size + 1) #[.int .i64 0, .int .i64 0, .int .i64 0, .int .i64 0] 39) ∧ Hid (Below w.heap.size w wr) ∧ Hid (Agree W1.heap.size w2 wr)) (fun _ i _ => (namesT t).length - (intOf i).toNat)
 case atStart => exact ⟨0, by omega, rfl, HA2.out, HZ2.out, HB.out, Agree.refl _ _⟩
 case round =>
  clear HA2 HZ2 HB hz2
  obtain ⟨k, hk, rfl, HA, HZ, HB, HG⟩ := hrel
  obtain ⟨wo, hwo⟩ : ∃ wo, wo = wr := ⟨_, rfl⟩
  subst hwo
  by_cases hlt : k < (namesT t).length
  ·have hk0 : k = 0 := by omega
   subst hk0
   have hkd : t.kind = 1 ∨ t.kind = 3 := by
    by_cases h : t.kind = 1 ∨ t.kind = 3
    ·exact h
    ·unfold namesT at hlt; rw [if_neg h] at hlt; simp at hlt
   have hn : namesT t = [t.a] := by unfold namesT; rw [if_pos hkd]
   have hm := HT.out t.a (by rw [hn]; exact List.mem_singleton.2 rfl)
   obtain ⟨ga, off, rfl, e1⟩ : ∃ ga off, v = some ⟨ga, off, none⟩ ∧ wo.cell? ⟨ga, off, none⟩ = some (.int .i64 t.a) := by
    rcases (HO.out.keep HG.out).2 with h | ⟨ga, off, ha, _, _, hc⟩
    ·rw [h] at hlt; simp at hlt
    ·refine ⟨ga, off, ha, ?_⟩
     have := hc 0 hlt
     rw [hn] at this
     exact this
   have P := ofIdI B ρ t.a wo (HR.out.below HB.out) hm.1 hm.2
   have c1 : wo.cell? ⟨w.heap.size, 1, none⟩ = some (.int .i64 t.a) := HA.out.cell 1
   have f1 : wo.frozen? ⟨w.heap.size, 1, none⟩ = false := froz_of_heap HA.out
   have HA5 : Hid (At (wo.setCell ⟨w.heap.size, 1, none⟩ (.int .i64 (ρ t.a))) w.heap.size #[.int .i64 t.kind, .int .i64 (ρ t.a), .int .i64 t.x, .int .i64 t.y] 39) := heap_set (o := 1) HA.out
   have HZ5 : Hid (At (wo.setCell ⟨w.heap.size, 1, none⟩ (.int .i64 (ρ t.a))) (w.heap.size + 1) #[.int .i64 0, .int .i64 0, .int .i64 0, .int .i64 0] 39) := HZ.out.setOther (by omega)
   have HB5 : Hid (Below w.heap.size w (wo.setCell ⟨w.heap.size, 1, none⟩ (.int .i64 (ρ t.a)))) := HB.out.setCell (by dsimp only; omega) _
   have HG5 : Hid (Agree W1.heap.size w2 (wo.setCell ⟨w.heap.size, 1, none⟩ (.int .i64 (ρ t.a)))) := HG.out.trans (agree_setCell _ _ _ _ _ (by omega))
   generalize (namesT t).length = N at *
   generalize ρ t.a = y at *
   clear hm hn
   go_wp2_with fail
   refine P.mono ?_
   rintro e w9 ⟨rfl, h9⟩
   have h8 := h9.symm
   clear h9 P
   subst h8
   go_wp2_with fail
   go_roundw
   case rel => exact ⟨1, by omega, by go_num, HA5.out, HZ5.out, HB5.out, HG5.out⟩
   case measure => simp [intOf]; omega
  ·have hkl : k = (namesT t).length := by omega
   have HE : Hid (sbTerm ρ t = ⟨t.kind, if k = 0 then t.a else ρ t.a, t.x, t.y⟩) := by
    show _ = _
    unfold sbTerm
    by_cases h : t.kind = 1 ∨ t.kind = 3
    ·have : namesT t = [t.a] := by unfold namesT; rw [if_pos h]
     rw [this] at hkl
     rw [if_pos h, hkl]; rfl
    ·have : namesT t = [] := by unfold namesT; rw [if_neg h]
     rw [this] at hkl
     rw [if_neg h, hkl]; rfl
   generalize (if k = 0 then t.a else ρ t.a) = y at *
   have c0 := HA.out.cell 0
   have c1 := HA.out.cell 1
   have c2 := HA.out.cell 2
   have c3 := HA.out.cell 3
   have z0 := HZ.out.cell 0
   have z1 := HZ.out.cell 1
   have z2 := HZ.out.cell 2
   have z3 := HZ.out.cell 3
   have zf : ∀ o, wo.frozen? ⟨w.heap.size + 1, o, none⟩ = false := fun o => froz_of_heap HZ.out
   go_wp2_with fail
   have hr := (heap_set (o := 3) (v := .int .i64 t.y) (heap_set (o := 2) (v := .int .i64 t.x) (heap_set (o := 1) (v := .int .i64 y) (heap_set (o := 0) (v := .int .i64 t.kind) HZ.out))))
   refine bodyPost_ret (v := .agg #[.int .i64 t.kind, .int .i64 y, .int .i64 t.x, .int .i64 t.y]) ((results_cell_row Tryd.results74 _ _ (w.heap.size + 1) 39 _ (0, 0) _ rfl hr Tryd.underlying39 rfl (by kernel_rfl)).trans (by rfl)) rfl ⟨by rw [HE.out], ?_⟩
   exact (((HB.out.setCell (by dsimp only; omega) _).setCell (by dsimp only; omega) _).setCell (by dsimp only; omega) _).setCell (by dsimp only; omega) _
end Go.Proofs.YtenbodghkpbghaaDoor
namespace Go.Proofs.YtenbodghkpbghaaDoor
open Go.RowKit
set_option linter.unusedVariables false
set_option linter.unusedSimpArgs false
def AppT (T TS : TypeId) (s : Nat) : Prop := Tryd.prog.underlying TS = some (.slice T) ∧ ∃ (z : Value) (b : Nat), b ≤ 100 ∧ z.cells.size = s ∧ 0 < s ∧ ∃ i, Tryd.prog.info? T = some i ∧ i.zero = some z ∧ i.size = s ∧ i.bytes = b
theorem appT_of {T TS : TypeId} {s b : Nat} {z : Value} (h : (Tryd.prog.info? T).map (fun i => (i.zero, i.size, i.bytes)) = some (some z, s, b)) (hu : Tryd.prog.underlying TS = some (.slice T)) (hb : b ≤ 100) (hz : z.cells.size = s) (hs : 0 < s) : AppT T TS s := by
 refine ⟨hu, z, b, hb, hz, hs, ?_⟩
 cases hi : Tryd.prog.info? T with
 | none => rw [hi] at h; cases h
 | some i =>
  rw [hi] at h
  simp only [Option.map_some, Option.some.injEq, Prod.mk.injEq] at h
  exact ⟨i, rfl, h.1, h.2.1, h.2.2⟩
theorem appPh : AppT 89 36 2 := appT_of (z := .agg #[.int .i64 0, .slice none 0 0]) (b := 32) (by kernel_rfl) Tryd.underlying36 (by decide) rfl (by decide)
theorem appIn : AppT 44 37 7 := appT_of (z := .agg #[.int .i64 0, .int .i64 0, .int .i64 0, .int .i64 0, .int .i64 0, .int .i64 0, .slice none 0 0]) (b := 72) (by kernel_rfl) Tryd.underlying37 (by decide) rfl (by decide)
theorem appBk : AppT 41 25 6 := appT_of (z := .agg #[.slice none 0 0, .slice none 0 0, .int .i64 0, .int .i64 0, .int .i64 0, .int .i64 0]) (b := 80) (by kernel_rfl) Tryd.underlying25 (by decide) rfl (by decide)
theorem app_box {α : Type} {T TS TB : TypeId} {s : Nat} {C : α → List Value} {O : World → Nat → Nat → α → Prop} (HA : AppT T TS s) (ty : TypeId) (hC : ∀ e, (C e).length = s) (hone : ∀ e, ∀ v ∈ C e, v.oneCell' = true) (hTB : lvT T < lvT TB)
  (hO : ∀ (w w' : World) lo hi e, Still (lvT T) w w' → O w lo hi e → O w' lo hi e) {w : World} {R X : Nat} {cs : Array Value} {vu : Option Addr} {vc : Nat} {es : List α} {e : α} (o : Nat)
  (HR : RowS T s C w R (.slice vu es.length vc) es) (HU : Sub O w R w.heap.size (es ++ [e])) (HX : At w X cs TB) (hl : es.length ≤ 20000) :
  ∃ g cap w8, (Builtin.append_ #[TS, TS] ty #[.slice vu es.length vc, .slice (some ⟨w.heap.size, 0, none⟩) 1 1]).run Tryd.prog (w.alloc (.cells (C e).toArray T)) = .ok (.slice (some ⟨g, 0, none⟩) (es.length + 1) cap) w8 ∧
   Below R w w8 ∧ (∀ b, b < w.heap.size → (Value.slice vu es.length vc).ownBlock ≠ some b → w8.heap[b]? = w.heap[b]?) ∧ At w8 X cs TB ∧ Still (lvT T) w (w8.setCell ⟨X, o, none⟩ (.slice (some ⟨g, 0, none⟩) (es.length + 1) cap)) ∧
   RowS T s C (w8.setCell ⟨X, o, none⟩ (.slice (some ⟨g, 0, none⟩) (es.length + 1) cap)) R (.slice (some ⟨g, 0, none⟩) (es.length + 1) cap) (es ++ [e]) ∧
   Sub O (w8.setCell ⟨X, o, none⟩ (.slice (some ⟨g, 0, none⟩) (es.length + 1) cap)) R (w8.setCell ⟨X, o, none⟩ (.slice (some ⟨g, 0, none⟩) (es.length + 1) cap)).heap.size (es ++ [e]) := by
 obtain ⟨hu, z, b, hb, hz, hs, i, h1, h2, h3, h4⟩ := HA
 have hRw : R ≤ w.heap.size := HU.le
 have bb : Below w.heap.size w (w.alloc (.cells (C e).toArray T)) := (Below.refl _ _).alloc (Nat.le_refl _) _
 have HR7 : RowS T s C (w.alloc (.cells (C e).toArray T)) R (.slice vu es.length vc) es := HR.still (Still.below (k := lvT T + 1) bb) (by omega)
 have hmul : es.length + 1 ≤ 20001 := by omega
 obtain ⟨g, cap, w8, hrun, hown, hgr, _, _⟩ := run_append_lies (P := Tryd.prog) (ty := ty) (w.alloc (.cells (C e).toArray T)) TS R T i z s b hu h1 h2 h3 h4 hz hs (.slice vu es.length vc) es.length (es.flatMap C) HR7 ⟨w.heap.size, 0, none⟩ 1 1 (C e) (by rw [hC]; omega) (World.news_of_block (At.new w (C e).toArray T)) (hone e) (by decide) (by unfold maxLen; omega) (Nat.le_trans (Nat.mul_le_mul hmul hb) (by decide)) (Nat.le_trans hRw bb.size) _ rfl
 have keep : ∀ b, b < w.heap.size → (Value.slice vu es.length vc).ownBlock ≠ some b → w8.heap[b]? = w.heap[b]? := fun b hb hn => (hgr.block b (Nat.lt_of_lt_of_le hb bb.size) (fun e => hn e.symm)).trans (bb.block b hb)
 have hX8 : At w8 X cs TB := (keep X HX.lt (fun e => by
  obtain ⟨_, cur, hc⟩ := HR.ge e
  rw [show w.heap[X]? = _ from HX] at hc
  cases hc
  omega)).trans HX
 have st8 : Still (lvT T) w w8 := (Still.below bb).trans (Still.grown hgr fun q hq => by
  obtain ⟨_, cur, hc⟩ := HR7.ge hq
  exact ⟨cur, T, hc, Nat.le_refl _⟩)
 have st9 : Still (lvT T + 1) w8 (w8.setCell ⟨X, o, none⟩ (.slice (some ⟨g, 0, none⟩) (es.length + 1) cap)) := Still.set hX8 (by omega)
 have hz8 : w.heap.size ≤ w8.heap.size := Nat.le_trans bb.size hgr.size
 refine ⟨g, cap, w8, hrun, ⟨hgr.os.trans bb.os, hgr.tape.trans bb.tape, hgr.output.trans bb.output, hz8, fun b hb => keep b (by omega) (fun e => by have := (HR.ge e).1; omega)⟩, keep, hX8, st8.trans (st9.low (by omega)), (RowS.push hown).still st9 (by omega), ?_⟩
 exact (HU.wide (Nat.le_refl _) (Nat.le_trans hz8 (by simp only [World.size_setCell]; exact Nat.le_refl _))).still fun _ _ _ h => hO _ _ _ _ _ (st8.trans (st9.low (by omega))) h
end Go.Proofs.YtenbodghkpbghaaDoor
