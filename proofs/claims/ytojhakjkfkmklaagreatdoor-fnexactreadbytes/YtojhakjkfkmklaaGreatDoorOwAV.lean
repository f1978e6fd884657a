import Derived.Test.YtojhakjkfkmklaaGreatDoorRmAV
import Derived.Test.YtojhakjkfkmklaaGreatDoorRpIV
import Derived.Test.YtojhakjkfkmklaaGreatDoorRbGV
namespace Go.Proofs.YtojhakjkfkmklaaGreatDoor
open Go.RowKit
set_option linter.unusedVariables false
set_option linter.unusedSimpArgs false
def lvT (T : TypeId) : Nat := if T = 2 then 0 else if T = 88 then 1 else if T = 91 then 2 else if T = 86 then 3 else if T = 49 then 4 else 9
def Still (k : Nat) (w w' : World) : Prop := ∀ (b : Nat) (cur : Array Value) (T : TypeId), w.heap[b]? = some (.cells cur T (0, 0)) → lvT T < k → w'.heap[b]? = some (.cells cur T (0, 0))
theorem Still.refl (k : Nat) (w : World) : Still k w w := fun _ _ _ h _ => h
theorem Still.trans {k : Nat} {x y z : World} (h : Still k x y) (h2 : Still k y z) : Still k x z := fun b cur T hb hT => h2 b cur T (h b cur T hb hT) hT
theorem Still.low {k j : Nat} {w w' : World} (h : Still k w w') (hj : j ≤ k) : Still j w w' := fun b cur T hb hT => h b cur T hb (by omega)
theorem Still.below {k : Nat} {w w' : World} (h : Below w.heap.size w w') : Still k w w' := fun b cur T hb _ => (h.block b (Array.getElem?_eq_some_iff.1 hb).1).trans hb
theorem Still.set {k g o : Nat} {w : World} {cs : Array Value} {T : TypeId} {v : Value} (h : At w g cs T) (hT : k ≤ lvT T) : Still k w (w.setCell ⟨g, o, none⟩ v) := fun b cur T' hb hT' => by
 have hn : b ≠ g := fun e => by
  rw [e, show w.heap[g]? = _ from h] at hb
  cases hb
  omega
 exact (Below.heap_setCell _ _ _ _ (by show b ≠ g; exact hn)).trans hb
theorem Still.grown {k : Nat} {w w' : World} {r : Option Nat} (h : w.grownBy w' r) (hr : ∀ g, r = some g → ∃ cur T, w.heap[g]? = some (.cells cur T (0, 0)) ∧ k ≤ lvT T) : Still k w w' := fun b cur T hb hT =>
 (h.block b (Array.getElem?_eq_some_iff.1 hb).1 (fun e => by
  obtain ⟨cur2, T2, h1, h2⟩ := hr b e.symm
  rw [hb] at h1
  cases h1
  omega)).trans hb
theorem Still.drew {k : Nat} {w w' : World} (h : Still k w w') : Still k w w'.drew := h
def OwnI (w : World) (lo hi : Nat) (u : Option Addr) (l : List Int) : Prop := l.length ≤ 1048576 ∧ (l = [] ∨ ∃ g cur, u = some ⟨g, 0, none⟩ ∧ lo ≤ g ∧ g < hi ∧ w.heap[g]? = some (.cells cur 2 (0, 0)) ∧ ∀ i, i < l.length → cur[i]? = some (.int .i64 (l.getD i 0)))
theorem OwnI.still {w w' : World} {lo hi : Nat} {u : Option Addr} {l : List Int} {k : Nat} (h : OwnI w lo hi u l) (s : Still k w w') (hk : 0 < k) : OwnI w' lo hi u l := by
 refine ⟨h.1, ?_⟩
 rcases h.2 with h | ⟨g, cur, e, h1, h2, h3, h4⟩
 ·exact .inl h
 ·exact .inr ⟨g, cur, e, h1, h2, s g cur _ h3 (by rw [show lvT 2 = 0 by decide]; exact hk), h4⟩
theorem OwnI.wide {w : World} {lo hi lo' hi' : Nat} {u : Option Addr} {l : List Int} (h : OwnI w lo hi u l) (h1 : lo' ≤ lo) (h2 : hi ≤ hi') : OwnI w lo' hi' u l := by
 refine ⟨h.1, ?_⟩
 rcases h.2 with h | ⟨g, cur, e, k1, k2, k3⟩
 ·exact .inl h
 ·exact .inr ⟨g, cur, e, by omega, by omega, k3⟩
theorem OwnI.row {w : World} {base : Nat} {u : Option Addr} {c : Nat} {l : List Int} (hm : l.length ≤ 1048576) (h : Row w base (.slice u l.length c) l) : OwnI w base w.heap.size u l := by
 refine ⟨hm, ?_⟩
 rcases h.2 with ⟨_, hn⟩ | ⟨g, cap, cur, hv, hb, hg, hnc, _, hcs, htk⟩
 ·exact .inl (List.length_eq_zero_iff.1 hn)
 ·cases hv
  refine .inr ⟨g, cur, rfl, hb, (Array.getElem?_eq_some_iff.1 hg).1, hg, fun i hi => ?_⟩
  have h1 : (l.map (Value.int .i64))[i]? = some (.int .i64 (l.getD i 0)) := by simp [List.getD, hi]
  rw [← htk, List.getElem?_take, if_pos (by omega)] at h1
  simpa using h1
theorem OwnI.ints {w : World} {lo hi : Nat} {u : Option Addr} {l : List Int} (h : OwnI w lo hi u l) : IntsAt w lo u l := by
 refine ⟨by have := h.1; omega, ?_⟩
 rcases h.2 with h | ⟨g, cur, e, h1, h2, h3, h4⟩
 ·exact .inl h
 ·exact .inr ⟨g, 0, e, h1, (Array.getElem?_eq_some_iff.1 h3).1, fun i hi => by rw [Nat.zero_add, cell_of_heap h3]; exact h4 i hi⟩
def Sub {α : Type} (O : World → Nat → Nat → α → Prop) (w : World) : Nat → Nat → List α → Prop
 | lo, hi, [] => lo ≤ hi
 | lo, hi, e :: es => ∃ a m, lo ≤ a ∧ a ≤ m ∧ O w a m e ∧ Sub O w m hi es
theorem Sub.le {α : Type} {O : World → Nat → Nat → α → Prop} {w : World} : ∀ {es : List α} {lo hi : Nat}, Sub O w lo hi es → lo ≤ hi
 | [], _, _, h => h
 | _ :: _, _, _, ⟨a, m, h1, h2, _, h3⟩ => Nat.le_trans h1 (Nat.le_trans h2 h3.le)
theorem Sub.wide {α : Type} {O : World → Nat → Nat → α → Prop} {w : World} : ∀ {es : List α} {lo hi lo' hi' : Nat}, Sub O w lo hi es → lo' ≤ lo → hi ≤ hi' → Sub O w lo' hi' es
 | [], _, _, _, _, h, h1, h2 => Nat.le_trans h1 (Nat.le_trans h h2)
 | _ :: _, _, _, _, _, ⟨a, m, k1, k2, k3, k4⟩, h1, h2 => ⟨a, m, Nat.le_trans h1 k1, k2, k3, k4.wide (Nat.le_refl _) h2⟩
theorem Sub.snoc {α : Type} {O : World → Nat → Nat → α → Prop} {w : World} {e : α} : ∀ {es : List α} {lo m a hi : Nat}, Sub O w lo m es → m ≤ a → a ≤ hi → O w a hi e → Sub O w lo hi (es ++ [e])
 | [], lo, m, a, hi, h, h1, h2, h3 => ⟨a, hi, Nat.le_trans h h1, h2, h3, Nat.le_refl _⟩
 | x :: es, lo, m, a, hi, ⟨p, q, h1, h2, h3, h4⟩, k1, k2, k3 => ⟨p, q, h1, h2, h3, h4.snoc k1 k2 k3⟩
theorem Sub.still {α : Type} {O : World → Nat → Nat → α → Prop} {w w' : World} (hO : ∀ lo hi e, O w lo hi e → O w' lo hi e) : ∀ {es : List α} {lo hi : Nat}, Sub O w lo hi es → Sub O w' lo hi es
 | [], _, _, h => h
 | _ :: _, _, _, ⟨a, m, h1, h2, h3, h4⟩ => ⟨a, m, h1, h2, hO _ _ _ h3, h4.still hO⟩
def RowS {α : Type} (T : TypeId) (s : Nat) (C : α → List Value) (w : World) (base : Nat) (v : Value) (es : List α) : Prop := w.ownsRow base T s v es.length (es.flatMap C)
theorem RowS.nil {α : Type} (T : TypeId) (s : Nat) (C : α → List Value) (w : World) (base : Nat) : RowS T s C w base (.slice none 0 0) [] := World.ownsRow_nil _ _ _ _
theorem RowS.slice {α : Type} {T : TypeId} {s : Nat} {C : α → List Value} {w : World} {base : Nat} {v : Value} {es : List α} (h : RowS T s C w base v es) : ∃ u c, v = .slice u es.length c := by
 rcases h.2 with ⟨rfl, hn⟩ | ⟨g, cap, cur, rfl, _⟩
 ·exact ⟨none, 0, by rw [hn]⟩
 ·exact ⟨_, cap, rfl⟩
theorem RowS.ge {α : Type} {T : TypeId} {s : Nat} {C : α → List Value} {w : World} {base : Nat} {v : Value} {es : List α} (h : RowS T s C w base v es) {g : Nat} (hv : v.ownBlock = some g) : base ≤ g ∧ ∃ cur, w.heap[g]? = some (.cells cur T (0, 0)) := by
 rcases h.2 with ⟨e, _⟩ | ⟨g', cap, cur, e, hb, hg, _⟩
 ·rw [e] at hv; cases hv
 ·rw [e] at hv; cases hv; exact ⟨hb, cur, hg⟩
theorem RowS.still {α : Type} {T : TypeId} {s : Nat} {C : α → List Value} {w w' : World} {base : Nat} {v : Value} {es : List α} {k : Nat} (h : RowS T s C w base v es) (st : Still k w w') (hk : lvT T < k) : RowS T s C w' base v es := by
 refine ⟨h.1, ?_⟩
 rcases h.2 with h2 | ⟨g, cap, cur, hv, hb, hg, r⟩
 ·exact .inl h2
 ·exact .inr ⟨g, cap, cur, hv, hb, st g cur T hg hk, r⟩
theorem RowS.push {α : Type} {T : TypeId} {s : Nat} {C : α → List Value} {w : World} {base : Nat} {v : Value} {es : List α} {e : α} (h : w.ownsRow base T s v (es.length + 1) (es.flatMap C ++ C e)) : RowS T s C w base v (es ++ [e]) := by
 unfold RowS
 rw [List.length_append, List.flatMap_append]
 simpa using h
def OwnL {α : Type} (T : TypeId) (s : Nat) (C : α → List Value) (O : World → Nat → Nat → α → Prop) (w : World) (lo hi : Nat) (u : Option Addr) (es : List α) : Prop :=
 es.length ≤ 1048576 ∧ (es = [] ∨ ∃ g cur, u = some ⟨g, 0, none⟩ ∧ lo ≤ g ∧ g < hi ∧ w.heap[g]? = some (.cells cur T (0, 0)) ∧ ∀ i e, es[i]? = some e → ∀ j, j < s → cur[i * s + j]? = (C e)[j]?) ∧ Sub O w lo hi es
theorem OwnL.wide {α : Type} {T : TypeId} {s : Nat} {C : α → List Value} {O : World → Nat → Nat → α → Prop} {w : World} {lo hi lo' hi' : Nat} {u : Option Addr} {es : List α} (h : OwnL T s C O w lo hi u es) (h1 : lo' ≤ lo) (h2 : hi ≤ hi') : OwnL T s C O w lo' hi' u es := by
 refine ⟨h.1, ?_, h.2.2.wide h1 h2⟩
 rcases h.2.1 with h | ⟨g, cur, e, k1, k2, k3⟩
 ·exact .inl h
 ·exact .inr ⟨g, cur, e, by omega, by omega, k3⟩
theorem OwnL.still {α : Type} {T : TypeId} {s : Nat} {C : α → List Value} {O : World → Nat → Nat → α → Prop} {w w' : World} {lo hi : Nat} {u : Option Addr} {es : List α} {k : Nat} (h : OwnL T s C O w lo hi u es) (st : Still k w w') (hk : lvT T < k) (hO : ∀ lo hi e, O w lo hi e → O w' lo hi e) : OwnL T s C O w' lo hi u es := by
 refine ⟨h.1, ?_, h.2.2.still hO⟩
 rcases h.2.1 with h | ⟨g, cur, e, k1, k2, k3, k4⟩
 ·exact .inl h
 ·exact .inr ⟨g, cur, e, k1, k2, st g cur T k3 hk, k4⟩
theorem OwnL.none {α : Type} {T : TypeId} {s : Nat} {C : α → List Value} {O : World → Nat → Nat → α → Prop} {w : World} {lo hi : Nat} {u : Option Addr} (h : lo ≤ hi) : OwnL T s C O w lo hi u [] := ⟨by simp, .inl rfl, h⟩
theorem flat_at {α : Type} {C : α → List Value} {s : Nat} (hC : ∀ e, (C e).length = s) : ∀ (l : List α) (i j : Nat) (e : α), l[i]? = some e → j < s → (l.flatMap C)[i * s + j]? = (C e)[j]?
 | [], i, j, e, h, _ => by simp at h
 | x :: l, 0, j, e, h, hj => by
  cases h
  rw [List.flatMap_cons, Nat.zero_mul, Nat.zero_add, List.getElem?_append_left (by rw [hC]; exact hj)]
 | x :: l, i + 1, j, e, h, hj => by
  have ih := flat_at hC l i j e (by simpa using h) hj
  rw [List.flatMap_cons, List.getElem?_append_right (by rw [hC, Nat.succ_mul]; omega), hC]
  rw [show (i + 1) * s + j - s = i * s + j by rw [Nat.succ_mul]; omega]
  exact ih
theorem RowS.own {α : Type} {T : TypeId} {s : Nat} {C : α → List Value} {O : World → Nat → Nat → α → Prop} {w : World} {base lo hi : Nat} {u : Option Addr} {c : Nat} {es : List α} (hC : ∀ e, (C e).length = s) (hm : es.length ≤ 1048576) (h : RowS T s C w base (.slice u es.length c) es) (hs : Sub O w lo hi es) (h1 : lo ≤ base) (h2 : w.heap.size ≤ hi) : OwnL T s C O w lo hi u es := by
 refine ⟨hm, ?_, hs⟩
 rcases h.2 with ⟨_, hn⟩ | ⟨g, cap, cur, hv, hb, hg, hnc, _, hcs, htk⟩
 ·exact .inl (List.length_eq_zero_iff.1 hn)
 ·cases hv
  have hlt := (Array.getElem?_eq_some_iff.1 hg).1
  refine .inr ⟨g, cur, rfl, by omega, by omega, hg, fun i e he j hj => ?_⟩
  have hil := (List.getElem?_eq_some_iff.1 he).1
  rw [← flat_at hC es i j e he hj, ← htk, List.getElem?_take, if_pos (by
   have := Nat.mul_le_mul_right s (show i + 1 ≤ es.length from hil)
   rw [Nat.succ_mul] at this
   omega)]
  simp
abbrev PhE := PhiD × Option Addr × Nat
def phC (e : PhE) : List Value := [.int .i64 e.1.w, .slice e.2.1 e.1.ins.length e.2.2]
def OwnPhE (w : World) (lo hi : Nat) (e : PhE) : Prop := OwnI w lo hi e.2.1 e.1.ins
abbrev InE := InstD × Option Addr × Nat
def inC (e : InE) : List Value := [.int .i64 e.1.op, .int .i64 e.1.w, .int .i64 e.1.a, .int .i64 e.1.b, .int .i64 e.1.c, .int .i64 e.1.imm, .slice e.2.1 e.1.args.length e.2.2]
def OwnInE (w : World) (lo hi : Nat) (e : InE) : Prop := OwnI w lo hi e.2.1 e.1.args
structure BkE where
 ps : List PhE
 pu : Option Addr
 pc : Nat
 is : List InE
 iu : Option Addr
 ic : Nat
 t : TermD
def bkC (b : BkE) : List Value := [.slice b.pu b.ps.length b.pc, .slice b.iu b.is.length b.ic, .int .i64 b.t.kind, .int .i64 b.t.a, .int .i64 b.t.x, .int .i64 b.t.y]
abbrev OwnPhs := OwnL 88 2 phC OwnPhE
abbrev OwnIns := OwnL 91 7 inC OwnInE
def OwnBk (w : World) (lo hi : Nat) (b : BkE) : Prop := ∃ m, lo ≤ m ∧ m ≤ hi ∧ OwnPhs w lo m b.pu b.ps ∧ OwnIns w m hi b.iu b.is
structure FnE where
 pars : List Int
 pu : Option Addr
 pc : Nat
 ret : Int
 bs : List BkE
 bu : Option Addr
 bc : Nat
def fnC (f : FnE) : List Value := [.slice f.pu f.pars.length f.pc, .int .i64 f.ret, .slice f.bu f.bs.length f.bc]
abbrev OwnBks := OwnL 86 6 bkC OwnBk
def OwnFn (w : World) (lo hi : Nat) (f : FnE) : Prop := ∃ m, lo ≤ m ∧ m ≤ hi ∧ OwnI w lo m f.pu f.pars ∧ OwnBks w m hi f.bu f.bs
abbrev OwnFns := OwnL 49 3 fnC OwnFn
theorem OwnPhs.still {w w' : World} {lo hi : Nat} {u : Option Addr} {es : List PhE} {k : Nat} (h : OwnPhs w lo hi u es) (st : Still k w w') (hk : 1 < k) : OwnPhs w' lo hi u es := OwnL.still h st (by rw [show lvT 88 = 1 by decide]; exact hk) fun _ _ _ h => OwnI.still h st (by omega)
theorem OwnIns.still {w w' : World} {lo hi : Nat} {u : Option Addr} {es : List InE} {k : Nat} (h : OwnIns w lo hi u es) (st : Still k w w') (hk : 2 < k) : OwnIns w' lo hi u es := OwnL.still h st (by rw [show lvT 91 = 2 by decide]; exact hk) fun _ _ _ h => OwnI.still h st (by omega)
theorem OwnBk.still {w w' : World} {lo hi : Nat} {b : BkE} {k : Nat} (h : OwnBk w lo hi b) (st : Still k w w') (hk : 2 < k) : OwnBk w' lo hi b := by
 obtain ⟨m, h1, h2, h3, h4⟩ := h
 exact ⟨m, h1, h2, OwnPhs.still h3 st (by omega), OwnIns.still h4 st hk⟩
theorem OwnBks.still {w w' : World} {lo hi : Nat} {u : Option Addr} {es : List BkE} {k : Nat} (h : OwnBks w lo hi u es) (st : Still k w w') (hk : 3 < k) : OwnBks w' lo hi u es := OwnL.still h st (by rw [show lvT 86 = 3 by decide]; exact hk) fun _ _ _ h => OwnBk.still h st (by omega)
theorem OwnFn.still {w w' : World} {lo hi : Nat} {f : FnE} {k : Nat} (h : OwnFn w lo hi f) (st : Still k w w') (hk : 3 < k) : OwnFn w' lo hi f := by
 obtain ⟨m, h1, h2, h3, h4⟩ := h
 exact ⟨m, h1, h2, OwnI.still h3 st (by omega), OwnBks.still h4 st hk⟩
theorem OwnFns.still {w w' : World} {lo hi : Nat} {u : Option Addr} {es : List FnE} {k : Nat} (h : OwnFns w lo hi u es) (st : Still k w w') (hk : 4 < k) : OwnFns w' lo hi u es := OwnL.still h st (by rw [show lvT 49 = 4 by decide]; exact hk) fun _ _ _ h => OwnFn.still h st (by omega)
def BkE.d (b : BkE) : BlockD := ⟨b.ps.map (·.1), b.is.map (·.1), b.t⟩
def FnE.d (f : FnE) : FuncD := ⟨f.pars, f.ret, f.bs.map BkE.d⟩
end Go.Proofs.YtojhakjkfkmklaaGreatDoor
namespace Go.Proofs.YtojhakjkfkmklaaGreatDoor
open Go.RowKit
set_option linter.unusedVariables false
set_option linter.unusedSimpArgs false
def Took {α : Type} (p : Rdr α) (a : Addr) (B R : Nat) (L : List Int) (w : World) (A : α → Ending → World → Prop) (e : Ending) (w' : World) : Prop :=
 OnlyR R w w' ∧ ((∃ x L', p L = some (x, L') ∧ A x e w' ∧ RwIn B w' R L') ∨ (p L = none ∧ Gone a e))
def pNext : Rdr Int
 | [] => none
 | x :: r => some (x, r)
theorem nextT (a : Addr) (B R : Nat) (L : List Int) (w : World) (h : RwIn B w R L) (hl : L.length ≤ 20000) (hv : Gv w 0 (errV a)) :
  Calls Tryz.prog 52 #[.pointer (some ⟨R, 0, none⟩)] w fun e w' => Took pNext a B R L w (fun x e _ => e = .returned (.int .i64 x)) e w' := by
 cases L with
 | nil =>
  refine (nextN2 a B R w h hv).mono ?_
  rintro e w' ⟨rfl, rfl⟩
  exact ⟨OnlyR.refl _ _, .inr ⟨rfl, rfl⟩⟩
 | cons x r =>
  refine (nextY2 B R x r w h (by simp at hl; omega)).mono ?_
  rintro e w' ⟨rfl, h1, h2⟩
  exact ⟨h2, .inl ⟨x, r, rfl, rfl, h1⟩⟩
theorem listT (a : Addr) (B R : Nat) (L : List Int) (w : World) (h : RwIn B w R L) (hp : Pos L) (hl : L.length ≤ 20000) (hv : Gv w 0 (errV a)) (hR : 0 ≠ R) :
  Calls Tryz.prog 89 #[.pointer (some ⟨R, 0, none⟩)] w fun e w' => Took pList a B R L w (fun l e w' => ∃ u c, e = .returned (.slice u l.length c) ∧ OwnI w' w.heap.size w'.heap.size u l) e w' := by
 cases L with
 | nil =>
  refine (listN0 a B R w h hv).mono ?_
  rintro e w' ⟨rfl, h1⟩
  exact ⟨h1, .inr ⟨rfl, rfl⟩⟩
 | cons k r =>
  by_cases hk : k ≤ (r.length : Int)
  ·refine (listY B R k r w h (hp k (List.mem_cons_self ..)) hk (by simp at hl; omega)).mono ?_
   rintro e w' ⟨v, rfl, h1, h2, h3⟩
   obtain ⟨u, c, rfl⟩ := h1.slice
   exact ⟨h3, .inl ⟨_, _, by rw [pList, if_pos hk], ⟨u, c, rfl, OwnI.row (by rw [List.length_take]; simp at hl; omega) h1⟩, h2⟩⟩
  ·refine (listN1 a B R k r w h (by omega) (by simp at hl; omega) hv hR).mono ?_
   rintro e w' ⟨rfl, h1⟩
   exact ⟨h1, .inr ⟨by rw [pList, if_neg hk], rfl⟩⟩
theorem hasM (op : Int) (w : World) : Calls Tryz.prog 116 #[.int .i64 op] w fun e w' => e = .returned (.bool (immM op)) ∧ w' = w := by
 by_cases h1 : op = 21
 ·subst h1
  go_enter Tryz.func116, Tryz.ntmps116
  go_wp2_with fail
  go_ret
  exact ⟨rfl, rfl⟩
 ·have n1 : (op == 21) = false := by simpa using h1
  have E : Hid (immM op = (op == 26)) := by show _ = _; simp [immM, n1]
  go_enter Tryz.func116, Tryz.ntmps116
  go_wp2_with fail
  go_ret
  exact ⟨by rw [E.out]; rfl, rfl⟩
theorem immT (a : Addr) (B R : Nat) (op : Int) (L : List Int) (w : World) (h : RwIn B w R L) (hl : L.length ≤ 20000) (hv : Gv w 0 (errV a)) :
  Calls Tryz.prog 141 #[.int .i64 op, .pointer (some ⟨R, 0, none⟩)] w fun e w' => Took (pImm op) a B R L w (fun x e _ => e = .returned (.int .i64 x)) e w' := by
 have N := nextT a B R L w h hl hv
 have HH : Hid (RwIn B w R L) := h
 have M := hasM op w
 clear h hv hl
 by_cases hi : immM op = true
 ·have HI : Hid (pImm op L = pNext L) := by
   show _ = _
   unfold pImm
   rw [if_pos hi]
   cases L <;> rfl
  rw [hi] at M
  clear hi
  go_enter Tryz.func141, Tryz.ntmps141
  go_wp2_with fail
  refine M.mono ?_
  rintro e w1 ⟨rfl, h9⟩
  have h8 := h9.symm
  clear h9
  subst h8
  go_wp2_with fail
  refine N.mono ?_
  rintro e w2 ⟨ho, ⟨x, L', hn, rfl, hr⟩ | ⟨hn, rfl⟩⟩
  ·have HN : Hid (pImm op L = some (x, L')) := HI.out.trans hn
   clear hn HI
   go_wp2_with fail
   go_ret
   exact ⟨ho, .inl ⟨x, L', HN.out, rfl, hr⟩⟩
  ·have HN : Hid (pImm op L = none) := HI.out.trans hn
   clear hn HI
   go_wp2_with fail
   exact ⟨rfl, ho, .inr ⟨HN.out, rfl⟩⟩
 ·have hi2 : immM op = false := by simpa using hi
  have HI : Hid (pImm op L = some (0, L)) := by
   show _ = _
   unfold pImm
   rw [if_neg hi]
  rw [hi2] at M
  clear hi hi2 N
  go_enter Tryz.func141, Tryz.ntmps141
  go_wp2_with fail
  refine M.mono ?_
  rintro e w1 ⟨rfl, h9⟩
  have h8 := h9.symm
  clear h9
  subst h8
  go_wp2_with fail
  go_ret
  exact ⟨OnlyR.refl _ _, .inl ⟨0, L, HI.out, rfl, HH.out⟩⟩
theorem instT (a : Addr) (op w0 imm : Int) (lo hi : Nat) (u : Option Addr) (q : Nat) (l : List Int) (w : World) (hv : Gv w 0 (errV a)) (hu : OwnI w lo hi u l) :
  Calls Tryz.prog 142 #[.int .i64 op, .int .i64 w0, .int .i64 imm, .slice u l.length q] w fun e w' => Below w.heap.size w w' ∧ ((opsD (mkD op w0 imm l) = l ∧ ∃ v c, e = .returned (.agg #[.int .i64 (mkD op w0 imm l).op, .int .i64 (mkD op w0 imm l).w, .int .i64 (mkD op w0 imm l).a, .int .i64 (mkD op w0 imm l).b, .int .i64 (mkD op w0 imm l).c, .int .i64 (mkD op w0 imm l).imm, .slice v (mkD op w0 imm l).args.length c]) ∧ OwnI w' lo hi v (mkD op w0 imm l).args) ∨ (¬ opsD (mkD op w0 imm l) = l ∧ Gone a e)) := by
 by_cases h : op = 26
 ·subst h
  have hm : mkD 26 w0 imm l = ⟨26, w0, 0, 0, 0, imm, l⟩ := rfl
  rw [hm]
  refine (instOf26 w0 imm u q l w).mono ?_
  rintro e w' ⟨rfl, b⟩
  exact ⟨b, .inl ⟨rfl, u, q, rfl, hu.still (Still.below (k := 1) b) (by decide)⟩⟩
 ·have hm : mkD op w0 imm l = ⟨op, w0, l.getD 0 0, l.getD 1 0, l.getD 2 0, imm, []⟩ := by unfold mkD; rw [if_neg h]
  refine (instOfG op w0 imm lo u q l w a h hu.1 hu.ints hv).mono ?_
  rintro e w' ⟨⟨h1, rfl⟩ | ⟨h1, rfl⟩, b⟩
  ·refine ⟨b, .inl ⟨h1, none, 0, ?_, ?_⟩⟩
   ·rw [hm]; rfl
   ·rw [hm]; exact ⟨by simp, .inl rfl⟩
  ·exact ⟨b, .inr ⟨h1, rfl⟩⟩
end Go.Proofs.YtojhakjkfkmklaaGreatDoor
