import Derived.Test.YtkpmiikafconmaaGreatDoorReMV
namespace Go.Proofs.YtkpmiikafconmaaGreatDoor
open Go.RowKit
set_option linter.unusedVariables false
set_option linter.unusedSimpArgs false
def setsA (cur : Array Value) : Nat → List Value → Array Value
 | _, [] => cur
 | o, v :: r => setsA (cur.setIfInBounds o v) (o + 1) r
theorem setsA_size : ∀ (vs : List Value) (o : Nat) (cur : Array Value), (setsA cur o vs).size = cur.size
 | [], _, _ => rfl
 | v :: r, o, cur => by rw [setsA, setsA_size r]; simp
theorem setsA_get : ∀ (vs : List Value) (o : Nat) (cur : Array Value), o + vs.length ≤ cur.size → ∀ i, (setsA cur o vs)[i]? = if o ≤ i ∧ i < o + vs.length then vs[i - o]? else cur[i]?
 | [], o, cur, _, i => by rw [if_neg (by simp)]; rfl
 | v :: r, o, cur, h, i => by
  simp only [List.length_cons] at h
  rw [setsA, setsA_get r (o + 1) _ (by simp; omega) i]
  by_cases h1 : i = o
  ·subst h1
   rw [if_neg (by omega), if_pos (by simp), Nat.sub_self]
   simp [show i < cur.size by omega]
  ·by_cases h2 : o ≤ i ∧ i < o + (r.length + 1)
   ·rw [if_pos (by omega), if_pos (by simp only [List.length_cons]; exact h2)]
    obtain ⟨j, rfl⟩ : ∃ j, i = o + 1 + j := ⟨i - (o + 1), by omega⟩
    rw [show o + 1 + j - (o + 1) = j by omega, show o + 1 + j - o = j + 1 by omega]
    simp
   ·rw [if_neg (by omega), if_neg (by simp only [List.length_cons]; exact h2), Array.getElem?_setIfInBounds_ne (by omega)]
theorem heap_setCells {g : Nat} {T : TypeId} : ∀ (vs : List Value) (o : Nat) (w : World) (cur : Array Value), w.heap[g]? = some (.cells cur T (0, 0)) → (w.setCells g o vs).heap[g]? = some (.cells (setsA cur o vs) T (0, 0))
 | [], _, _, _, h => h
 | v :: r, o, w, cur, h => heap_setCells r (o + 1) _ _ (heap_set h)
structure Stay (S : List Nat) (w w' : World) : Prop where
 size : w.heap.size ≤ w'.heap.size
 block : ∀ b, b < w.heap.size → ¬ b ∈ S → w'.heap[b]? = w.heap[b]?
theorem Stay.refl (S : List Nat) (w : World) : Stay S w w := ⟨Nat.le_refl _, fun _ _ _ => rfl⟩
theorem Stay.trans {S : List Nat} {x y z : World} (h : Stay S x y) (k : Stay S y z) : Stay S x z := ⟨Nat.le_trans h.size k.size, fun b hb hn => (k.block b (Nat.lt_of_lt_of_le hb h.size) hn).trans (h.block b hb hn)⟩
theorem Stay.below {S : List Nat} {w w' w2 : World} (h : Stay S w w') (k : Below w'.heap.size w' w2) : Stay S w w2 := ⟨Nat.le_trans h.size k.size, fun b hb hn => (k.block b (Nat.lt_of_lt_of_le hb h.size)).trans (h.block b hb hn)⟩
theorem Stay.set {S : List Nat} {w w' : World} {g o : Nat} {v : Value} (h : Stay S w w') (hg : g ∈ S ∨ w.heap.size ≤ g) : Stay S w (w'.setCell ⟨g, o, none⟩ v) := ⟨by simpa using h.size, fun b hb hn => (Below.heap_setCell _ _ _ _ (by
 show b ≠ g
 rintro rfl
 rcases hg with hg | hg
 ·exact hn hg
 ·omega)).trans (h.block b hb hn)⟩
theorem Stay.sets {S : List Nat} {w : World} {g : Nat} : ∀ (vs : List Value) (o : Nat) {w' : World}, Stay S w w' → (g ∈ S ∨ w.heap.size ≤ g) → Stay S w (w'.setCells g o vs)
 | [], _, _, h, _ => h
 | _ :: r, o, _, h, hg => Stay.sets r (o + 1) (h.set hg) hg
theorem Stay.grown {S : List Nat} {w w' w2 : World} {r : Option Nat} (h : Stay S w w') (k : w'.grownBy w2 r) (hr : ∀ g, r = some g → g ∈ S ∨ w.heap.size ≤ g) : Stay S w w2 := ⟨Nat.le_trans h.size k.size, fun b hb hn => (k.block b (Nat.lt_of_lt_of_le hb h.size) (fun e => by
 rcases hr b e.symm with h1 | h1
 ·exact hn h1
 ·omega)).trans (h.block b hb hn)⟩
theorem Stay.more {S S2 : List Nat} {w w' : World} (h : Stay S w w') (hs : ∀ b, b ∈ S → b ∈ S2) : Stay S2 w w' := ⟨h.size, fun b hb hn => h.block b hb fun hm => hn (hs b hm)⟩
theorem RowS.stay {α : Type} {T : TypeId} {s : Nat} {C : α → List Value} {w w' : World} {base : Nat} {v : Value} {es : List α} {S : List Nat} (h : RowS T s C w base v es) (k : Stay S w w') (hn : ∀ g, v.ownBlock = some g → ¬ g ∈ S) : RowS T s C w' base v es := by
 refine ⟨h.1, ?_⟩
 rcases h.2 with h2 | ⟨g, cap, cur, hv, hb, hg, r⟩
 ·exact .inl h2
 ·exact .inr ⟨g, cap, cur, hv, hb, (k.block g (Array.getElem?_eq_some_iff.1 hg).1 (hn g (by rw [hv]; rfl))).trans hg, r⟩
def Lv (k : Nat) (w : World) (b : Nat) : Prop := ∀ cur T, w.heap[b]? = some (.cells cur T (0, 0)) → k ≤ lvT T
theorem Lv.of {k : Nat} {w : World} {b : Nat} {cur : Array Value} {T : TypeId} {fz : Nat × Nat} (h : w.heap[b]? = some (.cells cur T fz)) (hk : k ≤ lvT T) : Lv k w b := fun c2 T2 h2 => by
 rw [h] at h2
 cases h2
 exact hk
theorem Lv.low {k j : Nat} {w : World} {b : Nat} (h : Lv k w b) (hj : j ≤ k) : Lv j w b := fun cur T e => Nat.le_trans hj (h cur T e)
theorem IntO.stay {w w' : World} {lo hi : Nat} {u : Option Addr} {l : List Int} {S : List Nat} (h : IntO w lo hi u l) (k : Stay S w w') (hS : ∀ b, b ∈ S → hi ≤ b ∨ Lv 1 w b) : IntO w' lo hi u l := by
 refine ⟨h.1, ?_⟩
 rcases h.2 with h | ⟨g, o, cur, e, k1, k2, k3, k4⟩
 ·exact .inl h
 ·refine .inr ⟨g, o, cur, e, k1, k2, (k.block g (Array.getElem?_eq_some_iff.1 k3).1 (fun hm => ?_)).trans k3, k4⟩
  rcases hS g hm with h1 | h1
  ·omega
  ·exact absurd (h1 _ _ k3) (by decide)
def SL {α : Type} (T : TypeId) (s : Nat) (C : α → List Value) (O : World → Nat → Nat → α → Prop) (w : World) (lo hi : Nat) (u : Option Addr) (es : List α) : Prop :=
 es.length ≤ 1048576 ∧ (es = [] ∨ ∃ g cur, u = some ⟨g, 0, none⟩ ∧ lo ≤ g ∧ g < hi ∧ w.heap[g]? = some (.cells cur T (0, 0)) ∧ ∀ i e, es[i]? = some e → ∀ j, j < s → cur[i * s + j]? = (C e)[j]?) ∧ ∀ e, e ∈ es → O w lo hi e
theorem SL.wide {α : Type} {T : TypeId} {s : Nat} {C : α → List Value} {O : World → Nat → Nat → α → Prop} {w : World} {lo hi lo' hi' : Nat} {u : Option Addr} {es : List α} (h : SL T s C O w lo hi u es) (h1 : lo' ≤ lo) (h2 : hi ≤ hi') (hO : ∀ e, O w lo hi e → O w lo' hi' e) : SL T s C O w lo' hi' u es := by
 refine ⟨h.1, ?_, fun e he => hO e (h.2.2 e he)⟩
 rcases h.2.1 with h | ⟨g, cur, e, k1, k2, k3⟩
 ·exact .inl h
 ·exact .inr ⟨g, cur, e, by omega, by omega, k3⟩
theorem SL.stay {α : Type} {T : TypeId} {s : Nat} {C : α → List Value} {O : World → Nat → Nat → α → Prop} {w w' : World} {lo hi : Nat} {u : Option Addr} {es : List α} {S : List Nat} (h : SL T s C O w lo hi u es) (k : Stay S w w') (hT : lvT T < 4) (hS : ∀ b, b ∈ S → hi ≤ b ∨ Lv 4 w b) (hO : ∀ e, O w lo hi e → O w' lo hi e) : SL T s C O w' lo hi u es := by
 refine ⟨h.1, ?_, fun e he => hO e (h.2.2 e he)⟩
 rcases h.2.1 with h | ⟨g, cur, e, k1, k2, k3, k4⟩
 ·exact .inl h
 ·refine .inr ⟨g, cur, e, k1, k2, (k.block g (Array.getElem?_eq_some_iff.1 k3).1 (fun hm => ?_)).trans k3, k4⟩
  rcases hS g hm with h1 | h1
  ·omega
  ·have := h1 _ _ k3
   omega
theorem RowS.sl {α : Type} {T : TypeId} {s : Nat} {C : α → List Value} {O : World → Nat → Nat → α → Prop} {w : World} {base lo hi : Nat} {u : Option Addr} {c : Nat} {es : List α} (hC : ∀ e, (C e).length = s) (hm : es.length ≤ 1048576) (h : RowS T s C w base (.slice u es.length c) es) (hs : ∀ e, e ∈ es → O w lo hi e) (h1 : lo ≤ base) (h2 : w.heap.size ≤ hi) : SL T s C O w lo hi u es := by
 refine ⟨hm, ?_, hs⟩
 rcases h.2 with ⟨_, hn⟩ | ⟨g, cap, cur, hv, hb, hg, hnc, _, hcs, htk⟩
 ·exact .inl (List.length_eq_zero_iff.1 hn)
 ·cases hv
  have hlt := (Array.getElem?_eq_some_iff.1 hg).1
  refine .inr ⟨g, cur, rfl, by omega, by omega, hg, fun i e he j hj => ?_⟩
  have hil := (List.getElem?_eq_some_iff.1 he).1
  rw [← flat_at hC es i j e he hj, ← htk, List.getElem?_take, if_pos (by
   have := Nat.mul_le_mul_right s (show i + 1 ≤ es.length from hil)
   rw [Nat.succ_mul] at this
   omega)]
  simp
theorem RowS.last {α : Type} {T : TypeId} {s : Nat} {C : α → List Value} {w w' : World} {base : Nat} {g cap : Nat} {es : List α} {e e2 : α} (hC : ∀ e, (C e).length = s) (h : RowS T s C w base (.slice (some ⟨g, 0, none⟩) (es.length + 1) cap) (es ++ [e])) (hw : ∀ cur, w.heap[g]? = some (.cells cur T (0, 0)) → w'.heap[g]? = some (.cells (setsA cur (es.length * s) (C e2)) T (0, 0))) : RowS T s C w' base (.slice (some ⟨g, 0, none⟩) (es.length + 1) cap) (es ++ [e2]) := by
 have hl : ∀ l : List α, (l.flatMap C).length = l.length * s := fun l => by
  induction l with
  | nil => simp
  | cons x l ih => rw [List.flatMap_cons, List.length_append, ih, hC, List.length_cons, Nat.succ_mul]; omega
 refine ⟨by rw [hl], .inr ?_⟩
 rcases h.2 with ⟨hv, _⟩ | ⟨g', cap', cur, hv, hb, hg, hnc, hcm, hcs, htk⟩
 ·cases hv
 ·simp only [Value.slice.injEq, Option.some.injEq, Addr.mk.injEq] at hv
  obtain ⟨⟨rfl, _, _⟩, _, rfl⟩ := hv
  rw [List.length_append, List.length_singleton] at hnc htk
  have hmul : (es.length + 1) * s ≤ cap * s := Nat.mul_le_mul_right s hnc
  rw [Nat.succ_mul] at hmul htk
  refine ⟨g, cap, _, by rw [List.length_append, List.length_singleton], hb, hw cur hg, by rw [List.length_append, List.length_singleton]; exact hnc, hcm, by rw [setsA_size]; exact hcs, ?_⟩
  rw [List.length_append, List.length_singleton, Nat.succ_mul]
  have hsz : es.length * s + (C e2).length ≤ cur.size := by rw [hC]; omega
  have hL := hl es
  apply List.ext_getElem?
  intro i
  rw [List.getElem?_take, List.flatMap_append]
  have hold : cur.toList.take (es.length * s) = es.flatMap C := by
   have h0 := congrArg (List.take (es.length * s)) htk
   rw [List.take_take, Nat.min_eq_left (by omega), List.flatMap_append] at h0
   rw [h0, ← hL]
   simp
  by_cases h1 : i < es.length * s
  ·rw [if_pos (by omega), Array.getElem?_toList, setsA_get _ _ _ hsz, if_neg (by omega), List.getElem?_append_left (by omega), ← hold, List.getElem?_take, if_pos h1, Array.getElem?_toList]
  ·rw [List.getElem?_append_right (by omega), hL, List.flatMap_cons, List.flatMap_nil, List.append_nil]
   by_cases h2 : i < es.length * s + s
   ·rw [if_pos h2, Array.getElem?_toList, setsA_get _ _ _ hsz, if_pos (by rw [hC]; omega)]
   ·rw [if_neg h2, List.getElem?_eq_none (by rw [hC]; omega)]
def SPh (w : World) (lo hi : Nat) (e : PhE) : Prop := IntO w lo hi e.2.1 e.1.ins
def SIn (w : World) (lo hi : Nat) (e : InE) : Prop := IntO w lo hi e.2.1 e.1.args
def SBk (w : World) (lo hi : Nat) (b : BkE) : Prop := SL 92 2 phC SPh w lo hi b.pu b.ps ∧ SL 95 7 inC SIn w lo hi b.iu b.is
def SFn (w : World) (lo hi : Nat) (f : FnE) : Prop := IntO w lo hi f.pu f.pars ∧ SL 74 6 bkC SBk w lo hi f.bu f.bs
theorem SBk.wide {w : World} {lo hi lo' hi' : Nat} {b : BkE} (h : SBk w lo hi b) (h1 : lo' ≤ lo) (h2 : hi ≤ hi') : SBk w lo' hi' b := ⟨h.1.wide h1 h2 fun _ k => IntO.wide k h1 h2, h.2.wide h1 h2 fun _ k => IntO.wide k h1 h2⟩
theorem SFn.wide {w : World} {lo hi lo' hi' : Nat} {f : FnE} (h : SFn w lo hi f) (h1 : lo' ≤ lo) (h2 : hi ≤ hi') : SFn w lo' hi' f := ⟨h.1.wide h1 h2, h.2.wide h1 h2 fun _ k => k.wide h1 h2⟩
theorem lv_one {w : World} {hi : Nat} {S : List Nat} (h : ∀ b, b ∈ S → hi ≤ b ∨ Lv 4 w b) : ∀ b, b ∈ S → hi ≤ b ∨ Lv 1 w b := fun b hb => (h b hb).imp id fun k => k.low (by decide)
theorem SBk.stay {w w' : World} {lo hi : Nat} {b : BkE} {S : List Nat} (h : SBk w lo hi b) (k : Stay S w w') (hS : ∀ b, b ∈ S → hi ≤ b ∨ Lv 4 w b) : SBk w' lo hi b := ⟨h.1.stay k (by decide) hS fun _ e => IntO.stay e k (lv_one hS), h.2.stay k (by decide) hS fun _ e => IntO.stay e k (lv_one hS)⟩
theorem SFn.stay {w w' : World} {lo hi : Nat} {f : FnE} {S : List Nat} (h : SFn w lo hi f) (k : Stay S w w') (hS : ∀ b, b ∈ S → hi ≤ b ∨ Lv 4 w b) : SFn w' lo hi f := ⟨h.1.stay k (lv_one hS), h.2.stay k (by decide) hS fun _ e => e.stay k hS⟩
theorem SPhs.at_ {w : World} {lo hi : Nat} {u : Option Addr} {es : List PhE} (h : SL 92 2 phC SPh w lo hi u es) : PhisAt w lo u (es.map (·.1)) := by
 refine ⟨by rw [List.length_map]; have := h.1; omega, ?_⟩
 rcases h.2.1 with e | ⟨g, cur, rfl, h1, _, hg, hc⟩
 ·exact .inl (by rw [e]; rfl)
 ·refine .inr ⟨g, 0, rfl, h1, (Array.getElem?_eq_some_iff.1 hg).1, fun i hi => ?_⟩
  rw [List.length_map] at hi
  obtain ⟨e, he⟩ : ∃ e, es[i]? = some e := ⟨es[i], List.getElem?_eq_getElem hi⟩
  have hc' := hc i e he
  have ho := h.2.2 e (List.mem_of_getElem? he)
  rw [map_get (·.1) phi0 he]
  refine ⟨by rw [cell_of_heap hg, Nat.zero_add]; exact hc' 0 (by decide), e.2.1, e.2.2, by rw [cell_of_heap hg, Nat.zero_add]; exact hc' 1 (by decide), IntO.ints ho⟩
theorem SIns.at_ {w : World} {lo hi : Nat} {u : Option Addr} {es : List InE} (h : SL 95 7 inC SIn w lo hi u es) : InstsAt w lo u (es.map (·.1)) := by
 refine ⟨by rw [List.length_map]; have := h.1; omega, ?_⟩
 rcases h.2.1 with e | ⟨g, cur, rfl, h1, _, hg, hc⟩
 ·exact .inl (by rw [e]; rfl)
 ·refine .inr ⟨g, 0, rfl, h1, (Array.getElem?_eq_some_iff.1 hg).1, fun i hi => ?_⟩
  rw [List.length_map] at hi
  obtain ⟨e, he⟩ : ∃ e, es[i]? = some e := ⟨es[i], List.getElem?_eq_getElem hi⟩
  have hc' := hc i e he
  have ho := h.2.2 e (List.mem_of_getElem? he)
  rw [map_get (·.1) inst0 he]
  have key : ∀ j, j < 7 → w.cell? ⟨g, 0 + i * 7 + j, none⟩ = (inC e)[j]? := fun j hj => by rw [cell_of_heap hg, Nat.zero_add]; exact hc' j hj
  exact ⟨key 0 (by decide), key 1 (by decide), key 2 (by decide), key 3 (by decide), key 4 (by decide), key 5 (by decide), e.2.1, e.2.2, key 6 (by decide), IntO.ints ho⟩
theorem SBks.at_ {w : World} {lo hi : Nat} {u : Option Addr} {es : List BkE} (h : SL 74 6 bkC SBk w lo hi u es) : BlocksAt w lo u (es.map BkE.d) := by
 refine ⟨by rw [List.length_map]; have := h.1; omega, ?_⟩
 rcases h.2.1 with e | ⟨g, cur, rfl, h1, _, hg, hc⟩
 ·exact .inl (by rw [e]; rfl)
 ·refine .inr ⟨g, 0, rfl, h1, (Array.getElem?_eq_some_iff.1 hg).1, fun i hi => ?_⟩
  rw [List.length_map] at hi
  obtain ⟨e, he⟩ : ∃ e, es[i]? = some e := ⟨es[i], List.getElem?_eq_getElem hi⟩
  have hc' := hc i e he
  obtain ⟨g3, g4⟩ := h.2.2 e (List.mem_of_getElem? he)
  rw [map_get BkE.d block0 he]
  have key : ∀ j, j < 6 → w.cell? ⟨g, 0 + i * 6 + j, none⟩ = (bkC e)[j]? := fun j hj => by rw [cell_of_heap hg, Nat.zero_add]; exact hc' j hj
  have l1 : (e.ps.map (·.1)).length = e.ps.length := List.length_map ..
  have l2 : (e.is.map (·.1)).length = e.is.length := List.length_map ..
  refine ⟨⟨e.pu, e.pc, ?_, SPhs.at_ g3⟩, ⟨e.iu, e.ic, ?_, SIns.at_ g4⟩, key 2 (by decide), key 3 (by decide), key 4 (by decide), key 5 (by decide)⟩
  ·show _ = some (Value.slice e.pu (e.ps.map (·.1)).length e.pc)
   rw [l1]; exact key 0 (by decide)
  ·show _ = some (Value.slice e.iu (e.is.map (·.1)).length e.ic)
   rw [l2]; exact key 1 (by decide)
theorem SFns.at_ {w : World} {lo hi : Nat} {u : Option Addr} {es : List FnE} (h : SL 55 3 fnC SFn w lo hi u es) : FuncsAt w lo u (es.map FnE.d) := by
 refine ⟨by rw [List.length_map]; have := h.1; omega, ?_⟩
 rcases h.2.1 with e | ⟨g, cur, rfl, h1, _, hg, hc⟩
 ·exact .inl (by rw [e]; rfl)
 ·refine .inr ⟨g, 0, rfl, h1, (Array.getElem?_eq_some_iff.1 hg).1, fun i hi => ?_⟩
  rw [List.length_map] at hi
  obtain ⟨e, he⟩ : ∃ e, es[i]? = some e := ⟨es[i], List.getElem?_eq_getElem hi⟩
  have hc' := hc i e he
  obtain ⟨g3, g4⟩ := h.2.2 e (List.mem_of_getElem? he)
  rw [map_get FnE.d func0 he]
  have key : ∀ j, j < 3 → w.cell? ⟨g, 0 + i * 3 + j, none⟩ = (fnC e)[j]? := fun j hj => by rw [cell_of_heap hg, Nat.zero_add]; exact hc' j hj
  have l1 : (e.bs.map BkE.d).length = e.bs.length := List.length_map ..
  refine ⟨⟨e.pu, e.pc, key 0 (by decide), IntO.ints g3⟩, key 1 (by decide), e.bu, e.bc, ?_, SBks.at_ g4⟩
  show _ = some (Value.slice e.bu (e.bs.map BkE.d).length e.bc)
  rw [l1]; exact key 2 (by decide)
theorem SFns.sm {w : World} {lo hi : Nat} {u : Option Addr} {es : List FnE} (h : SL 55 3 fnC SFn w lo hi u es) : SmMod (es.map FnE.d) := by
 refine ⟨by rw [List.length_map]; exact h.1, fun d hd => ?_⟩
 obtain ⟨f, hf, rfl⟩ := List.mem_map.1 hd
 obtain ⟨g3, g4⟩ := h.2.2 f hf
 refine ⟨g3.1, by show (f.bs.map BkE.d).length ≤ _; rw [List.length_map]; exact g4.1, fun b hb => ?_⟩
 obtain ⟨x, hx, rfl⟩ := List.mem_map.1 hb
 obtain ⟨k3, k4⟩ := g4.2.2 x hx
 refine ⟨⟨by show (x.ps.map (·.1)).length ≤ _; rw [List.length_map]; exact k3.1, fun p hp => ?_⟩, by show (x.is.map (·.1)).length ≤ _; rw [List.length_map]; exact k4.1, fun p hp => ?_⟩
 ·obtain ⟨y, hy, rfl⟩ := List.mem_map.1 hp
  exact (k3.2.2 y hy).1
 ·obtain ⟨y, hy, rfl⟩ := List.mem_map.1 hp
  exact (k4.2.2 y hy).1
structure ClS (w : World) (R n : Nat) (fs : List FnE) (v : Value) : Prop where
 box : At w R #[v, .bool false] 62
 row : RowS 55 3 fnC w (R + 1) v fs
 fsv : ∀ f, f ∈ fs → SFn w (R + 1) w.heap.size f
 len : fs.length ≤ n
 bl : ∀ f, f ∈ fs → f.bs.length ≤ n
structure OpS (w : World) (R T n : Nat) (fs : List FnE) (f : FnE) (bs : List BkE) (x : BkE) (v : Value) : Prop where
 box : At w R #[v, .bool true] 62
 row : RowS 55 3 fnC w (R + 1) v (fs ++ [f])
 fsv : ∀ f, f ∈ fs → SFn w (R + 1) T f
 par : IntO w (R + 1) T f.pu f.pars
 blk : RowS 74 6 bkC w T (.slice f.bu f.bs.length f.bc) f.bs
 fbs : f.bs = bs ++ [x]
 bsv : ∀ b, b ∈ bs → SBk w (R + 1) T b
 phr : RowS 92 2 phC w T (.slice x.pu x.ps.length x.pc) x.ps
 isr : RowS 95 7 inC w T (.slice x.iu x.is.length x.ic) x.is
 phE : ∀ p, p ∈ x.ps → SPh w (R + 1) w.heap.size p
 isE : ∀ p, p ∈ x.is → SIn w (R + 1) w.heap.size p
 tk : x.t = ⟨0, 0, 0, 0⟩
 hR : R < T
 hT : T ≤ w.heap.size
 len : fs.length + 1 ≤ n
 bl : ∀ f, f ∈ fs → f.bs.length ≤ n
 lb : f.bs.length ≤ n
 lp : x.ps.length ≤ n
 li : x.is.length ≤ n
def stC (fs : List FnE) : PSt := .cl (fs.map FnE.d)
def stO (fs : List FnE) (f : FnE) (bs : List BkE) (x : BkE) : PSt := .op (fs.map FnE.d) f.pars f.ret (bs.map BkE.d) (x.ps.map (·.1)) (x.is.map (·.1))
def StH (w : World) (R n : Nat) (p : PSt) : Prop := (∃ fs v, ClS w R n fs v ∧ p = stC fs) ∨ ∃ T fs f bs x v, OpS w R T n fs f bs x v ∧ p = stO fs f bs x
theorem ClS.at_ {w : World} {R n : Nat} {fs : List FnE} {v : Value} (h : ClS w R n fs v) (hn : n ≤ 1048576) : ∃ u c, v = .slice u fs.length c ∧ FuncsAt w (R + 1) u (fs.map FnE.d) ∧ SmMod (fs.map FnE.d) := by
 obtain ⟨u, c, rfl⟩ := h.row.slice
 have k := RowS.sl (C := fnC) (s := 3) (O := SFn) (fun _ => rfl) (by have := h.len; omega) h.row h.fsv (Nat.le_refl _) (Nat.le_refl _)
 exact ⟨u, c, rfl, SFns.at_ k, SFns.sm k⟩
end Go.Proofs.YtkpmiikafconmaaGreatDoor
