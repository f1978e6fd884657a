import Derived.Test.YtenbodghkpbghaaDoorSbESv
import Derived.Test.YtenbodghkpbghaaDoorOwASv
namespace Go.Proofs.YtenbodghkpbghaaDoor
open Go.RowKit
set_option linter.unusedVariables false
set_option linter.unusedSimpArgs false
def BlsR (K : List Addr) (w : World) (u : Option Addr) (bs : List BlkH) : Prop := bs.length ≤ 1048576 ∧ (bs = [] ∨ ∃ g o, u = some ⟨g, o, none⟩ ∧ OwnR w g o 6 [2, 3, 4, 5] bs.length ∧ BlkR K w g o bs)
theorem BlsR.mk {K : List Addr} {w : World} {u : Option Addr} {bs : List BlkH} (h : BlsR K w u bs) {A : List Addr} (hA : ∀ a ∈ A, a ∈ K) (k : Int) : BlsR K (mkw w A k) u bs := by
 refine ⟨h.1, ?_⟩
 rcases h.2 with h | ⟨g, o, e, h1, h2⟩
 ·exact .inl h
 ·exact .inr ⟨g, o, e, h1.mk A k, h2.mk hA k⟩
abbrev FunH := (Option Addr × Nat) × (Option Addr × List BlkH)
def fun0H : FunH := ((none, 0), (none, []))
def FunsR (K : List Addr) (w : World) (g o : Nat) (fs : List FunH) : Prop := ∀ i, i < fs.length → (∃ c, w.cell? ⟨g, o + i * 3, none⟩ = some (.slice (fs.getD i fun0H).1.1 (fs.getD i fun0H).1.2 c)) ∧ (⟨g, o + i * 3, none⟩ : Addr) ∉ K ∧ (∃ c, w.cell? ⟨g, o + i * 3 + 2, none⟩ = some (.slice (fs.getD i fun0H).2.1 (fs.getD i fun0H).2.2.length c)) ∧ (⟨g, o + i * 3 + 2, none⟩ : Addr) ∉ K ∧ IntR w (fs.getD i fun0H).1.1 (fs.getD i fun0H).1.2 ∧ BlsR K w (fs.getD i fun0H).2.1 (fs.getD i fun0H).2.2
theorem FunsR.mk {K : List Addr} {w : World} {g o : Nat} {fs : List FunH} (h : FunsR K w g o fs) {A : List Addr} (hA : ∀ a ∈ A, a ∈ K) (k : Int) : FunsR K (mkw w A k) g o fs := fun i hi => by
 obtain ⟨⟨c, h1⟩, h2, ⟨d, h3⟩, h4, h5, h6⟩ := h i hi
 exact ⟨⟨c, by rw [mkw_out _ _ _ _ (fun e => h2 (hA _ e))]; exact h1⟩, h2, ⟨d, by rw [mkw_out _ _ _ _ (fun e => h4 (hA _ e))]; exact h3⟩, h4, h5.mk A k, h6.mk hA k⟩
end Go.Proofs.YtenbodghkpbghaaDoor
namespace Go.Proofs.YtenbodghkpbghaaDoor
open Go.RowKit
set_option linter.unusedVariables false
set_option linter.unusedSimpArgs false
def Hlds (v : World) (A : List Addr) (k : Int) : Prop := ∀ (i : Nat) (a : Addr), A[i]? = some a → v.cell? a = some (.int .i64 (k + (i : Int)))
theorem Hlds.left {v : World} {A B : List Addr} {k : Int} (h : Hlds v (A ++ B) k) : Hlds v A k := fun i a ha => h i a (by
 have hi := (List.getElem?_eq_some_iff.1 ha).1
 rw [List.getElem?_append_left hi]; exact ha)
theorem Hlds.right {v : World} {A B : List Addr} {k : Int} (h : Hlds v (A ++ B) k) : Hlds v B (k + (A.length : Int)) := fun i a ha => by
 have h1 := h (A.length + i) a (by rw [List.getElem?_append_right (by omega), Nat.add_sub_cancel_left]; exact ha)
 rw [h1]
 refine congrArg (fun x => some (Value.int .i64 x)) ?_
 omega
end Go.Proofs.YtenbodghkpbghaaDoor
namespace Go.Proofs.YtenbodghkpbghaaDoor
open Go.RowKit
set_option linter.unusedVariables false
set_option linter.unusedSimpArgs false
end Go.Proofs.YtenbodghkpbghaaDoor
namespace Go.Proofs.YtenbodghkpbghaaDoor
open Go.RowKit
set_option linter.unusedVariables false
set_option linter.unusedSimpArgs false
end Go.Proofs.YtenbodghkpbghaaDoor
namespace Go.Proofs.YtenbodghkpbghaaDoor
open Go.RowKit
set_option linter.unusedVariables false
set_option linter.unusedSimpArgs false
end Go.Proofs.YtenbodghkpbghaaDoor
namespace Go.Proofs.YtenbodghkpbghaaDoor
open Go.RowKit
set_option linter.unusedVariables false
set_option linter.unusedSimpArgs false
def FusR (K : List Addr) (w : World) (u : Option Addr) (fs : List FunH) : Prop := fs.length ≤ 1048576 ∧ (fs = [] ∨ ∃ g o, u = some ⟨g, o, none⟩ ∧ OwnR w g o 3 [1] fs.length ∧ FunsR K w g o fs)
theorem FusR.mk {K : List Addr} {w : World} {u : Option Addr} {fs : List FunH} (h : FusR K w u fs) {A : List Addr} (hA : ∀ a ∈ A, a ∈ K) (k : Int) : FusR K (mkw w A k) u fs := by
 refine ⟨h.1, ?_⟩
 rcases h.2 with h | ⟨g, o, e, h1, h2⟩
 ·exact .inl h
 ·exact .inr ⟨g, o, e, h1.mk A k, h2.mk hA k⟩
end Go.Proofs.YtenbodghkpbghaaDoor
namespace Go.Proofs.YtenbodghkpbghaaDoor
open Go.RowKit
set_option linter.unusedVariables false
set_option linter.unusedSimpArgs false
def PhE.h (e : PhE) : Option Addr × Nat := (e.2.1, e.1.ins.length)
def InE.h (e : InE) : Option Addr × Nat := (e.2.1, e.1.args.length)
def BkE.h (b : BkE) : BlkH := ((b.pu, b.ps.map PhE.h), (b.iu, b.is.map InE.h))
def FnE.h (f : FnE) : FunH := ((f.pu, f.pars.length), (f.bu, f.bs.map BkE.h))
def InA (w : World) (lo hi k : Nat) (A : List Addr) : Prop := ∀ a ∈ A, lo ≤ a.block ∧ a.block < hi ∧ (∃ (cur : Array Value) (T : TypeId), w.heap[a.block]? = some (.cells cur T (0, 0)) ∧ lvT T < k) ∧ ∃ z : Int, w.cell? a = some (.int .i64 z)
theorem InA.wide {w : World} {lo hi k lo' hi' k' : Nat} {A : List Addr} (h : InA w lo hi k A) (h1 : lo' ≤ lo) (h2 : hi ≤ hi') (h3 : k ≤ k') : InA w lo' hi' k' A := fun a ha => by
 obtain ⟨k1, k2, ⟨cur, T, k3, k4⟩, k5⟩ := h a ha
 exact ⟨by omega, by omega, ⟨cur, T, k3, by omega⟩, k5⟩
theorem InA.nil {w : World} {lo hi k : Nat} : InA w lo hi k [] := fun a ha => by cases ha
theorem InA.append {w : World} {lo hi k : Nat} {A B : List Addr} (h : InA w lo hi k A) (h2 : InA w lo hi k B) : InA w lo hi k (A ++ B) := fun a ha => by
 rcases List.mem_append.1 ha with h' | h'
 ·exact h a h'
 ·exact h2 a h'
theorem InA.apart {w : World} {lo m m' hi k k' : Nat} {A B : List Addr} (h : InA w lo m k A) (h2 : InA w m' hi k' B) (hm : m ≤ m') (hA : A.Nodup) (hB : B.Nodup) : (A ++ B).Nodup :=
 apart_of_blocks (fun a ha b hb e => by have := (h a ha).2.1; have := (h2 b hb).1; omega) hA hB
end Go.Proofs.YtenbodghkpbghaaDoor
namespace Go.Proofs.YtenbodghkpbghaaDoor
open Go.RowKit
set_option linter.unusedVariables false
set_option linter.unusedSimpArgs false
theorem Sub.each {α : Type} {O : World → Nat → Nat → α → Prop} {w : World} : ∀ {es : List α} {lo hi : Nat}, Sub O w lo hi es → ∀ e ∈ es, ∃ a m, lo ≤ a ∧ O w a m e
 | [], _, _, _, e, he => by cases he
 | x :: es, lo, hi, ⟨a, m, h1, h2, h3, h4⟩, e, he => by
  rcases List.mem_cons.1 he with rfl | he
  ·exact ⟨a, m, h1, h3⟩
  ·obtain ⟨a', m', k1, k2⟩ := h4.each e he
   exact ⟨a', m', by omega, k2⟩
def KI (w : World) (K : List Addr) : Prop := ∀ a ∈ K, ∃ z : Int, w.cell? a = some (.int .i64 z)
theorem KI.slice {w : World} {K : List Addr} (h : KI w K) {a : Addr} {u : Option Addr} {n c : Nat} (ha : w.cell? a = some (.slice u n c)) : a ∉ K := fun hk => by
 obtain ⟨z, hz⟩ := h a hk
 rw [ha] at hz
 cases hz
theorem map_get {α β : Type} (f : α → β) (z : β) {l : List α} {i : Nat} {e : α} (h : l[i]? = some e) : (l.map f).getD i z = f e := by simp [List.getD, h]
theorem OwnPhs.at_ {w : World} {lo hi : Nat} {u : Option Addr} {es : List PhE} (h : OwnPhs w lo hi u es) : PhisAt w lo u (es.map (·.1)) := by
 refine ⟨by rw [List.length_map]; have := h.1; omega, ?_⟩
 rcases h.2.1 with e | ⟨g, cur, rfl, h1, _, hg, hc⟩
 ·exact .inl (by rw [e]; rfl)
 ·refine .inr ⟨g, 0, rfl, h1, (Array.getElem?_eq_some_iff.1 hg).1, fun i hi => ?_⟩
  rw [List.length_map] at hi
  obtain ⟨e, he⟩ : ∃ e, es[i]? = some e := ⟨es[i], List.getElem?_eq_getElem hi⟩
  have hc' := hc i e he
  obtain ⟨a, m, k1, ho⟩ := h.2.2.each e (List.mem_of_getElem? he)
  rw [map_get (·.1) phi0 he]
  refine ⟨by rw [cell_of_heap hg, Nat.zero_add]; exact hc' 0 (by decide), e.2.1, e.2.2, by rw [cell_of_heap hg, Nat.zero_add]; exact hc' 1 (by decide), (OwnI.ints ho).low k1⟩
theorem OwnIns.at_ {w : World} {lo hi : Nat} {u : Option Addr} {es : List InE} (h : OwnIns w lo hi u es) : InstsAt w lo u (es.map (·.1)) := by
 refine ⟨by rw [List.length_map]; have := h.1; omega, ?_⟩
 rcases h.2.1 with e | ⟨g, cur, rfl, h1, _, hg, hc⟩
 ·exact .inl (by rw [e]; rfl)
 ·refine .inr ⟨g, 0, rfl, h1, (Array.getElem?_eq_some_iff.1 hg).1, fun i hi => ?_⟩
  rw [List.length_map] at hi
  obtain ⟨e, he⟩ : ∃ e, es[i]? = some e := ⟨es[i], List.getElem?_eq_getElem hi⟩
  have hc' := hc i e he
  obtain ⟨a, m, k1, ho⟩ := h.2.2.each e (List.mem_of_getElem? he)
  rw [map_get (·.1) inst0 he]
  have key : ∀ j, j < 7 → w.cell? ⟨g, 0 + i * 7 + j, none⟩ = (inC e)[j]? := fun j hj => by rw [cell_of_heap hg, Nat.zero_add]; exact hc' j hj
  exact ⟨key 0 (by decide), key 1 (by decide), key 2 (by decide), key 3 (by decide), key 4 (by decide), key 5 (by decide), e.2.1, e.2.2, key 6 (by decide), (OwnI.ints ho).low k1⟩
theorem OwnBks.at_ {w : World} {lo hi : Nat} {u : Option Addr} {es : List BkE} (h : OwnBks w lo hi u es) : BlocksAt w lo u (es.map BkE.d) := by
 refine ⟨by rw [List.length_map]; have := h.1; omega, ?_⟩
 rcases h.2.1 with e | ⟨g, cur, rfl, h1, _, hg, hc⟩
 ·exact .inl (by rw [e]; rfl)
 ·refine .inr ⟨g, 0, rfl, h1, (Array.getElem?_eq_some_iff.1 hg).1, fun i hi => ?_⟩
  rw [List.length_map] at hi
  obtain ⟨e, he⟩ : ∃ e, es[i]? = some e := ⟨es[i], List.getElem?_eq_getElem hi⟩
  have hc' := hc i e he
  obtain ⟨a, m, k1, m', g1, g2, g3, g4⟩ := h.2.2.each e (List.mem_of_getElem? he)
  rw [map_get BkE.d block0 he]
  have key : ∀ j, j < 6 → w.cell? ⟨g, 0 + i * 6 + j, none⟩ = (bkC e)[j]? := fun j hj => by rw [cell_of_heap hg, Nat.zero_add]; exact hc' j hj
  have l1 : (e.ps.map (·.1)).length = e.ps.length := List.length_map ..
  have l2 : (e.is.map (·.1)).length = e.is.length := List.length_map ..
  refine ⟨⟨e.pu, e.pc, ?_, (OwnPhs.at_ g3).low k1⟩, ⟨e.iu, e.ic, ?_, (OwnIns.at_ g4).low (by omega)⟩, key 2 (by decide), key 3 (by decide), key 4 (by decide), key 5 (by decide)⟩
  ·show _ = some (Value.slice e.pu (e.ps.map (·.1)).length e.pc)
   rw [l1]; exact key 0 (by decide)
  ·show _ = some (Value.slice e.iu (e.is.map (·.1)).length e.ic)
   rw [l2]; exact key 1 (by decide)
theorem OwnFns.at_ {w : World} {lo hi : Nat} {u : Option Addr} {es : List FnE} (h : OwnFns w lo hi u es) : FuncsAt w lo u (es.map FnE.d) := by
 refine ⟨by rw [List.length_map]; have := h.1; omega, ?_⟩
 rcases h.2.1 with e | ⟨g, cur, rfl, h1, _, hg, hc⟩
 ·exact .inl (by rw [e]; rfl)
 ·refine .inr ⟨g, 0, rfl, h1, (Array.getElem?_eq_some_iff.1 hg).1, fun i hi => ?_⟩
  rw [List.length_map] at hi
  obtain ⟨e, he⟩ : ∃ e, es[i]? = some e := ⟨es[i], List.getElem?_eq_getElem hi⟩
  have hc' := hc i e he
  obtain ⟨a, m, k1, m', g1, g2, g3, g4⟩ := h.2.2.each e (List.mem_of_getElem? he)
  rw [map_get FnE.d func0 he]
  have key : ∀ j, j < 3 → w.cell? ⟨g, 0 + i * 3 + j, none⟩ = (fnC e)[j]? := fun j hj => by rw [cell_of_heap hg, Nat.zero_add]; exact hc' j hj
  have l1 : (e.bs.map BkE.d).length = e.bs.length := List.length_map ..
  refine ⟨⟨e.pu, e.pc, key 0 (by decide), (OwnI.ints g3).low k1⟩, key 1 (by decide), e.bu, e.bc, ?_, (OwnBks.at_ g4).low (by omega)⟩
  show _ = some (Value.slice e.bu (e.bs.map BkE.d).length e.bc)
  rw [l1]; exact key 2 (by decide)
end Go.Proofs.YtenbodghkpbghaaDoor
namespace Go.Proofs.YtenbodghkpbghaaDoor
open Go.RowKit
set_option linter.unusedVariables false
set_option linter.unusedSimpArgs false
def setsA (cur : Array Value) : Nat → List Value → Array Value
 | _, [] => cur
 | o, v :: r => setsA (cur.setIfInBounds o v) (o + 1) r
theorem setsA_get : ∀ (vs : List Value) (o : Nat) (cur : Array Value), o + vs.length ≤ cur.size → ∀ i, (setsA cur o vs)[i]? = if o ≤ i ∧ i < o + vs.length then vs[i - o]? else cur[i]?
 | [], o, cur, _, i => by rw [if_neg (by simp)]; rfl
 | v :: r, o, cur, h, i => by
  simp only [List.length_cons] at h
  rw [setsA, setsA_get r (o + 1) _ (by simp; omega) i]
  by_cases h1 : i = o
  ·subst h1
   rw [if_neg (by omega), if_pos (by simp), Nat.sub_self]
   simp [show i < cur.size by omega]
  ·by_cases h2 : o ≤ i ∧ i < o + (r.length + 1)
   ·rw [if_pos (by omega), if_pos (by simp only [List.length_cons]; exact h2)]
    obtain ⟨j, rfl⟩ : ∃ j, i = o + 1 + j := ⟨i - (o + 1), by omega⟩
    rw [show o + 1 + j - (o + 1) = j by omega, show o + 1 + j - o = j + 1 by omega]
    simp
   ·rw [if_neg (by omega), if_neg (by simp only [List.length_cons]; exact h2), Array.getElem?_setIfInBounds_ne (by omega)]
theorem heap_setCells {g : Nat} {T : TypeId} : ∀ (vs : List Value) (o : Nat) (w : World) (cur : Array Value), w.heap[g]? = some (.cells cur T (0, 0)) → (w.setCells g o vs).heap[g]? = some (.cells (setsA cur o vs) T (0, 0))
 | [], _, _, _, h => h
 | v :: r, o, w, cur, h => heap_setCells r (o + 1) _ _ (heap_set h)
structure One (q : Nat) (w w' : World) : Prop where
 size : w.heap.size ≤ w'.heap.size
 block : ∀ b, b < w.heap.size → b ≠ q → w'.heap[b]? = w.heap[b]?
theorem One.set (q o : Nat) (v : Value) (w : World) : One q w (w.setCell ⟨q, o, none⟩ v) := ⟨by simp, fun b _ hn => Below.heap_setCell _ _ _ _ (by show b ≠ q; exact hn)⟩
theorem One.below {q : Nat} {w w' w2 : World} (h : One q w w') (k : Below w'.heap.size w' w2) : One q w w2 := ⟨Nat.le_trans h.size k.size, fun b hb hn => (k.block b (Nat.lt_of_lt_of_le hb h.size)).trans (h.block b hb hn)⟩
theorem One.trans {q : Nat} {w w' w2 : World} (h : One q w w') (k : One q w' w2) : One q w w2 := ⟨Nat.le_trans h.size k.size, fun b hb hn => (k.block b (Nat.lt_of_lt_of_le hb h.size) hn).trans (h.block b hb hn)⟩
theorem One.of_below {q : Nat} {w w2 : World} (k : Below w.heap.size w w2) : One q w w2 := ⟨k.size, fun b hb _ => k.block b hb⟩
theorem One.sets {q : Nat} {w : World} : ∀ (vs : List Value) (o : Nat) {w' : World}, One q w w' → One q w (w'.setCells q o vs)
 | [], _, _, h => h
 | v :: r, o, w', h => One.sets r (o + 1) (h.trans (One.set q o v w'))
theorem OwnI.away {w w' : World} {q lo hi : Nat} {u : Option Addr} {l : List Int} (h : OwnI w lo hi u l) (k : One q w w') (hq : q < lo ∨ hi ≤ q) : OwnI w' lo hi u l := by
 refine ⟨h.1, ?_⟩
 rcases h.2 with h | ⟨g, cur, e, h1, h2, h3, h4⟩
 ·exact .inl h
 ·exact .inr ⟨g, cur, e, h1, h2, (k.block g (Array.getElem?_eq_some_iff.1 h3).1 (by omega)).trans h3, h4⟩
theorem OwnI.other {w w' : World} {q lo hi : Nat} {u : Option Addr} {l : List Int} (h : OwnI w lo hi u l) (k : One q w w') (hq : ∀ cur, w.heap[q]? ≠ some (.cells cur 2 (0, 0))) : OwnI w' lo hi u l := by
 refine ⟨h.1, ?_⟩
 rcases h.2 with h | ⟨g, cur, e, h1, h2, h3, h4⟩
 ·exact .inl h
 ·exact .inr ⟨g, cur, e, h1, h2, (k.block g (Array.getElem?_eq_some_iff.1 h3).1 (fun e => by subst e; exact hq _ h3)).trans h3, h4⟩
theorem OwnI.of_at {w : World} {lo : Nat} {u : Option Addr} {l : List Int} (h : OwnAt w lo u l) (hm : l.length ≤ 1048576) : OwnI w lo w.heap.size u l := by
 refine ⟨hm, ?_⟩
 rcases h.2 with h | ⟨g, cur, e, h1, h3, h4⟩
 ·exact .inl h
 ·exact .inr ⟨g, cur, e, h1, (Array.getElem?_eq_some_iff.1 h3).1, h3, h4⟩
section
variable {α : Type} {T : TypeId} {s : Nat} {C : α → List Value} {O : World → Nat → Nat → α → Prop} {w w' : World}
theorem Sub.mapB : ∀ {es : List α} {lo hi : Nat}, Sub O w lo hi es → (∀ a m e, lo ≤ a → m ≤ hi → O w a m e → O w' a m e) → Sub O w' lo hi es
 | [], _, _, h, _ => h
 | _ :: _, _, _, ⟨a, m, h1, h2, h3, h4⟩, hO => ⟨a, m, h1, h2, hO _ _ _ h1 h4.le h3, h4.mapB fun a' m' e' k1 k2 => hO a' m' e' (by omega) k2⟩
theorem Sub.focus {q : Nat} {e e' : α} (hq : ∀ a m, O w a m e → a ≤ q ∧ q < m) : ∀ {es : List α} {lo hi i : Nat}, Sub O w lo hi es → es[i]? = some e → (∀ a m, lo ≤ a → m ≤ hi → O w a m e → O w' a m e') → (∀ a m x, lo ≤ a → m ≤ hi → (q < a ∨ m ≤ q) → O w a m x → O w' a m x) → Sub O w' lo hi (es.set i e')
 | [], _, _, _, _, h, _, _ => by simp at h
 | x :: es, lo, hi, 0, ⟨a, m, h1, h2, h3, h4⟩, h, he, hO => by
  have hx : x = e := by simpa using h
  subst hx
  have := (hq a m h3).2
  exact ⟨a, m, h1, h2, he a m h1 h4.le h3, h4.mapB fun a' m' y k1 k2 => hO a' m' y (by omega) k2 (.inl (by omega))⟩
 | x :: es, lo, hi, i + 1, ⟨a, m, h1, h2, h3, h4⟩, h, he, hO => by
  have h' : es[i]? = some e := by simpa using h
  obtain ⟨a', m', k1, ho⟩ := h4.each e (List.mem_of_getElem? h')
  have := (hq a' m' ho).1
  exact ⟨a, m, h1, h2, hO a m x h1 h4.le (.inr (by omega)) h3, h4.focus hq h' (fun a2 m2 j1 j2 => he a2 m2 (by omega) j2) fun a2 m2 y j1 j2 => hO a2 m2 y (by omega) j2⟩
theorem Sub.setE {e e' : α} : ∀ {es : List α} {lo hi i : Nat}, Sub O w lo hi es → es[i]? = some e → (∀ a m, O w a m e → O w' a m e') → (∀ a m x, lo ≤ a → m ≤ hi → O w a m x → O w' a m x) → Sub O w' lo hi (es.set i e')
 | [], _, _, _, _, h, _, _ => by simp at h
 | x :: es, lo, hi, 0, ⟨a, m, h1, h2, h3, h4⟩, h, he, hO => by
  have hx : x = e := by simpa using h
  subst hx
  exact ⟨a, m, h1, h2, he a m h3, h4.mapB fun a' m' y k1 k2 => hO a' m' y (by omega) k2⟩
 | x :: es, lo, hi, i + 1, ⟨a, m, h1, h2, h3, h4⟩, h, he, hO => by
  have h' : es[i]? = some e := by simpa using h
  exact ⟨a, m, h1, h2, hO a m x h1 h4.le h3, h4.setE h' he fun a2 m2 y j1 j2 => hO a2 m2 y (by omega) j2⟩
theorem set_get {l : List α} {i k : Nat} {x y : α} (h : (l.set i x)[k]? = some y) : (k = i ∧ y = x) ∨ (k ≠ i ∧ l[k]? = some y) := by
 by_cases e : k = i
 ·subst e
  have hl : k < l.length := by
   have := (List.getElem?_eq_some_iff.1 h).1
   simpa using this
  rw [List.getElem?_set_self hl] at h
  exact .inl ⟨rfl, (Option.some.inj h).symm⟩
 ·rw [List.getElem?_set_ne (Ne.symm e)] at h
  exact .inr ⟨e, h⟩
theorem OwnL.focus {q lo hi i : Nat} {u : Option Addr} {es : List α} {e e' : α} (h : OwnL T s C O w lo hi u es) (he : es[i]? = some e) (hC : C e' = C e) (k : One q w w') (hT : ∀ cur, w.heap[q]? ≠ some (.cells cur T (0, 0)))
  (hq : ∀ a m, O w a m e → a ≤ q ∧ q < m) (he' : ∀ a m, lo ≤ a → m ≤ hi → O w a m e → O w' a m e') (hO : ∀ a m x, lo ≤ a → m ≤ hi → (q < a ∨ m ≤ q) → O w a m x → O w' a m x) : OwnL T s C O w' lo hi u (es.set i e') := by
 refine ⟨by rw [List.length_set]; exact h.1, ?_, h.2.2.focus hq he he' hO⟩
 rcases h.2.1 with h0 | ⟨g, cur, e0, h1, h2, h3, h4⟩
 ·rw [h0] at he; simp at he
 ·refine .inr ⟨g, cur, e0, h1, h2, (k.block g (Array.getElem?_eq_some_iff.1 h3).1 (fun e => by subst e; exact hT _ h3)).trans h3, fun n x hx j hj => ?_⟩
  rcases set_get hx with ⟨rfl, rfl⟩ | ⟨_, hx⟩
  ·rw [hC]; exact h4 _ _ he j hj
  ·exact h4 n x hx j hj
theorem OwnL.away {q lo hi : Nat} {u : Option Addr} {es : List α} (h : OwnL T s C O w lo hi u es) (k : One q w w') (hq : q < lo ∨ hi ≤ q) (hO : ∀ a m x, lo ≤ a → m ≤ hi → O w a m x → O w' a m x) : OwnL T s C O w' lo hi u es := by
 refine ⟨h.1, ?_, h.2.2.mapB hO⟩
 rcases h.2.1 with h0 | ⟨g, cur, e0, h1, h2, h3, h4⟩
 ·exact .inl h0
 ·exact .inr ⟨g, cur, e0, h1, h2, (k.block g (Array.getElem?_eq_some_iff.1 h3).1 (by omega)).trans h3, h4⟩
theorem OwnL.other {q lo hi : Nat} {u : Option Addr} {es : List α} (h : OwnL T s C O w lo hi u es) (k : One q w w') (hT : ∀ cur, w.heap[q]? ≠ some (.cells cur T (0, 0))) (hO : ∀ a m x, lo ≤ a → m ≤ hi → O w a m x → O w' a m x) : OwnL T s C O w' lo hi u es := by
 refine ⟨h.1, ?_, h.2.2.mapB hO⟩
 rcases h.2.1 with h0 | ⟨g, cur, e0, h1, h2, h3, h4⟩
 ·exact .inl h0
 ·exact .inr ⟨g, cur, e0, h1, h2, (k.block g (Array.getElem?_eq_some_iff.1 h3).1 (fun e => by subst e; exact hT _ h3)).trans h3, h4⟩
theorem ownL_row {lo hi i : Nat} {u : Option Addr} {es : List α} {e : α} (h : OwnL T s C O w lo hi u es) (he : es[i]? = some e) : ∃ g cur, u = some ⟨g, 0, none⟩ ∧ lo ≤ g ∧ g < hi ∧ w.heap[g]? = some (.cells cur T (0, 0)) ∧ ∀ j, j < s → cur[i * s + j]? = (C e)[j]? := by
 rcases h.2.1 with h0 | ⟨g, cur, e0, h1, h2, h3, h4⟩
 ·rw [h0] at he; simp at he
 ·exact ⟨g, cur, e0, h1, h2, h3, h4 i e he⟩
theorem ownL_put {g lo hi i : Nat} {u : Option Addr} {cur : Array Value} {es : List α} {e e' : α} (hC : ∀ e, (C e).length = s) (hs : 0 < s) (h : OwnL T s C O w lo hi u es) (he : es[i]? = some e) (hu : u = some ⟨g, 0, none⟩) (hg : w.heap[g]? = some (.cells cur T (0, 0))) (hw : w'.heap[g]? = some (.cells (setsA cur (i * s) (C e')) T (0, 0)))
  (hO : ∀ a m x, lo ≤ a → m ≤ hi → O w a m x → O w' a m x) (he' : ∀ a m, O w a m e → O w' a m e') : OwnL T s C O w' lo hi u (es.set i e') := by
 refine ⟨by rw [List.length_set]; exact h.1, ?_, h.2.2.setE he he' hO⟩
 rcases h.2.1 with h0 | ⟨g2, cur2, e0, h1, h2, h3, h4⟩
 ·rw [h0] at he; simp at he
 ·have hgg : g2 = g := by rw [hu] at e0; simp at e0; exact e0.symm
  subst hgg
  rw [hg] at h3
  cases h3
  have hsz : i * s + (C e').length ≤ cur.size := by
   have h5 := h4 i e he (s - 1) (by omega)
   have h6 : ∃ v, (C e)[s - 1]? = some v := ⟨_, List.getElem?_eq_getElem (by rw [hC]; omega)⟩
   obtain ⟨v, h6⟩ := h6
   rw [h6] at h5
   have := (Array.getElem?_eq_some_iff.1 h5).1
   rw [hC]; omega
  refine .inr ⟨g2, _, e0, h1, h2, hw, fun n x hx j hj => ?_⟩
  rw [setsA_get _ _ _ hsz, hC]
  rcases set_get hx with ⟨rfl, rfl⟩ | ⟨hn, hx⟩
  ·rw [if_pos (by omega), show n * s + j - n * s = j by omega]
  ·rw [if_neg (fun hc => ?_)]
   ·exact h4 n x hx j hj
   ·rcases Nat.lt_or_gt_of_ne hn with hl | hl
    ·have := Nat.mul_le_mul_right s (show n + 1 ≤ i from hl)
     rw [Nat.succ_mul] at this
     omega
    ·have := Nat.mul_le_mul_right s (show i + 1 ≤ n from hl)
     rw [Nat.succ_mul] at this
     omega
end
def OwnInZ (z : Nat) (w : World) (lo hi : Nat) (e : InE) : Prop := OwnI w lo hi e.2.1 e.1.args ∨ ∃ h, OwnI w z h e.2.1 e.1.args
abbrev OwnInsZ (z : Nat) := OwnL 44 7 inC (OwnInZ z)
def OwnBkZ (z : Nat) (w : World) (lo hi : Nat) (b : BkE) : Prop := ∃ m, lo ≤ m ∧ m ≤ hi ∧ OwnPhs w lo m b.pu b.ps ∧ OwnInsZ z w m hi b.iu b.is
abbrev OwnBksZ (z : Nat) := OwnL 41 6 bkC (OwnBkZ z)
theorem OwnL.imp {α : Type} {T : TypeId} {s : Nat} {C : α → List Value} {O O2 : World → Nat → Nat → α → Prop} {w : World} {lo hi : Nat} {u : Option Addr} {es : List α} (h : OwnL T s C O w lo hi u es) (hO : ∀ a m x, O w a m x → O2 w a m x) : OwnL T s C O2 w lo hi u es := by
 have go : ∀ (es : List α) (lo hi : Nat), Sub O w lo hi es → Sub O2 w lo hi es := fun es => by
  induction es with
  | nil => intro lo hi h; exact h
  | cons e es ih =>
   intro lo hi h
   obtain ⟨a, m, h1, h2, h3, h4⟩ := h
   exact ⟨a, m, h1, h2, hO _ _ _ h3, ih _ _ h4⟩
 exact ⟨h.1, h.2.1, go _ _ _ h.2.2⟩
theorem OwnBks.zone {w : World} {lo hi z : Nat} {u : Option Addr} {es : List BkE} (h : OwnBks w lo hi u es) : OwnBksZ z w lo hi u es :=
 OwnL.imp h fun a m x hx => by
  obtain ⟨m', h1, h2, h3, h4⟩ := hx
  exact ⟨m', h1, h2, h3, OwnL.imp h4 fun _ _ _ h => .inl h⟩
theorem OwnInZ.away {z q : Nat} {w w' : World} {lo hi : Nat} {e : InE} (h : OwnInZ z w lo hi e) (k : One q w w') (hz : q < z) (hq : q < lo ∨ hi ≤ q) : OwnInZ z w' lo hi e := by
 rcases h with h | ⟨m, h⟩
 ·exact .inl (h.away k hq)
 ·exact .inr ⟨m, h.away k (.inl hz)⟩
theorem OwnInZ.other {z q : Nat} {w w' : World} {lo hi : Nat} {e : InE} (h : OwnInZ z w lo hi e) (k : One q w w') (hq : ∀ cur, w.heap[q]? ≠ some (.cells cur 2 (0, 0))) : OwnInZ z w' lo hi e := by
 rcases h with h | ⟨m, h⟩
 ·exact .inl (h.other k hq)
 ·exact .inr ⟨m, h.other k hq⟩
theorem OwnBkZ.away {z q : Nat} {w w' : World} {lo hi : Nat} {b : BkE} (h : OwnBkZ z w lo hi b) (k : One q w w') (hz : q < z) (hq : q < lo ∨ hi ≤ q) : OwnBkZ z w' lo hi b := by
 obtain ⟨m, h1, h2, h3, h4⟩ := h
 exact ⟨m, h1, h2, OwnL.away h3 k (by omega) fun a m' x k1 k2 hx => OwnI.away hx k (by omega), OwnL.away h4 k (by omega) fun a m' x k1 k2 hx => hx.away k hz (by omega)⟩
theorem OwnBkZ.other {z q : Nat} {w w' : World} {lo hi : Nat} {b : BkE} (h : OwnBkZ z w lo hi b) (k : One q w w') (hq : ∀ cur T, lvT T < 3 → w.heap[q]? ≠ some (.cells cur T (0, 0))) : OwnBkZ z w' lo hi b := by
 obtain ⟨m, h1, h2, h3, h4⟩ := h
 have q0 := fun cur => hq cur 2 (by decide)
 exact ⟨m, h1, h2, OwnL.other h3 k (fun cur => hq cur _ (by decide)) fun a m' x k1 k2 hx => OwnI.other hx k q0, OwnL.other h4 k (fun cur => hq cur _ (by decide)) fun a m' x k1 k2 hx => hx.other k q0⟩
theorem lv_ne {w : World} {q : Nat} {cs : Array Value} {T : TypeId} (h : At w q cs T) {T2 : TypeId} (hn : lvT T2 ≠ lvT T) : ∀ cur, w.heap[q]? ≠ some (.cells cur T2 (0, 0)) := fun cur e => by
 rw [show w.heap[q]? = _ from h] at e
 cases e
 exact hn rfl
end Go.Proofs.YtenbodghkpbghaaDoor
namespace Go.Proofs.YtenbodghkpbghaaDoor
open Go.RowKit
set_option linter.unusedVariables false
set_option linter.unusedSimpArgs false
theorem OwnInZ.still {z : Nat} {w w' : World} {lo hi : Nat} {e : InE} {k : Nat} (h : OwnInZ z w lo hi e) (st : Still k w w') (hk : 0 < k) : OwnInZ z w' lo hi e := by
 rcases h with h | ⟨m, h⟩
 ·exact .inl (h.still st hk)
 ·exact .inr ⟨m, h.still st hk⟩
theorem OwnBkZ.still {z : Nat} {w w' : World} {lo hi : Nat} {b : BkE} {k : Nat} (h : OwnBkZ z w lo hi b) (st : Still k w w') (hk : 2 < k) : OwnBkZ z w' lo hi b := by
 obtain ⟨m, h1, h2, h3, h4⟩ := h
 exact ⟨m, h1, h2, OwnPhs.still h3 st (by omega), OwnL.still h4 st (by rw [show lvT 44 = 2 by decide]; exact hk) fun _ _ _ h => OwnInZ.still h st (by omega)⟩
theorem OwnBksZ.still {z : Nat} {w w' : World} {lo hi : Nat} {u : Option Addr} {es : List BkE} {k : Nat} (h : OwnBksZ z w lo hi u es) (st : Still k w w') (hk : 3 < k) : OwnBksZ z w' lo hi u es := OwnL.still h st (by rw [show lvT 41 = 3 by decide]; exact hk) fun _ _ _ h => OwnBkZ.still h st (by omega)
theorem Sub.each2 {α : Type} {O : World → Nat → Nat → α → Prop} {w : World} : ∀ {es : List α} {lo hi i : Nat} {e : α}, Sub O w lo hi es → es[i]? = some e → ∃ a m, lo ≤ a ∧ a ≤ m ∧ m ≤ hi ∧ O w a m e
 | [], _, _, _, _, _, h => by simp at h
 | x :: es, lo, hi, 0, e, ⟨a, m, h1, h2, h3, h4⟩, h => by
  have hx : x = e := by simpa using h
  subst hx
  exact ⟨a, m, h1, h2, h4.le, h3⟩
 | x :: es, lo, hi, i + 1, e, ⟨a, m, h1, h2, h3, h4⟩, h => by
  obtain ⟨a', m', k1, k2, k3, ho⟩ := h4.each2 (show es[i]? = some e by simpa using h)
  exact ⟨a', m', by omega, k2, k3, ho⟩
theorem OwnI.q_in {w : World} {q lo hi : Nat} {u : Option Addr} {l : List Int} (h : OwnI w lo hi u l) (hl : 0 < l.length) (hu : u = some ⟨q, 0, Option.none⟩) : lo ≤ q ∧ q < hi := by
 rcases h.2 with h | ⟨g, cur, e, h1, h2, _⟩
 ·rw [h] at hl; simp at hl
 ·rw [hu] at e; simp at e; omega
theorem OwnI.block {w : World} {lo hi : Nat} {u : Option Addr} {l : List Int} (h : OwnI w lo hi u l) (hl : 0 < l.length) : ∃ q cur, u = some ⟨q, 0, Option.none⟩ ∧ At w q cur 2 ∧ ∀ i, i < l.length → cur[i]? = some (.int .i64 (l.getD i 0)) := by
 rcases h.2 with h | ⟨g, cur, e, h1, h2, h3, h4⟩
 ·rw [h] at hl; simp at hl
 ·exact ⟨g, cur, e, h3, h4⟩
theorem OwnI.setK {w : World} {lo hi k q : Nat} {u : Option Addr} {l : List Int} (h : OwnI w lo hi u l) (hk : k < l.length) (hu : u = some ⟨q, 0, Option.none⟩) (v : Int) : OwnI (w.setCell ⟨q, k, Option.none⟩ (.int .i64 v)) lo hi u (l.set k v) := by
 refine ⟨by rw [List.length_set]; exact h.1, ?_⟩
 rcases h.2 with h | ⟨g, cur, e, h1, h2, h3, h4⟩
 ·rw [h] at hk; simp at hk
 ·have hg : g = q := by rw [hu] at e; simp at e; exact e.symm
  subst hg
  refine .inr ⟨g, _, e, h1, h2, heap_set (o := k) h3, fun i hi => ?_⟩
  rw [List.length_set] at hi
  have hkc : k < cur.size := (Array.getElem?_eq_some_iff.1 (h4 k hk)).1
  by_cases e : i = k
  ·subst e
   rw [Array.getElem?_setIfInBounds_self_of_lt hkc]
   simp [List.getD, hi]
  ·rw [Array.getElem?_setIfInBounds_ne (by omega), h4 i hi]
   simp [List.getD, List.getElem?_set_ne (Ne.symm e)]
def BkE.ph (b : BkE) (ps : List PhE) : BkE := { b with ps := ps }
def BkE.ins (b : BkE) (is : List InE) : BkE := { b with is := is }
def BkE.tm (b : BkE) (t : TermD) : BkE := { b with t := t }
theorem bksPhi {z : Nat} {w : World} {lo hi b i : Nat} {u : Option Addr} {bs : List BkE} {bk : BkE} {e : PhE} (h : OwnBksZ z w lo hi u bs) (hb : bs[b]? = some bk) (he : bk.ps[i]? = some e) :
  ∃ g cur, bk.pu = some ⟨g, 0, none⟩ ∧ lo ≤ g ∧ g < hi ∧ At w g cur 89 ∧ (∀ j, j < 2 → cur[i * 2 + j]? = (phC e)[j]?) ∧ IntsAt w lo e.2.1 e.1.ins := by
 obtain ⟨a, m, k1, k2, k3, m1, h1, h2, h3, h4⟩ := h.2.2.each2 hb
 obtain ⟨g, cur, e1, e2, e3, e4, e5⟩ := ownL_row h3 he
 obtain ⟨a2, m2, j1, j2, j3, ho⟩ := h3.2.2.each2 he
 exact ⟨g, cur, e1, by omega, by omega, e4, e5, (OwnI.ints ho).low (by omega)⟩
theorem bksCell {z : Nat} {w : World} {lo hi b i k : Nat} {u : Option Addr} {bs : List BkE} {bk : BkE} {e : PhE} (h : OwnBksZ z w lo hi u bs) (hz : hi ≤ z) (hb : bs[b]? = some bk) (he : bk.ps[i]? = some e) (hk : k < e.1.ins.length) :
  ∃ q cur, e.2.1 = some ⟨q, 0, none⟩ ∧ lo ≤ q ∧ q < hi ∧ At w q cur 2 ∧ cur[k]? = some (.int .i64 (e.1.ins.getD k 0)) ∧ ∀ v : Int, OwnBksZ z (w.setCell ⟨q, k, none⟩ (.int .i64 v)) lo hi u (bs.set b (bk.ph (bk.ps.set i (⟨e.1.w, e.1.ins.set k v⟩, e.2)))) := by
 obtain ⟨a, m, k1, k2, k3, m1, h1, h2, h3, h4⟩ := h.2.2.each2 hb
 obtain ⟨a2, m2, j1, j2, j3, ho⟩ := h3.2.2.each2 he
 have hl : 0 < e.1.ins.length := by omega
 obtain ⟨q, cur, hu, hq, hc⟩ := OwnI.block ho hl
 have hin := OwnI.q_in ho hl hu
 refine ⟨q, cur, hu, by omega, by omega, hq, hc k hk, fun v => ?_⟩
 have one := One.set q k (.int .i64 v) w
 have inP : ∀ a m, OwnPhE w a m e → a ≤ q ∧ q < m := fun a m ho => OwnI.q_in ho hl hu
 have inB : ∀ a m, OwnBkZ z w a m bk → a ≤ q ∧ q < m := fun a m hx => by
  obtain ⟨m', g1, g2, g3, g4⟩ := hx
  obtain ⟨a3, m3, i1, i2, i3, ho3⟩ := g3.2.2.each2 he
  have := inP _ _ ho3
  omega
 refine OwnL.focus h hb ?_ one (lv_ne hq (by decide)) inB ?_ fun a m x c1 c2 hqx hx => hx.away one (by omega) hqx
 ·unfold bkC BkE.ph; simp
 ·intro a m c1 c2 hx
  have hqm := inB a m hx
  obtain ⟨m', g1, g2, g3, g4⟩ := hx
  obtain ⟨a3, m3, i1, i2, i3, ho3⟩ := g3.2.2.each2 he
  have hq3 := inP _ _ ho3
  refine ⟨m', g1, g2, OwnL.focus g3 he ?_ one (lv_ne hq (by decide)) inP ?_ fun a4 m4 x d1 d2 hqx hx => OwnI.away hx one hqx, OwnL.away g4 one (by omega) fun a4 m4 x d1 d2 hx => hx.away one (by omega) (by omega)⟩
  ·unfold phC; simp
  ·intro a4 m4 d1 d2 hx
   exact OwnI.setK hx hk hu v
theorem bksInst {z : Nat} {w : World} {lo hi b i : Nat} {u : Option Addr} {bs : List BkE} {bk : BkE} {e : InE} (h : OwnBksZ z w lo hi u bs) (hz : hi ≤ z) (hb : bs[b]? = some bk) (he : bk.is[i]? = some e) :
  ∃ g cur, bk.iu = some ⟨g, 0, none⟩ ∧ lo ≤ g ∧ g < hi ∧ At w g cur 44 ∧ (∀ j, j < 7 → cur[i * 7 + j]? = (inC e)[j]?) ∧ (∃ l, IntsAt w l e.2.1 e.1.args ∧ lo ≤ l ∨ IntsAt w l e.2.1 e.1.args ∧ z ≤ l) ∧
   ∀ (w' : World) (e' : InE), One g w w' → At w' g (setsA cur (i * 7) (inC e')) 44 → (∃ h, OwnI w' z h e'.2.1 e'.1.args) → OwnBksZ z w' lo hi u (bs.set b (bk.ins (bk.is.set i e'))) := by
 obtain ⟨a, m, k1, k2, k3, m1, h1, h2, h3, h4⟩ := h.2.2.each2 hb
 obtain ⟨g, cur, e1, e2, e3, e4, e5⟩ := ownL_row h4 he
 obtain ⟨a2, m2, j1, j2, j3, ho⟩ := h4.2.2.each2 he
 refine ⟨g, cur, e1, by omega, by omega, e4, e5, ?_, fun w' e' one hw hown => ?_⟩
 ·rcases ho with ho | ⟨h, ho⟩
  ·exact ⟨a2, .inl ⟨OwnI.ints ho, by omega⟩⟩
  ·exact ⟨z, .inr ⟨OwnI.ints ho, Nat.le_refl _⟩⟩
 have inB : ∀ a m, OwnBkZ z w a m bk → a ≤ g ∧ g < m := fun a m hx => by
  obtain ⟨m', g1, g2, g3, g4⟩ := hx
  obtain ⟨g', cur', f1, f2, f3, f4, f5⟩ := ownL_row g4 he
  rw [e1] at f1
  simp at f1
  omega
 refine OwnL.focus h hb ?_ one (lv_ne e4 (by decide)) inB ?_ fun a m x c1 c2 hqx hx => hx.away one (by omega) hqx
 ·unfold bkC BkE.ins; simp
 ·intro a m c1 c2 hx
  obtain ⟨m', g1, g2, g3, g4⟩ := hx
  have q0 := fun cur2 => lv_ne e4 (T2 := 2) (by decide) cur2
  exact ⟨m', g1, g2, OwnL.other g3 one (lv_ne e4 (by decide)) fun a4 m4 x d1 d2 hx => OwnI.other hx one q0, ownL_put (fun _ => rfl) (by decide) g4 he e1 e4 hw (fun a4 m4 x d1 d2 hx => hx.other one q0) fun a4 m4 hx => .inr hown⟩
theorem bksBlock {z : Nat} {w : World} {lo hi b : Nat} {u : Option Addr} {bs : List BkE} {bk : BkE} (h : OwnBksZ z w lo hi u bs) (hz : hi ≤ z) (hb : bs[b]? = some bk) :
  ∃ g cur, u = some ⟨g, 0, none⟩ ∧ lo ≤ g ∧ g < hi ∧ At w g cur 41 ∧ (∀ j, j < 6 → cur[b * 6 + j]? = (bkC bk)[j]?) ∧
   ∀ (w' : World) (t' : TermD), One g w w' → At w' g (setsA cur (b * 6) (bkC (bk.tm t'))) 41 → OwnBksZ z w' lo hi u (bs.set b (bk.tm t')) := by
 obtain ⟨g, cur, e1, e2, e3, e4, e5⟩ := ownL_row h hb
 refine ⟨g, cur, e1, e2, e3, e4, e5, fun w' t' one hw => ?_⟩
 have q3 : ∀ cur T, lvT T < 3 → w.heap[g]? ≠ some (.cells cur T (0, 0)) := fun cur2 T hT => lv_ne e4 (by
  rw [show lvT 41 = 3 by decide]; omega) cur2
 exact ownL_put (fun _ => rfl) (by decide) h hb e1 e4 hw (fun a m x c1 c2 hx => hx.other one q3) fun a m hx => hx.other one q3
theorem OwnBksZ.at_ {z : Nat} {w : World} {lo hi : Nat} {u : Option Addr} {es : List BkE} (h : OwnBksZ z w lo hi u es) (hz : lo ≤ z) : BlocksAt w lo u (es.map BkE.d) := by
 refine ⟨by rw [List.length_map]; have := h.1; omega, ?_⟩
 rcases h.2.1 with e | ⟨g, cur, rfl, h1, _, hg, hc⟩
 ·exact .inl (by rw [e]; rfl)
 ·refine .inr ⟨g, 0, rfl, h1, (Array.getElem?_eq_some_iff.1 hg).1, fun i hi => ?_⟩
  rw [List.length_map] at hi
  obtain ⟨e, he⟩ : ∃ e, es[i]? = some e := ⟨es[i], List.getElem?_eq_getElem hi⟩
  have hc' := hc i e he
  obtain ⟨a, m, k1, k2, k3, m', g1, g2, g3, g4⟩ := h.2.2.each2 he
  rw [map_get BkE.d block0 he]
  have key : ∀ j, j < 6 → w.cell? ⟨g, 0 + i * 6 + j, none⟩ = (bkC e)[j]? := fun j hj => by rw [cell_of_heap hg, Nat.zero_add]; exact hc' j hj
  have l1 : (e.ps.map (·.1)).length = e.ps.length := List.length_map ..
  have l2 : (e.is.map (·.1)).length = e.is.length := List.length_map ..
  refine ⟨⟨e.pu, e.pc, ?_, (OwnPhs.at_ g3).low k1⟩, ⟨e.iu, e.ic, ?_, ?_⟩, key 2 (by decide), key 3 (by decide), key 4 (by decide), key 5 (by decide)⟩
  ·show _ = some (Value.slice e.pu (e.ps.map (·.1)).length e.pc)
   rw [l1]; exact key 0 (by decide)
  ·show _ = some (Value.slice e.iu (e.is.map (·.1)).length e.ic)
   rw [l2]; exact key 1 (by decide)
  ·show InstsAt w lo e.iu (e.is.map (·.1))
   refine ⟨by rw [l2]; have := g4.1; omega, ?_⟩
   rcases g4.2.1 with e0 | ⟨gi, curi, hui, i1, _, hgi, hci⟩
   ·exact .inl (by rw [e0]; rfl)
   ·refine .inr ⟨gi, 0, hui, by omega, (Array.getElem?_eq_some_iff.1 hgi).1, fun n hn => ?_⟩
    rw [l2] at hn
    obtain ⟨x, hx⟩ : ∃ x, e.is[n]? = some x := ⟨e.is[n], List.getElem?_eq_getElem hn⟩
    have hcx := hci n x hx
    obtain ⟨a3, m3, j1, j2, j3, ho⟩ := g4.2.2.each2 hx
    rw [map_get (·.1) inst0 hx]
    have keyi : ∀ j, j < 7 → w.cell? ⟨gi, 0 + n * 7 + j, none⟩ = (inC x)[j]? := fun j hj => by rw [cell_of_heap hgi, Nat.zero_add]; exact hcx j hj
    refine ⟨keyi 0 (by decide), keyi 1 (by decide), keyi 2 (by decide), keyi 3 (by decide), keyi 4 (by decide), keyi 5 (by decide), x.2.1, x.2.2, keyi 6 (by decide), ?_⟩
    rcases ho with ho | ⟨h, ho⟩
    ·exact (OwnI.ints ho).low (by omega)
    ·exact (OwnI.ints ho).low hz
end Go.Proofs.YtenbodghkpbghaaDoor
