/- Graphs in memory: a law for one more element that says where it stands, and what is there while a graph is being made. -/
import Derived.Test.YtiflkkkggidhbaaTo2Q
import Derived.Test.YtiflkkkggidhbaaGrf
namespace Go.Proofs.Ytiflkkkggidhbaa
open Go.RowKit

theorem ownsRow_low {w : World} {b b' : Nat} {e : TypeId} {s : Nat} {v : Value} {n : Nat} {xs : List Value} (h : w.ownsRow b e s v n xs) (k : b' ≤ b) : w.ownsRow b' e s v n xs := by
  obtain ⟨h1, h2⟩ := h
  refine ⟨h1, ?_⟩
  rcases h2 with h2 | ⟨g, cap, cur, hv, hb, r⟩
  · exact .inl h2
  · exact .inr ⟨g, cap, cur, hv, Nat.le_trans k hb, r⟩
theorem grown_any {w w' : World} {r : Option Nat} (h : w.grownBy w' none) : w.grownBy w' r := ⟨h.os, h.tape, h.output, h.size, fun k hk _ => h.block k hk (by simp)⟩
theorem own_new {w : World} {b : Nat} {e : TypeId} {s : Nat} {v : Value} {n : Nat} {xs : List Value} (h : w.ownsRow b e s v n xs) (hn : 0 < n) : ∃ g, v.ownBlock = some g ∧ b ≤ g := by
  rcases h.2 with ⟨_, h0⟩ | ⟨g, cap, cur, rfl, hb, _⟩
  · omega
  · exact ⟨g, rfl, hb⟩
/-- One more element or several: what is owned then stands where it stood, or in new memory. -/
theorem wpList_append_sep {P : Program} (w : World) {ops : Array Oper} {rest : List Oper} {o : Oper} {a : Act} {Q : Exit → Act → World → Prop}
    (hg : o.guard = none) (s x : Operand) (t : TypeId) (hop : o.op = Op.call { callee := Callee.builtin Builtin.append, args := #[s, x], argTypes := #[t, t] })
    (base : Nat) (e : TypeId) (i : TypeInfo) (z : Value) (size bytes : Nat) (h1 : P.underlying t = some (.slice e)) (h2 : P.info? e = some i) (h3 : i.zero = some z) (h4 : i.size = size) (h5 : i.bytes = bytes) (h6 : z.cells.size = size) (h7 : 0 < size)
    (v : Value) (n : Nat) (xs : List Value) (hs : a.eval s = v) (hown : w.ownsRow base e size v n xs)
    (ad : Addr) (m c : Nat) (news : List Value) (hx : a.eval x = .slice (some ad) m c) (hn : news.length = m * size) (hc : ∀ j u, news[j]? = some u → w.cell? (ad.add j) = some u) (h1c : ∀ u ∈ news, u.oneCell' = true)
    (hm : 0 < m) (b1 : n + m ≤ maxLen) (b2 : (n + m) * bytes ≤ 140737488355328) (hbase : base ≤ w.heap.size)
    (hK : ∀ v' w', w'.ownsRow base e size v' (n + m) (xs ++ news) → w.grownBy w' v.ownBlock → (v'.ownBlock = v.ownBlock ∨ ∃ g, v'.ownBlock = some g ∧ w.heap.size ≤ g) → wpList P ops Q rest (a.put o.dst v') w') :
    wpList P ops Q (o :: rest) a w := by
  have hl := hown.1
  rcases hown.2 with ⟨rfl, rfl⟩ | ⟨g, cap, cur, rfl, hb, hgc, hnc, hcm, hcs, htk⟩
  · exact wpList_append_grows w hg s x t hop e i z size bytes h1 h2 h3 h4 h5 h6 h7 none 0 0 xs hs (fun _ => ⟨rfl, rfl⟩) hl (fun b hb => by cases hb) ad m c news hx hn hc h1c (by omega) b1 b2 fun v' w' ho hgr =>
      hK v' w' (ownsRow_low ho hbase) (grown_any hgr) (.inr (own_new ho (by omega)))
  · by_cases hr : n + m ≤ cap
    · exact wpList_append_fits w hg s x t hop base e i size h1 h2 h4 g n cap xs hs hown ad m c news hx hn hc h1c hr fun w' ho hgr => hK _ w' ho hgr (.inl rfl)
    · refine wpList_append_grows w hg s x t hop e i z size bytes h1 h2 h3 h4 h5 h6 h7 _ n cap xs hs (fun h => by cases h) hl (fun b hb j u hj => ?_) ad m c news hx hn hc h1c (by omega) b1 b2 fun v' w' ho hgr =>
        hK v' w' (ownsRow_low ho hbase) (grown_any hgr) (.inr (own_new ho (by omega)))
      cases hb
      rw [Addr.add_lit, Nat.zero_add, cell_of_heap hgc]
      rw [← htk, List.getElem?_take] at hj
      split at hj
      · simpa using hj
      · cases hj

def ptrV (N x : Nat) : Value := .pointer (some ⟨N + 1 + x, 0, none⟩)
def updG {α : Type} (f : Nat → α) (r : Nat) (v : α) : Nat → α := fun s => if s = r then v else f s
theorem updG_same {α : Type} (f : Nat → α) (r : Nat) (v : α) : updG f r v r = v := if_pos rfl
theorem upd_other {α : Type} (f : Nat → α) {r s : Nat} (v : α) (h : s ≠ r) : updG f r v s = f s := if_neg h
/-- While a graph of n blocks is made: its nodes stand behind one another from N + 1 on, and each row of pointers by itself. -/
structure Build (w : World) (N n : Nat) (X : Option Nat) (R : Nat → Value) (L : Nat → List Nat) : Prop where
  head : w.heap[N]? = some (.cells ((List.range n).map (ptrV N)).toArray 64 (0, 0))
  node : ∀ i, i < n → w.heap[N + 1 + i]? = some (.cells #[.int .i64 i, R (2 * i), R (2 * i + 1)] 63 (0, 0))
  row : ∀ r, r < 2 * n → w.ownsRow (N + 1 + n) 64 1 (R r) (L r).length ((L r).map (ptrV N))
  apart : ∀ r s, r < 2 * n → s < 2 * n → r ≠ s → ∀ g, (R r).ownBlock = some g → (R s).ownBlock ≠ some g
  size : N + 1 + n ≤ w.heap.size
  far : ∀ g, X = some g → N + 1 + n ≤ g ∧ g < w.heap.size ∧ ∀ r, r < 2 * n → (R r).ownBlock ≠ some g
theorem ownsRow_block {w w' : World} {b : Nat} {e : TypeId} {s : Nat} {v : Value} {n : Nat} {xs : List Value} (h : w.ownsRow b e s v n xs) (k : ∀ g, v.ownBlock = some g → g < w.heap.size → w'.heap[g]? = w.heap[g]?) : w'.ownsRow b e s v n xs := by
  refine ⟨h.1, ?_⟩
  rcases h.2 with h2 | ⟨g, cap, cur, rfl, hb, hg, r⟩
  · exact .inl h2
  · exact .inr ⟨g, cap, cur, rfl, hb, (k g rfl (Array.getElem?_eq_some_iff.1 hg).1).trans hg, r⟩
theorem own_ge {w : World} {b : Nat} {e : TypeId} {s : Nat} {v : Value} {n : Nat} {xs : List Value} (h : w.ownsRow b e s v n xs) {g : Nat} (hv : v.ownBlock = some g) : b ≤ g ∧ g < w.heap.size := by
  rcases h.2 with ⟨rfl, _⟩ | ⟨g', cap, cur, rfl, hb, hg, r⟩
  · cases hv
  · cases hv; exact ⟨hb, (Array.getElem?_eq_some_iff.1 hg).1⟩
theorem Build.keep {w w' : World} {N n : Nat} {X : Option Nat} {R : Nat → Value} {L : Nat → List Nat} (h : Build w N n X R L) (k : Agree N w w') : Build w' N n X R L := by
  have hs := h.size
  refine ⟨(k.2 N (Nat.le_refl _) (by omega)).trans h.head, fun i hi => (k.2 _ (by omega) (by omega)).trans (h.node i hi), fun r hr => ?_, h.apart, Nat.le_trans h.size k.1, fun g hg => ⟨(h.far g hg).1, Nat.lt_of_lt_of_le (h.far g hg).2.1 k.1, (h.far g hg).2.2⟩⟩
  have ho := h.row r hr
  exact ownsRow_block ho fun g hg hl => k.2 g (by have := (own_ge ho hg).1; omega) hl
theorem Build.push {w w1 : World} {N n : Nat} {X : Option Nat} {R : Nat → Value} {L : Nat → List Nat} (h : Build w N n X R L) (i k : Nat) (hi : i < n) (hk : k < 2) (v' : Value) (x : Nat)
    (hown : w1.ownsRow (N + 1 + n) 64 1 v' ((L (2 * i + k)).length + 1) ((L (2 * i + k)).map (ptrV N) ++ [ptrV N x])) (hgr : w.grownBy w1 (R (2 * i + k)).ownBlock)
    (hsep : v'.ownBlock = (R (2 * i + k)).ownBlock ∨ ∃ g, v'.ownBlock = some g ∧ w.heap.size ≤ g) :
    Build (w1.setCell ⟨N + 1 + i, 1 + k, none⟩ v') N n X (updG R (2 * i + k) v') (updG L (2 * i + k) (L (2 * i + k) ++ [x])) := by
  have hs := h.size
  have hz : (w1.setCell ⟨N + 1 + i, 1 + k, none⟩ v').heap.size = w1.heap.size := by simp [World.setCell]
  have hlow : ∀ g, g < N + 1 + n → w1.heap[g]? = w.heap[g]? := fun g hg => hgr.block g (by omega) fun e => by
    have := (own_ge (h.row (2 * i + k) (by omega)) e.symm).1; omega
  refine ⟨?_, fun j hj => ?_, fun r hr => ?_, fun r s hr hs' hne g hrg hsg => ?_, by rw [hz]; exact Nat.le_trans hs hgr.size, fun g hg => ?_⟩
  · exact heap_other (by show N ≠ N + 1 + i; omega) ((hlow N (by omega)).trans h.head)
  · by_cases hji : j = i
    · subst hji
      have hn := heap_set (o := 1 + k) (v := v') ((hlow (N + 1 + j) (by omega)).trans (h.node j hj))
      rw [hn]
      match k, hk with
      | 0, _ => rw [show updG R (2 * j + 0) v' (2 * j) = v' from updG_same _ _ _, upd_other _ _ (by omega)]; rfl
      | 1, _ => rw [updG_same, upd_other _ _ (by omega)]; rfl
    · rw [upd_other _ _ (by omega), upd_other _ _ (by omega)]
      exact heap_other (by show N + 1 + j ≠ N + 1 + i; omega) ((hlow (N + 1 + j) (by omega)).trans (h.node j hj))
  · by_cases hrr : r = 2 * i + k
    · subst hrr
      rw [updG_same, updG_same]
      have h2 : w1.ownsRow (N + 1 + n) 64 1 v' (L (2 * i + k) ++ [x]).length ((L (2 * i + k) ++ [x]).map (ptrV N)) := by simpa using hown
      exact ownsRow_block h2 fun g hg _ => heap_other (by show g ≠ N + 1 + i; have := (own_ge h2 hg).1; omega) rfl
    · rw [upd_other _ _ hrr, upd_other _ _ hrr]
      have ho := h.row r hr
      refine ownsRow_block ho fun g hg hl => ?_
      refine heap_other (by show g ≠ N + 1 + i; have := (own_ge ho hg).1; omega) (hgr.block g hl fun e => ?_)
      exact h.apart r (2 * i + k) hr (by omega) hrr g hg e.symm
  · have hnew : ∀ q, q < 2 * n → q ≠ 2 * i + k → ∀ g, (R q).ownBlock = some g → v'.ownBlock ≠ some g := by
      intro q hq hqn g hqg hv
      rcases hsep with e | ⟨g', e, hge⟩
      · exact h.apart q (2 * i + k) hq (by omega) hqn g hqg (e.symm.trans hv)
      · rw [hv] at e; cases e
        have := (own_ge (h.row q hq) hqg).2; omega
    by_cases h1 : r = 2 * i + k
    · subst h1
      rw [updG_same] at hrg
      rw [upd_other _ _ (Ne.symm hne)] at hsg
      exact hnew s hs' (Ne.symm hne) g hsg hrg
    · rw [upd_other _ _ h1] at hrg
      by_cases h2 : s = 2 * i + k
      · subst h2
        rw [updG_same] at hsg
        exact hnew r hr h1 g hrg hsg
      · rw [upd_other _ _ h2] at hsg
        exact h.apart r s hr hs' hne g hrg hsg
  · obtain ⟨f1, f2, f3⟩ := h.far g hg
    refine ⟨f1, by rw [hz]; exact Nat.lt_of_lt_of_le f2 hgr.size, fun r hr => ?_⟩
    by_cases h1 : r = 2 * i + k
    · subst h1
      rw [updG_same]
      rcases hsep with e | ⟨g', e, hge⟩
      · rw [e]; exact f3 _ hr
      · rw [e]; intro q; cases q; omega
    · rw [upd_other _ _ h1]; exact f3 r hr
theorem Build.forget {w : World} {N n : Nat} {X : Option Nat} {R : Nat → Value} {L : Nat → List Nat} (h : Build w N n X R L) : Build w N n none R L := ⟨h.head, h.node, h.row, h.apart, h.size, fun g hg => by cases hg⟩
theorem Build.with {w w' : World} {N n g : Nat} {X : Option Nat} {R : Nat → Value} {L : Nat → List Nat} (h : Build w N n X R L) (k : Agree N w w') (hg : w.heap.size ≤ g) (hg' : g < w'.heap.size) : Build w' N n (some g) R L := by
  have h' := h.keep k
  refine ⟨h'.head, h'.node, h'.row, h'.apart, h'.size, fun q hq => ?_⟩
  cases hq
  exact ⟨by have := h.size; omega, hg', fun r hr e => by have := (own_ge (h.row r hr) e).2; omega⟩
/-- What a push leaves as it was: the foreign block, and all below the nodes. -/
theorem push_else {w w1 : World} {N n : Nat} {X : Option Nat} {R : Nat → Value} {L : Nat → List Nat} (h : Build w N n X R L) (i k : Nat) (hi : i < n) (hk : k < 2) (v' : Value) (hgr : w.grownBy w1 (R (2 * i + k)).ownBlock) :
    Below N w (w1.setCell ⟨N + 1 + i, 1 + k, none⟩ v') ∧ ∀ g, X = some g → (w1.setCell ⟨N + 1 + i, 1 + k, none⟩ v').heap[g]? = w.heap[g]? := by
  have hs := h.size
  refine ⟨((Below.refl N w).grown hgr (by omega) (fun j hj => ?_)).setCell (by show N ≤ N + 1 + i; omega) _, fun g hg => ?_⟩
  · have := (own_ge (h.row (2 * i + k) (by omega)) hj).1; omega
  · obtain ⟨f1, f2, f3⟩ := h.far g hg
    exact heap_other (by show g ≠ N + 1 + i; omega) (hgr.block g f2 fun e => f3 _ (by omega) e.symm)
/-- A row of pointers as a walk reads it. -/
theorem own_read {w : World} {b N : Nat} {v : Value} {l : List Nat} (h : w.ownsRow b 64 1 v l.length (l.map (ptrV N))) :
    ∃ a c, v = .slice a l.length c ∧ (l = [] ∨ ∃ g, a = some ⟨g, 0, none⟩ ∧ b ≤ g ∧ g < w.heap.size ∧ ∀ i, i < l.length → w.cell? ⟨g, i, none⟩ = some (ptrV N (l.getD i 0))) := by
  rcases h.2 with ⟨rfl, h0⟩ | ⟨g, cap, cur, rfl, hb, hg, hnc, _, hcs, htk⟩
  · exact ⟨none, 0, by rw [h0], .inl (List.length_eq_zero_iff.1 h0)⟩
  · refine ⟨_, cap, rfl, .inr ⟨g, rfl, hb, (Array.getElem?_eq_some_iff.1 hg).1, fun i hi => ?_⟩⟩
    rw [cell_of_heap hg]
    have e : (cur.toList.take (l.length * 1))[i]? = (l.map (ptrV N))[i]? := by rw [htk]
    rw [List.getElem?_take, if_pos (by omega)] at e
    simp [hi] at e
    simpa [List.getD, hi] using e
end Go.Proofs.Ytiflkkkggidhbaa
