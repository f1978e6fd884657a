import Derived.Test.YtgojlnclpebdcaaGreatDoorMemR
import Derived.Test.YtgojlnclpebdcaaGreatDoorTypR
import Derived.LaidEqlPtr
namespace Go.Proofs.YtgojlnclpebdcaaGreatDoor
open Go.RowKit
theorem ownsRow_low {w : World} {b b' : Nat} {e : TypeId} {s : Nat} {v : Value} {n : Nat} {xs : List Value} (h : w.ownsRow b e s v n xs) (k : b' ≤ b) : w.ownsRow b' e s v n xs := by
 obtain ⟨h1, h2⟩ := h
 refine ⟨h1, ?_⟩
 rcases h2 with h2 | ⟨g, cap, cur, hv, hb, r⟩
 ·exact .inl h2
 ·exact .inr ⟨g, cap, cur, hv, Nat.le_trans k hb, r⟩
theorem grown_any {w w' : World} {r : Option Nat} (h : w.grownBy w' none) : w.grownBy w' r := ⟨h.os, h.tape, h.output, h.size, fun k hk _ => h.block k hk (by simp)⟩
theorem own_new {w : World} {b : Nat} {e : TypeId} {s : Nat} {v : Value} {n : Nat} {xs : List Value} (h : w.ownsRow b e s v n xs) (hn : 0 < n) : ∃ g, v.ownBlock = some g ∧ b ≤ g := by
 rcases h.2 with ⟨_, h0⟩ | ⟨g, cap, cur, rfl, hb, _⟩
 ·omega
 ·exact ⟨g, rfl, hb⟩
theorem wpList_append_sep {P : Program} (w : World) {ops : Array Oper} {rest : List Oper} {o : Oper} {a : Act} {Q : Exit → Act → World → Prop}
  (hg : o.guard = none) (s x : Operand) (t : TypeId) (hop : o.op = Op.call { callee := Callee.builtin Builtin.append, args := #[s, x], argTypes := #[t, t] })
  (base : Nat) (e : TypeId) (i : TypeInfo) (z : Value) (size bytes : Nat) (h1 : P.underlying t = some (.slice e)) (h2 : P.info? e = some i) (h3 : i.zero = some z) (h4 : i.size = size) (h5 : i.bytes = bytes) (h6 : z.cells.size = size) (h7 : 0 < size)
  (v : Value) (n : Nat) (xs : List Value) (hs : a.eval s = v) (hown : w.ownsRow base e size v n xs)
  (ad : Addr) (m c : Nat) (news : List Value) (hx : a.eval x = .slice (some ad) m c) (hn : news.length = m * size) (hc : ∀ j u, news[j]? = some u → w.cell? (ad.add j) = some u) (h1c : ∀ u ∈ news, u.oneCell' = true)
  (hm : 0 < m) (b1 : n + m ≤ maxLen) (b2 : (n + m) * bytes ≤ 140737488355328) (hbase : base ≤ w.heap.size)
  (hK : ∀ v' w', w'.ownsRow base e size v' (n + m) (xs ++ news) → w.grownBy w' v.ownBlock → (v'.ownBlock = v.ownBlock ∨ ∃ g, v'.ownBlock = some g ∧ w.heap.size ≤ g) → wpList P ops Q rest (a.put o.dst v') w') :
  wpList P ops Q (o :: rest) a w := by
 have hl := hown.1
 rcases hown.2 with ⟨rfl, rfl⟩ | ⟨g, cap, cur, rfl, hb, hgc, hnc, hcm, hcs, htk⟩
 ·exact wpList_append_grows w hg s x t hop e i z size bytes h1 h2 h3 h4 h5 h6 h7 none 0 0 xs hs (fun _ => ⟨rfl, rfl⟩) hl (fun b hb => by cases hb) ad m c news hx hn hc h1c (by omega) b1 b2 fun v' w' ho hgr =>
   hK v' w' (ownsRow_low ho hbase) (grown_any hgr) (.inr (own_new ho (by omega)))
 ·by_cases hr : n + m ≤ cap
  ·exact wpList_append_fits w hg s x t hop base e i size h1 h2 h4 g n cap xs hs hown ad m c news hx hn hc h1c hr fun w' ho hgr => hK _ w' ho hgr (.inl rfl)
  ·refine wpList_append_grows w hg s x t hop e i z size bytes h1 h2 h3 h4 h5 h6 h7 _ n cap xs hs (fun h => by cases h) hl (fun b hb j u hj => ?_) ad m c news hx hn hc h1c (by omega) b1 b2 fun v' w' ho hgr =>
    hK v' w' (ownsRow_low ho hbase) (grown_any hgr) (.inr (own_new ho (by omega)))
   cases hb
   rw [Addr.add_lit, Nat.zero_add, cell_of_heap hgc]
   rw [← htk, List.getElem?_take] at hj
   split at hj
   ·simpa using hj
   ·cases hj
def ptrV (N x : Nat) : Value := .pointer (some ⟨N + 1 + x, 0, none⟩)
def updG {α : Type} (f : Nat → α) (r : Nat) (v : α) : Nat → α := fun s => if s = r then v else f s
theorem updG_same {α : Type} (f : Nat → α) (r : Nat) (v : α) : updG f r v r = v := if_pos rfl
theorem upd_other {α : Type} (f : Nat → α) {r s : Nat} (v : α) (h : s ≠ r) : updG f r v s = f s := if_neg h
structure Build (w : World) (N n : Nat) (X : Option Nat) (R : Nat → Value) (L : Nat → List Nat) : Prop where
 head : w.heap[N]? = some (.cells ((List.range n).map (ptrV N)).toArray 75 (0, 0))
 node : ∀ i, i < n → w.heap[N + 1 + i]? = some (.cells #[.int .i64 i, R (2 * i), R (2 * i + 1)] 74 (0, 0))
 row : ∀ r, r < 2 * n → w.ownsRow (N + 1 + n) 75 1 (R r) (L r).length ((L r).map (ptrV N))
 apart : ∀ r s, r < 2 * n → s < 2 * n → r ≠ s → ∀ g, (R r).ownBlock = some g → (R s).ownBlock ≠ some g
 size : N + 1 + n ≤ w.heap.size
 far : ∀ g, X = some g → N + 1 + n ≤ g ∧ g < w.heap.size ∧ ∀ r, r < 2 * n → (R r).ownBlock ≠ some g
theorem ownsRow_block {w w' : World} {b : Nat} {e : TypeId} {s : Nat} {v : Value} {n : Nat} {xs : List Value} (h : w.ownsRow b e s v n xs) (k : ∀ g, v.ownBlock = some g → g < w.heap.size → w'.heap[g]? = w.heap[g]?) : w'.ownsRow b e s v n xs := by
 refine ⟨h.1, ?_⟩
 rcases h.2 with h2 | ⟨g, cap, cur, rfl, hb, hg, r⟩
 ·exact .inl h2
 ·exact .inr ⟨g, cap, cur, rfl, hb, (k g rfl (Array.getElem?_eq_some_iff.1 hg).1).trans hg, r⟩
theorem own_ge {w : World} {b : Nat} {e : TypeId} {s : Nat} {v : Value} {n : Nat} {xs : List Value} (h : w.ownsRow b e s v n xs) {g : Nat} (hv : v.ownBlock = some g) : b ≤ g ∧ g < w.heap.size := by
 rcases h.2 with ⟨rfl, _⟩ | ⟨g', cap, cur, rfl, hb, hg, r⟩
 ·cases hv
 ·cases hv; exact ⟨hb, (Array.getElem?_eq_some_iff.1 hg).1⟩
theorem Build.keep {w w' : World} {N n : Nat} {X : Option Nat} {R : Nat → Value} {L : Nat → List Nat} (h : Build w N n X R L) (k : Agree N w w') : Build w' N n X R L := by
 have hs := h.size
 refine ⟨(k.2 N (Nat.le_refl _) (by omega)).trans h.head, fun i hi => (k.2 _ (by omega) (by omega)).trans (h.node i hi), fun r hr => ?_, h.apart, Nat.le_trans h.size k.1, fun g hg => ⟨(h.far g hg).1, Nat.lt_of_lt_of_le (h.far g hg).2.1 k.1, (h.far g hg).2.2⟩⟩
 have ho := h.row r hr
 exact ownsRow_block ho fun g hg hl => k.2 g (by have := (own_ge ho hg).1; omega) hl
theorem Build.push {w w1 : World} {N n : Nat} {X : Option Nat} {R : Nat → Value} {L : Nat → List Nat} (h : Build w N n X R L) (i k : Nat) (hi : i < n) (hk : k < 2) (v' : Value) (x : Nat)
  (hown : w1.ownsRow (N + 1 + n) 75 1 v' ((L (2 * i + k)).length + 1) ((L (2 * i + k)).map (ptrV N) ++ [ptrV N x])) (hgr : w.grownBy w1 (R (2 * i + k)).ownBlock)
  (hsep : v'.ownBlock = (R (2 * i + k)).ownBlock ∨ ∃ g, v'.ownBlock = some g ∧ w.heap.size ≤ g) :
  Build (w1.setCell ⟨N + 1 + i, 1 + k, none⟩ v') N n X (updG R (2 * i + k) v') (updG L (2 * i + k) (L (2 * i + k) ++ [x])) := by
 have hs := h.size
 have hz : (w1.setCell ⟨N + 1 + i, 1 + k, none⟩ v').heap.size = w1.heap.size := by simp [World.setCell]
 have hlow : ∀ g, g < N + 1 + n → w1.heap[g]? = w.heap[g]? := fun g hg => hgr.block g (by omega) fun e => by
  have := (own_ge (h.row (2 * i + k) (by omega)) e.symm).1; omega
 refine ⟨?_, fun j hj => ?_, fun r hr => ?_, fun r s hr hs' hne g hrg hsg => ?_, by rw [hz]; exact Nat.le_trans hs hgr.size, fun g hg => ?_⟩
 ·exact heap_other (by show N ≠ N + 1 + i; omega) ((hlow N (by omega)).trans h.head)
 ·by_cases hji : j = i
  ·subst hji
   have hn := heap_set (o := 1 + k) (v := v') ((hlow (N + 1 + j) (by omega)).trans (h.node j hj))
   rw [hn]
   match k, hk with
   | 0, _ => rw [show updG R (2 * j + 0) v' (2 * j) = v' from updG_same _ _ _, upd_other _ _ (by omega)]; rfl
   | 1, _ => rw [updG_same, upd_other _ _ (by omega)]; rfl
  ·rw [upd_other _ _ (by omega), upd_other _ _ (by omega)]
   exact heap_other (by show N + 1 + j ≠ N + 1 + i; omega) ((hlow (N + 1 + j) (by omega)).trans (h.node j hj))
 ·by_cases hrr : r = 2 * i + k
  ·subst hrr
   rw [updG_same, updG_same]
   have h2 : w1.ownsRow (N + 1 + n) 75 1 v' (L (2 * i + k) ++ [x]).length ((L (2 * i + k) ++ [x]).map (ptrV N)) := by simpa using hown
   exact ownsRow_block h2 fun g hg _ => heap_other (by show g ≠ N + 1 + i; have := (own_ge h2 hg).1; omega) rfl
  ·rw [upd_other _ _ hrr, upd_other _ _ hrr]
   have ho := h.row r hr
   refine ownsRow_block ho fun g hg hl => ?_
   refine heap_other (by show g ≠ N + 1 + i; have := (own_ge ho hg).1; omega) (hgr.block g hl fun e => ?_)
   exact h.apart r (2 * i + k) hr (by omega) hrr g hg e.symm
 ·have hnew : ∀ q, q < 2 * n → q ≠ 2 * i + k → ∀ g, (R q).ownBlock = some g → v'.ownBlock ≠ some g := by
   intro q hq hqn g hqg hv
   rcases hsep with e | ⟨g', e, hge⟩
   ·exact h.apart q (2 * i + k) hq (by omega) hqn g hqg (e.symm.trans hv)
   ·rw [hv] at e; cases e
    have := (own_ge (h.row q hq) hqg).2; omega
  by_cases h1 : r = 2 * i + k
  ·subst h1
   rw [updG_same] at hrg
   rw [upd_other _ _ (Ne.symm hne)] at hsg
   exact hnew s hs' (Ne.symm hne) g hsg hrg
  ·rw [upd_other _ _ h1] at hrg
   by_cases h2 : s = 2 * i + k
   ·subst h2
    rw [updG_same] at hsg
    exact hnew r hr h1 g hrg hsg
   ·rw [upd_other _ _ h2] at hsg
    exact h.apart r s hr hs' hne g hrg hsg
 ·obtain ⟨f1, f2, f3⟩ := h.far g hg
  refine ⟨f1, by rw [hz]; exact Nat.lt_of_lt_of_le f2 hgr.size, fun r hr => ?_⟩
  by_cases h1 : r = 2 * i + k
  ·subst h1
   rw [updG_same]
   rcases hsep with e | ⟨g', e, hge⟩
   ·rw [e]; exact f3 _ hr
   ·rw [e]; intro q; cases q; omega
  ·rw [upd_other _ _ h1]; exact f3 r hr
theorem Build.forget {w : World} {N n : Nat} {X : Option Nat} {R : Nat → Value} {L : Nat → List Nat} (h : Build w N n X R L) : Build w N n none R L := ⟨h.head, h.node, h.row, h.apart, h.size, fun g hg => by cases hg⟩
theorem Build.with {w w' : World} {N n g : Nat} {X : Option Nat} {R : Nat → Value} {L : Nat → List Nat} (h : Build w N n X R L) (k : Agree N w w') (hg : w.heap.size ≤ g) (hg' : g < w'.heap.size) : Build w' N n (some g) R L := by
 have h' := h.keep k
 refine ⟨h'.head, h'.node, h'.row, h'.apart, h'.size, fun q hq => ?_⟩
 cases hq
 exact ⟨by have := h.size; omega, hg', fun r hr e => by have := (own_ge (h.row r hr) e).2; omega⟩
theorem push_else {w w1 : World} {N n : Nat} {X : Option Nat} {R : Nat → Value} {L : Nat → List Nat} (h : Build w N n X R L) (i k : Nat) (hi : i < n) (hk : k < 2) (v' : Value) (hgr : w.grownBy w1 (R (2 * i + k)).ownBlock) :
  Below N w (w1.setCell ⟨N + 1 + i, 1 + k, none⟩ v') ∧ ∀ g, X = some g → (w1.setCell ⟨N + 1 + i, 1 + k, none⟩ v').heap[g]? = w.heap[g]? := by
 have hs := h.size
 refine ⟨((Below.refl N w).grown hgr (by omega) (fun j hj => ?_)).setCell (by show N ≤ N + 1 + i; omega) _, fun g hg => ?_⟩
 ·have := (own_ge (h.row (2 * i + k) (by omega)) hj).1; omega
 ·obtain ⟨f1, f2, f3⟩ := h.far g hg
  exact heap_other (by show g ≠ N + 1 + i; omega) (hgr.block g f2 fun e => f3 _ (by omega) e.symm)
theorem own_read {w : World} {b N : Nat} {v : Value} {l : List Nat} (h : w.ownsRow b 75 1 v l.length (l.map (ptrV N))) :
  ∃ a c, v = .slice a l.length c ∧ (l = [] ∨ ∃ g, a = some ⟨g, 0, none⟩ ∧ b ≤ g ∧ g < w.heap.size ∧ ∀ i, i < l.length → w.cell? ⟨g, i, none⟩ = some (ptrV N (l.getD i 0))) := by
 rcases h.2 with ⟨rfl, h0⟩ | ⟨g, cap, cur, rfl, hb, hg, hnc, _, hcs, htk⟩
 ·exact ⟨none, 0, by rw [h0], .inl (List.length_eq_zero_iff.1 h0)⟩
 ·refine ⟨_, cap, rfl, .inr ⟨g, rfl, hb, (Array.getElem?_eq_some_iff.1 hg).1, fun i hi => ?_⟩⟩
  rw [cell_of_heap hg]
  have e : (cur.toList.take (l.length * 1))[i]? = (l.map (ptrV N))[i]? := by rw [htk]
  rw [List.getElem?_take, if_pos (by omega)] at e
  simp [hi] at e
  simpa [List.getD, hi] using e
end Go.Proofs.YtgojlnclpebdcaaGreatDoor
namespace Go.Proofs.YtgojlnclpebdcaaGreatDoor
open Go.RowKit
def leadL (b x : Nat) (L : Nat → List Nat) : Nat → List Nat :=
 if (L (2 * x + 1)).getLast? = some b then updG L (2 * b) (L (2 * b) ++ [x]) else updG (updG L (2 * b) (L (2 * b) ++ [x])) (2 * x + 1) (L (2 * x + 1) ++ [b])
def Lst (S : Nat → List Nat) (b j : Nat) : Nat → List Nat := fun r =>
 if r % 2 = 0 then (if r / 2 < b then S (r / 2) else if r / 2 = b then (S b).take j else [])
 else (List.range b).filter (fun i => (S i).contains (r / 2)) ++ (if ((S b).take j).contains (r / 2) then [b] else [])
theorem lst_zero (S : Nat → List Nat) : Lst S 0 0 = fun _ => [] := by
 funext r
 unfold Lst
 by_cases h : r % 2 = 0
 ·rw [if_pos h, if_neg (by omega)]; split <;> simp
 ·rw [if_neg h]; simp
theorem lst_next (S : Nat → List Nat) (b : Nat) : Lst S b (S b).length = Lst S (b + 1) 0 := by
 funext r
 unfold Lst
 by_cases h : r % 2 = 0
 ·rw [if_pos h, if_pos h]
  by_cases h1 : r / 2 < b
  ·rw [if_pos h1, if_pos (by omega)]
  ·rw [if_neg h1]
   by_cases h2 : r / 2 = b
   ·rw [if_pos h2, if_pos (by omega), h2, List.take_length]
   ·rw [if_neg h2, if_neg (by omega)]; split <;> simp
 ·rw [if_neg h, if_neg h, List.take_length, List.range_succ, List.filter_append, List.take_zero]
  simp [List.filter_cons]
theorem last_lt {b : Nat} (p : Nat → Bool) : ((List.range b).filter p).getLast? ≠ some b := by
 intro h
 have := List.mem_of_getLast? h
 simp at this
theorem lead_step (S : Nat → List Nat) (b j : Nat) (hj : j < (S b).length) : leadL b ((S b).getD j 0) (Lst S b j) = Lst S b (j + 1) := by
 generalize hx : (S b).getD j 0 = x
 have ht : (S b).take (j + 1) = (S b).take j ++ [x] := by
  rw [List.take_succ_eq_append_getElem hj]; simp [← hx, List.getD, hj]
 have hodd : ∀ y, Lst S b j (2 * y + 1) = (List.range b).filter (fun i => (S i).contains y) ++ (if ((S b).take j).contains y then [b] else []) := by
  intro y; unfold Lst; rw [if_neg (by omega), show (2 * y + 1) / 2 = y by omega]
 have hodd' : ∀ y, Lst S b (j + 1) (2 * y + 1) = (List.range b).filter (fun i => (S i).contains y) ++ (if ((S b).take (j + 1)).contains y then [b] else []) := by
  intro y; unfold Lst; rw [if_neg (by omega), show (2 * y + 1) / 2 = y by omega]
 have hev : ∀ y, y ≠ b → Lst S b j (2 * y) = Lst S b (j + 1) (2 * y) := by
  intro y hy; have h2 : 2 * y % 2 = 0 := by omega
  unfold Lst; rw [if_pos h2, if_pos h2, show 2 * y / 2 = y by omega, if_neg hy, if_neg hy]
 have hevb : Lst S b j (2 * b) = (S b).take j := by unfold Lst; rw [if_pos (by omega), show 2 * b / 2 = b by omega, if_neg (by omega), if_pos rfl]
 have hevb' : Lst S b (j + 1) (2 * b) = (S b).take j ++ [x] := by unfold Lst; rw [if_pos (by omega), show 2 * b / 2 = b by omega, if_neg (by omega), if_pos rfl, ht]
 have hoth : ∀ y, y ≠ x → Lst S b j (2 * y + 1) = Lst S b (j + 1) (2 * y + 1) := by
  intro y hy; rw [hodd, hodd', ht]; simp [hy]
 have hme : Lst S b (j + 1) (2 * x + 1) = (List.range b).filter (fun i => (S i).contains x) ++ [b] := by rw [hodd', ht]; simp
 have hbase : ∀ r, r ≠ 2 * x + 1 → updG (Lst S b j) (2 * b) (Lst S b j (2 * b) ++ [x]) r = Lst S b (j + 1) r := by
  intro r hr
  by_cases h1 : r = 2 * b
  ·subst h1; rw [updG_same, hevb, hevb']
  ·rw [upd_other _ _ h1]
   rcases Nat.mod_two_eq_zero_or_one r with h | h
   ·have e : r = 2 * (r / 2) := by omega
    rw [e]; exact hev _ (by omega)
   ·have e : r = 2 * (r / 2) + 1 := by omega
    rw [e]; exact hoth _ (by omega)
 unfold leadL
 by_cases hc : ((S b).take j).contains x = true
 ·have hl : Lst S b j (2 * x + 1) = (List.range b).filter (fun i => (S i).contains x) ++ [b] := by rw [hodd, if_pos hc]
  rw [if_pos (by rw [hl]; simp)]
  funext r
  by_cases hr : r = 2 * x + 1
  ·subst hr; rw [upd_other _ _ (by omega), hl, hme]
  ·exact hbase r hr
 ·have hl : Lst S b j (2 * x + 1) = (List.range b).filter (fun i => (S i).contains x) := by rw [hodd, if_neg hc]; simp
  rw [if_neg (by rw [hl]; exact last_lt _)]
  funext r
  by_cases hr : r = 2 * x + 1
  ·subst hr; rw [updG_same, hl, hme]
  ·rw [upd_other _ _ hr]; exact hbase r hr
theorem lst_len (S : Nat → List Nat) (hS : ∀ a, (S a).length ≤ 2) (b j r : Nat) : (Lst S b j r).length ≤ b + 2 := by
 unfold Lst
 split
 ·split
  ·have := hS (r / 2); omega
  ·split
   ·have := hS b; simp; omega
   ·simp
 ·have h1 := List.length_filter_le (fun i => (S i).contains (r / 2)) (List.range b)
  simp only [List.length_range] at h1
  rw [List.length_append]
  split
  ·simp only [List.length_cons, List.length_nil]; omega
  ·simp only [List.length_nil]; omega
def predN (S : Nat → List Nat) (n x : Nat) : List Nat := (List.range n).filter (fun i => (S i).contains x)
theorem lst_end (S : Nat → List Nat) (n i : Nat) (hi : i < n) : Lst S n 0 (2 * i) = S i ∧ Lst S n 0 (2 * i + 1) = predN S n i := by
 constructor
 ·unfold Lst; rw [if_pos (by omega), show 2 * i / 2 = i by omega, if_pos hi]
 ·unfold Lst; rw [if_neg (by omega), show (2 * i + 1) / 2 = i by omega]; simp [predN]
def PtrsAt (w : World) (lo N : Nat) (a : Option Addr) (l : List Nat) : Prop :=
 l = [] ∨ ∃ g, a = some ⟨g, 0, none⟩ ∧ lo ≤ g ∧ g < w.heap.size ∧ ∀ i, i < l.length → w.cell? ⟨g, i, none⟩ = some (ptrV N (l.getD i 0))
theorem PtrsAt.keep {w w' : World} {lo N : Nat} {a : Option Addr} {l : List Nat} (h : PtrsAt w lo N a l) (k : Agree lo w w') : PtrsAt w' lo N a l := by
 rcases h with h | ⟨g, ha, hl, hb, hc⟩
 ·exact .inl h
 ·exact .inr ⟨g, ha, hl, Nat.lt_of_lt_of_le hb k.1, fun i hi => (cell_agree k hl hb).trans (hc i hi)⟩
theorem PtrsAt.low {w : World} {lo lo' N : Nat} {a : Option Addr} {l : List Nat} (h : PtrsAt w lo N a l) (k : lo' ≤ lo) : PtrsAt w lo' N a l := by
 rcases h with h | ⟨g, ha, hl, hb, hc⟩
 ·exact .inl h
 ·exact .inr ⟨g, ha, Nat.le_trans k hl, hb, hc⟩
structure Graph (w : World) (N n : Nat) (S : Nat → List Nat) : Prop where
 head : ∀ i, i < n → w.cell? ⟨N, i, none⟩ = some (ptrV N i)
 node : ∀ i, i < n → ∃ a c a' c', w.heap[N + 1 + i]? = some (.cells #[.int .i64 i, .slice a (S i).length c, .slice a' (predN S n i).length c'] 74 (0, 0)) ∧ PtrsAt w N N a (S i) ∧ PtrsAt w N N a' (predN S n i)
 size : N + 1 + n ≤ w.heap.size
theorem Graph.keep {w w' : World} {N n : Nat} {S : Nat → List Nat} (h : Graph w N n S) (k : Agree N w w') : Graph w' N n S := by
 have hs := h.size
 refine ⟨fun i hi => (cell_agree k (Nat.le_refl _) (by omega)).trans (h.head i hi), fun i hi => ?_, Nat.le_trans hs k.1⟩
 obtain ⟨a, c, a', c', h1, h2, h3⟩ := h.node i hi
 exact ⟨a, c, a', c', (k.2 _ (by omega) (by omega)).trans h1, h2.keep k, h3.keep k⟩
theorem Build.graph {w : World} {N n : Nat} {X : Option Nat} {R : Nat → Value} {S : Nat → List Nat} (h : Build w N n X R (Lst S n 0)) : Graph w N n S := by
 have hs := h.size
 refine ⟨fun i hi => ?_, fun i hi => ?_, hs⟩
 ·rw [cell_of_heap h.head]; simp [hi]
 ·obtain ⟨e1, e2⟩ := lst_end S n i hi
  have r1 := h.row (2 * i) (by omega)
  have r2 := h.row (2 * i + 1) (by omega)
  rw [e1] at r1; rw [e2] at r2
  obtain ⟨a, c, hv, p1⟩ := own_read r1
  obtain ⟨a', c', hv', p2⟩ := own_read r2
  refine ⟨a, c, a', c', by rw [h.node i hi, hv, hv'], ?_, ?_⟩
  ·rcases p1 with p | ⟨g, q1, q2, q3⟩
   ·exact .inl p
   ·exact .inr ⟨g, q1, by omega, q3⟩
  ·rcases p2 with p | ⟨g, q1, q2, q3⟩
   ·exact .inl p
   ·exact .inr ⟨g, q1, by omega, q3⟩
end Go.Proofs.YtgojlnclpebdcaaGreatDoor
namespace Go.Proofs.YtgojlnclpebdcaaGreatDoor
open Go.RowKit
theorem belowI (n c : Int) (w : World) : Calls Tryz.prog 36 #[.int .i64 n, .int .i64 c] w fun e w' => e = .returned (.bool (decide (0 ≤ n) && decide (n < c))) ∧ w' = w := by
 by_cases h : 0 ≤ n
 ·go_enter Tryz.func36, Tryz.ntmps36
  go_wp2_with fail
  go_ret
  exact ⟨by simp [h], rfl⟩
 ·go_enter Tryz.func36, Tryz.ntmps36
  go_wp2_with fail
  go_ret
  exact ⟨congrArg (fun b => Ending.returned (Value.bool b)) (by rw [decide_eq_false (by omega)]; rfl), rfl⟩
def tgtD (t : TermD) : List Int := if t.kind = 2 then [t.x] else if t.kind = 3 then [t.x, t.y] else []
theorem ints_lit {w : World} {o : Obj} {l v : List Int} {cs : Array Value} (e : v = l) (hm : l.length ≤ 1000) (hc : ∀ i, i < l.length → cs[i]? = some (.int .i64 (l.getD i 0))) : IntsAt ((w.alloc o).alloc (.cells cs 2)) w.heap.size (some ⟨w.heap.size + 1, 0, none⟩) v := by
 subst e
 refine ⟨by omega, .inr ⟨w.heap.size + 1, 0, rfl, by omega, by simp, fun i hi => ?_⟩⟩
 have h := heap_alloc_last (w.alloc o) (.cells cs 2)
 have hz : (w.alloc o).heap.size = w.heap.size + 1 := by simp
 rw [hz] at h
 rw [Nat.zero_add, cell_of_heap h]; exact hc i hi
theorem two_ints (a b : Int) : ∀ i, i < [a, b].length → (#[Value.int .i64 a, Value.int .i64 b] : Array Value)[i]? = some (.int .i64 ([a, b].getD i 0)) := by
 intro i hi
 match i, hi with
 | 0, _ => rfl
 | 1, _ => rfl
theorem one_ints (a : Int) : ∀ i, i < [a].length → (#[Value.int .i64 a] : Array Value)[i]? = some (.int .i64 ([a].getD i 0)) := by
 intro i hi
 match i, hi with
 | 0, _ => rfl
set_option maxHeartbeats 1000000 in
theorem targetsI (t : TermD) (w : World) : Calls Tryz.prog 67 #[.agg #[.int .i64 t.kind, .int .i64 t.a, .int .i64 t.x, .int .i64 t.y]] w fun e w' => ∃ u c, e = .returned (.slice u (tgtD t).length c) ∧ IntsAt w' w.heap.size u (tgtD t) ∧ Below w.heap.size w w' := by
 by_cases h2 : t.kind = 2
 ·have E : tgtD t = [t.x] := by rw [tgtD, if_pos h2]
  rw [E]; clear E
  go_enter Tryz.func67, Tryz.ntmps67
  go_wp2_with fail
  go_ret
  exact ⟨_, _, rfl, ints_lit rfl (by simp) (one_ints t.x), ((Below.refl _ _).alloc (Nat.le_refl _) _).alloc (by simp) _⟩
 by_cases h3 : t.kind = 3
 ·have E : tgtD t = [t.x, t.y] := by rw [tgtD, if_neg h2, if_pos h3]
  rw [E]; clear E
  go_enter Tryz.func67, Tryz.ntmps67
  go_wp2_with fail
  go_ret
  exact ⟨_, _, rfl, ints_lit rfl (by simp) (two_ints t.x t.y), ((Below.refl _ _).alloc (Nat.le_refl _) _).alloc (by simp) _⟩
 ·have E : tgtD t = [] := by rw [tgtD, if_neg h2, if_neg h3]
  rw [E]; clear E
  go_enter Tryz.func67, Tryz.ntmps67
  go_wp2_with fail
  go_ret
  exact ⟨_, _, rfl, ⟨by simp, .inl rfl⟩, (Below.refl _ _).alloc (Nat.le_refl _) _⟩
theorem infoPg : (Tryz.prog.info? 75).map (fun i => (i.zero, i.size, i.bytes)) = some (some (.pointer none), 1, 8) := by kernel_rfl
theorem infoNg : (Tryz.prog.info? 74).map (fun i => (i.zero, i.size, i.bytes)) = some (some (.agg #[.int .i64 0, .slice none 0 0, .slice none 0 0]), 3, 56) := by kernel_rfl
theorem ptr_eql (W : World) (N n a b : Nat) (h : ∀ i, i < n → ∃ cs, W.heap[N + 1 + i]? = some (.cells cs 74 (0, 0))) (ha : a < n) (hb : b < n) :
  (binOp .eql 75 (.pointer (some ⟨N + 1 + a, 0, none⟩)) (.pointer (some ⟨N + 1 + b, 0, none⟩))).run Tryz.prog W = .ok (.bool (decide (a = b))) W := by
 obtain ⟨j, hj, _, hj1, _⟩ := info_parts infoNg
 by_cases e : a = b
 ·subst e
  simp [run_eql_ptr_same W _ Tryz.underlying75 hj]
 ·obtain ⟨ca, h1⟩ := h a ha
  obtain ⟨cb, h2⟩ := h b hb
  rw [run_eql_ptr_other W (a := ⟨N + 1 + a, 0, none⟩) (b := ⟨N + 1 + b, 0, none⟩) Tryz.underlying75 hj (by omega) (by simp) h1 h2]; simp [e]
theorem lit_cell {w : World} {v : Value} {t : TypeId} : ∀ j u, [v][j]? = some u → (w.alloc (.cells #[v] t)).cell? ((⟨w.heap.size, 0, none⟩ : Addr).add j) = some u := by
 intro j u hj
 match j, hj with
 | 0, hj => rw [Addr.add_lit, cell_of_heap (heap_alloc_last _ _)]; simpa using hj
theorem lit_cell_at {w : World} {v : Value} {t : TypeId} {s : Nat} (h : w.heap.size = s) : ∀ j u, [v][j]? = some u → (w.alloc (.cells #[v] t)).cell? ((⟨s, 0, none⟩ : Addr).add j) = some u := by
 subst h; exact lit_cell
theorem own_slice {w : World} {b : Nat} {e : TypeId} {z : Nat} {v : Value} {n : Nat} {xs : List Value} (h : w.ownsRow b e z v n xs) : ∃ a c, v = .slice a n c := by
 rcases h.2 with ⟨rfl, rfl⟩ | ⟨g, cap, cur, rfl, _⟩
 ·exact ⟨_, _, rfl⟩
 ·exact ⟨_, _, rfl⟩
theorem push_gen {w w1 : World} {N n : Nat} {X : Option Nat} {R : Nat → Value} {L : Nat → List Nat} (h0 : Build w N n X R L) (o : Obj) (i k : Nat) (hi : i < n) (hk : k < 2) (v1 : Value) (x : Nat)
  (ho : w1.ownsRow (N + 1 + n) 75 1 v1 ((L (2 * i + k)).length + 1) ((L (2 * i + k)).map (ptrV N) ++ [ptrV N x])) (hg : (w.alloc o).grownBy w1 (R (2 * i + k)).ownBlock)
  (hs : v1.ownBlock = (R (2 * i + k)).ownBlock ∨ ∃ g, v1.ownBlock = some g ∧ (w.alloc o).heap.size ≤ g) :
  w1.cell? ⟨N + 1 + i, 1 + k, none⟩ = some (R (2 * i + k)) ∧ w1.frozen? ⟨N + 1 + i, 1 + k, none⟩ = false ∧ Build (w1.setCell ⟨N + 1 + i, 1 + k, none⟩ v1) N n X (updG R (2 * i + k) v1) (updG L (2 * i + k) (L (2 * i + k) ++ [x])) ∧ Below N w (w1.setCell ⟨N + 1 + i, 1 + k, none⟩ v1) ∧ ∀ g, X = some g → (w1.setCell ⟨N + 1 + i, 1 + k, none⟩ v1).heap[g]? = w.heap[g]? := by
 have hA := h0.keep (agree_alloc w o N)
 have hsz := h0.size
 have hn : w1.heap[N + 1 + i]? = some (.cells #[.int .i64 i, R (2 * i), R (2 * i + 1)] 74 (0, 0)) := (hg.block (N + 1 + i) (by have := hA.size; omega) fun e => by
  have := (own_ge (hA.row (2 * i + k) (by omega)) e.symm).1; omega).trans (hA.node i hi)
 obtain ⟨p1, p2⟩ := push_else hA i k hi hk v1 hg
 refine ⟨?_, froz_of_heap hn, hA.push i k hi hk v1 x ho hg hs, ((Below.refl N w).alloc (by omega) o).trans p1, fun g hX => (p2 g hX).trans (Below.heap_alloc w o g (h0.far g hX).2.1)⟩
 rw [cell_of_heap hn]
 match k, hk with
 | 0, _ => rfl
 | 1, _ => rfl
theorem lead_other {w : World} {N n : Nat} {X : Option Nat} {R : Nat → Value} {L : Nat → List Nat} {b x : Nat} {v1 : Value} {l : List Nat} (h : Build w N n X (updG R (2 * b) v1) (updG L (2 * b) l)) (hx : x < n) (o : Obj) :
  w.cell? ⟨N + 1 + x, 2, none⟩ = some (R (2 * x + 1)) ∧ (w.alloc o).ownsRow (N + 1 + n) 75 1 (R (2 * x + 1)) (L (2 * x + 1)).length ((L (2 * x + 1)).map (ptrV N)) := by
 constructor
 ·rw [cell_of_heap (h.node x hx), upd_other _ _ (show 2 * x + 1 ≠ 2 * b by omega)]; rfl
 ·have hr := (h.keep (agree_alloc w o N)).row (2 * x + 1) (by omega)
  rwa [upd_other _ _ (by omega), upd_other _ _ (by omega)] at hr
theorem lead_cell {w : World} {N n : Nat} {X : Option Nat} {R : Nat → Value} {L : Nat → List Nat} {b x g m q l : Nat} {v1 : Value} {l' : List Nat} (h : Build w N n X (updG R (2 * b) v1) (updG L (2 * b) l')) (hx : x < n)
  (hv : R (2 * x + 1) = .slice (some ⟨g, 0, none⟩) (m + 1) q) (hm : (L (2 * x + 1)).length = m + 1) (hl : (L (2 * x + 1)).getLast? = some l) : w.cell? ⟨g, m, none⟩ = some (.pointer (some ⟨N + 1 + l, 0, none⟩)) := by
 have hr := h.row (2 * x + 1) (by omega)
 rw [upd_other _ _ (by omega), upd_other _ _ (by omega)] at hr
 obtain ⟨a, c, e, p⟩ := own_read hr
 rw [hv] at e
 rcases p with p | ⟨g', p1, _, _, p2⟩
 ·rw [p] at hm; simp at hm
 ·rw [p1] at e
  simp only [Value.slice.injEq, Option.some.injEq, Addr.mk.injEq] at e
  obtain rfl := e.1.1
  have h2 := p2 m (by omega)
  have e2 : (L (2 * x + 1)).getD m 0 = l := by
   rw [List.getLast?_eq_getElem?, hm] at hl
   simp only [Nat.add_sub_cancel] at hl
   simp [List.getD, hl]
  rw [e2] at h2
  exact h2
set_option maxRecDepth 100000 in
set_option maxHeartbeats 4000000 in
theorem leadI (N n : Nat) (X : Option Nat) (R : Nat → Value) (L : Nat → List Nat) (b x : Nat) (w : World) (hb : b < n) (hx : x < n) (hB : Build w N n X R L) (hl : ∀ r, (L r).length ≤ 1000) (hin : ∀ r, ∀ y ∈ L r, y < n) :
  Calls Tryz.prog 68 #[ptrV N b, ptrV N x] w fun e w' => e = .returned (.tuple #[]) ∧ (∃ R', Build w' N n X R' (leadL b x L)) ∧ Below N w w' ∧ ∀ g, X = some g → w'.heap[g]? = w.heap[g]? := by
 obtain ⟨i0, hi, hz0, hz1, hz2⟩ := info_parts infoPg
 have HI : Hid (Tryz.prog.info? 75 = some i0) := hi
 have HZ0 : Hid (i0.zero = some (Value.pointer none)) := hz0
 have HZ1 : Hid (i0.size = 1) := hz1
 have HZ2 : Hid (i0.bytes = 8) := hz2
 clear hi hz0 hz1 hz2
 have hsz := hB.size
 have c1 : w.cell? ⟨N + 1 + b, 1, none⟩ = some (R (2 * b)) := by rw [cell_of_heap (hB.node b hb)]; rfl
 have hl1 := hl (2 * b)
 have hl2 := hl (2 * x + 1)
 have hA := hB.keep (agree_alloc w (.cells #[ptrV N x] 75) N)
 have A1 : Hid ((w.alloc (.cells #[ptrV N x] 75)).ownsRow (N + 1 + n) 75 1 (R (2 * b)) (L (2 * b)).length ((L (2 * b)).map (ptrV N))) := hA.row (2 * b) (by omega)
 have HB : Hid (Build w N n X R L) := hB
 have hzA : Hid (N + 1 + n ≤ (w.alloc (.cells #[ptrV N x] 75)).heap.size) := hA.size
 obtain ⟨a2, q2, hv2, hp2⟩ := own_read (hB.row (2 * x + 1) (by omega))
 have HV : Hid (R (2 * x + 1) = .slice a2 (L (2 * x + 1)).length q2) := hv2
 clear hA hB hv2
 unfold ptrV
 have HIN : Hid (∀ r, ∀ y ∈ L r, y < n) := hin
 clear hin
 rcases hc : (L (2 * x + 1)).getLast? with _ | l
 ·have HC : Hid ((L (2 * x + 1)).getLast? = none) := hc
  have hnil : (L (2 * x + 1)) = [] := by simpa using hc
  have HV0 : Hid (R (2 * x + 1) = .slice a2 0 q2) := (by show _ = _; rw [HV.out, hnil]; rfl)
  clear hnil hc HV hp2
  go_enter Tryz.func68, Tryz.ntmps68
  go_wp2_with (first | (at_builtin; refine wpList_append_sep _ rfl _ _ 69 rfl (N + 1 + n) 75 i0 (.pointer none) 1 8 Tryz.underlying69 HI.out HZ0.out HZ1.out HZ2.out rfl (by decide) (R (2 * b)) (L (2 * b)).length ((L (2 * b)).map (ptrV N)) rfl (by exact A1.out) ⟨w.heap.size, 0, none⟩ 1 1 [ptrV N x] rfl (by simp) (by exact lit_cell) (by simp [Value.oneCell', ptrV]) (by decide) (by unfold maxLen; omega) (by omega) (by exact hzA.out) ?_; intro v1 w1 ho1 hg1 hs1; obtain ⟨u1, k1, hu1⟩ := own_slice ho1; subst hu1; obtain ⟨e1, f1, hP1, hb1, hf1⟩ := push_gen HB.out _ b 0 hb (by decide) _ x (by exact ho1) (by exact hg1) (by exact hs1); have e2 : w1.cell? ⟨N + 1 + b, 1, none⟩ = some (R (2 * b)) := (by exact e1); have f2 : w1.frozen? ⟨N + 1 + b, 1, none⟩ = false := (by exact f1); have HP1 : Hid (Build (w1.setCell ⟨N + 1 + b, 1, none⟩ (.slice u1 ((L (2 * b)).length + 1) k1)) N n X (updG R (2 * b) (.slice u1 ((L (2 * b)).length + 1) k1)) (updG L (2 * b) (L (2 * b) ++ [x]))) := (by exact hP1); have HB1 : Hid (Below N w (w1.setCell ⟨N + 1 + b, 1, none⟩ (.slice u1 ((L (2 * b)).length + 1) k1))) := (by exact hb1); have HF1 : Hid (∀ g, X = some g → (w1.setCell ⟨N + 1 + b, 1, none⟩ (.slice u1 ((L (2 * b)).length + 1) k1)).heap[g]? = w.heap[g]?) := (by exact hf1); have c2 : (w1.setCell ⟨N + 1 + b, 1, none⟩ (.slice u1 ((L (2 * b)).length + 1) k1)).cell? ⟨N + 1 + x, 2, none⟩ = some (.slice a2 0 q2) := (by rw [← HV0.out]; exact (lead_other HP1.out hx (.cells #[] 0)).1); have A2 : Hid (((w1.setCell ⟨N + 1 + b, 1, none⟩ (.slice u1 ((L (2 * b)).length + 1) k1)).alloc (.cells #[ptrV N b] 75)).ownsRow (N + 1 + n) 75 1 (.slice a2 0 q2) (L (2 * x + 1)).length ((L (2 * x + 1)).map (ptrV N))) := (by have h := (lead_other HP1.out hx (.cells #[ptrV N b] 75)).2; rw [HV0.out] at h; exact h);  clear ho1 hg1 hs1 e1 f1 hP1 hb1 hf1 A1 hzA) | (at_builtin; refine wpList_append_sep _ rfl _ _ 69 rfl (N + 1 + n) 75 i0 (.pointer none) 1 8 Tryz.underlying69 HI.out HZ0.out HZ1.out HZ2.out rfl (by decide) (.slice a2 0 q2) (L (2 * x + 1)).length ((L (2 * x + 1)).map (ptrV N)) rfl (by exact A2.out) ⟨w1.heap.size, 0, none⟩ 1 1 [ptrV N b] rfl (by simp) (by exact lit_cell_at (by simp [World.setCell])) (by simp [Value.oneCell', ptrV]) (by decide) (by unfold maxLen; omega) (by omega) (by exact Nat.le_trans HP1.out.size (by simp)) ?_; intro v3 w3 ho3 hg3 hs3; obtain ⟨u3, k3, hu3⟩ := own_slice ho3; subst hu3; obtain ⟨e3, f3, hP3, hb3, hf3⟩ := push_gen HP1.out _ x 1 hx (by decide) _ b (by rw [upd_other _ _ (by omega)]; exact ho3) (by rw [upd_other _ _ (by omega), HV0.out]; exact hg3) (by rw [upd_other _ _ (by omega), HV0.out]; exact hs3); have e4 : w3.cell? ⟨N + 1 + x, 2, none⟩ = some (.slice a2 0 q2) := (by rw [← HV0.out]; refine Eq.trans (by exact e3) ?_; rw [upd_other _ _ (by omega)]); have f4 : w3.frozen? ⟨N + 1 + x, 2, none⟩ = false := (by exact f3); have HP3 : Hid _ := hP3; have HB3 : Hid _ := hb3; have HF3 : Hid _ := hf3; clear ho3 hg3 hs3 e3 f3 hP3 hb3 hf3 A2))
  go_end0
  refine ⟨rfl, ?_, HB1.out.trans HB3.out, fun g hg => (HF3.out g hg).trans (HF1.out g hg)⟩
  have h := HP3.out
  rw [upd_other L _ (show 2 * x + 1 ≠ 2 * b by omega)] at h
  rw [leadL, if_neg (by rw [HC.out]; simp)]
  exact ⟨_, h⟩
 ·have HC : Hid ((L (2 * x + 1)).getLast? = some l) := hc
  obtain ⟨m, hm⟩ : ∃ m, (L (2 * x + 1)).length = m + 1 := by
   cases hq : L (2 * x + 1) with
   | nil => rw [hq] at hc; simp at hc
   | cons y r => exact ⟨r.length, by simp⟩
  obtain ⟨g2, rfl⟩ : ∃ g2, a2 = some ⟨g2, 0, none⟩ := by
   rcases hp2 with p | ⟨g, p, _⟩
   ·rw [p] at hm; simp at hm
   ·exact ⟨g, p⟩
  have HV0 : Hid (R (2 * x + 1) = .slice (some ⟨g2, 0, none⟩) (m + 1) q2) := (by show _ = _; rw [HV.out, hm])
  have HM : Hid ((L (2 * x + 1)).length = m + 1) := hm
  have hmb : m < 1000 := by omega
  have hln : l < n := HIN.out _ l (List.mem_of_getLast? HC.out)
  clear hc HV hp2
  by_cases hlb : l = b
  ·subst hlb
   clear hm
   go_enter Tryz.func68, Tryz.ntmps68
   go_wp2_with (first | (at_builtin; refine wpList_append_sep _ rfl _ _ 69 rfl (N + 1 + n) 75 i0 (.pointer none) 1 8 Tryz.underlying69 HI.out HZ0.out HZ1.out HZ2.out rfl (by decide) (R (2 * l)) (L (2 * l)).length ((L (2 * l)).map (ptrV N)) rfl (by exact A1.out) ⟨w.heap.size, 0, none⟩ 1 1 [ptrV N x] rfl (by simp) (by exact lit_cell) (by simp [Value.oneCell', ptrV]) (by decide) (by unfold maxLen; omega) (by omega) (by exact hzA.out) ?_; intro v1 w1 ho1 hg1 hs1; obtain ⟨u1, k1, hu1⟩ := own_slice ho1; subst hu1; obtain ⟨e1, f1, hP1, hb1, hf1⟩ := push_gen HB.out _ l 0 hb (by decide) _ x (by exact ho1) (by exact hg1) (by exact hs1); have e2 : w1.cell? ⟨N + 1 + l, 1, none⟩ = some (R (2 * l)) := (by exact e1); have f2 : w1.frozen? ⟨N + 1 + l, 1, none⟩ = false := (by exact f1); have HP1 : Hid (Build (w1.setCell ⟨N + 1 + l, 1, none⟩ (.slice u1 ((L (2 * l)).length + 1) k1)) N n X (updG R (2 * l) (.slice u1 ((L (2 * l)).length + 1) k1)) (updG L (2 * l) (L (2 * l) ++ [x]))) := (by exact hP1); have HB1 : Hid (Below N w (w1.setCell ⟨N + 1 + l, 1, none⟩ (.slice u1 ((L (2 * l)).length + 1) k1))) := (by exact hb1); have HF1 : Hid (∀ g, X = some g → (w1.setCell ⟨N + 1 + l, 1, none⟩ (.slice u1 ((L (2 * l)).length + 1) k1)).heap[g]? = w.heap[g]?) := (by exact hf1); have c2 : (w1.setCell ⟨N + 1 + l, 1, none⟩ (.slice u1 ((L (2 * l)).length + 1) k1)).cell? ⟨N + 1 + x, 2, none⟩ = some (.slice (some ⟨g2, 0, none⟩) (m + 1) q2) := (by rw [← HV0.out]; exact (lead_other HP1.out hx (.cells #[] 0)).1); have A2 : Hid (((w1.setCell ⟨N + 1 + l, 1, none⟩ (.slice u1 ((L (2 * l)).length + 1) k1)).alloc (.cells #[ptrV N l] 75)).ownsRow (N + 1 + n) 75 1 (.slice (some ⟨g2, 0, none⟩) (m + 1) q2) (L (2 * x + 1)).length ((L (2 * x + 1)).map (ptrV N))) := (by have h := (lead_other HP1.out hx (.cells #[ptrV N l] 75)).2; rw [HV0.out] at h; exact h); have c3 := lead_cell HP1.out hx HV0.out HM.out HC.out; have c4 := ptr_eql _ N n l l (fun i hi => ⟨_, HP1.out.node i hi⟩) hln hb; rw [decide_eq_true rfl] at c4; clear ho1 hg1 hs1 e1 f1 hP1 hb1 hf1 A1 hzA))
   refine bodyPost_ret (results_none rfl _ _ _) rfl ?_
   refine ⟨rfl, ?_, HB1.out, HF1.out⟩
   rw [leadL, if_pos HC.out]
   exact ⟨_, HP1.out⟩
  ·clear hm
   go_enter Tryz.func68, Tryz.ntmps68
   go_wp2_with (first | (at_builtin; refine wpList_append_sep _ rfl _ _ 69 rfl (N + 1 + n) 75 i0 (.pointer none) 1 8 Tryz.underlying69 HI.out HZ0.out HZ1.out HZ2.out rfl (by decide) (R (2 * b)) (L (2 * b)).length ((L (2 * b)).map (ptrV N)) rfl (by exact A1.out) ⟨w.heap.size, 0, none⟩ 1 1 [ptrV N x] rfl (by simp) (by exact lit_cell) (by simp [Value.oneCell', ptrV]) (by decide) (by unfold maxLen; omega) (by omega) (by exact hzA.out) ?_; intro v1 w1 ho1 hg1 hs1; obtain ⟨u1, k1, hu1⟩ := own_slice ho1; subst hu1; obtain ⟨e1, f1, hP1, hb1, hf1⟩ := push_gen HB.out _ b 0 hb (by decide) _ x (by exact ho1) (by exact hg1) (by exact hs1); have e2 : w1.cell? ⟨N + 1 + b, 1, none⟩ = some (R (2 * b)) := (by exact e1); have f2 : w1.frozen? ⟨N + 1 + b, 1, none⟩ = false := (by exact f1); have HP1 : Hid (Build (w1.setCell ⟨N + 1 + b, 1, none⟩ (.slice u1 ((L (2 * b)).length + 1) k1)) N n X (updG R (2 * b) (.slice u1 ((L (2 * b)).length + 1) k1)) (updG L (2 * b) (L (2 * b) ++ [x]))) := (by exact hP1); have HB1 : Hid (Below N w (w1.setCell ⟨N + 1 + b, 1, none⟩ (.slice u1 ((L (2 * b)).length + 1) k1))) := (by exact hb1); have HF1 : Hid (∀ g, X = some g → (w1.setCell ⟨N + 1 + b, 1, none⟩ (.slice u1 ((L (2 * b)).length + 1) k1)).heap[g]? = w.heap[g]?) := (by exact hf1); have c2 : (w1.setCell ⟨N + 1 + b, 1, none⟩ (.slice u1 ((L (2 * b)).length + 1) k1)).cell? ⟨N + 1 + x, 2, none⟩ = some (.slice (some ⟨g2, 0, none⟩) (m + 1) q2) := (by rw [← HV0.out]; exact (lead_other HP1.out hx (.cells #[] 0)).1); have A2 : Hid (((w1.setCell ⟨N + 1 + b, 1, none⟩ (.slice u1 ((L (2 * b)).length + 1) k1)).alloc (.cells #[ptrV N b] 75)).ownsRow (N + 1 + n) 75 1 (.slice (some ⟨g2, 0, none⟩) (m + 1) q2) (L (2 * x + 1)).length ((L (2 * x + 1)).map (ptrV N))) := (by have h := (lead_other HP1.out hx (.cells #[ptrV N b] 75)).2; rw [HV0.out] at h; exact h); have c3 := lead_cell HP1.out hx HV0.out HM.out HC.out; have c4 := ptr_eql _ N n l b (fun i hi => ⟨_, HP1.out.node i hi⟩) hln hb; rw [decide_eq_false hlb] at c4; clear ho1 hg1 hs1 e1 f1 hP1 hb1 hf1 A1 hzA) | (at_builtin; refine wpList_append_sep _ rfl _ _ 69 rfl (N + 1 + n) 75 i0 (.pointer none) 1 8 Tryz.underlying69 HI.out HZ0.out HZ1.out HZ2.out rfl (by decide) (.slice (some ⟨g2, 0, none⟩) (m + 1) q2) (L (2 * x + 1)).length ((L (2 * x + 1)).map (ptrV N)) rfl (by exact A2.out) ⟨w1.heap.size, 0, none⟩ 1 1 [ptrV N b] rfl (by simp) (by exact lit_cell_at (by simp [World.setCell])) (by simp [Value.oneCell', ptrV]) (by decide) (by unfold maxLen; omega) (by omega) (by exact Nat.le_trans HP1.out.size (by simp)) ?_; intro v3 w3 ho3 hg3 hs3; obtain ⟨u3, k3, hu3⟩ := own_slice ho3; subst hu3; obtain ⟨e3, f3, hP3, hb3, hf3⟩ := push_gen HP1.out _ x 1 hx (by decide) _ b (by rw [upd_other _ _ (by omega)]; exact ho3) (by rw [upd_other _ _ (by omega), HV0.out]; exact hg3) (by rw [upd_other _ _ (by omega), HV0.out]; exact hs3); have e4 : w3.cell? ⟨N + 1 + x, 2, none⟩ = some (.slice (some ⟨g2, 0, none⟩) (m + 1) q2) := (by rw [← HV0.out]; refine Eq.trans (by exact e3) ?_; rw [upd_other _ _ (by omega)]); have f4 : w3.frozen? ⟨N + 1 + x, 2, none⟩ = false := (by exact f3); have HP3 : Hid _ := hP3; have HB3 : Hid _ := hb3; have HF3 : Hid _ := hf3; clear ho3 hg3 hs3 e3 f3 hP3 hb3 hf3 A2))
   go_end0
   refine ⟨rfl, ?_, HB1.out.trans HB3.out, fun g hg => (HF3.out g hg).trans (HF1.out g hg)⟩
   have h := HP3.out
   rw [upd_other L _ (show 2 * x + 1 ≠ 2 * b by omega)] at h
   rw [leadL, if_neg (by rw [HC.out]; intro q; cases q; exact hlb rfl)]
   exact ⟨_, h⟩
end Go.Proofs.YtgojlnclpebdcaaGreatDoor
