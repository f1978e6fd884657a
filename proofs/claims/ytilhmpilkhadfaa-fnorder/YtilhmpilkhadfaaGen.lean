/- The drawn graph: blocks with an end alone. -/
import Derived.Test.YtilhmpilkhadfaaLawA
import Derived.Test.YtilhmpilkhadfaaOwn
import Derived.Test.YtilhmpilkhadfaaSuc
import Derived.Deep.RegionWith
import Derived.BigRegion
namespace Go.Proofs.Ytilhmpilkhadfaa
open Go.RowKit

def tc (t : TermD) : List Value := [.slice none 0 0, .slice none 0 0, .int .i64 t.kind, .int .i64 t.a, .int .i64 t.x, .int .i64 t.y]
def rowsT : List TermD → List Value
  | [] => []
  | t :: r => tc t ++ rowsT r
theorem rowsT_snoc (ts : List TermD) (t : TermD) : rowsT (ts ++ [t]) = rowsT ts ++ tc t := by
  induction ts with
  | nil => simp [rowsT]
  | cons a r ih => simp [rowsT, ih]
theorem rowsT_len (ts : List TermD) : (rowsT ts).length = ts.length * 6 := by
  induction ts with
  | nil => rfl
  | cons a r ih => simp [rowsT, tc, ih]; omega
theorem rowsT_at (ts : List TermD) (i j : Nat) (hi : i < ts.length) (hj : j < 6) : (rowsT ts)[i * 6 + j]? = (tc (ts.getD i term0))[j]? := by
  induction ts generalizing i with
  | nil => simp at hi
  | cons a r ih =>
    cases i with
    | zero =>
      show (tc a ++ rowsT r)[0 * 6 + j]? = _
      rw [List.getElem?_append_left (by simp [tc]; omega)]
      simp
    | succ i =>
      show (tc a ++ rowsT r)[(i + 1) * 6 + j]? = _
      rw [List.getElem?_append_right (by simp [tc]; omega), show (i + 1) * 6 + j - (tc a).length = i * 6 + j by simp [tc]; omega, ih i (by simpa using hi)]
      simp
/-- Blocks with an end alone. -/
def bare (ts : List TermD) : List BlockD := ts.map fun t => ⟨[], [], t⟩
theorem bare_len (ts : List TermD) : (bare ts).length = ts.length := by simp [bare]
theorem bare_at (ts : List TermD) (i : Nat) (h : i < ts.length) : (bare ts).getD i block0 = ⟨[], [], ts.getD i term0⟩ := by simp [bare, List.getD, h]
theorem bare_sm (ts : List TermD) (h : ts.length ≤ 1000) (p : List Int) (r : Int) (hp : p.length ≤ 1048576) : SmFunc ⟨p, r, bare ts⟩ := by
  refine ⟨hp, by rw [bare_len]; omega, fun d hd => ?_⟩
  unfold bare at hd
  obtain ⟨t, _, rfl⟩ := List.mem_map.1 hd
  exact ⟨⟨by simp, fun p hp => by cases hp⟩, ⟨by simp, fun p hp => by cases hp⟩⟩
theorem lit6 {w : World} {t : TypeId} {x : TermD} : ∀ j u, (tc x)[j]? = some u → (w.alloc (.cells #[.slice none 0 0, .slice none 0 0, .int .i64 x.kind, .int .i64 x.a, .int .i64 x.x, .int .i64 x.y] t)).cell? ((⟨w.heap.size, 0, none⟩ : Addr).add j) = some u := by
  intro j u hj
  rw [Addr.add_lit, cell_of_heap (heap_alloc_last _ _)]
  rw [Nat.zero_add]
  rw [← hj]
  rcases j with _ | _ | _ | _ | _ | _ | j <;> rfl
theorem lit6_at {w : World} {t : TypeId} {x : TermD} {s : Nat} (h : w.heap.size = s) : ∀ j u, (tc x)[j]? = some u → (w.alloc (.cells #[.slice none 0 0, .slice none 0 0, .int .i64 x.kind, .int .i64 x.a, .int .i64 x.x, .int .i64 x.y] t)).cell? ((⟨s, 0, none⟩ : Addr).add j) = some u := by
  subst h; exact lit6
theorem blocks_of {w : World} {lo g n : Nat} {cur : Array Value} {ts : List TermD} (hn : n = ts.length) (hl : ts.length ≤ 1000) (hlo : lo ≤ g) (hb : w.heap[g]? = some (.cells cur 82 (0, 0))) (hc : cur.toList.take (n * 6) = rowsT ts) : BlocksAt w lo (some ⟨g, 0, none⟩) (bare ts) := by
  subst hn
  refine ⟨by rw [bare_len]; omega, .inr ⟨g, 0, rfl, hlo, (Array.getElem?_eq_some_iff.1 hb).1, fun i hi => ?_⟩⟩
  rw [bare_len] at hi
  rw [bare_at ts i hi]
  have hcell : ∀ j, j < 6 → w.cell? ⟨g, 0 + i * 6 + j, none⟩ = (tc (ts.getD i term0))[j]? := fun j hj => by
    rw [cell_of_heap hb, ← rowsT_at ts i j hi hj, ← hc, List.getElem?_take, if_pos (by omega)]
    simp
  refine ⟨⟨none, 0, (hcell 0 (by omega)).trans rfl, by simp, .inl rfl⟩, ⟨none, 0, (hcell 1 (by omega)).trans rfl, by simp, .inl rfl⟩, (hcell 2 (by omega)).trans rfl, (hcell 3 (by omega)).trans rfl, (hcell 4 (by omega)).trans rfl, (hcell 5 (by omega)).trans rfl⟩
theorem grown_heap {w w' : World} {g q : Nat} {o : Obj} (k : w.grownBy w' (some g)) (h : w.heap[q]? = some o) (hq : q ≠ g) : w'.heap[q]? = some o :=
  (k.block q (Array.getElem?_eq_some_iff.1 h).1 (by simp; omega)).trans h
theorem own_nonempty {w : World} {base n : Nat} {v : Value} {ts : List TermD} (h : w.ownsRow base 82 6 v n (rowsT ts)) (hn : 0 < n) : ∃ q c cur, v = .slice (some ⟨q, 0, none⟩) n c ∧ base ≤ q ∧ w.heap[q]? = some (.cells cur 82 (0, 0)) ∧ cur.toList.take (n * 6) = rowsT ts := by
  rcases h.2 with ⟨_, h0⟩ | ⟨q, cap, cur, hv, hb, hg, _, _, _, htk⟩
  · omega
  · exact ⟨q, cap, cur, hv, hb, hg, htk⟩
theorem infoK : (Try.prog.info? 82).map (fun i => (i.zero, i.size, i.bytes)) = some (some (.agg #[.slice none 0 0, .slice none 0 0, .int .i64 0, .int .i64 0, .int .i64 0, .int .i64 0]), 6, 80) := by kernel_rfl

/-- While a graph is drawn: the reader, the cells of the function, of the end, and the blocks so far. -/
structure Gst (w : World) (g tb : Nat) (a0 : Option Addr) (len cap : Nat) (ts : List TermD) (st : Value) (v : World) : Prop where
  rd : Rd g a0 len cap v
  f : v.heap[w.heap.size + 1]? = some (.cells #[.slice none 0 0, .int .i64 8, st] 27 (0, 0))
  r : v.heap[w.heap.size]? = some (.cells #[.slice none 0 0, .int .i64 0, .slice none 0 0] 27 (0, 0))
  t : v.heap[tb]? = some (.cells #[.int .i64 4, .int .i64 0, .int .i64 0, .int .i64 0] 78 (0, 0))
  o : v.ownsRow (w.heap.size + 2) 82 6 st ts.length (rowsT ts)
  q : ∀ k, st.ownBlock = some k → k < tb
  gr : w.grownBy v (some g)
  hg : g < w.heap.size
  ht : w.heap.size + 2 ≤ tb
theorem Gst.next {w : World} {g tb : Nat} {a0 : Option Addr} {len cap : Nat} {ts : List TermD} {st : Value} {v v' : World} (h : Gst w g tb a0 len cap ts st v) (hr : Rd g a0 len cap v') (k : v.grownBy v' (some g)) : Gst w g tb a0 len cap ts st v' :=
  have h1 := h.hg
  have h2 := h.ht
  ⟨hr, grown_heap k h.f (by omega), grown_heap k h.r (by omega), grown_heap k h.t (by omega), h.o.kept k (by
    cases hb : st.ownBlock with
    | none => exact .inl rfl
    | some q => exact .inr (by have := (own_ge h.o hb).1; simp; omega)), h.q, grown_trans h.gr k, h1, h2⟩
theorem Gst.start {w : World} {g : Nat} {a0 : Option Addr} {len cap : Nat} {ts : List TermD} {st : Value} {v : World} (hrd : Rd g a0 len cap v) (hf : v.heap[w.heap.size + 1]? = some (.cells #[.slice none 0 0, .int .i64 8, st] 27 (0, 0))) (hr : v.heap[w.heap.size]? = some (.cells #[.slice none 0 0, .int .i64 0, .slice none 0 0] 27 (0, 0))) (ho : v.ownsRow (w.heap.size + 2) 82 6 st ts.length (rowsT ts)) (hgr : w.grownBy v (some g)) (hg : g < w.heap.size) (hz : w.heap.size + 2 ≤ v.heap.size) :
    Gst w g v.heap.size a0 len cap ts st (v.alloc (.cells #[.int .i64 4, .int .i64 0, .int .i64 0, .int .i64 0] 78)) :=
  ⟨hrd.alloc _, (Below.heap_alloc _ _ _ (by omega)).trans hf, (Below.heap_alloc _ _ _ (by omega)).trans hr, heap_alloc_last _ _, ho.alloc _, fun k hk => (own_ge ho hk).2, grown_trans hgr (World.grownBy_alloc _ _ _), hg, hz⟩
/-- The cells of the end, of the blocks' slice. -/
theorem Gst.cells {w : World} {g tb : Nat} {a0 : Option Addr} {len cap : Nat} {ts : List TermD} {st : Value} {v : World} (h : Gst w g tb a0 len cap ts st v) :
    (v.cell? ⟨tb, 0, none⟩ = some (.int .i64 4) ∧ v.cell? ⟨tb, 1, none⟩ = some (.int .i64 0) ∧ v.cell? ⟨tb, 2, none⟩ = some (.int .i64 0) ∧ v.cell? ⟨tb, 3, none⟩ = some (.int .i64 0)) ∧ (∀ k, v.frozen? ⟨tb, k, none⟩ = false) ∧ v.cell? ⟨w.heap.size + 1, 2, none⟩ = some st ∧ v.frozen? ⟨w.heap.size + 1, 2, none⟩ = false :=
  ⟨⟨(cell_of_heap h.t).trans rfl, (cell_of_heap h.t).trans rfl, (cell_of_heap h.t).trans rfl, (cell_of_heap h.t).trans rfl⟩, fun _ => froz_of_heap h.t, (cell_of_heap h.f).trans rfl, froz_of_heap h.f⟩

theorem Rd.keep' {g : Nat} {a0 : Option Addr} {len cap : Nat} {w w' : World} (h : Rd g a0 len cap w) (hz : w.heap.size ≤ w'.heap.size) (hk : ∀ b : Nat, b ≤ g → w'.heap[b]? = w.heap[b]?) : Rd g a0 len cap w' := by
  obtain ⟨hg, hl, hc, p, hp, hb⟩ := h
  refine ⟨by omega, hl, ?_, p, hp, by rw [hk g (Nat.le_refl _)]; exact hb⟩
  rcases hc with h | ⟨b, off, ha, hb, hc⟩
  · exact .inl h
  · refine .inr ⟨b, off, ha, hb, fun i hi => ?_⟩
    obtain ⟨n, h0, h1, h2⟩ := hc i hi
    exact ⟨n, h0, h1, by rw [cell_block (hk b (by omega))]; exact h2⟩
/-- The same without the end. -/
structure Gs2 (w : World) (g : Nat) (a0 : Option Addr) (len cap : Nat) (ts : List TermD) (st : Value) (v : World) : Prop where
  rd : Rd g a0 len cap v
  f : v.heap[w.heap.size + 1]? = some (.cells #[.slice none 0 0, .int .i64 8, st] 27 (0, 0))
  r : v.heap[w.heap.size]? = some (.cells #[.slice none 0 0, .int .i64 0, .slice none 0 0] 27 (0, 0))
  o : v.ownsRow (w.heap.size + 2) 82 6 st ts.length (rowsT ts)
  gr : w.grownBy v (some g)
  hg : g < w.heap.size
  hz : w.heap.size + 2 ≤ v.heap.size
/-- What changes above all that matters. -/
theorem Gs2.keep {w : World} {g : Nat} {a0 : Option Addr} {len cap : Nat} {ts : List TermD} {st : Value} {v v' : World} (h : Gs2 w g a0 len cap ts st v) (e1 : v'.os = v.os) (e2 : v'.tape = v.tape) (e3 : v'.output = v.output) (hz : v.heap.size ≤ v'.heap.size) (hk : ∀ b : Nat, b < w.heap.size + 2 → v'.heap[b]? = v.heap[b]?) (hq : ∀ q, st.ownBlock = some q → v'.heap[q]? = v.heap[q]?) : Gs2 w g a0 len cap ts st v' :=
  have h1 := h.hg
  ⟨h.rd.keep' hz fun b hb => hk b (by omega), (hk _ (by omega)).trans h.f, (hk _ (by omega)).trans h.r, ownsRow_block h.o fun q hq' _ => hq q hq', ⟨e1.trans h.gr.os, e2.trans h.gr.tape, e3.trans h.gr.output, Nat.le_trans h.gr.size hz, fun i hi hn => (hk i (by omega)).trans (h.gr.block i hi hn)⟩, h1, Nat.le_trans h.hz hz⟩
theorem Gst.drop {w : World} {g tb : Nat} {a0 : Option Addr} {len cap : Nat} {ts : List TermD} {st : Value} {v : World} (h : Gst w g tb a0 len cap ts st v) : Gs2 w g a0 len cap ts st v :=
  ⟨h.rd, h.f, h.r, h.o, h.gr, h.hg, by have := (Array.getElem?_eq_some_iff.1 h.t).1; have := h.ht; omega⟩
theorem Gs2.set {w : World} {g : Nat} {a0 : Option Addr} {len cap : Nat} {ts : List TermD} {st : Value} {v : World} (h : Gs2 w g a0 len cap ts st v) {tb : Nat} (ht : w.heap.size + 2 ≤ tb) (hq : ∀ k, st.ownBlock = some k → k < tb) (o : Nat) (x : Value) : Gs2 w g a0 len cap ts st (v.setCell ⟨tb, o, none⟩ x) :=
  h.keep rfl rfl rfl (by simp [World.setCell]) (fun b hb => Below.heap_setCell _ _ _ _ (by show b ≠ tb; omega)) (fun q hq' => Below.heap_setCell _ _ _ _ (by show q ≠ tb; have := hq q hq'; omega))
theorem Gst.set4 {w : World} {g tb : Nat} {a0 : Option Addr} {len cap : Nat} {ts : List TermD} {st : Value} {v : World} (h : Gst w g tb a0 len cap ts st v) (x0 x1 x2 x3 : Value) : Gs2 w g a0 len cap ts st ((((v.setCell ⟨tb, 0, none⟩ x0).setCell ⟨tb, 1, none⟩ x1).setCell ⟨tb, 2, none⟩ x2).setCell ⟨tb, 3, none⟩ x3) :=
  (((h.drop.set h.ht h.q 0 x0).set h.ht h.q 1 x1).set h.ht h.q 2 x2).set h.ht h.q 3 x3
/-- One block more. -/
theorem Gs2.push {w : World} {g : Nat} {a0 : Option Addr} {len cap : Nat} {ts : List TermD} {st : Value} {v : World} (h : Gs2 w g a0 len cap ts st v) (o : Obj) (t : TermD) {w5 : World} {v5 : Value} (ho : w5.ownsRow (w.heap.size + 2) 82 6 v5 (ts.length + 1) (rowsT ts ++ tc t)) (hg : (v.alloc o).grownBy w5 st.ownBlock) :
    Gs2 w g a0 len cap (ts ++ [t]) v5 (w5.setCell ⟨w.heap.size + 1, 2, none⟩ v5) := by
  have h1 := h.hg
  have h2 := h.hz
  have hz5 : v.heap.size + 1 ≤ w5.heap.size := by have := hg.size; simpa using this
  have hb : ∀ b : Nat, b < w.heap.size + 2 → w5.heap[b]? = v.heap[b]? := fun b hb => (hg.block b (by simp; omega) (fun e => by have := (own_ge h.o e.symm).1; omega)).trans (Below.heap_alloc _ _ _ (by omega))
  have hf : (w5.setCell ⟨w.heap.size + 1, 2, none⟩ v5).heap[w.heap.size + 1]? = some (.cells #[.slice none 0 0, .int .i64 8, v5] 27 (0, 0)) := (heap_set ((hb _ (by omega)).trans h.f)).trans rfl
  have hs : ∀ b : Nat, b ≠ w.heap.size + 1 → (w5.setCell ⟨w.heap.size + 1, 2, none⟩ v5).heap[b]? = w5.heap[b]? := fun b hb => Below.heap_setCell _ _ _ _ hb
  refine ⟨h.rd.keep' (by simp [World.setCell]; omega) fun b hb' => (hs b (by omega)).trans (hb b (by omega)), hf, (hs _ (by omega)).trans ((hb _ (by omega)).trans h.r), ?_, ⟨hg.os.trans h.gr.os, hg.tape.trans h.gr.tape, hg.output.trans h.gr.output, by simp [World.setCell]; omega, fun i hi hn => (hs i (by omega)).trans ((hb i (by omega)).trans (h.gr.block i hi hn))⟩, h1, by simp [World.setCell]; omega⟩
  rw [rowsT_snoc, List.length_append]
  exact ownsRow_block ho fun q hq _ => hs q (by have := (own_ge ho hq).1; omega)

theorem Gs2.next {w : World} {g : Nat} {a0 : Option Addr} {len cap : Nat} {ts : List TermD} {st : Value} {v v' : World} (h : Gs2 w g a0 len cap ts st v) (hr : Rd g a0 len cap v') (k : v.grownBy v' (some g)) : Gs2 w g a0 len cap ts st v' :=
  have h1 := h.hg
  ⟨hr, grown_heap k h.f (by omega), grown_heap k h.r (by omega), h.o.kept k (by
    cases hb : st.ownBlock with
    | none => exact .inl rfl
    | some q => exact .inr (by have := (own_ge h.o hb).1; simp; omega)), grown_trans h.gr k, h1, Nat.le_trans h.hz k.size⟩
theorem Gs2.cells {w : World} {g : Nat} {a0 : Option Addr} {len cap : Nat} {ts : List TermD} {st : Value} {v : World} (h : Gs2 w g a0 len cap ts st v) :
    (v.cell? ⟨w.heap.size + 1, 0, none⟩ = some (.slice none 0 0) ∧ v.cell? ⟨w.heap.size + 1, 1, none⟩ = some (.int .i64 8) ∧ v.cell? ⟨w.heap.size + 1, 2, none⟩ = some st) ∧ (v.cell? ⟨w.heap.size, 0, none⟩ = some (.slice none 0 0) ∧ v.cell? ⟨w.heap.size, 1, none⟩ = some (.int .i64 0) ∧ v.cell? ⟨w.heap.size, 2, none⟩ = some (.slice none 0 0)) ∧ ∀ k, v.frozen? ⟨w.heap.size, k, none⟩ = false :=
  ⟨⟨(cell_of_heap h.f).trans rfl, (cell_of_heap h.f).trans rfl, (cell_of_heap h.f).trans rfl⟩, ⟨(cell_of_heap h.r).trans rfl, (cell_of_heap h.r).trans rfl, (cell_of_heap h.r).trans rfl⟩, fun _ => froz_of_heap h.r⟩
/-- The answer's cell, written. -/
theorem Gs2.done {w : World} {g : Nat} {a0 : Option Addr} {len cap : Nat} {ts : List TermD} {st : Value} {v : World} (h : Gs2 w g a0 len cap ts st v) (ts' : List TermD) (u : Option Addr) (n c : Nat) (hb : BlocksAt v (w.heap.size + 2) u (bare ts')) :
    ((((v.setCell ⟨w.heap.size, 0, none⟩ (.slice none 0 0)).setCell ⟨w.heap.size, 1, none⟩ (.int .i64 8)).setCell ⟨w.heap.size, 2, none⟩ (.slice u n c)).heap[w.heap.size]? = some (.cells #[.slice none 0 0, .int .i64 8, .slice u n c] 27 (0, 0))) ∧ BlocksAt (((v.setCell ⟨w.heap.size, 0, none⟩ (.slice none 0 0)).setCell ⟨w.heap.size, 1, none⟩ (.int .i64 8)).setCell ⟨w.heap.size, 2, none⟩ (.slice u n c)) w.heap.size u (bare ts') ∧ Rd g a0 len cap (((v.setCell ⟨w.heap.size, 0, none⟩ (.slice none 0 0)).setCell ⟨w.heap.size, 1, none⟩ (.int .i64 8)).setCell ⟨w.heap.size, 2, none⟩ (.slice u n c)) ∧ w.grownBy (((v.setCell ⟨w.heap.size, 0, none⟩ (.slice none 0 0)).setCell ⟨w.heap.size, 1, none⟩ (.int .i64 8)).setCell ⟨w.heap.size, 2, none⟩ (.slice u n c)) (some g) := by
  have h1 := h.hg
  have hk : ∀ b : Nat, b ≠ w.heap.size → (((v.setCell ⟨w.heap.size, 0, none⟩ (.slice none 0 0)).setCell ⟨w.heap.size, 1, none⟩ (.int .i64 8)).setCell ⟨w.heap.size, 2, none⟩ (.slice u n c)).heap[b]? = v.heap[b]? := fun b hb => (Below.heap_setCell _ _ _ _ hb).trans ((Below.heap_setCell _ _ _ _ hb).trans (Below.heap_setCell _ _ _ _ hb))
  have hz : (((v.setCell ⟨w.heap.size, 0, none⟩ (.slice none 0 0)).setCell ⟨w.heap.size, 1, none⟩ (.int .i64 8)).setCell ⟨w.heap.size, 2, none⟩ (.slice u n c)).heap.size = v.heap.size := by simp
  refine ⟨(heap_set (heap_set (heap_set h.r))).trans rfl, (hb.keep ⟨by rw [hz]; exact Nat.le_refl _, fun b hb' _ => hk b (by omega)⟩).low (by omega), h.rd.keep' (by rw [hz]; exact Nat.le_refl _) (fun b hb' => hk b (by omega)), ⟨h.gr.os, h.gr.tape, h.gr.output, by rw [hz]; exact h.gr.size, fun i hi hn => (hk i (by omega)).trans (h.gr.block i hi hn)⟩⟩
/-- The first end, with another place. -/
theorem rowsT_set (t : TermD) (r : List TermD) (x : Int) : (rowsT (t :: r)).set 4 (.int .i64 x) = rowsT (⟨t.kind, t.a, x, t.y⟩ :: r) := by
  simp [rowsT, tc]

theorem Gs2.turn {w : World} {g : Nat} {a0 : Option Addr} {len cap q c : Nat} {t : TermD} {r : List TermD} {n : Nat} {v : World} (h : Gs2 w g a0 len cap (t :: r) (.slice (some ⟨q, 0, none⟩) n c) v) (y : Int) :
    v.cell? ⟨q, 4, none⟩ = some (.int .i64 t.x) ∧ v.frozen? ⟨q, 4, none⟩ = false ∧ Gs2 w g a0 len cap (⟨t.kind, t.a, y, t.y⟩ :: r) (.slice (some ⟨q, 0, none⟩) n c) (v.setCell ⟨q, 4, none⟩ (.int .i64 y)) := by
  have h1 := h.hg
  have h2 := h.hz
  obtain ⟨hx, ho⟩ := h.o
  rcases ho with ⟨_, h0⟩ | ⟨q', cap', cur, hv, hb, hg, hnc, hcm, hcs, htk⟩
  · simp at h0
  cases hv
  have e4 : cur[4]? = some (.int .i64 t.x) := by
    have e := rowsT_at (t :: r) 0 4 (by simp) (by omega)
    rw [← htk, List.getElem?_take, if_pos (by simp; omega)] at e
    simpa [tc] using e
  have hs : ∀ b : Nat, b ≠ q → (v.setCell ⟨q, 4, none⟩ (.int .i64 y)).heap[b]? = v.heap[b]? := fun b hb' => Below.heap_setCell _ _ _ _ hb'
  have hz : (v.setCell ⟨q, 4, none⟩ (.int .i64 y)).heap.size = v.heap.size := by simp
  refine ⟨(cell_of_heap hg).trans e4, froz_of_heap hg, h.rd.keep' (by rw [hz]; exact Nat.le_refl _) fun b hb' => hs b (by omega), (hs _ (by omega)).trans h.f, (hs _ (by omega)).trans h.r, ⟨by rw [rowsT_len], .inr ⟨q, c, _, rfl, hb, heap_set hg, hnc, hcm, by simpa using hcs, ?_⟩⟩, ⟨h.gr.os, h.gr.tape, h.gr.output, by rw [hz]; exact h.gr.size, fun i hi hn => (hs i (by omega)).trans (h.gr.block i hi hn)⟩, h1, by rw [hz]; exact h2⟩
  rw [Array.toList_setIfInBounds, List.take_set, show (⟨t.kind, t.a, y, t.y⟩ :: r : List TermD).length = (t :: r).length from rfl, htk, rowsT_set]

set_option maxRecDepth 100000 in
set_option maxHeartbeats 8000000 in
theorem graph_any (g : Nat) (a0 : Option Addr) (len cap : Nat) (w : World) (h : Rd g a0 len cap w) :
    Calls Try.prog 38 #[.pointer (some ⟨g, 0, none⟩)] w fun e w' => ∃ (ts : List TermD) (u : Option Addr) (c : Nat), e = .returned (.agg #[.slice none 0 0, .int .i64 8, .slice u ts.length c]) ∧ ts.length ≤ 7 ∧ BlocksAt w' w.heap.size u (bare ts) ∧ Rd g a0 len cap w' ∧ w.grownBy w' (some g) := by
  obtain ⟨i0, hi, hz0, hz1, hz2⟩ := info_parts infoK
  have HI : Hid (Try.prog.info? 82 = some i0) := hi
  have HZ0 : Hid (i0.zero = some (.agg #[.slice none 0 0, .slice none 0 0, .int .i64 0, .int .i64 0, .int .i64 0, .int .i64 0])) := hz0
  have HZ1 : Hid (i0.size = 6) := hz1
  have HZ2 : Hid (i0.bytes = 80) := hz2
  clear hi hz0 hz1 hz2
  have hg := h.lt
  have HR : Hid (Rd g a0 len cap w) := h
  clear h
  go_enter Try.func38, Try.ntmps38
  go_wp2_with fail
  have hgF : g ≠ w.heap.size + 1 := by omega
  have hgR : g ≠ w.heap.size := by omega
  have HF0 : Hid (((w.alloc (.cells #[.slice none 0 0, .int .i64 0, .slice none 0 0] 27)).alloc (.cells #[.slice none 0 0, .int .i64 8, .slice none 0 0] 27)).heap[w.heap.size + 1]? = some (.cells #[.slice none 0 0, .int .i64 8, .slice none 0 0] 27 (0, 0))) := by
    have h := heap_alloc_last (w.alloc (.cells #[.slice none 0 0, .int .i64 0, .slice none 0 0] 27)) (.cells #[.slice none 0 0, .int .i64 8, .slice none 0 0] 27)
    have hz : (w.alloc (.cells #[.slice none 0 0, .int .i64 0, .slice none 0 0] 27)).heap.size = w.heap.size + 1 := by simp
    rw [hz] at h
    exact h
  have HR0 : Hid (((w.alloc (.cells #[.slice none 0 0, .int .i64 0, .slice none 0 0] 27)).alloc (.cells #[.slice none 0 0, .int .i64 8, .slice none 0 0] 27)).heap[w.heap.size]? = some (.cells #[.slice none 0 0, .int .i64 0, .slice none 0 0] 27 (0, 0))) :=
    (Below.heap_alloc _ _ _ (by simp)).trans (heap_alloc_last _ _)
  refine (below_any g a0 len cap _ _ ((HR.out.alloc _).alloc _)).mono ?_
  rintro e w1 ⟨n1, rfl, hn0, hn1, hr1, hg1⟩
  have HR1 : Hid (Rd g a0 len cap w1) := hr1
  have HF1 : Hid (w1.heap[w.heap.size + 1]? = some (.cells #[.slice none 0 0, .int .i64 8, .slice none 0 0] 27 (0, 0))) := grown_heap hg1 HF0.out (by omega)
  have HQ1 : Hid (w1.heap[w.heap.size]? = some (.cells #[.slice none 0 0, .int .i64 0, .slice none 0 0] 27 (0, 0))) := grown_heap hg1 HR0.out (by omega)
  have HG1 : Hid (w.grownBy w1 (some g)) := grown_trans (grown_trans (World.grownBy_alloc _ _ _) (World.grownBy_alloc _ _ _)) hg1
  have hz1 : w.heap.size + 2 ≤ w1.heap.size := by have := hg1.size; simp at this; omega
  have hn7 : n1 ≤ 6 := by omega
  clear hr1 hg1 hn1 HF0 HR0
  go_wp2_with fail
  go_loopw [5] (fun i wr => ∃ (ts : List TermD) (st : Value), (ts.length : Int) ≤ 1 + n1 ∧ i = .int .i64 (ts.length : Int) ∧ Hid (Gs2 w g a0 len cap ts st wr)) (fun i _ => (1 + n1).toNat - (intOf i).toNat)
  case atStart => exact ⟨[], .slice none 0 0, by simp; omega, rfl, ⟨HR1.out, HF1.out, HQ1.out, World.ownsRow_nil _ _ _ _, HG1.out, hg, hz1⟩⟩
  case round =>
    obtain ⟨ts, st, hk, rfl, HGr⟩ := hrel
    have HZ : Hid (w.heap.size + 2 ≤ wr.heap.size) := HGr.out.hz
    have hz : w.heap.size + 2 ≤ wr.heap.size := HZ.out
    clear HF1 HQ1 HR1 HG1 hz1
    by_cases hlt : (ts.length : Int) < 1 + n1
    · have HG0 : Hid (Gst w g wr.heap.size a0 len cap ts st (wr.alloc (.cells #[.int .i64 4, .int .i64 0, .int .i64 0, .int .i64 0] 78))) := Gst.start HGr.out.rd HGr.out.f HGr.out.r HGr.out.o HGr.out.gr hg hz
      go_wp2_with fail
      refine (below_any g a0 len cap _ _ HG0.out.rd).mono ?_
      rintro e w2 ⟨x2, rfl, hx0, hx1, hr2, hg2⟩
      have HG2 : Hid (Gst w g wr.heap.size a0 len cap ts st w2) := HG0.out.next hr2 hg2
      clear hr2 hg2 HG0
      obtain ⟨⟨t0, t1, t2, t3⟩, ff, eF, fF⟩ := HG2.out.cells
      have hx : x2 = 0 ∨ x2 = 1 ∨ x2 = 2 ∨ x2 = 3 := by omega
      rcases hx with rfl | rfl | rfl | rfl
      · go_wp2_with fail
        refine (below_any g a0 len cap _ _ HG2.out.rd).mono ?_
        rintro e w3 ⟨x3, rfl, hx30, _, hrx3, hgx3⟩
        have HG3 : Hid (Gst w g wr.heap.size a0 len cap ts st w3) := HG2.out.next hrx3 hgx3
        clear hrx3 hgx3
        obtain ⟨⟨t0, t1, t2, t3⟩, ff, eF, fF⟩ := HG3.out.cells
        go_wp2_with fail
        refine (below_any g a0 len cap _ _ HG3.out.rd).mono ?_
        rintro e w4 ⟨x4, rfl, hx40, _, hrx4, hgx4⟩
        have HG4 : Hid (Gst w g wr.heap.size a0 len cap ts st w4) := HG3.out.next hrx4 hgx4
        clear hrx4 hgx4
        obtain ⟨⟨t0, t1, t2, t3⟩, ff, eF, fF⟩ := HG4.out.cells
        have hzz : w.heap.size + 2 ≤ w4.heap.size := HG4.out.drop.hz
        have HGs : Hid (Gs2 w g a0 len cap ts st ((((w4.setCell ⟨wr.heap.size, 0, none⟩ (.int .i64 3)).setCell ⟨wr.heap.size, 1, none⟩ (.int .i64 0)).setCell ⟨wr.heap.size, 2, none⟩ (.int .i64 x3)).setCell ⟨wr.heap.size, 3, none⟩ (.int .i64 x4))) := HG4.out.set4 _ _ _ _
        go_wp2_with (at_builtin; refine wpList_append_own _ rfl _ _ 25 rfl (w.heap.size + 2) 82 i0 (.agg #[.slice none 0 0, .slice none 0 0, .int .i64 0, .int .i64 0, .int .i64 0, .int .i64 0]) 6 80 Try.underlying25 HI.out HZ0.out HZ1.out HZ2.out rfl (by decide) st ts.length (rowsT ts) rfl (by exact HGs.out.o.alloc _) ⟨w4.heap.size, 0, none⟩ 1 1 (tc ⟨3, 0, x3, x4⟩) rfl rfl (by exact lit6_at (by simp) (x := ⟨3, 0, x3, x4⟩)) (by simp [Value.oneCell', tc]) (by unfold maxLen; omega) (by omega) (by simp; omega) ?_; intro v5 w5 ho5 hg5 _; obtain ⟨u5, k5, hu5⟩ := own_slice ho5; subst hu5; have HG5 : Hid (Gs2 w g a0 len cap (ts ++ [⟨3, 0, x3, x4⟩]) (.slice u5 (ts.length + 1) k5) (w5.setCell ⟨w.heap.size + 1, 2, none⟩ (.slice u5 (ts.length + 1) k5))) := HGs.out.push _ _ ho5 hg5; have hF5 : w5.heap[w.heap.size + 1]? = some (.cells #[.slice none 0 0, .int .i64 8, st] 27 (0, 0)) := (hg5.block _ (by simp; omega) (fun e => by have := (own_ge HGs.out.o e.symm).1; omega)).trans ((Below.heap_alloc _ _ _ (by have := HGs.out.hz; omega)).trans HGs.out.f); have eF5 := (cell_of_heap (o := 2) hF5).trans rfl; have fF5 := froz_of_heap (o := 2) hF5; clear ho5 hg5 hF5)
        go_roundw
        case rel => exact ⟨ts ++ [⟨3, 0, x3, x4⟩], _, by simp; omega, by refine congrArg (Value.int .i64) ?_; simp, HG5⟩
        case measure => simp [intOf]; omega
      · go_wp2_with fail
        refine (below_any g a0 len cap _ _ HG2.out.rd).mono ?_
        rintro e w3 ⟨x3, rfl, hx30, _, hrx3, hgx3⟩
        have HG3 : Hid (Gst w g wr.heap.size a0 len cap ts st w3) := HG2.out.next hrx3 hgx3
        clear hrx3 hgx3
        obtain ⟨⟨t0, t1, t2, t3⟩, ff, eF, fF⟩ := HG3.out.cells
        go_wp2_with fail
        refine (below_any g a0 len cap _ _ HG3.out.rd).mono ?_
        rintro e w4 ⟨x4, rfl, hx40, _, hrx4, hgx4⟩
        have HG4 : Hid (Gst w g wr.heap.size a0 len cap ts st w4) := HG3.out.next hrx4 hgx4
        clear hrx4 hgx4
        obtain ⟨⟨t0, t1, t2, t3⟩, ff, eF, fF⟩ := HG4.out.cells
        have hzz : w.heap.size + 2 ≤ w4.heap.size := HG4.out.drop.hz
        have HGs : Hid (Gs2 w g a0 len cap ts st ((((w4.setCell ⟨wr.heap.size, 0, none⟩ (.int .i64 3)).setCell ⟨wr.heap.size, 1, none⟩ (.int .i64 0)).setCell ⟨wr.heap.size, 2, none⟩ (.int .i64 x3)).setCell ⟨wr.heap.size, 3, none⟩ (.int .i64 x4))) := HG4.out.set4 _ _ _ _
        go_wp2_with (at_builtin; refine wpList_append_own _ rfl _ _ 25 rfl (w.heap.size + 2) 82 i0 (.agg #[.slice none 0 0, .slice none 0 0, .int .i64 0, .int .i64 0, .int .i64 0, .int .i64 0]) 6 80 Try.underlying25 HI.out HZ0.out HZ1.out HZ2.out rfl (by decide) st ts.length (rowsT ts) rfl (by exact HGs.out.o.alloc _) ⟨w4.heap.size, 0, none⟩ 1 1 (tc ⟨3, 0, x3, x4⟩) rfl rfl (by exact lit6_at (by simp) (x := ⟨3, 0, x3, x4⟩)) (by simp [Value.oneCell', tc]) (by unfold maxLen; omega) (by omega) (by simp; omega) ?_; intro v5 w5 ho5 hg5 _; obtain ⟨u5, k5, hu5⟩ := own_slice ho5; subst hu5; have HG5 : Hid (Gs2 w g a0 len cap (ts ++ [⟨3, 0, x3, x4⟩]) (.slice u5 (ts.length + 1) k5) (w5.setCell ⟨w.heap.size + 1, 2, none⟩ (.slice u5 (ts.length + 1) k5))) := HGs.out.push _ _ ho5 hg5; have hF5 : w5.heap[w.heap.size + 1]? = some (.cells #[.slice none 0 0, .int .i64 8, st] 27 (0, 0)) := (hg5.block _ (by simp; omega) (fun e => by have := (own_ge HGs.out.o e.symm).1; omega)).trans ((Below.heap_alloc _ _ _ (by have := HGs.out.hz; omega)).trans HGs.out.f); have eF5 := (cell_of_heap (o := 2) hF5).trans rfl; have fF5 := froz_of_heap (o := 2) hF5; clear ho5 hg5 hF5)
        go_roundw
        case rel => exact ⟨ts ++ [⟨3, 0, x3, x4⟩], _, by simp; omega, by refine congrArg (Value.int .i64) ?_; simp, HG5⟩
        case measure => simp [intOf]; omega
      · go_wp2_with fail
        refine (below_any g a0 len cap _ _ HG2.out.rd).mono ?_
        rintro e w3 ⟨x3, rfl, hx30, _, hrx3, hgx3⟩
        have HG3 : Hid (Gst w g wr.heap.size a0 len cap ts st w3) := HG2.out.next hrx3 hgx3
        clear hrx3 hgx3
        obtain ⟨⟨t0, t1, t2, t3⟩, ff, eF, fF⟩ := HG3.out.cells
        have hzz : w.heap.size + 2 ≤ w3.heap.size := HG3.out.drop.hz
        have HGs : Hid (Gs2 w g a0 len cap ts st ((((w3.setCell ⟨wr.heap.size, 0, none⟩ (.int .i64 2)).setCell ⟨wr.heap.size, 1, none⟩ (.int .i64 0)).setCell ⟨wr.heap.size, 2, none⟩ (.int .i64 x3)).setCell ⟨wr.heap.size, 3, none⟩ (.int .i64 0))) := HG3.out.set4 _ _ _ _
        go_wp2_with (at_builtin; refine wpList_append_own _ rfl _ _ 25 rfl (w.heap.size + 2) 82 i0 (.agg #[.slice none 0 0, .slice none 0 0, .int .i64 0, .int .i64 0, .int .i64 0, .int .i64 0]) 6 80 Try.underlying25 HI.out HZ0.out HZ1.out HZ2.out rfl (by decide) st ts.length (rowsT ts) rfl (by exact HGs.out.o.alloc _) ⟨w3.heap.size, 0, none⟩ 1 1 (tc ⟨2, 0, x3, 0⟩) rfl rfl (by exact lit6_at (by simp) (x := ⟨2, 0, x3, 0⟩)) (by simp [Value.oneCell', tc]) (by unfold maxLen; omega) (by omega) (by simp; omega) ?_; intro v5 w5 ho5 hg5 _; obtain ⟨u5, k5, hu5⟩ := own_slice ho5; subst hu5; have HG5 : Hid (Gs2 w g a0 len cap (ts ++ [⟨2, 0, x3, 0⟩]) (.slice u5 (ts.length + 1) k5) (w5.setCell ⟨w.heap.size + 1, 2, none⟩ (.slice u5 (ts.length + 1) k5))) := HGs.out.push _ _ ho5 hg5; have hF5 : w5.heap[w.heap.size + 1]? = some (.cells #[.slice none 0 0, .int .i64 8, st] 27 (0, 0)) := (hg5.block _ (by simp; omega) (fun e => by have := (own_ge HGs.out.o e.symm).1; omega)).trans ((Below.heap_alloc _ _ _ (by have := HGs.out.hz; omega)).trans HGs.out.f); have eF5 := (cell_of_heap (o := 2) hF5).trans rfl; have fF5 := froz_of_heap (o := 2) hF5; clear ho5 hg5 hF5)
        go_roundw
        case rel => exact ⟨ts ++ [⟨2, 0, x3, 0⟩], _, by simp; omega, by refine congrArg (Value.int .i64) ?_; simp, HG5⟩
        case measure => simp [intOf]; omega
      · have hzz : w.heap.size + 2 ≤ w2.heap.size := HG2.out.drop.hz
        have HGs : Hid (Gs2 w g a0 len cap ts st w2) := HG2.out.drop
        go_wp2_with (at_builtin; refine wpList_append_own _ rfl _ _ 25 rfl (w.heap.size + 2) 82 i0 (.agg #[.slice none 0 0, .slice none 0 0, .int .i64 0, .int .i64 0, .int .i64 0, .int .i64 0]) 6 80 Try.underlying25 HI.out HZ0.out HZ1.out HZ2.out rfl (by decide) st ts.length (rowsT ts) rfl (by exact HGs.out.o.alloc _) ⟨(w2).heap.size, 0, none⟩ 1 1 (tc ⟨4, 0, 0, 0⟩) rfl rfl (by exact lit6_at (by simp) (x := ⟨4, 0, 0, 0⟩)) (by simp [Value.oneCell', tc]) (by unfold maxLen; omega) (by omega) (by simp; omega) ?_; intro v5 w5 ho5 hg5 _; obtain ⟨u5, k5, hu5⟩ := own_slice ho5; subst hu5; have HG5 : Hid (Gs2 w g a0 len cap (ts ++ [⟨4, 0, 0, 0⟩]) (.slice u5 (ts.length + 1) k5) (w5.setCell ⟨w.heap.size + 1, 2, none⟩ (.slice u5 (ts.length + 1) k5))) := HGs.out.push _ _ ho5 hg5; have hF5 : w5.heap[w.heap.size + 1]? = some (.cells #[.slice none 0 0, .int .i64 8, st] 27 (0, 0)) := (hg5.block _ (by simp; omega) (fun e => by have := (own_ge HGs.out.o e.symm).1; omega)).trans ((Below.heap_alloc _ _ _ (by have := HGs.out.hz; omega)).trans HGs.out.f); have eF5 := (cell_of_heap (o := 2) hF5).trans rfl; have fF5 := froz_of_heap (o := 2) hF5; clear ho5 hg5 hF5)
        go_roundw
        case rel => exact ⟨ts ++ [⟨4, 0, 0, 0⟩], _, by simp; omega, by refine congrArg (Value.int .i64) ?_; simp, HG5⟩
        case measure => simp [intOf]; omega
    · have hn1 : 0 < ts.length := by omega
      have hn7' : ts.length ≤ 7 := by omega
      have hst := own_nonempty HGr.out.o hn1
      obtain ⟨q, c, cur, rfl, hq, hqb, hcur⟩ := hst

      go_wp2_with fail
      refine (once_any g a0 len cap 30 _ HGr.out.rd (by omega)).mono ?_
      rintro e w2 ⟨b2, rfl, hr2, hg2⟩
      have HG2 : Hid (Gs2 w g a0 len cap ts (.slice (some ⟨q, 0, none⟩) ts.length c) w2) := HGr.out.next hr2 hg2
      have HB2 : Hid (w2.heap[q]? = some (.cells cur 82 (0, 0))) := grown_heap hg2 hqb (by omega)
      clear hr2 hg2 HGr hqb
      obtain ⟨⟨t0, t1, t2⟩, ⟨r0, r1, r2⟩, ff⟩ := HG2.out.cells
      cases b2 with
      | false =>
        have HBA : Hid (BlocksAt w2 (w.heap.size + 2) (some ⟨q, 0, none⟩) (bare ts)) := blocks_of rfl (by omega) hq HB2.out hcur
        go_wp2_with fail
        obtain ⟨d1, d2, d3, d4⟩ := HG2.out.done ts (some ⟨q, 0, none⟩) ts.length c HBA.out
        refine bodyPost_ret (v := .agg #[.slice none 0 0, .int .i64 8, .slice (some ⟨q, 0, none⟩) ts.length c]) ((results_cell_row Try.results38 _ _ w.heap.size 27 _ (0, 0) _ rfl d1 Try.underlying27 rfl (by kernel_rfl)).trans (by rfl)) rfl ⟨ts, _, _, rfl, hn7', d2, d3, d4⟩
      | true =>
        obtain ⟨t, r, rfl⟩ : ∃ t r, ts = t :: r := by cases ts with | nil => simp at hn1 | cons t r => exact ⟨t, r, rfl⟩
        have hgq : g ≠ q := by omega
        go_wp2_with fail
        go_region_with (go_at_call 46; refine (off_any g a0 len cap 0 7 _ (by exact HG2.out.rd) (by omega) (by omega) (by omega)).mono ?_; rintro e w3 ⟨n3, rfl, _, _, hr3, hg3⟩; have hg3' : w2.grownBy w3 (some g) := ⟨hg3.os, hg3.tape, hg3.output, hg3.size, hg3.block⟩; have HG3 : Hid (Gs2 w g a0 len cap (t :: r) (.slice (some ⟨q, 0, none⟩) (t :: r).length c) w3) := HG2.out.next hr3 hg3'; obtain ⟨⟨s0, s1, s2⟩, ⟨o0, o1, o2⟩, off⟩ := HG3.out.cells; obtain ⟨e4, f4, g4⟩ := HG3.out.turn n3; have HG4 : Hid (Gs2 w g a0 len cap (⟨t.kind, t.a, n3, t.y⟩ :: r) (.slice (some ⟨q, 0, none⟩) (t :: r).length c) (w3.setCell ⟨q, 4, none⟩ (.int .i64 n3))) := g4; clear hr3 hg3 hg3' g4)
        all_goals
          obtain ⟨⟨k0, k1, k2⟩, ⟨l0, l1, l2⟩, lf⟩ := HG4.out.cells
          obtain ⟨q9, c9, cur9, hv9, hq9, hqb9, hcur9⟩ := own_nonempty HG4.out.o (by simp)
          have HBA : Hid (BlocksAt (w3.setCell ⟨q, 4, none⟩ (.int .i64 n3)) (w.heap.size + 2) (some ⟨q, 0, none⟩) (bare (⟨t.kind, t.a, n3, t.y⟩ :: r))) := (by cases hv9; exact blocks_of rfl (by have := hn7'; simp at this ⊢; omega) hq9 hqb9 hcur9)
          clear hv9 hq9 hqb9 hcur9
          go_wp2_with fail
          obtain ⟨d1, d2, d3, d4⟩ := HG4.out.done (⟨t.kind, t.a, n3, t.y⟩ :: r) (some ⟨q, 0, none⟩) (r.length + 1) c HBA.out
          refine bodyPost_ret (v := .agg #[.slice none 0 0, .int .i64 8, .slice (some ⟨q, 0, none⟩) (r.length + 1) c]) ((results_cell_row Try.results38 _ _ w.heap.size 27 _ (0, 0) _ rfl d1 Try.underlying27 rfl (by kernel_rfl)).trans (by rfl)) rfl ⟨⟨t.kind, t.a, n3, t.y⟩ :: r, _, _, rfl, hn7', d2, d3, d4⟩
end Go.Proofs.Ytilhmpilkhadfaa
