/- A function that grows: what a loop must know of its phis. -/
import Derived.Test.YtjmoonbpfieifaaGreatDoorGnQ
namespace Go.Proofs.YtjmoonbpfieifaaGreatDoor
open Go.RowKit Go.Deep
set_option linter.unusedVariables false

/-- A cell of a row. -/
def rowAt (w : World) (s : Value) (k : Nat) : Option Value := match s with
  | .slice (some ⟨g, 0, none⟩) _ _ => w.cell? ⟨g, k, none⟩
  | _ => none
theorem own_at {w : World} {base n sz k : Nat} {T : TypeId} {s : Value} {xs : List Value} (h : w.ownsRow base T sz s n xs) (hk : k < n * sz) : rowAt w s k = xs[k]? := by
  obtain ⟨h1, h2⟩ := h
  rcases h2 with ⟨rfl, rfl⟩ | ⟨g, cap, cur, rfl, hg, hc, hn, hm, hs, ht⟩
  · omega
  · show w.cell? ⟨g, k, none⟩ = _
    rw [cell_of_heap hc, ← ht, List.getElem?_take, if_pos hk]
    simp
theorem rowAt_hold {w w' : World} {M : Tmap} {T : TypeId} {s : Value} {n k : Nat} (hs : SlN M T s n) (hn : 0 < n) (hh : ∀ b m, M b = some (T, m) → w'.heap[b]? = w.heap[b]?) : rowAt w' s k = rowAt w s k := by
  obtain ⟨u, c, rfl, h⟩ := hs
  rcases h with h | ⟨q, m, rfl, hq, _⟩
  · omega
  · exact cell_blk (hh q m hq)
variable {base g G len cap N N' j : Nat} {a0 : Option Addr} {M M' M2 : Tmap} {S S' S2 : GRec} {v w w' : World}
theorem phi_at (h : Sb base g G a0 len cap M N S v j M' S' w) (x : Int) (u : Option Addr) (q : Nat) (hav : SlN M' 2 (.slice u 2 q) 2) (hna : 2 ≤ N + j) (hN : N + j + 2 ≤ 10000) :
    Calls Tryz.prog 99 #[.pointer (some ⟨G, 0, none⟩), .int .i64 x, .slice u 2 q] w fun e w' => ∃ n : Int, e = .returned (.int .i64 n) ∧ ∃ M2 S2, Sb base g G a0 len cap M N S v (j + 2) M2 S2 w' ∧ S2.bv = S'.bv ∧ S2.nb = S'.nb ∧ S2.nph = S'.nph + 1 ∧ Mv g G M' M2 w w' ∧
      (∀ k, k < S'.nph * 2 → rowAt w' S2.phv k = rowAt w S'.phv k) ∧ rowAt w' S2.phv (S'.nph * 2 + 1) = some (.slice u 2 q) := by
  refine (phi_two base g G a0 len cap M' (N + j) S' x u 2 q w h.1 hN hav hna).mono ?_
  rintro e w' ⟨n, rfl, M2, S2, H2, ⟨s', hS2⟩, V2, xs, hx1, hx2⟩
  have hz : szT 151 = 2 := by decide
  rw [hz] at hx1 hx2
  have hl := hx1.1
  refine ⟨n, rfl, M2, S2, ⟨H2, h.2.1.trans ?_, h.2.2.trans V2⟩, ?_, ?_, ?_, V2, fun k hk => ?_, ?_⟩
  · rw [hS2]; exact ⟨rfl, rfl, rfl, rfl, rfl, rfl⟩
  · rw [hS2]
  · rw [hS2]
  · rw [hS2]
  · rw [own_at hx2 (by omega), own_at hx1 hk, List.getElem?_append_left (by omega)]
  · rw [own_at hx2 (by omega), List.getElem?_append_right (by omega), hl, Nat.add_sub_cancel_left]
    rfl
theorem close_at (h : Sb base g G a0 len cap M N S v j M' S' w) (kd ta tx ty : Int) (hN : N + j + 1 ≤ 10000) :
    Calls Tryz.prog 98 #[.pointer (some ⟨G, 0, none⟩), .agg #[.int .i64 kd, .int .i64 ta, .int .i64 tx, .int .i64 ty]] w fun e w' => (∃ r, e = .returned r) ∧ ∃ M2 S2, Sb base g G a0 len cap M N S v (j + 1) M2 S2 w' ∧ Mv g G M' M2 w w' ∧ (S2.nph = 0 ∧ S2.nb = S'.nb + 1) ∧
      (∀ b T m, M' b = some (T, m) → T ≠ 69 → T ≠ 26 → w'.heap[b]? = w.heap[b]? ∧ M2 b = some (T, m)) ∧ (∀ k, k < S'.nb * 6 → rowAt w' S2.bv k = rowAt w S'.bv k) ∧ rowAt w' S2.bv (S'.nb * 6) = some S'.phv := by
  refine (close_two base g G a0 len cap M' (N + j) S' kd ta tx ty w h.1 hN).mono ?_
  rintro e w' ⟨hr, M2, s', H2, V2, hh, xs, hx1, hx2⟩
  have hz : szT 69 = 6 := by decide
  rw [hz] at hx1 hx2
  have hl := hx1.1
  refine ⟨hr, M2, Closed S' s', ⟨H2, h.2.1.trans (closed_kept _ _), h.2.2.trans V2⟩, V2, ⟨rfl, rfl⟩, hh, fun k hk => ?_, ?_⟩
  · show rowAt w' s' k = _
    rw [own_at hx2 (by omega), own_at hx1 hk, List.getElem?_append_left (by omega)]
  · show rowAt w' s' _ = _
    rw [own_at hx2 (by omega), List.getElem?_append_right (by omega), hl, Nat.sub_self]
    rfl
/-- Two phis with two operands each, in lists that were made behind V. -/
structure Tk (M : Tmap) (w : World) (V : Nat) (phv : Value) (t1 t2 : Nat) : Prop where
  hp : SlN M 151 phv 2
  p1 : rowAt w phv 1 = some (.slice (some ⟨t1, 0, none⟩) 2 2)
  p3 : rowAt w phv 3 = some (.slice (some ⟨t2, 0, none⟩) 2 2)
  m1 : M t1 = some (2, 2)
  m2 : M t2 = some (2, 2)
  f1 : V ≤ t1
  f2 : V ≤ t2
  ne : t1 ≠ t2
theorem Tk.hold {V t1 t2 : Nat} {phv : Value} (h : Tk M w V phv t1 t2) (he : Ext M M') (hh : ∀ b T m, M b = some (T, m) → T ≠ 69 → T ≠ 26 → w'.heap[b]? = w.heap[b]? ∧ M' b = some (T, m)) : Tk M' w' V phv t1 t2 :=
  ⟨h.hp.ext he, (rowAt_hold h.hp (by omega) fun b m hb => (hh b _ m hb (by decide) (by decide)).1).trans h.p1, (rowAt_hold h.hp (by omega) fun b m hb => (hh b _ m hb (by decide) (by decide)).1).trans h.p3, (hh t1 _ _ h.m1 (by decide) (by decide)).2, (hh t2 _ _ h.m2 (by decide) (by decide)).2, h.f1, h.f2, h.ne⟩
theorem Tk.mov {V t1 t2 : Nat} {phv : Value} (h : Tk M w V phv t1 t2) (k : Mov g G M M' w w') : Tk M' w' V phv t1 t2 := h.hold k.ext fun b T m hb _ hI => k.hold b T m hb hI
/-- The block at a place has these phis. -/
structure Lp (M : Tmap) (w : World) (S : GRec) (V idx t1 t2 : Nat) (phv : Value) : Prop where
  tk : Tk M w V phv t1 t2
  hb : rowAt w S.bv (idx * 6) = some phv
  hi : idx < S.nb
theorem Lp.close {V idx t1 t2 : Nat} {phv : Value} (h : Lp M w S V idx t1 t2 phv) (he : Ext M M') (hh : ∀ b T m, M b = some (T, m) → T ≠ 69 → T ≠ 26 → w'.heap[b]? = w.heap[b]? ∧ M' b = some (T, m)) (hk : ∀ k, k < S.nb * 6 → rowAt w' S'.bv k = rowAt w S.bv k) (hn : S'.nb = S.nb + 1) : Lp M' w' S' V idx t1 t2 phv := by
  have hi := h.hi
  exact ⟨h.tk.hold he hh, (hk _ (by omega)).trans h.hb, by omega⟩
theorem Lp.mov {V idx t1 t2 : Nat} {phv : Value} (h : Lp M w S V idx t1 t2 phv) (hg : Gok base g G a0 len cap M N S w) (k : Mov g G M M' w w') (hS : Same S S') : Lp M' w' S' V idx t1 t2 phv := by
  have hi := h.hi
  refine ⟨h.tk.mov k, ?_, by rw [hS.2.2.2.1]; exact hi⟩
  rw [hS.2.2.1, rowAt_hold hg.b.sl (by omega) fun b m hb => (k.hold b _ m hb (by decide)).1]
  exact h.hb
/-- A number in one of these lists is another one. -/
theorem Gok.setInt {t : Nat} {z : Int} (h : Gok base g G a0 len cap M N S w) (ht : M t = some (2, 2)) : Gok base g G a0 len cap M N S (w.setCell ⟨t, 1, none⟩ (.int .i64 z)) := by
  have hset : ∀ b, b ≠ t → (w.setCell ⟨t, 1, none⟩ (.int .i64 z)).heap[b]? = w.heap[b]? := fun b hb => Below.heap_setCell _ _ _ _ hb
  have hsz : (w.setCell ⟨t, 1, none⟩ (.int .i64 z)).heap.size = w.heap.size := by simp [World.setCell]
  have htb := h.th.lt ⟨_, ht⟩
  have hgb := h.gb
  have hmG := h.mG
  have htG : G ≠ t := fun e => by rw [e, ht] at hmG; cases hmG
  have hcur : ∀ {T : TypeId} {cur : Array Value}, w.heap[t]? = some (.cells cur T (0, 0)) → (w.setCell ⟨t, 1, none⟩ (.int .i64 z)).heap[t]? = some (.cells (cur.setIfInBounds 1 (.int .i64 z)) T (0, 0)) := fun hc => heap_set hc
  have hrow : ∀ {T : TypeId} {s : Value} {n : Nat}, RowT base M T s n w → RowT base M T s n (w.setCell ⟨t, 1, none⟩ (.int .i64 z)) := fun {T s n} r => by
    rcases r with r | ⟨q, c, cu, hv, hq, hq2, hc, hn, hm, hs⟩
    · exact .inl r
    · by_cases e : q = t
      · subst e
        exact .inr ⟨q, c, _, hv, hq, hq2, hcur hc, hn, hm, by simpa using hs⟩
      · exact .inr ⟨q, c, cu, hv, hq, hq2, (hset q e).trans hc, hn, hm, hs⟩
  refine ⟨rd_keep h.rd (by omega) fun b hb => hset b (by omega), h.gb, by rw [hsz]; exact h.bv, h.mG, h.nG, (hset G htG).trans h.cells, fun b T m hb => ?_, hrow h.p, hrow h.b, hrow h.ph, hrow h.i, h.ids, h.rets, h.pars, h.bn⟩
  obtain ⟨h1, cur, h2, h3⟩ := h.th b T m hb
  by_cases e : b = t
  · subst e
    rw [ht] at hb
    cases hb
    refine ⟨h1, _, hcur h2, fun i hi => ?_⟩
    have hs1 : szT 2 = 1 := by decide
    obtain ⟨z0, hz0⟩ := (h3 i hi).1 rfl
    simp only [hs1, Nat.mul_one, Nat.add_zero] at hz0
    by_cases hi1 : i = 1
    · subst hi1
      have hlt : 1 < cur.size := (Array.getElem?_eq_some_iff.1 hz0).1
      exact el_int (z := z) (by simp [hs1, hlt])
    · exact el_int (z := z0) (by simp only [hs1, Nat.mul_one, Nat.add_zero]; rw [Array.getElem?_setIfInBounds_ne (by omega)]; exact hz0)
  · exact ⟨h1, cur, (hset b e).trans h2, h3⟩
theorem Sb.setInt {t : Nat} {z : Int} (h : Sb base g G a0 len cap M N S v j M' S' w) (hl : ∀ x, (∃ p, M x = some p) → x < v.heap.size) (ht : M' t = some (2, 2)) (hv : v.heap.size ≤ t) : Sb base g G a0 len cap M N S v j M' S' (w.setCell ⟨t, 1, none⟩ (.int .i64 z)) := by
  have hset : ∀ b, b ≠ t → (w.setCell ⟨t, 1, none⟩ (.int .i64 z)).heap[b]? = w.heap[b]? := fun b hb => Below.heap_setCell _ _ _ _ hb
  have hsz : (w.setCell ⟨t, 1, none⟩ (.int .i64 z)).heap.size = w.heap.size := by simp [World.setCell]
  obtain ⟨h1, h2, h3⟩ := h
  refine ⟨h1.setInt ht, h2, ⟨h3.ext, fun b hb e1 e2 e3 => ?_, fun b T m hb hT => ?_, h3.os, h3.tape, h3.output, by rw [hsz]; exact h3.size⟩⟩
  · obtain ⟨r1, r2⟩ := h3.out b hb e1 e2 e3
    exact ⟨(hset b (by omega)).trans r1, r2⟩
  · obtain ⟨r1, r2⟩ := h3.hold b T m hb hT
    have := hl b ⟨_, hb⟩
    exact ⟨(hset b (by omega)).trans r1, r2⟩
theorem tk_made {V : Nat} {w5 w6 w7 : World} {M5 M6 M7 : Tmap} {S6 S7 : GRec} {o5 o6 : Obj} (hv : V ≤ w5.heap.size) (hv6 : (w5.alloc o5).heap.size ≤ w6.heap.size) (g6 : Gok base g G a0 len cap M6 N S6 w6) (g7 : Gok base g G a0 len cap M7 N' S7 w7) (v6 : Mv g G (put M5 w5.heap.size 2 2) M6 (w5.alloc o5) w6) (v7 : Mv g G (put M6 w6.heap.size 2 2) M7 (w6.alloc o6) w7) (q6 : S6.nph = 1) (q7 : S7.nph = 2)
    (p6 : rowAt w6 S6.phv 1 = some (.slice (some ⟨w5.heap.size, 0, none⟩) 2 2)) (k7 : rowAt w7 S7.phv 1 = rowAt (w6.alloc o6) S6.phv 1) (p7 : rowAt w7 S7.phv 3 = some (.slice (some ⟨w6.heap.size, 0, none⟩) 2 2)) : Tk M7 w7 V S7.phv w5.heap.size w6.heap.size := by
  have hs : w5.heap.size < w6.heap.size := by simp at hv6; omega
  have e6 : SlN M6 151 S6.phv 1 := by rw [← q6]; exact g6.ph.sl
  have e7 : SlN M7 151 S7.phv 2 := by rw [← q7]; exact g7.ph.sl
  have m6 : M6 w5.heap.size = some (2, 2) := (v6.hold _ _ _ (by simp [put]) (.inl rfl)).2
  refine ⟨e7, k7.trans ((rowAt_hold e6 (by omega) fun b m hb => Below.heap_alloc _ _ _ (g6.th.lt ⟨_, hb⟩).2).trans p6), p7, (v7.hold _ _ _ (by unfold put; rw [if_neg (by omega)]; exact m6) (.inl rfl)).2, (v7.hold _ _ _ (by simp [put]) (.inl rfl)).2, hv, by omega, by omega⟩
/-- What the two stores read and write. -/
theorem Lp.cells {V idx t1 t2 : Nat} {phv : Value} (h : Lp M w S V idx t1 t2 phv) (hg : Gok base g G a0 len cap M N S w) : ∃ gb cb gp cp, S.bv = .slice (some ⟨gb, 0, none⟩) S.nb cb ∧ w.cell? ⟨gb, idx * 6, none⟩ = some (.slice (some ⟨gp, 0, none⟩) 2 cp) ∧ w.cell? ⟨gp, 1, none⟩ = some (.slice (some ⟨t1, 0, none⟩) 2 2) ∧ w.cell? ⟨gp, 3, none⟩ = some (.slice (some ⟨t2, 0, none⟩) 2 2) ∧
    (∃ z : Int, w.cell? ⟨t1, 1, none⟩ = some (.int .i64 z)) ∧ w.frozen? ⟨t1, 1, none⟩ = false ∧ (∃ z : Int, w.cell? ⟨t2, 1, none⟩ = some (.int .i64 z)) ∧ w.frozen? ⟨t2, 1, none⟩ = false ∧ (gb ≠ t1 ∧ gb ≠ t2 ∧ gp ≠ t1 ∧ gp ≠ t2 ∧ G ≠ t1 ∧ G ≠ t2) := by
  obtain ⟨⟨hp, p1, p3, m1, m2, f1, f2, _⟩, hb, hi⟩ := h
  rcases hg.b with ⟨e, e0⟩ | ⟨gb, cb, cur, e1, e2, e3, e4, _⟩
  · omega
  obtain ⟨up, cp, rfl, hq⟩ := hp
  rcases hq with hq | ⟨gp, mp, rfl, hM, _⟩
  · omega
  have key : ∀ t, M t = some (2, 2) → (∃ z : Int, w.cell? ⟨t, 1, none⟩ = some (.int .i64 z)) ∧ w.frozen? ⟨t, 1, none⟩ = false := fun t ht => by
    obtain ⟨_, cu, c2, c3⟩ := hg.th t _ _ ht
    obtain ⟨z, hz⟩ := (c3 1 (by omega)).1 rfl
    have hs1 : szT 2 = 1 := by decide
    simp only [hs1, Nat.mul_one, Nat.add_zero] at hz
    exact ⟨⟨z, (cell_of_heap c2).trans hz⟩, by simp [World.frozen?, c2]⟩
  have ne : ∀ {a t : Nat} {T : TypeId} {n m : Nat}, M a = some (T, n) → M t = some (2, m) → T ≠ 2 → a ≠ t := fun h1 h2 h3 e => by
    rw [e, h2] at h1
    cases h1
    exact h3 rfl
  have neG : ∀ {t m : Nat}, M t = some (2, m) → G ≠ t := fun h1 e => by
    have := hg.mG
    rw [e, h1] at this
    cases this
  refine ⟨gb, cb, gp, cp, e1, ?_, p1, p3, (key t1 m1).1, (key t1 m1).2, (key t2 m2).1, (key t2 m2).2, ne e3 m1 (by decide), ne e3 m2 (by decide), ne hM m1 (by decide), ne hM m2 (by decide), neG m1, neG m2⟩
  rw [e1] at hb
  exact hb
theorem cell_apart {w : World} {t b o p : Nat} {x : Value} (hn : b ≠ t) : (w.setCell ⟨t, p, none⟩ x).cell? ⟨b, o, none⟩ = w.cell? ⟨b, o, none⟩ := cell_blk (Below.heap_setCell _ _ _ _ hn)
theorem froz_apart {w : World} {t b o p : Nat} {x : Value} (hn : b ≠ t) : (w.setCell ⟨t, p, none⟩ x).frozen? ⟨b, o, none⟩ = w.frozen? ⟨b, o, none⟩ := World.frozen?_of_block (w := w) (Below.heap_setCell _ _ _ _ hn)
end Go.Proofs.YtjmoonbpfieifaaGreatDoor
