/- A function that grows: its state, and the laws of appending to it. -/
import Derived.Test.YtojhakjkfkmklaaGreatDoorObCQ
import Derived.Test.YtojhakjkfkmklaaGreatDoorSzQ
namespace Go.Proofs.YtojhakjkfkmklaaGreatDoor
open Go.RowKit
set_option linter.unusedVariables false

/-- The law of a row at an operation: in a list, and in a region that draws. -/
theorem wp_row {w : World} {o : Oper} {a : Act} {K : Act → World → Prop} {Q : Exit → Act → World → Prop} (s x : Operand) (t : TypeId) (ho : o.op = .call { callee := .builtin .append, args := #[s, x], argTypes := #[t, t] })
    {sv xv : Value} (hs : a.eval s = sv) (hx : a.eval x = xv) {R : World → Value → Tmap → Prop} (hr : ∀ ty, ∃ s' w' M', (Builtin.append_ #[t, t] ty #[sv, xv]).run Tryz.prog w = .ok s' w' ∧ R w' s' M') (h : ∀ s' w' M', R w' s' M' → K (a.put o.dst s') w') : o.wp Tryz.prog a w K Q := by
  obtain ⟨s', w', M', hr, hR⟩ := hr o.type
  unfold Oper.wp execOp
  simp only [ho, resolve, invoke, builtin, Sem.run_bind, Sem.run_pure, Result.andThen_ok, List.map_toArray, List.map_cons, List.map_nil, hs, hx, hr]
  exact h s' w' M' hR
theorem wpList_row {w : World} {ops : Array Oper} {rest : List Oper} {o : Oper} {a : Act} {Q : Exit → Act → World → Prop} (hgd : o.guard = none) (s x : Operand) (t : TypeId) (ho : o.op = .call { callee := .builtin .append, args := #[s, x], argTypes := #[t, t] })
    {sv xv : Value} (hs : a.eval s = sv) (hx : a.eval x = xv) {R : World → Value → Tmap → Prop} (hr : ∀ ty, ∃ s' w' M', (Builtin.append_ #[t, t] ty #[sv, xv]).run Tryz.prog w = .ok s' w' ∧ R w' s' M') (h : ∀ s' w' M', R w' s' M' → wpList Tryz.prog ops Q rest (a.put o.dst s') w') : wpList Tryz.prog ops Q (o :: rest) a w :=
  wpList_plain hgd fun _ hK => wp_row s x t ho hs hx hr fun s' w' M' hR => hK _ _ (h s' w' M' hR)
theorem step_row {w : World} {ops : Array Oper} {o : Oper} {a : Act} {K : Act → World → Prop} {Q : Exit → Act → World → Prop} {E : Prop} (hgd : o.guard = none) (s x : Operand) (t : TypeId) (ho : o.op = .call { callee := .builtin .append, args := #[s, x], argTypes := #[t, t] })
    {sv xv : Value} (hs : a.eval s = sv) (hx : a.eval x = xv) {R : World → Value → Tmap → Prop} (hr : ∀ ty, ∃ s' w' M', (Builtin.append_ #[t, t] ty #[sv, xv]).run Tryz.prog w = .ok s' w' ∧ R w' s' M') (h : ∀ s' w' M', R w' s' M' → K (a.put o.dst s') w') :
    if Region.wanted o (yielded ops a.tmps) = true then Oper.wp Tryz.prog o a w K Q else E := by
  rw [if_pos (by simp [Region.wanted, hgd])]
  exact wp_row s x t ho hs hx hr h
/-- What a growing function holds. -/
structure GRec where
  pv : Value
  bv : Value
  phv : Value
  iv : Value
  idv : Value
  wsv : Value
  rv : Value
  sv : Value
  np : Nat
  nb : Nat
  nph : Nat
  ni : Nat
  nid : Nat
  nr : Nat
  ret : Int
  kd : Int
  ta : Int
  tx : Int
  ty : Int
  nx : Int
def gcells (g : Nat) (S : GRec) : Array Value := #[.pointer (some ⟨g, 0, none⟩), S.pv, .int .i64 S.ret, S.bv, S.phv, S.iv, .int .i64 S.kd, .int .i64 S.ta, .int .i64 S.tx, .int .i64 S.ty, .int .i64 S.nx, S.idv, S.wsv, S.rv, S.sv]
structure Gok (base g G : Nat) (a0 : Option Addr) (len cap : Nat) (M : Tmap) (N : Nat) (S : GRec) (v : World) : Prop where
  rd : Rd g a0 len cap v
  gb : g < base
  bv : base ≤ v.heap.size
  mG : M G = none
  nG : base ≤ G
  cells : v.heap[G]? = some (.cells (gcells g S) 131 (0, 0))
  th : TH base M N v
  p : RowT base M 2 S.pv S.np v
  b : RowT base M 86 S.bv S.nb v
  ph : RowT base M 88 S.phv S.nph v
  i : RowT base M 91 S.iv S.ni v
  ids : (S.idv = .slice none 0 0 ∧ S.wsv = .slice none 0 0 ∧ S.nid = 0) ∨ (0 < S.nid ∧ SlN M 2 S.idv S.nid ∧ SlN M 2 S.wsv S.nid)
  rets : SlN M 2 S.rv S.nr
  pars : SlN M 46 S.sv S.nr
  bn : S.np ≤ N ∧ S.nb ≤ N ∧ S.nph ≤ N ∧ S.ni ≤ N ∧ S.nid ≤ N ∧ S.nr ≤ 2 ∧ 0 ≤ S.nx ∧ S.nx ≤ N ∧ N ≤ 10000
/-- Only instructions grew, and new memory was made. -/
structure Mov (g G : Nat) (M M' : Tmap) (v v' : World) : Prop where
  ext : Ext M M'
  out : ∀ b, b < v.heap.size → b ≠ g → b ≠ G → M b = none → v'.heap[b]? = v.heap[b]? ∧ M' b = none
  hold : ∀ b T m, M b = some (T, m) → T ≠ 91 → v'.heap[b]? = v.heap[b]? ∧ M' b = some (T, m)
  os : v'.os = v.os
  tape : v'.tape = v.tape
  output : v'.output = v.output
  size : v.heap.size ≤ v'.heap.size
theorem Mov.refl (g G : Nat) (M : Tmap) (v : World) : Mov g G M M v v := ⟨Ext.refl _, fun _ _ _ _ h => ⟨rfl, h⟩, fun _ _ _ h _ => ⟨rfl, h⟩, rfl, rfl, rfl, Nat.le_refl _⟩
theorem Mov.trans {g G : Nat} {A B C : Tmap} {a b c : World} (h : Mov g G A B a b) (k : Mov g G B C b c) : Mov g G A C a c :=
  ⟨h.ext.trans k.ext, fun x hx h1 h2 h3 => by
    obtain ⟨e1, e2⟩ := h.out x hx h1 h2 h3
    obtain ⟨f1, f2⟩ := k.out x (Nat.lt_of_lt_of_le hx h.size) h1 h2 e2
    exact ⟨f1.trans e1, f2⟩, fun x T m hx hT => by
    obtain ⟨e1, e2⟩ := h.hold x T m hx hT
    obtain ⟨f1, f2⟩ := k.hold x T m e2 hT
    exact ⟨f1.trans e1, f2⟩, k.os.trans h.os, k.tape.trans h.tape, k.output.trans h.output, Nat.le_trans h.size k.size⟩
/-- What the reader does. -/
theorem Gok.read {base g G len cap N : Nat} {a0 : Option Addr} {M : Tmap} {S : GRec} {v v' : World} (h : Gok base g G a0 len cap M N S v) (hr : Rd g a0 len cap v') (k : v.grownBy v' (some g)) : Gok base g G a0 len cap M N S v' ∧ Mov g G M M v v' := by
  have hgG : g < G := Nat.lt_of_lt_of_le h.gb h.nG
  have hG := (Array.getElem?_eq_some_iff.1 h.cells).1
  have hk : ∀ b, (∃ p, M b = some p) → v'.heap[b]? = v.heap[b]? := fun b hb => by
    obtain ⟨h1, h2⟩ := h.th.lt hb
    exact k.block b h2 (by have := h.gb; simp; omega)
  refine ⟨⟨hr, h.gb, Nat.le_trans h.bv k.size, h.mG, h.nG, (k.block G hG (by simp; omega)).trans h.cells, h.th.keep (Nat.le_refl _) hk, h.p.keep hk, h.b.keep hk, h.ph.keep hk, h.i.keep hk, h.ids, h.rets, h.pars, h.bn⟩, ⟨Ext.refl _, fun b hb h1 h2 h3 => ⟨k.block b hb (by simp; omega), h3⟩, fun b T m hb hT => ⟨hk b ⟨_, hb⟩, hb⟩, k.os, k.tape, k.output, k.size⟩⟩
theorem rd_keep {g : Nat} {a0 : Option Addr} {len cap : Nat} {w w' : World} (h : Rd g a0 len cap w) (hz : w.heap.size ≤ w'.heap.size) (hk : ∀ b : Nat, b ≤ g → w'.heap[b]? = w.heap[b]?) : Rd g a0 len cap w' := by
  obtain ⟨hg, hl, hc, p, hp, hb⟩ := h
  refine ⟨by omega, hl, ?_, p, hp, by rw [hk g (Nat.le_refl _)]; exact hb⟩
  rcases hc with h | ⟨b, off, ha, hb, hc⟩
  · exact .inl h
  · refine .inr ⟨b, off, ha, hb, fun i hi => ?_⟩
    obtain ⟨n, h0, h1, h2⟩ := hc i hi
    exact ⟨n, h0, h1, by rw [cell_blk (hk b (by omega))]; exact h2⟩
/-- Nothing that was there turned but the record itself; new lists of numbers may be there. -/
theorem Gok.grew {base g G len cap N N' : Nat} {a0 : Option Addr} {M M' : Tmap} {S S' : GRec} {v v' : World} (h : Gok base g G a0 len cap M N S v) (hN : N ≤ N') (hB : ∀ b, b < v.heap.size → b ≠ G → v'.heap[b]? = v.heap[b]?) (hz : v.heap.size ≤ v'.heap.size) (e1 : v'.os = v.os) (e2 : v'.tape = v.tape) (e3 : v'.output = v.output)
    (hM : ∀ b, b < v.heap.size → M' b = M b) (hnew : ∀ b T m, v.heap.size ≤ b → M' b = some (T, m) → T = 2 ∧ ∃ cur, v'.heap[b]? = some (.cells cur 2 (0, 0)) ∧ ∀ i, i < m → ∃ z : Int, cur[i]? = some (.int .i64 z))
    (hG : v'.heap[G]? = some (.cells (gcells g S') 131 (0, 0))) (hs : S'.pv = S.pv ∧ S'.np = S.np ∧ S'.bv = S.bv ∧ S'.nb = S.nb ∧ S'.phv = S.phv ∧ S'.nph = S.nph ∧ S'.iv = S.iv ∧ S'.ni = S.ni ∧ S'.rv = S.rv ∧ S'.nr = S.nr ∧ S'.sv = S.sv)
    (hids : (S'.idv = .slice none 0 0 ∧ S'.wsv = .slice none 0 0 ∧ S'.nid = 0) ∨ (0 < S'.nid ∧ SlN M' 2 S'.idv S'.nid ∧ SlN M' 2 S'.wsv S'.nid)) (hb : S'.nid ≤ N' ∧ 0 ≤ S'.nx ∧ S'.nx ≤ N' ∧ N' ≤ 10000) : Gok base g G a0 len cap M' N' S' v' ∧ Mov g G M M' v v' := by
  have hGl := (Array.getElem?_eq_some_iff.1 h.cells).1
  have hgG : g < G := Nat.lt_of_lt_of_le h.gb h.nG
  have hext : Ext M M' := fun b T m hb => ⟨m, Nat.le_refl _, by rw [hM b (h.th.lt ⟨_, hb⟩).2]; exact hb⟩
  have hne : ∀ b, (∃ p, M b = some p) → b ≠ G := fun b hb e => by
    obtain ⟨p, hb⟩ := hb
    rw [e, h.mG] at hb; cases hb
  have hk : ∀ b, (∃ p, M b = some p) → v'.heap[b]? = v.heap[b]? := fun b hb => hB b (h.th.lt hb).2 (hne b hb)
  have hrow : ∀ {T : TypeId} {s : Value} {n : Nat}, RowT base M T s n v → RowT base M' T s n v' := fun {T s n} k => by
    rcases k with k | ⟨q, c, cur, hv, hq, hq2, hc, hn, hm, hs⟩
    · exact .inl k
    · exact .inr ⟨q, c, cur, hv, hq, by rw [hM q (h.th.lt ⟨_, hq2⟩).2]; exact hq2, (hk q ⟨_, hq2⟩).trans hc, hn, hm, hs⟩
  have hth : TH base M' N' v' := fun b T m hb' => by
    by_cases hl : b < v.heap.size
    · rw [hM b hl] at hb'
      obtain ⟨t1, cur, t2, t3⟩ := h.th b T m hb'
      exact ⟨t1, cur, (hk b ⟨_, hb'⟩).trans t2, fun i hi => (t3 i hi).ext hext hN⟩
    · obtain ⟨rfl, cur, t2, t3⟩ := hnew b T m (by omega) hb'
      refine ⟨by have := h.bv; omega, cur, t2, fun i hi => ?_⟩
      obtain ⟨z, hz⟩ := t3 i hi
      refine ⟨fun _ => ⟨z, by simpa [szT] using hz⟩, fun q => ?_, fun q => ?_, fun q => ?_, fun q => ?_⟩
      all_goals exact absurd q (by decide)
  obtain ⟨s1, s2, s3, s4, s5, s6, s7, s8, s9, s10, s11⟩ := hs
  have hbn := h.bn
  refine ⟨⟨rd_keep h.rd hz fun b hb => hB b (by have := h.gb; have := h.bv; omega) (by omega), h.gb, Nat.le_trans h.bv hz, by rw [hM G hGl]; exact h.mG, h.nG, hG, hth, by rw [s1, s2]; exact hrow h.p, by rw [s3, s4]; exact hrow h.b, by rw [s5, s6]; exact hrow h.ph, by rw [s7, s8]; exact hrow h.i, hids, by rw [s9, s10]; exact h.rets.ext hext, by rw [s11, s10]; exact h.pars.ext hext, by rw [s2, s4, s6, s8, s10]; omega⟩, ⟨hext, fun b hl h1 h2 h3 => ⟨hB b hl h2, by rw [hM b hl]; exact h3⟩, fun b T m hb hT => ⟨hk b ⟨_, hb⟩, by rw [hM b (h.th.lt ⟨_, hb⟩).2]; exact hb⟩, e1, e2, e3, hz⟩⟩
theorem gcell {g G : Nat} {S : GRec} {v : World} (h : v.heap[G]? = some (.cells (gcells g S) 131 (0, 0))) (j : Nat) : v.cell? ⟨G, j, none⟩ = (gcells g S)[j]? ∧ v.frozen? ⟨G, j, none⟩ = false := ⟨cell_of_heap h, froz_of_heap h⟩
end Go.Proofs.YtojhakjkfkmklaaGreatDoor
