/- A drawn function as a value: lists out of memory by its types. -/
import Derived.Test.YtclagbdomfgodaaGreatDoorGnSQ
import Derived.Test.YtclagbdomfgodaaGreatDoorCnt
import Derived.Deep.DeepCutAuto
import Derived.Laws.ResultCell
namespace Go.Proofs.YtclagbdomfgodaaGreatDoor
open Go.RowKit Go.Deep
set_option linter.unusedVariables false

theorem list_of {α : Type} (z : α) (P : Nat → α → Prop) : ∀ n, (∀ i, i < n → ∃ x, P i x) → ∃ l : List α, l.length = n ∧ ∀ i, i < n → P i (l.getD i z)
  | 0, _ => ⟨[], rfl, fun i hi => by omega⟩
  | n + 1, h => by
    obtain ⟨l, h1, h2⟩ := list_of z P n fun i hi => h i (by omega)
    obtain ⟨x, hx⟩ := h n (by omega)
    refine ⟨l ++ [x], by simp [h1], fun i hi => ?_⟩
    by_cases e : i = n
    · subst e
      have : (l ++ [x]).getD i z = x := by rw [List.getD, List.getElem?_append_right (by omega), h1, Nat.sub_self]; rfl
      rw [this]; exact hx
    · have : (l ++ [x]).getD i z = l.getD i z := by rw [List.getD, List.getElem?_append_left (by omega), List.getD]
      rw [this]; exact h2 i (by omega)
theorem mem_getD {α : Type} (z : α) {l : List α} {p : α} (h : p ∈ l) : ∃ i, i < l.length ∧ p = l.getD i z := by
  obtain ⟨i, hi, rfl⟩ := List.getElem_of_mem h
  exact ⟨i, hi, by simp [List.getD, hi]⟩
variable {base N n c : Nat} {M : Tmap} {v : World} {u : Option Addr}
/-- What stands where a slice points. -/
theorem sl_at {T : TypeId} (th : TH base M N v) (h : SlN M T (.slice u n c) n) : n = 0 ∨ ∃ g, u = some ⟨g, 0, none⟩ ∧ base ≤ g ∧ g < v.heap.size ∧ ∀ i, i < n → ElOk M N T (fun j => v.cell? ⟨g, 0 + i * szT T + j, none⟩) := by
  obtain ⟨u', c', e, h⟩ := h
  cases e
  rcases h with h | ⟨g, m, rfl, hM, hm⟩
  · exact .inl h
  · obtain ⟨h1, cur, h2, h3⟩ := th g T m hM
    refine .inr ⟨g, rfl, h1, (Array.getElem?_eq_some_iff.1 h2).1, fun i hi => ?_⟩
    have e : (fun j => v.cell? ⟨g, 0 + i * szT T + j, none⟩) = fun j => cur[i * szT T + j]? := by
      funext j
      rw [cell_of_heap h2, Nat.zero_add]
    rw [e]
    exact h3 i (by omega)
theorem ints_of (th : TH base M N v) (h : SlN M 2 (.slice u n c) n) (hn : n ≤ 10000) : ∃ l : List Int, l.length = n ∧ IntsAt v base u l := by
  rcases sl_at th h with rfl | ⟨g, rfl, h1, h2, h3⟩
  · exact ⟨[], rfl, by simp, .inl rfl⟩
  · have hs : szT 2 = 1 := by decide
    obtain ⟨l, l1, l2⟩ := list_of 0 (fun i z => v.cell? ⟨g, 0 + i, none⟩ = some (.int .i64 z)) n fun i hi => by
      obtain ⟨z, hz⟩ := (h3 i hi).1 rfl
      exact ⟨z, by simpa [hs] using hz⟩
    exact ⟨l, l1, by omega, .inr ⟨g, 0, rfl, h1, h2, fun i hi => l2 i (by omega)⟩⟩
theorem slv_form {T : TypeId} {s : Value} (h : SlV M N T s) : ∃ u n c, s = .slice u n c ∧ n ≤ N ∧ SlN M T (.slice u n c) n := by
  obtain ⟨n, h1, h2⟩ := h
  obtain ⟨u, c, rfl, h3⟩ := h2
  exact ⟨u, n, c, rfl, h1, u, c, rfl, h3⟩
theorem phis_of (th : TH base M N v) (hN : N ≤ 10000) (h : SlN M 70 (.slice u n c) n) (hn : n ≤ 10000) : ∃ l : List PhiD, l.length = n ∧ PhisAt v base u l ∧ ∀ p ∈ l, SmPhi p := by
  rcases sl_at th h with rfl | ⟨g, rfl, h1, h2, h3⟩
  · exact ⟨[], rfl, ⟨by simp, .inl rfl⟩, by simp⟩
  · have hs : szT 70 = 2 := by decide
    obtain ⟨l, l1, l2⟩ := list_of phi0 (fun i p => (v.cell? ⟨g, 0 + i * 2, none⟩ = some (.int .i64 p.w) ∧ ∃ u c, v.cell? ⟨g, 0 + i * 2 + 1, none⟩ = some (.slice u p.ins.length c) ∧ IntsAt v base u p.ins) ∧ p.ins.length ≤ 10000) n fun i hi => by
      obtain ⟨⟨z, hz⟩, s, hs1, hs2⟩ := (h3 i hi).2.2.1 rfl
      obtain ⟨u, k, c, rfl, hk, hs3⟩ := slv_form hs2
      obtain ⟨m, m1, m2⟩ := ints_of th hs3 (by omega)
      exact ⟨⟨z, m⟩, ⟨by simpa [hs] using hz, u, c, by simpa [hs, m1] using hs1, m2⟩, by dsimp only; omega⟩
    refine ⟨l, l1, ⟨by omega, .inr ⟨g, 0, rfl, h1, h2, fun i hi => (l2 i (by omega)).1⟩⟩, fun p hp => ?_⟩
    obtain ⟨i, hi, rfl⟩ := mem_getD phi0 hp
    have := (l2 i (by omega)).2
    show _ ≤ _
    omega
theorem insts_of (th : TH base M N v) (hN : N ≤ 10000) (h : SlN M 33 (.slice u n c) n) (hn : n ≤ 10000) : ∃ l : List InstD, l.length = n ∧ InstsAt v base u l ∧ ∀ p ∈ l, SmInst p := by
  rcases sl_at th h with rfl | ⟨g, rfl, h1, h2, h3⟩
  · exact ⟨[], rfl, ⟨by simp, .inl rfl⟩, by simp⟩
  · have hs : szT 33 = 7 := by decide
    obtain ⟨l, l1, l2⟩ := list_of inst0 (fun i p => (v.cell? ⟨g, 0 + i * 7, none⟩ = some (.int .i64 p.op) ∧ v.cell? ⟨g, 0 + i * 7 + 1, none⟩ = some (.int .i64 p.w) ∧ v.cell? ⟨g, 0 + i * 7 + 2, none⟩ = some (.int .i64 p.a) ∧ v.cell? ⟨g, 0 + i * 7 + 3, none⟩ = some (.int .i64 p.b) ∧ v.cell? ⟨g, 0 + i * 7 + 4, none⟩ = some (.int .i64 p.c) ∧ v.cell? ⟨g, 0 + i * 7 + 5, none⟩ = some (.int .i64 p.imm) ∧ ∃ u c, v.cell? ⟨g, 0 + i * 7 + 6, none⟩ = some (.slice u p.args.length c) ∧ IntsAt v base u p.args) ∧ p.args.length ≤ 10000) n fun i hi => by
      obtain ⟨hz, s, hs1, hs2⟩ := (h3 i hi).2.2.2.1 rfl
      obtain ⟨u, k, c, rfl, hk, hs3⟩ := slv_form hs2
      obtain ⟨m, m1, m2⟩ := ints_of th hs3 (by omega)
      obtain ⟨z0, y0⟩ := hz 0 (by omega)
      obtain ⟨z1, y1⟩ := hz 1 (by omega)
      obtain ⟨z2, y2⟩ := hz 2 (by omega)
      obtain ⟨z3, y3⟩ := hz 3 (by omega)
      obtain ⟨z4, y4⟩ := hz 4 (by omega)
      obtain ⟨z5, y5⟩ := hz 5 (by omega)
      simp only [hs] at y0 y1 y2 y3 y4 y5 hs1
      exact ⟨⟨z0, z1, z2, z3, z4, z5, m⟩, ⟨y0, y1, y2, y3, y4, y5, u, c, by rw [hs1, m1], m2⟩, by dsimp only; omega⟩
    refine ⟨l, l1, ⟨by omega, .inr ⟨g, 0, rfl, h1, h2, fun i hi => (l2 i (by omega)).1⟩⟩, fun p hp => ?_⟩
    obtain ⟨i, hi, rfl⟩ := mem_getD inst0 hp
    have := (l2 i (by omega)).2
    show _ ≤ _
    omega
theorem blocks_of (th : TH base M N v) (hN : N ≤ 10000) (h : SlN M 43 (.slice u n c) n) (hn : n ≤ 10000) : ∃ l : List BlockD, l.length = n ∧ BlocksAt v base u l ∧ ∀ p ∈ l, SmBlock p := by
  rcases sl_at th h with rfl | ⟨g, rfl, h1, h2, h3⟩
  · exact ⟨[], rfl, ⟨by simp, .inl rfl⟩, by simp⟩
  · have hs : szT 43 = 6 := by decide
    obtain ⟨l, l1, l2⟩ := list_of block0 (fun i p => ((∃ u c, v.cell? ⟨g, 0 + i * 6, none⟩ = some (.slice u p.phis.length c) ∧ PhisAt v base u p.phis) ∧ (∃ u c, v.cell? ⟨g, 0 + i * 6 + 1, none⟩ = some (.slice u p.insts.length c) ∧ InstsAt v base u p.insts) ∧ v.cell? ⟨g, 0 + i * 6 + 2, none⟩ = some (.int .i64 p.term.kind) ∧ v.cell? ⟨g, 0 + i * 6 + 3, none⟩ = some (.int .i64 p.term.a) ∧ v.cell? ⟨g, 0 + i * 6 + 4, none⟩ = some (.int .i64 p.term.x) ∧ v.cell? ⟨g, 0 + i * 6 + 5, none⟩ = some (.int .i64 p.term.y)) ∧ SmBlock p) n fun i hi => by
      obtain ⟨⟨s, hs1, hs2⟩, ⟨s', hs1', hs2'⟩, hz⟩ := (h3 i hi).2.2.2.2 rfl
      obtain ⟨u, k, c, rfl, hk, hs3⟩ := slv_form hs2
      obtain ⟨u', k', c', rfl, hk', hs3'⟩ := slv_form hs2'
      obtain ⟨m, m1, m2, m3⟩ := phis_of th hN hs3 (by omega)
      obtain ⟨m', m1', m2', m3'⟩ := insts_of th hN hs3' (by omega)
      obtain ⟨z2, y2⟩ := hz 2 (by omega) (by omega)
      obtain ⟨z3, y3⟩ := hz 3 (by omega) (by omega)
      obtain ⟨z4, y4⟩ := hz 4 (by omega) (by omega)
      obtain ⟨z5, y5⟩ := hz 5 (by omega) (by omega)
      simp only [hs] at y2 y3 y4 y5 hs1 hs1'
      exact ⟨⟨m, m', ⟨z2, z3, z4, z5⟩⟩, ⟨⟨u, c, by rw [← m1] at hs1; exact hs1, m2⟩, ⟨u', c', by rw [← m1'] at hs1'; exact hs1', m2'⟩, y2, y3, y4, y5⟩, ⟨by dsimp only; omega, m3⟩, ⟨by dsimp only; omega, m3'⟩⟩
    refine ⟨l, l1, ⟨by omega, .inr ⟨g, 0, rfl, h1, h2, fun i hi => (l2 i (by omega)).1⟩⟩, fun p hp => ?_⟩
    obtain ⟨i, hi, rfl⟩ := mem_getD block0 hp
    exact (l2 i (by omega)).2
end Go.Proofs.YtclagbdomfgodaaGreatDoor
namespace Go.Proofs.YtclagbdomfgodaaGreatDoor
open Go.RowKit Go.Deep
set_option linter.unusedVariables false

/-- The memory of a function: blocks from lo on, ahead of H. -/
def FMem (w : World) (lo H : Nat) (d : FuncD) (up ub : Option Addr) : Prop := ∃ w1 : World, w1.heap.size ≤ H ∧ IntsAt w1 lo up d.params ∧ BlocksAt w1 lo ub d.blocks ∧ Agree lo w1 w
theorem FMem.step {w w' : World} {lo H : Nat} {d : FuncD} {up ub : Option Addr} (h : FMem w lo H d up ub) (hs : w.heap.size ≤ w'.heap.size) (hb : ∀ b, lo ≤ b → b < H → w'.heap[b]? = w.heap[b]?) : FMem w' lo H d up ub := by
  obtain ⟨w1, h1, h2, h3, h4, h5⟩ := h
  exact ⟨w1, h1, h2, h3, Nat.le_trans h4 hs, fun b k1 k2 => (hb b k1 (by omega)).trans (h5 b k1 k2)⟩
theorem FMem.read {w : World} {lo H : Nat} {d : FuncD} {up ub : Option Addr} (h : FMem w lo H d up ub) : IntsAt w lo up d.params ∧ BlocksAt w lo ub d.blocks := by
  obtain ⟨w1, h1, h2, h3, h4⟩ := h
  exact ⟨h2.keep h4, h3.keep h4⟩
/-- Parameters: at most two, each a width. -/
def Wds (w : World) (lo H : Nat) (up : Option Addr) (np : Nat) : Prop := np ≤ 2 ∧ (0 < np → ∃ gp, up = some ⟨gp, 0, none⟩ ∧ lo ≤ gp ∧ gp < H ∧ (∃ cur, w.heap[gp]? = some (.cells cur 2 (0, 0))) ∧ ∀ i, i < np → ∃ x : Int, w.cell? ⟨gp, i, none⟩ = some (.int .i64 x) ∧ (x = 1 ∨ x = 8 ∨ x = 16 ∨ x = 32))
theorem Wds.step {w w' : World} {lo H np : Nat} {up : Option Addr} (h : Wds w lo H up np) (hb : ∀ b, lo ≤ b → b < H → w'.heap[b]? = w.heap[b]?) : Wds w' lo H up np := by
  refine ⟨h.1, fun hn => ?_⟩
  obtain ⟨gp, h1, h2, h3, ⟨cur, h4⟩, h5⟩ := h.2 hn
  refine ⟨gp, h1, h2, h3, ⟨cur, (hb gp h2 h3).trans h4⟩, fun i hi => ?_⟩
  obtain ⟨x, x1, x2⟩ := h5 i hi
  exact ⟨x, (cell_blk (hb gp h2 h3)).trans x1, x2⟩
/-- A function that has been drawn. -/
structure Fnc (w : World) (lo H : Nat) (d : FuncD) (up ub : Option Addr) : Prop where
  mem : FMem w lo H d up ub
  sm : SmFunc d
  one : 1 ≤ d.blocks.length
  wds : Wds w lo H up d.params.length
theorem Fnc.step {w w' : World} {lo H : Nat} {d : FuncD} {up ub : Option Addr} (h : Fnc w lo H d up ub) (hs : w.heap.size ≤ w'.heap.size) (hb : ∀ b, lo ≤ b → b < H → w'.heap[b]? = w.heap[b]?) : Fnc w' lo H d up ub :=
  ⟨h.mem.step hs hb, h.sm, h.one, h.wds.step hb⟩
theorem Fnc.more {w : World} {lo H H' : Nat} {d : FuncD} {up ub : Option Addr} (h : Fnc w lo H d up ub) (hH : H ≤ H') : Fnc w lo H' d up ub := by
  obtain ⟨⟨w1, a1, a2⟩, h2, h3, h4, h5⟩ := h
  refine ⟨⟨w1, by omega, a2⟩, h2, h3, h4, fun hn => ?_⟩
  obtain ⟨gp, b1, b2, b3, b4⟩ := h5 hn
  exact ⟨gp, b1, b2, by omega, b4⟩
theorem Fnc.keep {w w' : World} {lo H g : Nat} {d : FuncD} {up ub : Option Addr} (h : Fnc w lo H d up ub) (hb : ∀ b, b < w.heap.size → b ≠ g → w'.heap[b]? = w.heap[b]?) (hs : w.heap.size ≤ w'.heap.size) (hg : g < lo) : Fnc w' lo H d up ub := by
  obtain ⟨⟨w1, a1, a2, a3, a4, a5⟩, h2, h3, h4, h5⟩ := h
  refine ⟨⟨w1, a1, a2, a3, by omega, fun b b1 b2 => (hb b (by omega) (by omega)).trans (a5 b b1 b2)⟩, h2, h3, h4, fun hn => ?_⟩
  obtain ⟨gp, c1, c2, c3, ⟨cur, c4⟩, c5⟩ := h5 hn
  have hl := (Array.getElem?_eq_some_iff.1 c4).1
  have he := hb gp hl (by omega)
  refine ⟨gp, c1, c2, c3, ⟨cur, he.trans c4⟩, fun i hi => ?_⟩
  obtain ⟨x, x1, x2⟩ := c5 i hi
  exact ⟨x, (cell_blk he).trans x1, x2⟩
/-- What fn answers is one. -/
theorem fnc_of {base N up np cp ub nb cb : _} {M : Tmap} {w : World} {ret : Int} (th : TH base M N w) (hN : N ≤ 10000) (h1 : SlN M 2 (.slice up np cp) np) (h2 : SlN M 43 (.slice ub nb cb) nb) (hn : np ≤ 2) (hb : 1 ≤ nb ∧ nb ≤ 400) (hw : ∀ k, k < np → ∃ x : Int, rowAt w (.slice up np cp) k = some (.int .i64 x) ∧ (x = 1 ∨ x = 8 ∨ x = 16 ∨ x = 32)) :
    ∃ d : FuncD, d.params.length = np ∧ d.ret = ret ∧ d.blocks.length = nb ∧ Fnc w base w.heap.size d up ub := by
  obtain ⟨l, l1, l2⟩ := ints_of th h1 (by omega)
  obtain ⟨m, m1, m2, m3⟩ := blocks_of th hN h2 (by omega)
  refine ⟨⟨l, ret, m⟩, l1, rfl, m1, ⟨w, Nat.le_refl _, l2, m2, Nat.le_refl _, fun _ _ _ => rfl⟩, ⟨by dsimp only; omega, by dsimp only; omega, m3⟩, by dsimp only; omega, by dsimp only; omega, fun hp => ?_⟩
  dsimp only at hp
  rw [l1] at hp
  obtain ⟨u', c', e, h⟩ := h1
  cases e
  rcases h with h | ⟨gp, mp, rfl, hM, hm⟩
  · omega
  · obtain ⟨t1, cur, t2, t3⟩ := th gp _ _ hM
    refine ⟨gp, rfl, t1, (Array.getElem?_eq_some_iff.1 t2).1, ⟨cur, t2⟩, fun i hi => ?_⟩
    dsimp only at hi
    rw [l1] at hi
    exact hw i hi
/-- What holds between two functions. -/
structure MSt (z0 g : Nat) (a0 : Option Addr) (len cap : Nat) (v : World) (k : Nat) (r s : Value) (w : World) : Prop where
  rd : Rd g a0 len cap w
  gz : g < z0
  sz : z0 + 4 ≤ w.heap.size
  res : w.heap[z0]? = some (.cells #[.slice none 0 0] 56 (0, 0))
  fs : ∃ mf xs ps, w.heap[z0 + 1]? = some (.cells #[mf] 56 (0, 0)) ∧ w.ownsRow (z0 + 2) 27 3 mf k xs ∧ w.ownsRow (z0 + 2) 24 1 s k ps ∧ (k = 0 → mf = .slice none 0 0) ∧ (0 < k → ∃ d up cp ub cb H, xs[0]? = some (.slice up d.params.length cp) ∧ xs[1]? = some (.int .i64 d.ret) ∧ xs[2]? = some (.slice ub d.blocks.length cb) ∧ Fnc w (z0 + 4) H d up ub ∧ (∀ q, mf.ownBlock = some q → q < z0 + 4 ∨ H ≤ q) ∧ (∀ q, r.ownBlock = some q → q < z0 + 4 ∨ H ≤ q) ∧ (∀ q, s.ownBlock = some q → q < z0 + 4 ∨ H ≤ q) ∧ H ≤ w.heap.size ∧ (k = 1 → ps = [.slice up d.params.length cp]))
  ro : ∃ zs : List Int, w.ownsRow (z0 + 2) 2 1 r k (zs.map (Value.int .i64))
  new0 : k = 0 → (∀ q, r.ownBlock = some q → q < z0 + 4) ∧ (∀ q, s.ownBlock = some q → q < z0 + 4)
  old : ∀ b, b < z0 → b ≠ g → w.heap[b]? = v.heap[b]?
  os : w.os = v.os
  tape : w.tape = v.tape
  output : w.output = v.output
theorem own_ne {w : World} {b b' n n' sz sz' p q : Nat} {T T' : TypeId} {x x' : Value} {xs xs' : List Value} (h : w.ownsRow b T sz x n xs) (h' : w.ownsRow b' T' sz' x' n' xs') (hT : T ≠ T') (hp : x.ownBlock = some p) (hq : x'.ownBlock = some q) : p ≠ q := by
  rcases h.2 with ⟨rfl, _⟩ | ⟨g, c, cur, rfl, _, hc, _⟩
  · simp [Value.ownBlock] at hp
  rcases h'.2 with ⟨rfl, _⟩ | ⟨g', c', cur', rfl, _, hc', _⟩
  · simp [Value.ownBlock] at hq
  simp [Value.ownBlock] at hp hq
  subst hp hq
  intro e
  subst e
  rw [hc] at hc'
  cases hc'
  exact hT rfl
/-- The map of what stands ahead. -/
def mapOf (gr gs : Nat) (gp : Option Nat) (np : Nat) : Tmap := fun b => if b = gr then some (2, 1) else if b = gs then some (24, 1) else if gp = some b then some (2, np) else none
theorem MSt.fnIn {z0 g len cap k : Nat} {a0 : Option Addr} {v w : World} {r s : Value} (h : MSt z0 g a0 len cap v k r s w) (hk : k ≤ 1) : ∃ base M ur cr us cs, (k = 0 → base = z0 + 4) ∧ r = .slice ur k cr ∧ s = .slice us k cs ∧ FnIn base g a0 len cap M (.slice ur k cr) (.slice us k cs) k w := by
  have hgz := h.gz
  have hsz := h.sz
  obtain ⟨zs, hr⟩ := h.ro
  obtain ⟨mf, xs, ps, _, _, hs, _, hf⟩ := h.fs
  rcases Nat.lt_or_ge 0 k with hk1 | hk0
  · obtain rfl : k = 1 := by omega
    obtain ⟨d, up, cp, _, _, H, _, _, _, hfnc, _, hHr, hHs, _, hps⟩ := hf (by omega)
    obtain rfl := hps rfl
    obtain ⟨hn, hw⟩ := hfnc.wds
    generalize d.params.length = np at *
    rcases hr.2 with ⟨_, e⟩ | ⟨gr, cr, cur, rfl, hgr2, hcr, hcr2, _, hcr3, hcr4⟩
    · omega
    rcases hs.2 with ⟨_, e⟩ | ⟨gs, cs, cus, rfl, hgs2, hcs, hcs2, _, hcs3, hcs4⟩
    · omega
    have hgr := hHr gr rfl
    have hgs := hHs gs rfl
    have hlr := (Array.getElem?_eq_some_iff.1 hcr).1
    have hls := (Array.getElem?_eq_some_iff.1 hcs).1
    have hne : gr ≠ gs := own_ne hr hs (by decide) rfl rfl
    have hr0 : ∃ z : Int, cur[0]? = some (.int .i64 z) := by
      obtain ⟨z, rfl⟩ : ∃ z, zs = [z] := by
        have := hr.1
        match zs, this with
        | [z], _ => exact ⟨z, rfl⟩
      refine ⟨z, ?_⟩
      have : (cur.toList.take (1 * 1))[0]? = some (.int .i64 z) := by rw [hcr4]; rfl
      rw [List.getElem?_take] at this
      simpa using this
    have hs0 : cus[0]? = some (.slice up np cp) := by
      have : (cus.toList.take (1 * 1))[0]? = some (.slice up np cp) := by rw [hcs4]; rfl
      rw [List.getElem?_take] at this
      simpa using this
    have hs1 : szT 2 = 1 := by decide
    have hs2 : szT 24 = 1 := by decide
    obtain ⟨z, hr0⟩ := hr0
    have hgp : ∃ gpo : Option Nat, (0 < np → ∃ gp, gpo = some gp ∧ up = some ⟨gp, 0, none⟩) ∧ ∀ gp, gpo = some gp → up = some ⟨gp, 0, none⟩ ∧ z0 + 4 ≤ gp ∧ gp < H ∧ (∃ cur, w.heap[gp]? = some (.cells cur 2 (0, 0)) ∧ ∀ i, i < np → ∃ z : Int, cur[i]? = some (.int .i64 z)) := by
      rcases Nat.eq_zero_or_pos np with h0 | h0
      · exact ⟨none, fun h => by omega, fun gp h => by cases h⟩
      · obtain ⟨gp, e1, e2, e3, ⟨cu, e4⟩, e5⟩ := hw h0
        refine ⟨some gp, fun _ => ⟨gp, rfl, e1⟩, fun gp' e => ?_⟩
        cases e
        refine ⟨e1, e2, e3, cu, e4, fun i hi => ?_⟩
        obtain ⟨x, x1, _⟩ := e5 i hi
        rw [cell_of_heap e4] at x1
        exact ⟨x, x1⟩
    obtain ⟨gpo, hg1, hg2⟩ := hgp
    have hMp : ∀ gp, gpo = some gp → ∃ m, mapOf gr gs gpo np gp = some (2, m) := fun gp e => by
      unfold mapOf
      by_cases e1 : gp = gr
      · exact ⟨1, by rw [if_pos e1]⟩
      · by_cases e2 : gp = gs
        · exfalso
          obtain ⟨_, _, _, cu, c1, _⟩ := hg2 gp e
          rw [e2, hcs] at c1
          cases c1
        · exact ⟨np, by rw [if_neg e1, if_neg e2, if_pos e]⟩
    refine ⟨z0 + 2, mapOf gr gs gpo np, some ⟨gr, 0, none⟩, cr, some ⟨gs, 0, none⟩, cs, fun e => by omega, rfl, rfl, h.rd, by omega, by omega, fun b T m hb => ?_, ⟨_, _, rfl, .inr ⟨gr, 1, rfl, by simp [mapOf], Nat.le_refl _⟩⟩, ⟨_, _, rfl, .inr ⟨gs, 1, rfl, by simp [mapOf, Ne.symm hne], Nat.le_refl _⟩⟩, by omega, fun _ => ?_, fun b T m hb => ?_⟩
    · unfold mapOf at hb
      split at hb
      · rename_i e
        subst e
        cases hb
        exact ⟨by omega, cur, hcr, fun i hi => el_int (z := z) (by rw [hs1]; obtain rfl : i = 0 := (by omega); exact hr0)⟩
      · split at hb
        · rename_i e
          subst e
          cases hb
          refine ⟨by omega, cus, hcs, fun i hi => ?_⟩
          obtain rfl : i = 0 := by omega
          refine ⟨fun q => absurd q (by decide), fun _ => ⟨_, by rw [hs2]; exact hs0, np, by omega, up, cp, rfl, ?_⟩, fun q => absurd q (by decide), fun q => absurd q (by decide), fun q => absurd q (by decide)⟩
          rcases Nat.eq_zero_or_pos np with h0 | h0
          · exact .inl h0
          · obtain ⟨gp, e1, e2⟩ := hg1 h0
            right
            obtain ⟨e3, e4, e5, e6⟩ := hg2 gp e1
            have n1 : gp ≠ gr := by clear hf hps hfnc; omega
            have n2 : gp ≠ b := by clear hf hps hfnc; omega
            exact ⟨gp, np, e2, by unfold mapOf; rw [if_neg n1, if_neg n2, if_pos e1], Nat.le_refl _⟩
        · split at hb
          · rename_i e
            cases hb
            obtain ⟨_, c2, c3, cu, c4, c5⟩ := hg2 b e
            refine ⟨by omega, cu, c4, fun i hi => ?_⟩
            obtain ⟨z, hz⟩ := c5 i hi
            exact el_int (z := z) (by rw [hs1]; simpa using hz)
          · cases hb
    · obtain ⟨m, hm⟩ : ∃ m, mapOf gr gs gpo np gs = some (24, m) := ⟨1, by simp [mapOf, Ne.symm hne]⟩
      refine ⟨gs, cs, m, rfl, hm, fun i hi => ?_⟩
      have hi0 : i = 0 := by have : i < 1 := hi; omega
      subst hi0
      refine ⟨up, np, cp, (cell_of_heap hcs).trans hs0, hn, fun h0 => ?_⟩
      obtain ⟨gp, e1, e2⟩ := hg1 h0
      obtain ⟨mp, hmp⟩ := hMp gp e1
      obtain ⟨gp', f1, _, _, _, f5⟩ := hw h0
      rw [e2] at f1
      cases f1
      exact ⟨gp, mp, e2, hmp, f5⟩
    · unfold mapOf at hb
      split at hb
      · cases hb; exact .inl rfl
      · split at hb
        · cases hb; exact .inr rfl
        · split at hb
          · cases hb; exact .inl rfl
          · cases hb
  · obtain rfl : k = 0 := by omega
    have form : ∀ {T : TypeId} {x : Value} {ys : List Value}, w.ownsRow (z0 + 2) T 1 x 0 ys → ∃ u c, x = .slice u 0 c := fun {T x ys} hx => by
      rcases hx.2 with ⟨rfl, _⟩ | ⟨g, c, cur, rfl, _⟩
      · exact ⟨none, 0, rfl⟩
      · exact ⟨_, c, rfl⟩
    obtain ⟨ur, cr, rfl⟩ := form hr
    obtain ⟨us, cs, rfl⟩ := form hs
    exact ⟨z0 + 4, fun _ => none, ur, cr, us, cs, fun _ => rfl, rfl, rfl, h.rd, by omega, hsz, fun b T m hb => (by cases hb), ⟨_, _, rfl, .inl rfl⟩, ⟨_, _, rfl, .inl rfl⟩, by omega, fun hp => absurd hp (Nat.lt_irrefl 0), fun b T m hb => (by cases hb)⟩
theorem MSt.keep {z0 g len cap k : Nat} {a0 : Option Addr} {v w x : World} {r s : Value} (h : MSt z0 g a0 len cap v k r s w) (hr : Rd g a0 len cap x) (hb : ∀ b, b < w.heap.size → b ≠ g → x.heap[b]? = w.heap[b]?) (hs : w.heap.size ≤ x.heap.size) (e1 : x.os = w.os) (e2 : x.tape = w.tape) (e3 : x.output = w.output) : MSt z0 g a0 len cap v k r s x := by
  have hgz := h.gz
  have hsz := h.sz
  have hlt : ∀ {T : TypeId} {sz n : Nat} {y : Value} {ys : List Value}, w.ownsRow (z0 + 2) T sz y n ys → x.ownsRow (z0 + 2) T sz y n ys := fun {T sz n y ys} hy => own_stay hy fun q hq => by
    obtain ⟨q1, q2⟩ := hy.lt q hq
    exact hb q q2 (by omega)
  obtain ⟨mf, xs, ps, m1, m2, m3, m0, m4⟩ := h.fs
  obtain ⟨zs, hz⟩ := h.ro
  refine ⟨hr, hgz, by omega, (hb _ (by omega) (by omega)).trans h.res, ⟨mf, xs, ps, (hb _ (by omega) (by omega)).trans m1, hlt m2, hlt m3, m0, fun hk => ?_⟩, ⟨zs, hlt hz⟩, h.new0, fun b b1 b2 => (hb b (by omega) b2).trans (h.old b b1 b2), e1.trans h.os, e2.trans h.tape, e3.trans h.output⟩
  obtain ⟨d, up, cp, ub, cb, H, x0, x1, x2, hF, r1, r2, r3, r4, r5⟩ := m4 hk
  exact ⟨d, up, cp, ub, cb, H, x0, x1, x2, hF.keep hb hs (by omega), r1, r2, r3, by omega, r5⟩
end Go.Proofs.YtclagbdomfgodaaGreatDoor
namespace Go.Proofs.YtclagbdomfgodaaGreatDoor
open Go.RowKit Go.Deep
set_option linter.unusedVariables false

theorem rowblk {w : World} {b n sz : Nat} {T : TypeId} {x : Value} {xs : List Value} (h : w.ownsRow b T sz x n xs) (q : Nat) (hq : x.ownBlock = some q) : ∃ cur, w.heap[q]? = some (.cells cur T (0, 0)) := by
  rcases h.2 with ⟨rfl, _⟩ | ⟨g, c, cur, rfl, _, hc, _⟩
  · simp [Value.ownBlock] at hq
  · simp [Value.ownBlock] at hq
    subst hq
    exact ⟨cur, hc⟩
theorem blk_ne {w : World} {p q : Nat} {T T' : TypeId} {c c' : Array Value} {f f' : Nat × Nat} (h : w.heap[p]? = some (.cells c T f)) (h' : w.heap[q]? = some (.cells c' T' f')) (hT : T ≠ T') : p ≠ q := fun e => by
  subst e
  rw [h] at h'
  cases h'
  exact hT rfl
set_option maxHeartbeats 1000000 in
theorem MSt.next {z0 g len cap k T7 g4 c4 g5 c5 g6 c6 lo : Nat} {a0 : Option Addr} {v x y1 y3 y4 : World} {r s mf : Value} {d : FuncD} {up ub : Option Addr} {cp cb : Nat} {xs ps : List Value} {zs : List Int} {A B C : Obj}
    (hM : MSt z0 g a0 len cap v k r s x) (hk : k ≤ 1) (hF : Fnc x lo x.heap.size d up ub) (hlo : k = 0 → lo = z0 + 4)
    (m1 : x.heap[z0 + 1]? = some (.cells #[mf] 56 (0, 0))) (m2 : x.ownsRow (z0 + 2) 27 3 mf k xs) (m3 : x.ownsRow (z0 + 2) 24 1 s k ps) (m5 : x.ownsRow (z0 + 2) 2 1 r k (zs.map (Value.int .i64)))
    (m0 : k = 0 → mf = .slice none 0 0) (m4 : 0 < k → ∃ d up cp ub cb H, xs[0]? = some (.slice up d.params.length cp) ∧ xs[1]? = some (.int .i64 d.ret) ∧ xs[2]? = some (.slice ub d.blocks.length cb) ∧ Fnc x (z0 + 4) H d up ub ∧ (∀ q, mf.ownBlock = some q → q < z0 + 4 ∨ H ≤ q) ∧ (∀ q, r.ownBlock = some q → q < z0 + 4 ∨ H ≤ q) ∧ (∀ q, s.ownBlock = some q → q < z0 + 4 ∨ H ≤ q) ∧ H ≤ x.heap.size ∧ (k = 1 → ps = [.slice up d.params.length cp]))
    (o1 : y1.ownsRow (z0 + 2) 27 3 (.slice (some ⟨g4, 0, none⟩) (k + 1) c4) (k + 1) (xs ++ [.slice up d.params.length cp, .int .i64 d.ret, .slice ub d.blocks.length cb])) (e1 : (x.alloc A).grownBy y1 mf.ownBlock) (a1 : mf.ownBlock = some g4 ∨ g4 = x.heap.size + 1)
    (o2 : y3.ownsRow (z0 + 2) 2 1 (.slice (some ⟨g5, 0, none⟩) (k + 1) c5) (k + 1) (zs.map (Value.int .i64) ++ [.int .i64 d.ret])) (e2 : ((y1.setCell ⟨z0 + 1, 0, none⟩ (.slice (some ⟨g4, 0, none⟩) (k + 1) c4)).alloc B).grownBy y3 r.ownBlock) (a2 : r.ownBlock = some g5 ∨ y1.heap.size ≤ g5)
    (o3 : y4.ownsRow (z0 + 2) 24 1 (.slice (some ⟨g6, 0, none⟩) (k + 1) c6) (k + 1) (ps ++ [.slice up d.params.length cp])) (e3 : (y3.alloc C).grownBy y4 s.ownBlock) (a3 : s.ownBlock = some g6 ∨ y3.heap.size ≤ g6) :
    MSt z0 g a0 len cap v (k + 1) (.slice (some ⟨g5, 0, none⟩) (k + 1) c5) (.slice (some ⟨g6, 0, none⟩) (k + 1) c6) y4 := by
  have hgz := hM.gz
  have hsz := hM.sz
  have s1 : x.heap.size + 1 ≤ y1.heap.size := by have := e1.size; simpa using this
  have s2 : y1.heap.size + 1 ≤ y3.heap.size := by have := e2.size; simpa [World.size_setCell] using this
  have s3 : y3.heap.size + 1 ≤ y4.heap.size := by have := e3.size; simpa using this
  -- what each step leaves as it was
  have b1 : ∀ b, b < x.heap.size → mf.ownBlock ≠ some b → y1.heap[b]? = x.heap[b]? := fun b hb hn => (e1.block b (by simp; omega) (fun e => hn e.symm)).trans (Below.heap_alloc _ _ _ hb)
  have b2 : ∀ b, b < y1.heap.size → b ≠ z0 + 1 → r.ownBlock ≠ some b → y3.heap[b]? = y1.heap[b]? := fun b hb h1 hn => (e2.block b (by simp [World.size_setCell]; omega) (fun e => hn e.symm)).trans ((Below.heap_alloc _ _ _ (by simpa [World.size_setCell] using hb)).trans (Below.heap_setCell _ _ _ _ h1))
  have b3 : ∀ b, b < y3.heap.size → s.ownBlock ≠ some b → y4.heap[b]? = y3.heap[b]? := fun b hb hn => (e3.block b (by simp; omega) (fun e => hn e.symm)).trans (Below.heap_alloc _ _ _ hb)
  -- the rows' own blocks
  have lm : ∀ q, mf.ownBlock = some q → z0 + 2 ≤ q ∧ q < x.heap.size := fun q hq => m2.lt q hq
  have lr : ∀ q, r.ownBlock = some q → z0 + 2 ≤ q ∧ q < x.heap.size := fun q hq => m5.lt q hq
  have ls : ∀ q, s.ownBlock = some q → z0 + 2 ≤ q ∧ q < x.heap.size := fun q hq => m3.lt q hq
  have all : ∀ b, b < x.heap.size → b ≠ z0 + 1 → mf.ownBlock ≠ some b → r.ownBlock ≠ some b → s.ownBlock ≠ some b → y4.heap[b]? = x.heap[b]? := fun b hb h1 h2 h3 h4 => (b3 b (by omega) h4).trans ((b2 b (by omega) h1 h3).trans (b1 b hb h2))
  have low : ∀ b, b < z0 + 1 → y4.heap[b]? = x.heap[b]? := fun b hb => all b (by omega) (by omega) (fun e => by have := lm b e; omega) (fun e => by have := lr b e; omega) (fun e => by have := ls b e; omega)
  -- the module's own cell
  have c1 : y4.heap[z0 + 1]? = some (.cells #[.slice (some ⟨g4, 0, none⟩) (k + 1) c4] 56 (0, 0)) := by
    have t1 : y1.heap[z0 + 1]? = some (.cells #[mf] 56 (0, 0)) := (b1 _ (by omega) (fun e => by have := lm _ e; omega)).trans m1
    have t2 : (y1.setCell ⟨z0 + 1, 0, none⟩ (.slice (some ⟨g4, 0, none⟩) (k + 1) c4)).heap[z0 + 1]? = some (.cells #[.slice (some ⟨g4, 0, none⟩) (k + 1) c4] 56 (0, 0)) := (heap_set t1).trans rfl
    have t3 : y3.heap[z0 + 1]? = some (.cells #[.slice (some ⟨g4, 0, none⟩) (k + 1) c4] 56 (0, 0)) := (e2.block _ (by simp [World.size_setCell]; omega) (fun e => by have := lr _ e.symm; omega)).trans ((Below.heap_alloc _ _ _ (by simp [World.size_setCell]; omega)).trans t2)
    exact (b3 _ (by omega) (fun e => by have := ls _ e; omega)).trans t3
  -- the rows afterwards
  have g4l := (o1.lt g4 rfl).2
  have g5l := (o2.lt g5 rfl).2
  have n45 : r.ownBlock ≠ some g4 := fun e => by
    rcases a1 with a1 | a1
    · exact own_ne m2 m5 (by decide) a1 e rfl
    · have := lr _ e; omega
  have n46 : s.ownBlock ≠ some g4 := fun e => by
    rcases a1 with a1 | a1
    · exact own_ne m2 m3 (by decide) a1 e rfl
    · have := ls _ e; omega
  have n56 : s.ownBlock ≠ some g5 := fun e => by
    rcases a2 with a2 | a2
    · exact own_ne m5 m3 (by decide) a2 e rfl
    · have := ls _ e; omega
  have o1' : y4.ownsRow (z0 + 2) 27 3 (.slice (some ⟨g4, 0, none⟩) (k + 1) c4) (k + 1) (xs ++ [.slice up d.params.length cp, .int .i64 d.ret, .slice ub d.blocks.length cb]) := own_stay o1 fun q hq => by
    have e : q = g4 := by simpa [Value.ownBlock] using hq.symm
    subst e
    have h4 := (o1.lt q rfl).1
    exact (b3 q (by omega) n46).trans (b2 q g4l (by omega) n45)
  have o2' : y4.ownsRow (z0 + 2) 2 1 (.slice (some ⟨g5, 0, none⟩) (k + 1) c5) (k + 1) (zs.map (Value.int .i64) ++ [.int .i64 d.ret]) := own_stay o2 fun q hq => by
    have e : q = g5 := by simpa [Value.ownBlock] using hq.symm
    subst e
    exact b3 q g5l n56
  refine ⟨rd_keep hM.rd (by omega) fun b hb => low b (by omega), hgz, by omega, (low z0 (by omega)).trans hM.res, ⟨_, _, _, c1, o1', o3, fun e => by omega, fun _ => ?_⟩, ⟨zs ++ [d.ret], by simpa using o2'⟩, fun e => by omega, fun b h1 h2 => (low b (by omega)).trans (hM.old b h1 h2), ?_, ?_, ?_⟩
  · rcases Nat.eq_zero_or_pos k with h0 | h0
    · subst h0
      have hlo0 := hlo rfl
      subst hlo0
      obtain ⟨q1, q2⟩ := hM.new0 rfl
      have hx0 : xs = [] := by have := m2.1; simpa using this
      have hp0 : ps = [] := by have := m3.1; simpa using this
      subst hx0 hp0
      have hmf : ∀ q, mf.ownBlock = some q → q < z0 + 4 := fun q hq => by
        rw [m0 rfl] at hq
        simp [Value.ownBlock] at hq
      refine ⟨d, up, cp, ub, cb, x.heap.size, rfl, rfl, rfl, hF.step (by omega) fun b h1 h2 => all b h2 (by omega) (fun e => by have := hmf b e; omega) (fun e => by have := q1 b e; omega) (fun e => by have := q2 b e; omega), fun q hq => ?_, fun q hq => ?_, fun q hq => ?_, by omega, fun _ => rfl⟩
      · have e : q = g4 := by simpa [Value.ownBlock] using hq.symm
        subst e
        rcases a1 with a1 | a1
        · exact .inl (hmf _ a1)
        · exact .inr (by omega)
      · have e : q = g5 := by simpa [Value.ownBlock] using hq.symm
        subst e
        rcases a2 with a2 | a2
        · exact .inl (q1 _ a2)
        · exact .inr (by omega)
      · have e : q = g6 := by simpa [Value.ownBlock] using hq.symm
        subst e
        rcases a3 with a3 | a3
        · exact .inl (q2 _ a3)
        · exact .inr (by omega)
    · obtain ⟨d1, up1, cp1, ub1, cb1, H, x0, x1, x2, hF1, f1, f2, f3, f4, _⟩ := m4 h0
      have hl : xs.length = k * 3 := m2.1
      refine ⟨d1, up1, cp1, ub1, cb1, H, by rw [List.getElem?_append_left (by omega)]; exact x0, by rw [List.getElem?_append_left (by omega)]; exact x1, by rw [List.getElem?_append_left (by omega)]; exact x2, ?_, fun q hq => ?_, fun q hq => ?_, fun q hq => ?_, by omega, fun e => by omega⟩
      · refine hF1.step (by omega) fun b h1 h2 => all b (by omega) (by omega) (fun e => ?_) (fun e => ?_) (fun e => ?_)
        · have := f1 b e; omega
        · have := f2 b e; omega
        · have := f3 b e; omega
      · have e : q = g4 := by simpa [Value.ownBlock] using hq.symm
        subst e
        rcases a1 with a1 | a1
        · rcases f1 _ a1 with f | f
          · exact .inl f
          · exact .inr (by omega)
        · exact .inr (by omega)
      · have e : q = g5 := by simpa [Value.ownBlock] using hq.symm
        subst e
        rcases a2 with a2 | a2
        · rcases f2 _ a2 with f | f
          · exact .inl f
          · exact .inr (by omega)
        · exact .inr (by omega)
      · have e : q = g6 := by simpa [Value.ownBlock] using hq.symm
        subst e
        rcases a3 with a3 | a3
        · rcases f3 _ a3 with f | f
          · exact .inl f
          · exact .inr (by omega)
        · exact .inr (by omega)
  · exact e3.os.trans (e2.os.trans (e1.os.trans hM.os))
  · exact e3.tape.trans (e2.tape.trans (e1.tape.trans hM.tape))
  · exact e3.output.trans (e2.output.trans (e1.output.trans hM.output))
end Go.Proofs.YtclagbdomfgodaaGreatDoor
namespace Go.Proofs.YtclagbdomfgodaaGreatDoor
open Go.RowKit Go.Deep
set_option linter.unusedVariables false

theorem size5 (v : World) : ((((v.alloc (.cells #[.slice none 0 0] 56)).alloc (.cells #[.slice none 0 0] 56)).alloc (.cells #[] 2)).alloc (.cells #[] 24)).heap.size = v.heap.size + 4 := by simp
theorem mst_start {g len cap : Nat} {a0 : Option Addr} {v : World} (h : Rd g a0 len cap v) : MSt v.heap.size g a0 len cap v 0 (.slice (some ⟨v.heap.size + 2, 0, none⟩) 0 0) (.slice (some ⟨v.heap.size + 3, 0, none⟩) 0 0) ((((v.alloc (.cells #[.slice none 0 0] 56)).alloc (.cells #[.slice none 0 0] 56)).alloc (.cells #[] 2)).alloc (.cells #[] 24)) := by
  have hg := h.lt
  have hb : Below v.heap.size v ((((v.alloc (.cells #[.slice none 0 0] 56)).alloc (.cells #[.slice none 0 0] 56)).alloc (.cells #[] 2)).alloc (.cells #[] 24)) := (((((Below.refl _ _).alloc (Nat.le_refl _) _).alloc (by simp) _).alloc (by first | (simp; done) | (simp; omega)) _).alloc (by first | (simp; done) | (simp; omega)) _)
  have e0 : ((((v.alloc (.cells #[.slice none 0 0] 56)).alloc (.cells #[.slice none 0 0] 56)).alloc (.cells #[] 2)).alloc (.cells #[] 24)).heap[v.heap.size]? = some (.cells #[.slice none 0 0] 56 (0, 0)) := by
    rw [Below.heap_alloc _ _ _ (by first | (simp; done) | (simp; omega)), Below.heap_alloc _ _ _ (by first | (simp; done) | (simp; omega))]
    exact heap_alloc2_old _ _ _
  have e1 : ((((v.alloc (.cells #[.slice none 0 0] 56)).alloc (.cells #[.slice none 0 0] 56)).alloc (.cells #[] 2)).alloc (.cells #[] 24)).heap[v.heap.size + 1]? = some (.cells #[.slice none 0 0] 56 (0, 0)) := by
    rw [Below.heap_alloc _ _ _ (by first | (simp; done) | (simp; omega)), Below.heap_alloc _ _ _ (by first | (simp; done) | (simp; omega))]
    exact heap_alloc2_new _ _ _
  have e2 : ((((v.alloc (.cells #[.slice none 0 0] 56)).alloc (.cells #[.slice none 0 0] 56)).alloc (.cells #[] 2)).alloc (.cells #[] 24)).heap[v.heap.size + 2]? = some (.cells #[] 2 (0, 0)) := by
    have q : ((v.alloc (.cells #[.slice none 0 0] 56)).alloc (.cells #[.slice none 0 0] 56)).heap.size = v.heap.size + 2 := by simp
    rw [Below.heap_alloc _ _ _ (by first | (simp; done) | (simp; omega)), ← q]
    exact heap_alloc_last _ _
  have e3 : ((((v.alloc (.cells #[.slice none 0 0] 56)).alloc (.cells #[.slice none 0 0] 56)).alloc (.cells #[] 2)).alloc (.cells #[] 24)).heap[v.heap.size + 3]? = some (.cells #[] 24 (0, 0)) := by
    have q : (((v.alloc (.cells #[.slice none 0 0] 56)).alloc (.cells #[.slice none 0 0] 56)).alloc (.cells #[] 2)).heap.size = v.heap.size + 3 := by simp
    rw [← q]
    exact heap_alloc_last _ _
  refine ⟨rd_keep h hb.size fun b hb' => hb.block b (by omega), hg, by rw [size5]; exact Nat.le_refl _, e0, ⟨_, [], [], e1, ⟨by simp, .inl ⟨rfl, rfl⟩⟩, ⟨by simp, .inr ⟨_, 0, #[], rfl, by omega, e3, Nat.le_refl _, by unfold maxLen; omega, by simp, by simp⟩⟩, fun _ => rfl, fun hk => absurd hk (Nat.lt_irrefl 0)⟩, ⟨[], ⟨by simp, .inr ⟨_, 0, #[], rfl, by omega, e2, Nat.le_refl _, by unfold maxLen; omega, by simp, by simp⟩⟩⟩, fun _ => ⟨fun q hq => ?_, fun q hq => ?_⟩, fun b h1 h2 => hb.block b h1, hb.os, hb.tape, hb.output⟩
  · have : q = v.heap.size + 2 := by simpa [Value.ownBlock] using hq.symm
    omega
  · have : q = v.heap.size + 3 := by simpa [Value.ownBlock] using hq.symm
    omega
/-- The function in the place of one that is too great. -/
def fun7 : FuncD := ⟨[], 8, [⟨[], [⟨21, 8, 0, 0, 0, 7, []⟩], ⟨1, 0, 0, 0⟩⟩]⟩
theorem fnc_new {X : World} {lo bi bb : Nat} (h1 : X.heap[bi]? = some (.cells #[.int .i64 21, .int .i64 8, .int .i64 0, .int .i64 0, .int .i64 0, .int .i64 7, .slice none 0 0] 33 (0, 0))) (h2 : X.heap[bb]? = some (.cells #[.slice none 0 0, .slice (some ⟨bi, 0, none⟩) 1 1, .int .i64 1, .int .i64 0, .int .i64 0, .int .i64 0] 43 (0, 0))) (l1 : lo ≤ bi) (l2 : lo ≤ bb) : Fnc X lo X.heap.size fun7 none (some ⟨bb, 0, none⟩) := by
  have s1 := (Array.getElem?_eq_some_iff.1 h1).1
  have s2 := (Array.getElem?_eq_some_iff.1 h2).1
  refine ⟨⟨X, Nat.le_refl _, ⟨by simp [fun7], .inl rfl⟩, ⟨by simp [fun7], .inr ⟨bb, 0, rfl, l2, s2, fun i hi => ?_⟩⟩, Nat.le_refl _, fun _ _ _ => rfl⟩, ⟨by simp [fun7], by simp [fun7], fun p hp => ?_⟩, by simp [fun7], by simp [fun7], fun hn => by simp [fun7] at hn⟩
  · have hi0 : i = 0 := by simp [fun7] at hi; omega
    subst hi0
    refine ⟨⟨none, 0, (cell_of_heap h2).trans rfl, by simp [fun7], .inl rfl⟩, ⟨some ⟨bi, 0, none⟩, 1, (cell_of_heap h2).trans rfl, by simp [fun7], .inr ⟨bi, 0, rfl, l1, s1, fun j hj => ?_⟩⟩, (cell_of_heap h2).trans rfl, (cell_of_heap h2).trans rfl, (cell_of_heap h2).trans rfl, (cell_of_heap h2).trans rfl⟩
    have hj0 : j = 0 := by simp [fun7] at hj; omega
    subst hj0
    exact ⟨(cell_of_heap h1).trans rfl, (cell_of_heap h1).trans rfl, (cell_of_heap h1).trans rfl, (cell_of_heap h1).trans rfl, (cell_of_heap h1).trans rfl, (cell_of_heap h1).trans rfl, none, 0, (cell_of_heap h1).trans rfl, by simp [fun7], .inl rfl⟩
  · have : p = ⟨[], [⟨21, 8, 0, 0, 0, 7, []⟩], ⟨1, 0, 0, 0⟩⟩ := by simpa [fun7] using hp
    subst this
    exact ⟨⟨by simp, by simp⟩, ⟨by simp, fun p hp => by have : p = ⟨21, 8, 0, 0, 0, 7, []⟩ := by simpa using hp
                                                        subst this; show _ ≤ _; simp⟩⟩
theorem infoF : (Tryz.prog.info? 27).map (fun i => (i.zero, i.size, i.bytes)) = some (some (.agg #[.slice none 0 0, .int .i64 0, .slice none 0 0]), 3, 56) := by kernel_rfl
theorem infoS : (Tryz.prog.info? 24).map (fun i => (i.zero, i.size, i.bytes)) = some (some (.slice none 0 0), 1, 24) := by kernel_rfl
theorem three_of {w : World} {L : Nat} {x0 x1 x2 : Value} {T : TypeId} (hL : w.heap[L]? = some (.cells #[x0, x1, x2] T (0, 0))) : ∀ j u, [x0, x1, x2][j]? = some u → w.cell? ((⟨L, 0, none⟩ : Addr).add j) = some u := fun j u hj => by
  rw [Addr.add_lit, cell_of_heap hL, Nat.zero_add, ← hj]
  rcases j with _ | _ | _ | j <;> rfl
theorem heap_alloc_set (w : World) (p : Addr) (x : Value) (o : Obj) : ((w.setCell p x).alloc o).heap[w.heap.size]? = some o := by
  have := heap_alloc_last (w.setCell p x) o
  rwa [World.size_setCell] at this
/-- What stands behind the first append: the other rows, the function's cells. -/
theorem after1 {z0 g len cap k T7 g4 c4 : Nat} {a0 : Option Addr} {v x y1 : World} {r s mf : Value} {xs ps : List Value} {zs : List Int} {A : Obj} {q0 q1 q2 : Value} (hM : MSt z0 g a0 len cap v k r s x) (m1 : x.heap[z0 + 1]? = some (.cells #[mf] 56 (0, 0))) (m2 : x.ownsRow (z0 + 2) 27 3 mf k xs) (m3 : x.ownsRow (z0 + 2) 24 1 s k ps) (m5 : x.ownsRow (z0 + 2) 2 1 r k (zs.map (Value.int .i64)))
    (ht : x.heap[T7]? = some (.cells #[q0, q1, q2] 27 (0, 0))) (hT : z0 + 4 ≤ T7) (hTm : mf.ownBlock ≠ some T7) (e1 : (x.alloc A).grownBy y1 mf.ownBlock) :
    y1.heap[z0 + 1]? = some (.cells #[mf] 56 (0, 0)) ∧ y1.heap[T7]? = some (.cells #[q0, q1, q2] 27 (0, 0)) ∧ (y1.setCell ⟨z0 + 1, 0, none⟩ (.slice (some ⟨g4, 0, none⟩) (k + 1) c4)).ownsRow (z0 + 2) 2 1 r k (zs.map (Value.int .i64)) ∧ (y1.setCell ⟨z0 + 1, 0, none⟩ (.slice (some ⟨g4, 0, none⟩) (k + 1) c4)).ownsRow (z0 + 2) 24 1 s k ps ∧ z0 + 4 ≤ y1.heap.size := by
  have hsz := hM.sz
  have s1 : x.heap.size + 1 ≤ y1.heap.size := by have := e1.size; simpa using this
  have b1 : ∀ b, b < x.heap.size → mf.ownBlock ≠ some b → y1.heap[b]? = x.heap[b]? := fun b hb hn => (e1.block b (by simp; omega) (fun e => hn e.symm)).trans (Below.heap_alloc _ _ _ hb)
  have hTl := (Array.getElem?_eq_some_iff.1 ht).1
  refine ⟨(b1 _ (by omega) (fun e => by have := m2.lt _ e; omega)).trans m1, (b1 _ hTl hTm).trans ht, own_stay m5 fun q hq => ?_, own_stay m3 fun q hq => ?_, by omega⟩
  · have := m5.lt q hq
    exact (Below.heap_setCell _ _ _ _ (by dsimp only; omega)).trans (b1 q this.2 fun e => own_ne m2 m5 (by decide) e hq rfl)
  · have := m3.lt q hq
    exact (Below.heap_setCell _ _ _ _ (by dsimp only; omega)).trans (b1 q this.2 fun e => own_ne m2 m3 (by decide) e hq rfl)
theorem after2 {z0 k T7 : Nat} {y2 y3 : World} {r s : Value} {ps : List Value} {zs : List Int} {B : Obj} {q0 q1 q2 : Value} (m3 : y2.ownsRow (z0 + 2) 24 1 s k ps) (m5 : y2.ownsRow (z0 + 2) 2 1 r k (zs.map (Value.int .i64))) (ht : y2.heap[T7]? = some (.cells #[q0, q1, q2] 27 (0, 0))) (e2 : (y2.alloc B).grownBy y3 r.ownBlock) :
    y3.heap[T7]? = some (.cells #[q0, q1, q2] 27 (0, 0)) ∧ y3.ownsRow (z0 + 2) 24 1 s k ps ∧ y2.heap.size + 1 ≤ y3.heap.size := by
  have b2 : ∀ b, b < y2.heap.size → r.ownBlock ≠ some b → y3.heap[b]? = y2.heap[b]? := fun b hb hn => (e2.block b (by simp; omega) (fun e => hn e.symm)).trans (Below.heap_alloc _ _ _ hb)
  have hTl := (Array.getElem?_eq_some_iff.1 ht).1
  refine ⟨(b2 _ hTl fun e => ?_).trans ht, own_stay m3 fun q hq => b2 q (m3.lt q hq).2 fun e => own_ne m5 m3 (by decide) e hq rfl, by have := e2.size; simpa using this⟩
  obtain ⟨cur, hc⟩ := rowblk m5 T7 e
  rw [ht] at hc
  cases hc
/-- What stands behind the count: the state, with the function as it was drawn or with another one. -/
theorem mids {z0 g len cap k base : Nat} {a0 : Option Addr} {v wr w1 w3 : World} {r s : Value} {d : FuncD} {up ub : Option Addr} {cp cb : Nat} (hM : MSt z0 g a0 len cap v k r s wr) (hrd : Rd g a0 len cap w1) (hkeep : ∀ b, b < wr.heap.size → b ≠ g → w1.heap[b]? = wr.heap[b]?) (o1 : w1.os = wr.os) (o2 : w1.tape = wr.tape) (o3 : w1.output = wr.output) (hs : wr.heap.size ≤ w1.heap.size) (hF : Fnc w1 base w1.heap.size d up ub) (hbl : base ≤ wr.heap.size) (hb3 : Below (w1.alloc (.cells #[.slice up d.params.length cp, .int .i64 d.ret, .slice ub d.blocks.length cb] 27)).heap.size (w1.alloc (.cells #[.slice up d.params.length cp, .int .i64 d.ret, .slice ub d.blocks.length cb] 27)) w3) :
    (MSt z0 g a0 len cap v k r s w3 ∧ w3.heap[w1.heap.size]? = some (.cells #[.slice up d.params.length cp, .int .i64 d.ret, .slice ub d.blocks.length cb] 27 (0, 0)) ∧ Fnc w3 base w3.heap.size d up ub) ∧
    (MSt z0 g a0 len cap v k r s (((((w3.setCell ⟨w1.heap.size, 0, none⟩ (.slice none 0 0)).setCell ⟨w1.heap.size, 1, none⟩ (.int .i64 8)).setCell ⟨w1.heap.size, 2, none⟩ (.slice (some ⟨w3.heap.size + 1, 0, none⟩) 1 1)).alloc (.cells #[.int .i64 21, .int .i64 8, .int .i64 0, .int .i64 0, .int .i64 0, .int .i64 7, .slice none 0 0] 33)).alloc (.cells #[.slice none 0 0, .slice (some ⟨w3.heap.size, 0, none⟩) 1 1, .int .i64 1, .int .i64 0, .int .i64 0, .int .i64 0] 43)) ∧ (((((w3.setCell ⟨w1.heap.size, 0, none⟩ (.slice none 0 0)).setCell ⟨w1.heap.size, 1, none⟩ (.int .i64 8)).setCell ⟨w1.heap.size, 2, none⟩ (.slice (some ⟨w3.heap.size + 1, 0, none⟩) 1 1)).alloc (.cells #[.int .i64 21, .int .i64 8, .int .i64 0, .int .i64 0, .int .i64 0, .int .i64 7, .slice none 0 0] 33)).alloc (.cells #[.slice none 0 0, .slice (some ⟨w3.heap.size, 0, none⟩) 1 1, .int .i64 1, .int .i64 0, .int .i64 0, .int .i64 0] 43)).heap[w1.heap.size]? = some (.cells #[.slice none 0 0, .int .i64 8, .slice (some ⟨w3.heap.size + 1, 0, none⟩) 1 1] 27 (0, 0)) ∧ Fnc (((((w3.setCell ⟨w1.heap.size, 0, none⟩ (.slice none 0 0)).setCell ⟨w1.heap.size, 1, none⟩ (.int .i64 8)).setCell ⟨w1.heap.size, 2, none⟩ (.slice (some ⟨w3.heap.size + 1, 0, none⟩) 1 1)).alloc (.cells #[.int .i64 21, .int .i64 8, .int .i64 0, .int .i64 0, .int .i64 0, .int .i64 7, .slice none 0 0] 33)).alloc (.cells #[.slice none 0 0, .slice (some ⟨w3.heap.size, 0, none⟩) 1 1, .int .i64 1, .int .i64 0, .int .i64 0, .int .i64 0] 43)) base (((((w3.setCell ⟨w1.heap.size, 0, none⟩ (.slice none 0 0)).setCell ⟨w1.heap.size, 1, none⟩ (.int .i64 8)).setCell ⟨w1.heap.size, 2, none⟩ (.slice (some ⟨w3.heap.size + 1, 0, none⟩) 1 1)).alloc (.cells #[.int .i64 21, .int .i64 8, .int .i64 0, .int .i64 0, .int .i64 0, .int .i64 7, .slice none 0 0] 33)).alloc (.cells #[.slice none 0 0, .slice (some ⟨w3.heap.size, 0, none⟩) 1 1, .int .i64 1, .int .i64 0, .int .i64 0, .int .i64 0] 43)).heap.size fun7 none (some ⟨w3.heap.size + 1, 0, none⟩)) ∧ w1.heap.size < w3.heap.size ∧ (∀ b, b < wr.heap.size → b ≠ g → w3.heap[b]? = wr.heap[b]?) ∧ (∀ b, b < wr.heap.size → b ≠ g → (((((w3.setCell ⟨w1.heap.size, 0, none⟩ (.slice none 0 0)).setCell ⟨w1.heap.size, 1, none⟩ (.int .i64 8)).setCell ⟨w1.heap.size, 2, none⟩ (.slice (some ⟨w3.heap.size + 1, 0, none⟩) 1 1)).alloc (.cells #[.int .i64 21, .int .i64 8, .int .i64 0, .int .i64 0, .int .i64 0, .int .i64 7, .slice none 0 0] 33)).alloc (.cells #[.slice none 0 0, .slice (some ⟨w3.heap.size, 0, none⟩) 1 1, .int .i64 1, .int .i64 0, .int .i64 0, .int .i64 0] 43)).heap[b]? = wr.heap[b]?) ∧ w3.heap.size ≤ (((((w3.setCell ⟨w1.heap.size, 0, none⟩ (.slice none 0 0)).setCell ⟨w1.heap.size, 1, none⟩ (.int .i64 8)).setCell ⟨w1.heap.size, 2, none⟩ (.slice (some ⟨w3.heap.size + 1, 0, none⟩) 1 1)).alloc (.cells #[.int .i64 21, .int .i64 8, .int .i64 0, .int .i64 0, .int .i64 0, .int .i64 7, .slice none 0 0] 33)).alloc (.cells #[.slice none 0 0, .slice (some ⟨w3.heap.size, 0, none⟩) 1 1, .int .i64 1, .int .i64 0, .int .i64 0, .int .i64 0] 43)).heap.size := by
  have hg := hM.rd.lt
  have hBw : Below w1.heap.size w1 (w1.alloc (.cells #[.slice up d.params.length cp, .int .i64 d.ret, .slice ub d.blocks.length cb] 27)) := (Below.refl _ _).alloc (Nat.le_refl _) _
  have hsz2 : (w1.alloc (.cells #[.slice up d.params.length cp, .int .i64 d.ret, .slice ub d.blocks.length cb] 27)).heap.size = w1.heap.size + 1 := by simp
  have hT2 : (w1.alloc (.cells #[.slice up d.params.length cp, .int .i64 d.ret, .slice ub d.blocks.length cb] 27)).heap[w1.heap.size]? = some (.cells #[.slice up d.params.length cp, .int .i64 d.ret, .slice ub d.blocks.length cb] 27 (0, 0)) := heap_alloc_last _ _
  generalize (w1.alloc (.cells #[.slice up d.params.length cp, .int .i64 d.ret, .slice ub d.blocks.length cb] 27)) = W2 at *
  have hs3 := hb3.size
  rw [hsz2] at hs3 hb3
  have hB3 : Below w1.heap.size w1 w3 := hBw.trans (hb3.mono (by omega))
  have hT3 : w3.heap[w1.heap.size]? = some (.cells #[.slice up d.params.length cp, .int .i64 d.ret, .slice ub d.blocks.length cb] 27 (0, 0)) := (hb3.block _ (by omega)).trans hT2
  have hBy : Below w1.heap.size w1 (((w3.setCell ⟨w1.heap.size, 0, none⟩ (.slice none 0 0)).setCell ⟨w1.heap.size, 1, none⟩ (.int .i64 8)).setCell ⟨w1.heap.size, 2, none⟩ (.slice (some ⟨w3.heap.size + 1, 0, none⟩) 1 1)) := ((hB3.setCell (Nat.le_refl _) _).setCell (Nat.le_refl _) _).setCell (Nat.le_refl _) _
  have hY : (((w3.setCell ⟨w1.heap.size, 0, none⟩ (.slice none 0 0)).setCell ⟨w1.heap.size, 1, none⟩ (.int .i64 8)).setCell ⟨w1.heap.size, 2, none⟩ (.slice (some ⟨w3.heap.size + 1, 0, none⟩) 1 1)).heap.size = w3.heap.size := by simp only [World.size_setCell]
  have hTy : (((w3.setCell ⟨w1.heap.size, 0, none⟩ (.slice none 0 0)).setCell ⟨w1.heap.size, 1, none⟩ (.int .i64 8)).setCell ⟨w1.heap.size, 2, none⟩ (.slice (some ⟨w3.heap.size + 1, 0, none⟩) 1 1)).heap[w1.heap.size]? = some (.cells #[.slice none 0 0, .int .i64 8, .slice (some ⟨w3.heap.size + 1, 0, none⟩) 1 1] 27 (0, 0)) := (heap_set (heap_set (heap_set hT3))).trans rfl
  generalize (((w3.setCell ⟨w1.heap.size, 0, none⟩ (.slice none 0 0)).setCell ⟨w1.heap.size, 1, none⟩ (.int .i64 8)).setCell ⟨w1.heap.size, 2, none⟩ (.slice (some ⟨w3.heap.size + 1, 0, none⟩) 1 1)) = Yw at *
  have hBx := (hBy.alloc (by omega) (.cells #[.int .i64 21, .int .i64 8, .int .i64 0, .int .i64 0, .int .i64 0, .int .i64 7, .slice none 0 0] 33)).alloc (by simp; omega) (.cells #[.slice none 0 0, .slice (some ⟨w3.heap.size, 0, none⟩) 1 1, .int .i64 1, .int .i64 0, .int .i64 0, .int .i64 0] 43)
  have hszx : ((Yw.alloc (.cells #[.int .i64 21, .int .i64 8, .int .i64 0, .int .i64 0, .int .i64 0, .int .i64 7, .slice none 0 0] 33)).alloc (.cells #[.slice none 0 0, .slice (some ⟨w3.heap.size, 0, none⟩) 1 1, .int .i64 1, .int .i64 0, .int .i64 0, .int .i64 0] 43)).heap.size = w3.heap.size + 2 := by simp [hY]
  have hTx : ((Yw.alloc (.cells #[.int .i64 21, .int .i64 8, .int .i64 0, .int .i64 0, .int .i64 0, .int .i64 7, .slice none 0 0] 33)).alloc (.cells #[.slice none 0 0, .slice (some ⟨w3.heap.size, 0, none⟩) 1 1, .int .i64 1, .int .i64 0, .int .i64 0, .int .i64 0] 43)).heap[w1.heap.size]? = some (.cells #[.slice none 0 0, .int .i64 8, .slice (some ⟨w3.heap.size + 1, 0, none⟩) 1 1] 27 (0, 0)) := (Below.heap_alloc _ _ _ (by simp; omega)).trans ((Below.heap_alloc _ _ _ (by omega)).trans hTy)
  have hI : ((Yw.alloc (.cells #[.int .i64 21, .int .i64 8, .int .i64 0, .int .i64 0, .int .i64 0, .int .i64 7, .slice none 0 0] 33)).alloc (.cells #[.slice none 0 0, .slice (some ⟨w3.heap.size, 0, none⟩) 1 1, .int .i64 1, .int .i64 0, .int .i64 0, .int .i64 0] 43)).heap[w3.heap.size]? = some (.cells #[.int .i64 21, .int .i64 8, .int .i64 0, .int .i64 0, .int .i64 0, .int .i64 7, .slice none 0 0] 33 (0, 0)) := by rw [← hY]; exact heap_alloc2_old _ _ _
  have hBk : ((Yw.alloc (.cells #[.int .i64 21, .int .i64 8, .int .i64 0, .int .i64 0, .int .i64 0, .int .i64 7, .slice none 0 0] 33)).alloc (.cells #[.slice none 0 0, .slice (some ⟨w3.heap.size, 0, none⟩) 1 1, .int .i64 1, .int .i64 0, .int .i64 0, .int .i64 0] 43)).heap[w3.heap.size + 1]? = some (.cells #[.slice none 0 0, .slice (some ⟨w3.heap.size, 0, none⟩) 1 1, .int .i64 1, .int .i64 0, .int .i64 0, .int .i64 0] 43 (0, 0)) := by
    have q := heap_alloc2_new Yw (.cells #[.int .i64 21, .int .i64 8, .int .i64 0, .int .i64 0, .int .i64 0, .int .i64 7, .slice none 0 0] 33) (.cells #[.slice none 0 0, .slice (some ⟨w3.heap.size, 0, none⟩) 1 1, .int .i64 1, .int .i64 0, .int .i64 0, .int .i64 0] 43)
    rw [hY] at q
    exact q
  generalize ((Yw.alloc (.cells #[.int .i64 21, .int .i64 8, .int .i64 0, .int .i64 0, .int .i64 0, .int .i64 7, .slice none 0 0] 33)).alloc (.cells #[.slice none 0 0, .slice (some ⟨w3.heap.size, 0, none⟩) 1 1, .int .i64 1, .int .i64 0, .int .i64 0, .int .i64 0] 43)) = X at *
  have hgl := hrd.lt
  refine ⟨⟨hM.keep (rd_keep hrd hB3.size fun b hb => hB3.block b (by omega)) (fun b h1 h2 => (hB3.block b (by omega)).trans (hkeep b h1 h2)) (by have := hB3.size; omega) (hB3.os.trans o1) (hB3.tape.trans o2) (hB3.output.trans o3), hT3, (hF.step hB3.size fun b h1 h2 => hB3.block b h2).more (by omega)⟩, ⟨hM.keep (rd_keep hrd hBx.size fun b hb => hBx.block b (by omega)) (fun b h1 h2 => (hBx.block b (by omega)).trans (hkeep b h1 h2)) (by have := hBx.size; omega) (hBx.os.trans o1) (hBx.tape.trans o2) (hBx.output.trans o3), hTx, fnc_new hI hBk (by omega) (by omega)⟩, by omega, fun b h1 h2 => (hB3.block b (by omega)).trans (hkeep b h1 h2), fun b h1 h2 => (hBx.block b (by omega)).trans (hkeep b h1 h2), by omega⟩
/-- The rows between two functions, in any world that keeps them. -/
def Fs (z0 k : Nat) (r s mf : Value) (xs ps : List Value) (zs : List Int) (x : World) : Prop := x.heap[z0 + 1]? = some (.cells #[mf] 56 (0, 0)) ∧ x.ownsRow (z0 + 2) 27 3 mf k xs ∧ x.ownsRow (z0 + 2) 24 1 s k ps ∧ x.ownsRow (z0 + 2) 2 1 r k (zs.map (Value.int .i64)) ∧ (k = 0 → mf = .slice none 0 0) ∧
  (0 < k → ∃ d up cp ub cb H, xs[0]? = some (.slice up d.params.length cp) ∧ xs[1]? = some (.int .i64 d.ret) ∧ xs[2]? = some (.slice ub d.blocks.length cb) ∧ Fnc x (z0 + 4) H d up ub ∧ (∀ q, mf.ownBlock = some q → q < z0 + 4 ∨ H ≤ q) ∧ (∀ q, r.ownBlock = some q → q < z0 + 4 ∨ H ≤ q) ∧ (∀ q, s.ownBlock = some q → q < z0 + 4 ∨ H ≤ q) ∧ H ≤ x.heap.size ∧ (k = 1 → ps = [.slice up d.params.length cp]))
theorem fs_at {z0 g len cap k : Nat} {a0 : Option Addr} {v w : World} {r s : Value} (h : MSt z0 g a0 len cap v k r s w) : ∃ mf xs ps zs, (∀ q, mf.ownBlock = some q → q < w.heap.size) ∧ ∀ x : World, (∀ b, b < w.heap.size → b ≠ g → x.heap[b]? = w.heap[b]?) → w.heap.size ≤ x.heap.size → Fs z0 k r s mf xs ps zs x := by
  have hgz := h.gz
  have hsz := h.sz
  obtain ⟨mf, xs, ps, m1, m2, m3, m0, m4⟩ := h.fs
  obtain ⟨zs, hz⟩ := h.ro
  refine ⟨mf, xs, ps, zs, fun q hq => (m2.lt q hq).2, fun x hb hs => ?_⟩
  have hlt : ∀ {T : TypeId} {sz n : Nat} {y : Value} {ys : List Value}, w.ownsRow (z0 + 2) T sz y n ys → x.ownsRow (z0 + 2) T sz y n ys := fun {T sz n y ys} hy => own_stay hy fun q hq => by
    obtain ⟨q1, q2⟩ := hy.lt q hq
    exact hb q q2 (by omega)
  refine ⟨(hb _ (by omega) (by omega)).trans m1, hlt m2, hlt m3, hlt hz, m0, fun hk => ?_⟩
  obtain ⟨d, up, cp, ub, cb, H, x0, x1, x2, hF, r1, r2, r3, r4, r5⟩ := m4 hk
  exact ⟨d, up, cp, ub, cb, H, x0, x1, x2, hF.keep hb hs (by omega), r1, r2, r3, by omega, r5⟩
/-- One function more, at once. -/
theorem next_at {z0 g len cap k T7 g4 c4 g5 c5 g6 c6 lo : Nat} {a0 : Option Addr} {v x y1 y3 y4 : World} {r s mf : Value} {d : FuncD} {up ub : Option Addr} {cp cb : Nat} {xs ps : List Value} {zs : List Int} {A B C : Obj} (hM : MSt z0 g a0 len cap v k r s x) (hk : k ≤ 1) (hF : Fnc x lo x.heap.size d up ub) (hlo : k = 0 → lo = z0 + 4) (hf : Fs z0 k r s mf xs ps zs x)
    (o1 : y1.ownsRow (z0 + 2) 27 3 (.slice (some ⟨g4, 0, none⟩) (k + 1) c4) (k + 1) (xs ++ [.slice up d.params.length cp, .int .i64 d.ret, .slice ub d.blocks.length cb])) (e1 : (x.alloc A).grownBy y1 mf.ownBlock) (a1 : mf.ownBlock = some g4 ∨ g4 = (x.alloc A).heap.size)
    (o2 : y3.ownsRow (z0 + 2) 2 1 (.slice (some ⟨g5, 0, none⟩) (k + 1) c5) (k + 1) (zs.map (Value.int .i64) ++ [.int .i64 d.ret])) (e2 : ((y1.setCell ⟨z0 + 1, 0, none⟩ (.slice (some ⟨g4, 0, none⟩) (k + 1) c4)).alloc B).grownBy y3 r.ownBlock) (a2 : r.ownBlock = some g5 ∨ g5 = ((y1.setCell ⟨z0 + 1, 0, none⟩ (.slice (some ⟨g4, 0, none⟩) (k + 1) c4)).alloc B).heap.size)
    (o3 : y4.ownsRow (z0 + 2) 24 1 (.slice (some ⟨g6, 0, none⟩) (k + 1) c6) (k + 1) (ps ++ [.slice up d.params.length cp])) (e3 : (y3.alloc C).grownBy y4 s.ownBlock) (a3 : s.ownBlock = some g6 ∨ g6 = (y3.alloc C).heap.size) :
    MSt z0 g a0 len cap v (k + 1) (.slice (some ⟨g5, 0, none⟩) (k + 1) c5) (.slice (some ⟨g6, 0, none⟩) (k + 1) c6) y4 := by
  obtain ⟨m1, m2, m3, m5, m0, m4⟩ := hf
  refine hM.next (T7 := T7) hk hF hlo m1 m2 m3 m5 m0 m4 o1 e1 (by simpa using a1) o2 e2 ?_ o3 e3 ?_
  · rcases a2 with a2 | a2
    · exact .inl a2
    · exact .inr (by rw [a2]; simp [World.size_setCell])
  · rcases a3 with a3 | a3
    · exact .inl a3
    · exact .inr (by rw [a3]; simp)
end Go.Proofs.YtclagbdomfgodaaGreatDoor
namespace Go.Proofs.YtclagbdomfgodaaGreatDoor
open Go.RowKit Go.Deep
set_option linter.unusedVariables false

/-- What a drawn module is: its first function lies in memory. -/
def ModTold (g : Nat) (a0 : Option Addr) (len cap : Nat) (v : World) (e : Ending) (w : World) : Prop := ∃ gm n cm, e = .returned (.agg #[.slice (some ⟨gm, 0, none⟩) n cm]) ∧ 1 ≤ n ∧ ∃ (d : FuncD) (up ub : Option Addr) (cp cb : Nat), w.cell? ⟨gm, 0, none⟩ = some (.slice up d.params.length cp) ∧ w.cell? ⟨gm, 1, none⟩ = some (.int .i64 d.ret) ∧ w.cell? ⟨gm, 2, none⟩ = some (.slice ub d.blocks.length cb) ∧ SmFunc d ∧ 1 ≤ d.blocks.length ∧ IntsAt w v.heap.size up d.params ∧ BlocksAt w v.heap.size ub d.blocks ∧ Rd g a0 len cap w ∧ (∀ b, b < v.heap.size → b ≠ g → w.heap[b]? = v.heap[b]?) ∧ v.heap.size ≤ w.heap.size ∧ w.os = v.os ∧ w.tape = v.tape ∧ w.output = v.output
set_option maxHeartbeats 4000000 in
set_option maxRecDepth 100000 in
theorem module_any (g : Nat) (a0 : Option Addr) (len cap : Nat) (v : World) (h : Rd g a0 len cap v) : Calls Tryz.prog 21 #[.pointer (some ⟨g, 0, none⟩)] v fun e w => ModTold g a0 len cap v e w := by
  have h0 := mst_start h
  have hs5 := size5 v
  go_enter Tryz.func21, Tryz.ntmps21
  go_wp2_with (first | (go_at_call 41; refine (below_any g a0 len cap _ ((((v.alloc (.cells #[.slice none 0 0] 56)).alloc (.cells #[.slice none 0 0] 56)).alloc (.cells #[] 2)).alloc (.cells #[] 24)) h0.rd).mono ?_; rintro e w0 ⟨n0, rfl, hn0, hn1, hr0, hg0⟩; obtain ⟨k0, rfl⟩ := Int.eq_ofNat_of_zero_le hn0; have M0 := h0.keep hr0 (fun b h1 h2 => hg0.block b h1 (by simpa using h2)) hg0.size hg0.os hg0.tape hg0.output; clear h0 hr0 hg0))
  generalize hz : v.heap.size = z0 at M0 ⊢
  go_loopw [4, 5, 6] (fun r s i wr => ∃ k n : Nat, i = .int .i64 n ∧ n + k ≤ 2 ∧ 0 < n + k ∧ MSt z0 g a0 len cap v k r s wr) (fun _ _ i _ => (intOf i).toNat)
  case atStart => exact ⟨0, 1 + k0, by first | rfl | go_num | (congr 1; omega), by omega, by omega, M0⟩
  case round =>
    clear M0
    obtain ⟨k, n, rfl, hkn, hkn0, hM⟩ := hrel
    by_cases hn : 0 < n
    · obtain ⟨base, M, ur, cr, us, cs, hbase, rfl, rfl, hin⟩ := hM.fnIn (by omega)
      have PF := fn_any base g a0 len cap M ur us k cr cs wr hin
      go_wp2_with (first | (go_at_call 42; refine PF.mono ?_; rintro e w1 ⟨up, np, cp, ret, ub, nb, cb, rfl, M2, th, sl1, sl2, hn2, hnb, hret, hpw, hrd, hkeep, ho1, ho2, ho3, hsz1⟩; obtain ⟨d, e1, e2, e3, hF⟩ := fnc_of (ret := ret) th (by omega) sl1 sl2 hn2 hnb hpw; subst e1 e2 e3; have PC := countS_any base d up cp ub cb (w1.alloc (.cells #[.slice up d.params.length cp, .int .i64 d.ret, .slice ub d.blocks.length cb] 27)) hF.sm (hF.mem.read.2.keep (agree_alloc _ _ _)); clear th sl1 sl2 hpw))
      refine PC.mono ?_
      rintro e w3 ⟨rfl, hb3⟩
      have hbb := hin.bv
      have hz4 := hM.sz
      obtain ⟨⟨K1, K2, K3⟩, ⟨X1, X2, X3⟩, hlt13, KK, XX, hsx⟩ := mids hM hrd hkeep ho1 ho2 ho3 hsz1 hF hin.bv hb3
      obtain ⟨mf, xs, ps, zs, hmf, hfs⟩ := fs_at hM
      have FK := hfs w3 KK (by omega)
      have FX := hfs _ XX (by omega)
      have hTm0 : True := trivial
      have hTm : mf.ownBlock ≠ some w1.heap.size := fun e => by have := hmf _ e; omega
      obtain ⟨iF, fi, f0, f1, f2⟩ := info_parts infoF
      obtain ⟨iS, gi, g0', g1', g2'⟩ := info_parts infoS
      obtain ⟨iI, ji, j0, j1, j2⟩ := info_parts info1
      have HF : Hid _ := (⟨fi, f0, f1, f2⟩ : _ ∧ _ ∧ _ ∧ _)
      have HS : Hid _ := (⟨gi, g0', g1', g2'⟩ : _ ∧ _ ∧ _ ∧ _)
      have HI : Hid _ := (⟨ji, j0, j1, j2⟩ : _ ∧ _ ∧ _ ∧ _)
      have hne2 : ¬ (w1.heap.size = z0 + 1) := by omega
      have HX : Hid _ := (⟨FX, X1, X2, X3⟩ : _ ∧ _ ∧ _ ∧ _)
      have HK : Hid _ := (⟨FK, K1, K2, K3⟩ : _ ∧ _ ∧ _ ∧ _)
      have t0 : w3.cell? ⟨w1.heap.size, 0, none⟩ = some (.slice up d.params.length cp) := (cell_of_heap K2).trans rfl
      have t1 : w3.cell? ⟨w1.heap.size, 1, none⟩ = some (.int .i64 d.ret) := (cell_of_heap K2).trans rfl
      have t2 : w3.cell? ⟨w1.heap.size, 2, none⟩ = some (.slice ub d.blocks.length cb) := (cell_of_heap K2).trans rfl
      have u0 : w3.frozen? ⟨w1.heap.size, 0, none⟩ = false := by simp [World.frozen?, K2]
      have u1 : w3.frozen? ⟨w1.heap.size, 1, none⟩ = false := by simp [World.frozen?, K2]
      have u2 : w3.frozen? ⟨w1.heap.size, 2, none⟩ = false := by simp [World.frozen?, K2]
      clear hs5 hsx X1 X2 X3 FX XX KK FK K1 K2 K3 PC hb3 hkeep PF hF hrd ho1 ho2 ho3 hfs fi f0 f1 f2 gi g0' g1' g2' ji j0 j1 j2
      by_cases hc : (60 : Int) < (cntF d : Int)
      · go_upto_region 10 with fail
        replace HK := HX
        clear HX t0 t1 t2 u0 u1 u2
        generalize (((((w3.setCell ⟨w1.heap.size, 0, none⟩ (.slice none 0 0)).setCell ⟨w1.heap.size, 1, none⟩ (.int .i64 8)).setCell ⟨w1.heap.size, 2, none⟩ (.slice (some ⟨w3.heap.size + 1, 0, none⟩) 1 1)).alloc (.cells #[.int .i64 21, .int .i64 8, .int .i64 0, .int .i64 0, .int .i64 0, .int .i64 7, .slice none 0 0] 33)).alloc (.cells #[.slice none 0 0, .slice (some ⟨w3.heap.size, 0, none⟩) 1 1, .int .i64 1, .int .i64 0, .int .i64 0, .int .i64 0] 43)) = xw at HK ⊢
        have t0 : xw.cell? ⟨w1.heap.size, 0, none⟩ = some (.slice none 0 0) := (cell_of_heap HK.out.2.2.1).trans rfl
        have t1 : xw.cell? ⟨w1.heap.size, 1, none⟩ = some (.int .i64 8) := (cell_of_heap HK.out.2.2.1).trans rfl
        have t2 : xw.cell? ⟨w1.heap.size, 2, none⟩ = some (.slice (some ⟨w3.heap.size + 1, 0, none⟩) 1 1) := (cell_of_heap HK.out.2.2.1).trans rfl
        have hxl := HK.out.2.1.sz
        have mc : xw.cell? ⟨z0 + 1, 0, none⟩ = some mf := (cell_of_heap HK.out.1.1).trans rfl
        go_wp2_with (first | (at_builtin; refine wpList_append_lies _ rfl (.tmp 38) (.tmp 40) 54 rfl (z0 + 2) 27 iF (.agg #[.slice none 0 0, .int .i64 0, .slice none 0 0]) 3 56 Tryz.underlying54 HF.out.1 HF.out.2.1 HF.out.2.2.1 HF.out.2.2.2 rfl (by decide) mf k xs rfl (HK.out.1.2.1.alloc _) ⟨xw.heap.size, 0, none⟩ 1 1 [.slice none 0 0, .int .i64 8, .slice (some ⟨w3.heap.size + 1, 0, none⟩) 1 1] rfl (by simp) (three_of (heap_alloc_last _ _)) (by simp [Value.oneCell']) (by omega) (by unfold maxLen; omega) (by omega) (by simp; omega) _ rfl ?_; intro g4 c4 y1 o1 e1 a1 l1; obtain ⟨A1, A2, A3, A4, A5⟩ := after1 (g4 := g4) (c4 := c4) HK.out.2.1 HK.out.1.1 HK.out.1.2.1 HK.out.1.2.2.1 HK.out.1.2.2.2.1 HK.out.2.2.1 (by omega) hTm e1; have n0 : y1.cell? ⟨z0 + 1, 0, none⟩ = some mf := (cell_of_heap A1).trans rfl; have n1 : y1.frozen? ⟨z0 + 1, 0, none⟩ = false := (by simp [World.frozen?, A1]); have v1 : y1.cell? ⟨w1.heap.size, 1, none⟩ = some (.int .i64 8) := (cell_of_heap A2).trans rfl; have v0 : y1.cell? ⟨w1.heap.size, 0, none⟩ = some (.slice none 0 0) := (cell_of_heap A2).trans rfl; have HA : Hid _ := (⟨A2, A3, A4, o1, e1, a1⟩ : _ ∧ _ ∧ _ ∧ _ ∧ _ ∧ _); clear A1 A2 A3 A4 o1 e1 a1 l1 t0 t1 t2 mc) | (at_builtin; refine wpList_append_lies _ rfl (.tmp 43) (.tmp 46) 24 rfl (z0 + 2) 2 iI (.int .i64 0) 1 8 Tryz.underlying24 HI.out.1 HI.out.2.1 HI.out.2.2.1 HI.out.2.2.2 rfl (by decide) (.slice ur k cr) k (zs.map (Value.int .i64)) rfl (HA.out.2.1.alloc _) ⟨y1.heap.size, 0, none⟩ 1 1 [.int .i64 8] rfl (by simp) (one_of (heap_alloc_set _ _ _ _)) (by simp [Value.oneCell']) (by omega) (by unfold maxLen; omega) (by omega) (by simp [World.size_setCell]; omega) _ rfl ?_; intro g5 c5 y3 o2 e2 a2 l2; obtain ⟨B1, B2, B3⟩ := after2 HA.out.2.2.1 HA.out.2.1 ((Below.heap_setCell _ _ _ _ hne2).trans HA.out.1) e2; have v3 : y3.cell? ⟨w1.heap.size, 0, none⟩ = some (.slice none 0 0) := (cell_of_heap B1).trans rfl; have hs3 : z0 + 4 ≤ y3.heap.size := (by simp only [World.size_setCell] at B3; omega); have HB : Hid _ := (⟨B2, o2, e2, a2⟩ : _ ∧ _ ∧ _ ∧ _); clear B1 B2 B3 o2 e2 a2 l2 n0 n1 v1 v0) | (at_builtin; refine wpList_append_lies _ rfl (.tmp 48) (.tmp 51) 79 rfl (z0 + 2) 24 iS (.slice none 0 0) 1 24 Tryz.underlying79 HS.out.1 HS.out.2.1 HS.out.2.2.1 HS.out.2.2.2 rfl (by decide) (.slice us k cs) k ps rfl (HB.out.1.alloc _) ⟨y3.heap.size, 0, none⟩ 1 1 [.slice none 0 0] rfl (by simp) (one_of (heap_alloc_last _ _)) (by simp [Value.oneCell']) (by omega) (by unfold maxLen; omega) (by omega) (by simp; omega) _ rfl ?_; intro g6 c6 y4 o3 e3 a3 l3; have HC : Hid _ := (⟨o3, e3, a3⟩ : _ ∧ _ ∧ _); clear o3 e3 a3 l3 v3))
        have NX := next_at (T7 := w1.heap.size) (d := fun7) (up := none) (cp := 0) (ub := (some ⟨w3.heap.size + 1, 0, none⟩)) (cb := 1) HK.out.2.1 (by omega) HK.out.2.2.2 hbase HK.out.1 HA.out.2.2.2.1 HA.out.2.2.2.2.1 HA.out.2.2.2.2.2 HB.out.2.1 HB.out.2.2.1 HB.out.2.2.2 HC.out.1 HC.out.2.1 HC.out.2.2
        go_roundw
        case rel => exact ⟨k + 1, n - 1, by first | go_num | (congr 1; omega), by omega, by omega, NX⟩
        case measure => simp [intOf]; omega
      · by_cases hl : (10 : Int) < (d.blocks.length : Int)
        · go_upto_region 10 with fail
          replace HK := HX
          clear HX t0 t1 t2 u0 u1 u2
          generalize (((((w3.setCell ⟨w1.heap.size, 0, none⟩ (.slice none 0 0)).setCell ⟨w1.heap.size, 1, none⟩ (.int .i64 8)).setCell ⟨w1.heap.size, 2, none⟩ (.slice (some ⟨w3.heap.size + 1, 0, none⟩) 1 1)).alloc (.cells #[.int .i64 21, .int .i64 8, .int .i64 0, .int .i64 0, .int .i64 0, .int .i64 7, .slice none 0 0] 33)).alloc (.cells #[.slice none 0 0, .slice (some ⟨w3.heap.size, 0, none⟩) 1 1, .int .i64 1, .int .i64 0, .int .i64 0, .int .i64 0] 43)) = xw at HK ⊢
          have t0 : xw.cell? ⟨w1.heap.size, 0, none⟩ = some (.slice none 0 0) := (cell_of_heap HK.out.2.2.1).trans rfl
          have t1 : xw.cell? ⟨w1.heap.size, 1, none⟩ = some (.int .i64 8) := (cell_of_heap HK.out.2.2.1).trans rfl
          have t2 : xw.cell? ⟨w1.heap.size, 2, none⟩ = some (.slice (some ⟨w3.heap.size + 1, 0, none⟩) 1 1) := (cell_of_heap HK.out.2.2.1).trans rfl
          have hxl := HK.out.2.1.sz
          have mc : xw.cell? ⟨z0 + 1, 0, none⟩ = some mf := (cell_of_heap HK.out.1.1).trans rfl
          go_wp2_with (first | (at_builtin; refine wpList_append_lies _ rfl (.tmp 38) (.tmp 40) 54 rfl (z0 + 2) 27 iF (.agg #[.slice none 0 0, .int .i64 0, .slice none 0 0]) 3 56 Tryz.underlying54 HF.out.1 HF.out.2.1 HF.out.2.2.1 HF.out.2.2.2 rfl (by decide) mf k xs rfl (HK.out.1.2.1.alloc _) ⟨xw.heap.size, 0, none⟩ 1 1 [.slice none 0 0, .int .i64 8, .slice (some ⟨w3.heap.size + 1, 0, none⟩) 1 1] rfl (by simp) (three_of (heap_alloc_last _ _)) (by simp [Value.oneCell']) (by omega) (by unfold maxLen; omega) (by omega) (by simp; omega) _ rfl ?_; intro g4 c4 y1 o1 e1 a1 l1; obtain ⟨A1, A2, A3, A4, A5⟩ := after1 (g4 := g4) (c4 := c4) HK.out.2.1 HK.out.1.1 HK.out.1.2.1 HK.out.1.2.2.1 HK.out.1.2.2.2.1 HK.out.2.2.1 (by omega) hTm e1; have n0 : y1.cell? ⟨z0 + 1, 0, none⟩ = some mf := (cell_of_heap A1).trans rfl; have n1 : y1.frozen? ⟨z0 + 1, 0, none⟩ = false := (by simp [World.frozen?, A1]); have v1 : y1.cell? ⟨w1.heap.size, 1, none⟩ = some (.int .i64 8) := (cell_of_heap A2).trans rfl; have v0 : y1.cell? ⟨w1.heap.size, 0, none⟩ = some (.slice none 0 0) := (cell_of_heap A2).trans rfl; have HA : Hid _ := (⟨A2, A3, A4, o1, e1, a1⟩ : _ ∧ _ ∧ _ ∧ _ ∧ _ ∧ _); clear A1 A2 A3 A4 o1 e1 a1 l1 t0 t1 t2 mc) | (at_builtin; refine wpList_append_lies _ rfl (.tmp 43) (.tmp 46) 24 rfl (z0 + 2) 2 iI (.int .i64 0) 1 8 Tryz.underlying24 HI.out.1 HI.out.2.1 HI.out.2.2.1 HI.out.2.2.2 rfl (by decide) (.slice ur k cr) k (zs.map (Value.int .i64)) rfl (HA.out.2.1.alloc _) ⟨y1.heap.size, 0, none⟩ 1 1 [.int .i64 8] rfl (by simp) (one_of (heap_alloc_set _ _ _ _)) (by simp [Value.oneCell']) (by omega) (by unfold maxLen; omega) (by omega) (by simp [World.size_setCell]; omega) _ rfl ?_; intro g5 c5 y3 o2 e2 a2 l2; obtain ⟨B1, B2, B3⟩ := after2 HA.out.2.2.1 HA.out.2.1 ((Below.heap_setCell _ _ _ _ hne2).trans HA.out.1) e2; have v3 : y3.cell? ⟨w1.heap.size, 0, none⟩ = some (.slice none 0 0) := (cell_of_heap B1).trans rfl; have hs3 : z0 + 4 ≤ y3.heap.size := (by simp only [World.size_setCell] at B3; omega); have HB : Hid _ := (⟨B2, o2, e2, a2⟩ : _ ∧ _ ∧ _ ∧ _); clear B1 B2 B3 o2 e2 a2 l2 n0 n1 v1 v0) | (at_builtin; refine wpList_append_lies _ rfl (.tmp 48) (.tmp 51) 79 rfl (z0 + 2) 24 iS (.slice none 0 0) 1 24 Tryz.underlying79 HS.out.1 HS.out.2.1 HS.out.2.2.1 HS.out.2.2.2 rfl (by decide) (.slice us k cs) k ps rfl (HB.out.1.alloc _) ⟨y3.heap.size, 0, none⟩ 1 1 [.slice none 0 0] rfl (by simp) (one_of (heap_alloc_last _ _)) (by simp [Value.oneCell']) (by omega) (by unfold maxLen; omega) (by omega) (by simp; omega) _ rfl ?_; intro g6 c6 y4 o3 e3 a3 l3; have HC : Hid _ := (⟨o3, e3, a3⟩ : _ ∧ _ ∧ _); clear o3 e3 a3 l3 v3))
          have NX := next_at (T7 := w1.heap.size) (d := fun7) (up := none) (cp := 0) (ub := (some ⟨w3.heap.size + 1, 0, none⟩)) (cb := 1) HK.out.2.1 (by omega) HK.out.2.2.2 hbase HK.out.1 HA.out.2.2.2.1 HA.out.2.2.2.2.1 HA.out.2.2.2.2.2 HB.out.2.1 HB.out.2.2.1 HB.out.2.2.2 HC.out.1 HC.out.2.1 HC.out.2.2
          go_roundw
          case rel => exact ⟨k + 1, n - 1, by first | go_num | (congr 1; omega), by omega, by omega, NX⟩
          case measure => simp [intOf]; omega
        · clear HX u0 u1 u2
          have mc : w3.cell? ⟨z0 + 1, 0, none⟩ = some mf := (cell_of_heap HK.out.1.1).trans rfl
          go_wp2_with (first | (at_builtin; refine wpList_append_lies _ rfl (.tmp 38) (.tmp 40) 54 rfl (z0 + 2) 27 iF (.agg #[.slice none 0 0, .int .i64 0, .slice none 0 0]) 3 56 Tryz.underlying54 HF.out.1 HF.out.2.1 HF.out.2.2.1 HF.out.2.2.2 rfl (by decide) mf k xs rfl (HK.out.1.2.1.alloc _) ⟨w3.heap.size, 0, none⟩ 1 1 [.slice up d.params.length cp, .int .i64 d.ret, .slice ub d.blocks.length cb] rfl (by simp) (three_of (heap_alloc_last _ _)) (by simp [Value.oneCell']) (by omega) (by unfold maxLen; omega) (by omega) (by simp; omega) _ rfl ?_; intro g4 c4 y1 o1 e1 a1 l1; obtain ⟨A1, A2, A3, A4, A5⟩ := after1 (g4 := g4) (c4 := c4) HK.out.2.1 HK.out.1.1 HK.out.1.2.1 HK.out.1.2.2.1 HK.out.1.2.2.2.1 HK.out.2.2.1 (by omega) hTm e1; have n0 : y1.cell? ⟨z0 + 1, 0, none⟩ = some mf := (cell_of_heap A1).trans rfl; have n1 : y1.frozen? ⟨z0 + 1, 0, none⟩ = false := (by simp [World.frozen?, A1]); have v1 : y1.cell? ⟨w1.heap.size, 1, none⟩ = some (.int .i64 d.ret) := (cell_of_heap A2).trans rfl; have v0 : y1.cell? ⟨w1.heap.size, 0, none⟩ = some (.slice up d.params.length cp) := (cell_of_heap A2).trans rfl; have HA : Hid _ := (⟨A2, A3, A4, o1, e1, a1⟩ : _ ∧ _ ∧ _ ∧ _ ∧ _ ∧ _); clear A1 A2 A3 A4 o1 e1 a1 l1 t0 t1 t2 mc) | (at_builtin; refine wpList_append_lies _ rfl (.tmp 43) (.tmp 46) 24 rfl (z0 + 2) 2 iI (.int .i64 0) 1 8 Tryz.underlying24 HI.out.1 HI.out.2.1 HI.out.2.2.1 HI.out.2.2.2 rfl (by decide) (.slice ur k cr) k (zs.map (Value.int .i64)) rfl (HA.out.2.1.alloc _) ⟨y1.heap.size, 0, none⟩ 1 1 [.int .i64 d.ret] rfl (by simp) (one_of (heap_alloc_set _ _ _ _)) (by simp [Value.oneCell']) (by omega) (by unfold maxLen; omega) (by omega) (by simp [World.size_setCell]; omega) _ rfl ?_; intro g5 c5 y3 o2 e2 a2 l2; obtain ⟨B1, B2, B3⟩ := after2 HA.out.2.2.1 HA.out.2.1 ((Below.heap_setCell _ _ _ _ hne2).trans HA.out.1) e2; have v3 : y3.cell? ⟨w1.heap.size, 0, none⟩ = some (.slice up d.params.length cp) := (cell_of_heap B1).trans rfl; have hs3 : z0 + 4 ≤ y3.heap.size := (by simp only [World.size_setCell] at B3; omega); have HB : Hid _ := (⟨B2, o2, e2, a2⟩ : _ ∧ _ ∧ _ ∧ _); clear B1 B2 B3 o2 e2 a2 l2 n0 n1 v1 v0) | (at_builtin; refine wpList_append_lies _ rfl (.tmp 48) (.tmp 51) 79 rfl (z0 + 2) 24 iS (.slice none 0 0) 1 24 Tryz.underlying79 HS.out.1 HS.out.2.1 HS.out.2.2.1 HS.out.2.2.2 rfl (by decide) (.slice us k cs) k ps rfl (HB.out.1.alloc _) ⟨y3.heap.size, 0, none⟩ 1 1 [.slice up d.params.length cp] rfl (by simp) (one_of (heap_alloc_last _ _)) (by simp [Value.oneCell']) (by omega) (by unfold maxLen; omega) (by omega) (by simp; omega) _ rfl ?_; intro g6 c6 y4 o3 e3 a3 l3; have HC : Hid _ := (⟨o3, e3, a3⟩ : _ ∧ _ ∧ _); clear o3 e3 a3 l3 v3))
          have NX := next_at (T7 := w1.heap.size) (d := d) (up := up) (cp := cp) (ub := ub) (cb := cb) HK.out.2.1 (by omega) HK.out.2.2.2 hbase HK.out.1 HA.out.2.2.2.1 HA.out.2.2.2.2.1 HA.out.2.2.2.2.2 HB.out.2.1 HB.out.2.2.1 HB.out.2.2.2 HC.out.1 HC.out.2.1 HC.out.2.2
          go_roundw
          case rel => exact ⟨k + 1, n - 1, by first | go_num | (congr 1; omega), by omega, by omega, NX⟩
          case measure => simp [intOf]; omega
    · have hn0 : n = 0 := by omega
      subst hn0
      obtain ⟨mf, xs, ps, zs, hmf, hfs⟩ := fs_at hM
      obtain ⟨m1, m2, m3, m5, m0, m4⟩ := hfs wr (fun _ _ _ => rfl) (Nat.le_refl _)
      obtain ⟨d, up, cp, ub, cb, H, x0, x1, x2, hF, _⟩ := m4 (by omega)
      have hgz := hM.gz
      have hz4 := hM.sz
      rcases m2.2 with ⟨_, e⟩ | ⟨gm, cm, cur, rfl, hgm, hcur, _⟩
      · omega
      have cm1 : wr.cell? ⟨z0 + 1, 0, none⟩ = some (.slice (some ⟨gm, 0, none⟩) k cm) := (cell_of_heap m1).trans rfl
      have cz : wr.cell? ⟨z0, 0, none⟩ = some (.slice none 0 0) := (cell_of_heap hM.res).trans rfl
      have fz : wr.frozen? ⟨z0, 0, none⟩ = false := by simp [World.frozen?, hM.res]
      have r0 : wr.cell? ⟨gm, 0, none⟩ = some (.slice up d.params.length cp) := (own_at (k := 0) m2 (by omega)).trans x0
      have r1 : wr.cell? ⟨gm, 1, none⟩ = some (.int .i64 d.ret) := (own_at (k := 1) m2 (by omega)).trans x1
      have r2 : wr.cell? ⟨gm, 2, none⟩ = some (.slice ub d.blocks.length cb) := (own_at (k := 2) m2 (by omega)).trans x2
      have HR : Hid _ := hM.res
      have hmd := hF.mem.read
      have hr := heap_set (o := 0) (v := .slice (some ⟨gm, 0, none⟩) k cm) hM.res
      go_wp2_with fail
      have hset : ∀ b, b ≠ z0 → (wr.setCell ⟨z0, 0, none⟩ (.slice (some ⟨gm, 0, none⟩) k cm)).heap[b]? = wr.heap[b]? := fun b hb => Below.heap_setCell _ _ _ _ hb
      have hag : Agree (z0 + 4) wr (wr.setCell ⟨z0, 0, none⟩ (.slice (some ⟨gm, 0, none⟩) k cm)) := ⟨by simp only [World.size_setCell]; exact Nat.le_refl _, fun b h1 _ => hset b (by omega)⟩
      refine bodyPost_ret (v := .agg #[.slice (some ⟨gm, 0, none⟩) k cm]) ((results_cell_row Tryz.results21 _ _ z0 56 _ (0, 0) _ rfl hr Tryz.underlying56 rfl (by kernel_rfl)).trans (by rfl)) rfl ⟨gm, k, cm, rfl, by omega, d, up, ub, cp, cb, ?_, ?_, ?_, hF.sm, hF.one, (hmd.1.keep hag).low (by omega), (hmd.2.keep hag).low (by omega), rd_keep hM.rd (by simp only [World.size_setCell]; exact Nat.le_refl _) fun b hb => hset b (by omega), fun b h1 h2 => (hset b (by omega)).trans (hM.old b (by omega) h2), by simp only [World.size_setCell]; omega, (set_os _ _ _).trans hM.os, (set_tape _ _ _).trans hM.tape, (set_output _ _ _).trans hM.output⟩
      · exact (cell_blk (hset gm (by omega))).trans r0
      · exact (cell_blk (hset gm (by omega))).trans r1
      · exact (cell_blk (hset gm (by omega))).trans r2
end Go.Proofs.YtclagbdomfgodaaGreatDoor
namespace Go.Proofs.YtclagbdomfgodaaGreatDoor
open Go.RowKit Go.Deep
set_option linter.unusedVariables false

theorem results_pair {P : Program} {fn : Func} {p u : Tmp} {ty : TypeId} (h : fn.results = #[.cell p ty, .tmp u]) (tmps : Array Value) (w : World) (g : Nat) (cs : Array Value)
    (hp : tmps.getD p undef = .pointer (some ⟨g, 0, none⟩)) (hl : (loadVar ty ⟨g, 0, none⟩).run P w = .ok (.agg cs) w) :
    (results fn tmps).run P w = .ok (.tuple #[.agg cs, tmps.getD u undef]) w := by
  have hp' : tmps[p]?.getD undef = .pointer (some ⟨g, 0, none⟩) := by simpa using hp
  rw [results_cell_tmp h]
  simp [hp', asAddr, hl, Result.andThen]
theorem field_mod (u : Option Addr) (n c : Nat) (w : World) : (Instr.field 56 (.agg #[.slice u n c]) 0).run Tryz.prog w = .ok (.slice u n c) w := by
  simp [Instr.field, go_sem, asAgg]
set_option maxHeartbeats 2000000 in
set_option maxRecDepth 100000 in
theorem drawTypeOf (a0 : Option Addr) (len cap : Nat) (w : World) (hl : len ≤ 1048576) (hc : Code a0 len w.heap.size w) :
    Calls Tryz.prog 10 #[.slice a0 len cap] w fun e w' => ∃ (d : FuncD) (up ub : Option Addr) (cp cb : Nat) (n : Int), e = .returned (.tuple #[.agg #[.slice up d.params.length cp, .int .i64 d.ret, .slice ub d.blocks.length cb], .int .i64 n]) ∧ -9223372036854775808 ≤ n ∧ n ≤ 9223372036854775807 ∧ SmFunc d ∧ 1 ≤ d.blocks.length ∧ IntsAt w' w.heap.size up d.params ∧ BlocksAt w' w.heap.size ub d.blocks ∧ Below w.heap.size w w' := by
  have hb0 : Below w.heap.size w (w.alloc (.cells #[.slice none 0 0, .int .i64 0, .slice none 0 0] 27)) := (Below.refl _ _).alloc (Nat.le_refl _) _
  have hrd := rd_open (cap := cap) hl (hc.below hb0)
  have PM := module_any _ a0 len cap _ hrd
  have hsz : (w.alloc (.cells #[.slice none 0 0, .int .i64 0, .slice none 0 0] 27)).heap.size = w.heap.size + 1 := by simp
  go_enter Tryz.func10, Tryz.ntmps10
  rw [hsz] at PM
  go_wp2_with (first | (go_at_call 20; refine (open_any _ _ _ _).mono ?_; rintro e w0 ⟨rfl, rfl⟩; simp only [hsz]) | (go_at_call 21; refine PM.mono ?_; rintro e w2 ⟨gm, n, cm, rfl, hn1, d, up, ub, cp, cb, r0, r1, r2, hsm, hone, hin, hbl, hrd2, hold, hs2, o1, o2, o3⟩; have hi0 : (0 : Int) < (n : Int) := (by omega); have hfld := field_mod (some ⟨gm, 0, none⟩) n cm w2))
  have hz2 : w.heap.size + 2 ≤ w2.heap.size := by have := hs2; simp at this; omega
  have hRb : w2.heap[w.heap.size]? = some (.cells #[.slice none 0 0, .int .i64 0, .slice none 0 0] 27 (0, 0)) := (hold w.heap.size (by simp; omega) (by omega)).trans (heap_alloc2_old _ _ _)
  have hW2 : ∀ b, b < w.heap.size → w2.heap[b]? = w.heap[b]? := fun b hb => (hold b (by simp; omega) (by omega)).trans ((Below.heap_alloc _ _ _ (by simp; omega)).trans (Below.heap_alloc _ _ _ hb))
  have hTR : w2.heap.size ≠ w.heap.size := by omega
  obtain ⟨wT, hwT⟩ : ∃ wT, wT = w2.alloc (.cells #[.slice up d.params.length cp, .int .i64 d.ret, .slice ub d.blocks.length cb] 27) := ⟨_, rfl⟩
  have hT : wT.heap[w2.heap.size]? = some (.cells #[.slice up d.params.length cp, .int .i64 d.ret, .slice ub d.blocks.length cb] 27 (0, 0)) := by rw [hwT]; exact heap_alloc_last _ _
  have hBT : Below w2.heap.size w2 wT := by rw [hwT]; exact (Below.refl _ _).alloc (Nat.le_refl _) _
  have hrdT : Rd (w.heap.size + 1) a0 len cap wT.drew := rd_keep hrd2 hBT.size fun b hb => hBT.block b (by omega)
  have hsT : wT.heap.size = w2.heap.size + 1 := by rw [hwT]; simp
  rw [← hwT]
  have d0 : wT.drew.cell? ⟨w2.heap.size, 0, none⟩ = some (.slice up d.params.length cp) := (cell_of_heap hT).trans rfl
  have d1 : wT.drew.cell? ⟨w2.heap.size, 1, none⟩ = some (.int .i64 d.ret) := (cell_of_heap hT).trans rfl
  have d2 : wT.drew.cell? ⟨w2.heap.size, 2, none⟩ = some (.slice ub d.blocks.length cb) := (cell_of_heap hT).trans rfl
  have hlo : (((w.alloc (.cells #[.slice none 0 0, .int .i64 0, .slice none 0 0] 27)).alloc (.cells #[.slice a0 len cap, .int .i64 0] 78))).heap.size = w.heap.size + 2 := by simp
  rw [hlo] at hin hbl
  have HI := hin.keep (agree_of_below hBT (w.heap.size + 2))
  have HB := hbl.keep (agree_of_below hBT (w.heap.size + 2))
  clear hwT PM hrd hfld r0 r1 r2 hin hbl
  go_region_held2 (fun w' => w'.cell? ⟨w2.heap.size, 0, none⟩ = some (.slice up d.params.length cp) ∧ w'.cell? ⟨w2.heap.size, 1, none⟩ = some (.int .i64 d.ret) ∧ w'.cell? ⟨w2.heap.size, 2, none⟩ = some (.slice ub d.blocks.length cb)) (first | with_reducible exact ⟨d0, d1, d2⟩ | with_reducible exact ⟨c0, c1, c2⟩ | with_reducible exact ⟨(cell_apart hTR).trans ((cell_apart hTR).trans ((cell_apart hTR).trans c0)), (cell_apart hTR).trans ((cell_apart hTR).trans ((cell_apart hTR).trans c1)), (cell_apart hTR).trans ((cell_apart hTR).trans ((cell_apart hTR).trans c2))⟩) ((go_at_call 22; refine (off_any (w.heap.size + 1) a0 len cap 0 20 _ (by exact hrdT) (by omega) (by omega) (by omega)).mono ?_; rintro e w4 ⟨n4, rfl, hn2, hn3, hr4, hg4⟩; have kT : w4.heap[w2.heap.size]? = _ := (hg4.block w2.heap.size (by show _ < wT.heap.size; omega) (by simp; omega)).trans hT; have kR : w4.heap[w.heap.size]? = _ := (hg4.block w.heap.size (by show _ < wT.heap.size; omega) (by simp)).trans ((hBT.block w.heap.size (by omega)).trans hRb); have c0 : w4.cell? ⟨w2.heap.size, 0, none⟩ = some (.slice up d.params.length cp) := (cell_of_heap kT).trans rfl; have c1 : w4.cell? ⟨w2.heap.size, 1, none⟩ = some (.int .i64 d.ret) := (cell_of_heap kT).trans rfl; have c2 : w4.cell? ⟨w2.heap.size, 2, none⟩ = some (.slice ub d.blocks.length cb) := (cell_of_heap kT).trans rfl; have m0 : w4.cell? ⟨w.heap.size, 0, none⟩ = some (.slice none 0 0) := (cell_of_heap kR).trans rfl; have m1 : w4.cell? ⟨w.heap.size, 1, none⟩ = some (.int .i64 0) := (cell_of_heap kR).trans rfl; have m2 : w4.cell? ⟨w.heap.size, 2, none⟩ = some (.slice none 0 0) := (cell_of_heap kR).trans rfl; have z0 : w4.frozen? ⟨w.heap.size, 0, none⟩ = false := (by simp [World.frozen?, kR]); have z1 : w4.frozen? ⟨w.heap.size, 1, none⟩ = false := (by simp [World.frozen?, kR]); have z2 : w4.frozen? ⟨w.heap.size, 2, none⟩ = false := (by simp [World.frozen?, kR])))
  all_goals
    have hr := heap_set (o := 2) (v := .slice ub d.blocks.length cb) (heap_set (o := 1) (v := .int .i64 d.ret) (heap_set (o := 0) (v := .slice up d.params.length cp) kR))
    go_wp2_with fail
    have hs4 : wT.heap.size ≤ w4.heap.size := hg4.size
    have hset : ∀ b, b ≠ w.heap.size → (((w4.setCell ⟨w.heap.size, 0, none⟩ (.slice up d.params.length cp)).setCell ⟨w.heap.size, 1, none⟩ (.int .i64 d.ret)).setCell ⟨w.heap.size, 2, none⟩ (.slice ub d.blocks.length cb)).heap[b]? = w4.heap[b]? := fun b hb => by rw [Below.heap_setCell _ _ _ _ hb, Below.heap_setCell _ _ _ _ hb, Below.heap_setCell _ _ _ _ hb]
    have hkeep : ∀ b, b < wT.heap.size → b ≠ w.heap.size → b ≠ w.heap.size + 1 → (((w4.setCell ⟨w.heap.size, 0, none⟩ (.slice up d.params.length cp)).setCell ⟨w.heap.size, 1, none⟩ (.int .i64 d.ret)).setCell ⟨w.heap.size, 2, none⟩ (.slice ub d.blocks.length cb)).heap[b]? = wT.heap[b]? := fun b h1 h2 h3 => (hset b h2).trans (hg4.block b h1 (by simpa using h3))
    have hag : Agree (w.heap.size + 2) wT (((w4.setCell ⟨w.heap.size, 0, none⟩ (.slice up d.params.length cp)).setCell ⟨w.heap.size, 1, none⟩ (.int .i64 d.ret)).setCell ⟨w.heap.size, 2, none⟩ (.slice ub d.blocks.length cb)) := ⟨by simp only [World.size_setCell]; exact hs4, fun b h1 h2 => hkeep b h2 (by omega) (by omega)⟩
    refine bodyPost_ret (v := .tuple #[.agg #[.slice up d.params.length cp, .int .i64 d.ret, .slice ub d.blocks.length cb], .int .i64 n4]) ((results_pair Tryz.results10 _ _ w.heap.size _ rfl (run_loadVar_row _ _ 27 _ _ (0, 0) _ hr Tryz.underlying27 rfl (by kernel_rfl))).trans (by rfl)) rfl ⟨d, up, ub, cp, cb, n4, rfl, hn2, hn3, hsm, hone, (HI.keep hag).low (by omega), (HB.keep hag).low (by omega), ?_⟩
    refine ⟨(set_os _ _ _).trans ((set_os _ _ _).trans ((set_os _ _ _).trans (hg4.os.trans (hBT.os.trans o1)))), (set_tape _ _ _).trans ((set_tape _ _ _).trans ((set_tape _ _ _).trans (hg4.tape.trans (hBT.tape.trans o2)))), (set_output _ _ _).trans ((set_output _ _ _).trans ((set_output _ _ _).trans (hg4.output.trans (hBT.output.trans o3)))), by simp only [World.size_setCell]; omega, fun b hb => ?_⟩
    exact (hkeep b (by omega) (by omega) (by omega)).trans ((hBT.block b (by omega)).trans (hW2 b hb))
end Go.Proofs.YtclagbdomfgodaaGreatDoor
