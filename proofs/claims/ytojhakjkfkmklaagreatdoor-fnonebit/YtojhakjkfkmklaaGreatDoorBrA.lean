/- Memory by its types, to be turned and read. -/
import Derived.Test.YtojhakjkfkmklaaGreatDoorGnZ
import Derived.Test.YtojhakjkfkmklaaGreatDoorFmJQ
namespace Go.Proofs.YtojhakjkfkmklaaGreatDoor
open Go.RowKit Go.Deep
set_option linter.unusedVariables false
def SlW (M : Tmap) (N : Nat) (v : Value) : Prop := ∃ u n c, v = .slice u n c ∧ n ≤ N ∧ (n = 0 ∨ ∃ g o m, u = some ⟨g, o, none⟩ ∧ M g = some (2, m) ∧ o + n ≤ m)
theorem SlV1.slw {M : Tmap} {N : Nat} {v : Value} (h : SlV1 M N 2 v) : SlW M N v := by
  obtain ⟨n, _, h2, u, c, rfl, h3⟩ := h
  refine ⟨u, n, c, rfl, h2, ?_⟩
  rcases h3 with h | ⟨g, m, e, h4, h5⟩
  · exact .inl h
  · exact .inr ⟨g, 0, m, e, h4, by omega⟩
/-- As ElOk, but a phi's list may begin anywhere in its block. -/
def ElR (M : Tmap) (N : Nat) (T : TypeId) (c : Nat → Option Value) : Prop :=
  (T = 2 → ∃ z : Int, c 0 = some (.int .i64 z)) ∧ (T = 46 → ∃ v, c 0 = some v ∧ SlV M N 2 v) ∧
  (T = 88 → (∃ z : Int, c 0 = some (.int .i64 z)) ∧ ∃ v, c 1 = some v ∧ SlW M N v) ∧
  (T = 91 → (∀ j, j < 6 → ∃ z : Int, c j = some (.int .i64 z)) ∧ ∃ v, c 6 = some v ∧ SlV M N 2 v) ∧
  (T = 86 → (∃ v, c 0 = some v ∧ SlV M N 88 v) ∧ (∃ v, c 1 = some v ∧ SlV M N 91 v) ∧ ∀ j, 2 ≤ j → j < 6 → ∃ z : Int, c j = some (.int .i64 z))
def TR (base : Nat) (M : Tmap) (N : Nat) (v : World) : Prop := ∀ b T m, M b = some (T, m) → base ≤ b ∧ ∃ cur, v.heap[b]? = some (.cells cur T (0, 0)) ∧ ∀ i, i < m → ElR M N T (fun j => cur[i * szT T + j]?)
theorem ElOk.r {M : Tmap} {N : Nat} {T : TypeId} {c : Nat → Option Value} (h : ElOk M N T c) : ElR M N T c := by
  obtain ⟨h1, h2, h3, h4, h5⟩ := h
  refine ⟨h1, h2, fun e => ?_, h4, h5⟩
  obtain ⟨k1, v, k2, k3⟩ := h3 e
  exact ⟨k1, v, k2, k3.slw⟩
theorem TH.tr {base N : Nat} {M : Tmap} {v : World} (h : TH base M N v) : TR base M N v := fun b T m hm => by
  obtain ⟨h1, cur, h2, h3⟩ := h b T m hm
  exact ⟨h1, cur, h2, fun i hi => (h3 i hi).r⟩
theorem TR.same {lo N : Nat} {M : Tmap} {w w' : World} (h : TR lo M N w) (hb : ∀ b, lo ≤ b → b < w.heap.size → w'.heap[b]? = w.heap[b]?) : TR lo M N w' := fun b T m hm => by
  obtain ⟨h1, cur, h2, h3⟩ := h b T m hm
  exact ⟨h1, cur, (hb b h1 (Array.getElem?_eq_some_iff.1 h2).1).trans h2, h3⟩
theorem slv_slice {M : Tmap} {N : Nat} {T : TypeId} {v : Value} (h : SlV M N T v) : ∃ u n c, v = .slice u n c := by
  obtain ⟨n, _, u, c, rfl, _⟩ := h
  exact ⟨u, n, c, rfl⟩
/-- One cell turned: a number into a number, anything into itself, a phi's list into another one. -/
theorem TR.set {base N : Nat} {M : Tmap} {v : World} {b o : Nat} {x y : Value} (h : TR base M N v) (hy : v.cell? ⟨b, o, none⟩ = some y) (hx : ∀ T m, M b = some (T, m) → ((∃ z : Int, y = .int .i64 z) ∧ ∃ z : Int, x = .int .i64 z) ∨ x = y ∨ (T = 88 ∧ o % 2 = 1 ∧ (SlW M N y → SlW M N x))) : TR base M N (v.setCell ⟨b, o, none⟩ x) := fun b' T m hm => by
  obtain ⟨h1, cur, h2, h3⟩ := h b' T m hm
  by_cases e : b' = b
  · subst e
    have hyc : cur[o]? = some y := by rw [cell_of_heap h2] at hy; exact hy
    have hos : o < cur.size := (Array.getElem?_eq_some_iff.1 hyc).1
    refine ⟨h1, cur.setIfInBounds o x, heap_set h2, fun i hi => ?_⟩
    have hk : ∀ k, (cur.setIfInBounds o x)[k]? = if k = o then some x else cur[k]? := fun k => by
      rw [Array.getElem?_setIfInBounds]
      by_cases e : k = o
      · subst e; simp [hos]
      · simp [e, Ne.symm e]
    have hX := hx T m hm
    have I : ∀ j, (T = 88 → j = 0) → (∃ z : Int, cur[i * szT T + j]? = some (.int .i64 z)) → ∃ z : Int, (cur.setIfInBounds o x)[i * szT T + j]? = some (.int .i64 z) := fun j hj ⟨z, hz⟩ => by
      rw [hk]
      by_cases e : i * szT T + j = o
      · rw [if_pos e]
        rw [e, hyc] at hz
        cases hz
        rcases hX with ⟨_, z', rfl⟩ | rfl | ⟨rfl, h5, _⟩
        · exact ⟨z', rfl⟩
        · exact ⟨z, rfl⟩
        · have hs : szT 88 = 2 := by decide
          rw [hs, hj rfl] at e
          omega
      · rw [if_neg e]; exact ⟨z, hz⟩
    have S : ∀ j v, T ≠ 88 → cur[i * szT T + j]? = some v → (∃ u n c, v = .slice u n c) → (cur.setIfInBounds o x)[i * szT T + j]? = some v := fun j v hT hv ⟨u, n, c, hs⟩ => by
      rw [hk]
      by_cases e : i * szT T + j = o
      · rw [if_pos e]
        rw [e, hyc] at hv
        cases hv
        rcases hX with ⟨⟨z, hz⟩, _⟩ | rfl | ⟨h5, _⟩
        · rw [hs] at hz; cases hz
        · rfl
        · exact absurd h5 hT
      · rw [if_neg e]; exact hv
    obtain ⟨k1, k2, k3, k4, k5⟩ := h3 i hi
    refine ⟨fun q => I 0 (fun _ => rfl) (k1 q), fun q => ?_, fun q => ⟨I 0 (fun _ => rfl) (k3 q).1, ?_⟩, fun q => ⟨fun j hj => I j (fun k => by rw [q] at k; exact absurd k (by decide)) ((k4 q).1 j hj), ?_⟩, fun q => ⟨?_, ?_, fun j hj hj6 => I j (fun k => by rw [q] at k; exact absurd k (by decide)) ((k5 q).2.2 j hj hj6)⟩⟩
    · obtain ⟨v, v1, v2⟩ := k2 q
      exact ⟨v, S 0 v (by rw [q]; decide) v1 (slv_slice v2), v2⟩
    · obtain ⟨v, v1, v2⟩ := (k3 q).2
      dsimp only at v1
      show ∃ v, (cur.setIfInBounds o x)[i * szT T + 1]? = some v ∧ SlW M N v
      rw [hk]
      by_cases e : i * szT T + 1 = o
      · rw [if_pos e]
        rw [e, hyc] at v1
        cases v1
        rcases hX with ⟨⟨z, hz⟩, _⟩ | rfl | ⟨_, _, h5⟩
        · obtain ⟨_, _, _, rfl, _⟩ := v2; cases hz
        · exact ⟨_, rfl, v2⟩
        · exact ⟨_, rfl, h5 v2⟩
      · rw [if_neg e]; exact ⟨v, v1, v2⟩
    · obtain ⟨v, v1, v2⟩ := (k4 q).2
      exact ⟨v, S 6 v (by rw [q]; decide) v1 (slv_slice v2), v2⟩
    · obtain ⟨v, v1, v2⟩ := (k5 q).1
      exact ⟨v, S 0 v (by rw [q]; decide) v1 (slv_slice v2), v2⟩
    · obtain ⟨v, v1, v2⟩ := (k5 q).2.1
      exact ⟨v, S 1 v (by rw [q]; decide) v1 (slv_slice v2), v2⟩
  · exact ⟨h1, cur, (Below.heap_setCell _ _ _ _ e).trans h2, h3⟩
variable {base N n c : Nat} {M : Tmap} {v : World} {u : Option Addr}
theorem sl_atR {T : TypeId} (th : TR base M N v) (h : SlN M T (.slice u n c) n) : n = 0 ∨ ∃ g, u = some ⟨g, 0, none⟩ ∧ base ≤ g ∧ g < v.heap.size ∧ ∀ i, i < n → ElR M N T (fun j => v.cell? ⟨g, 0 + i * szT T + j, none⟩) := by
  obtain ⟨u', c', e, h⟩ := h
  cases e
  rcases h with h | ⟨g, m, rfl, hM, hm⟩
  · exact .inl h
  · obtain ⟨h1, cur, h2, h3⟩ := th g T m hM
    refine .inr ⟨g, rfl, h1, (Array.getElem?_eq_some_iff.1 h2).1, fun i hi => ?_⟩
    have e : (fun j => v.cell? ⟨g, 0 + i * szT T + j, none⟩) = fun j => cur[i * szT T + j]? := by
      funext j
      rw [cell_of_heap h2, Nat.zero_add]
    rw [e]
    exact h3 i (by omega)
theorem ints_ofR (th : TR base M N v) (h : SlN M 2 (.slice u n c) n) (hn : n ≤ 10000) : ∃ l : List Int, l.length = n ∧ IntsAt v base u l := by
  rcases sl_atR th h with rfl | ⟨g, rfl, h1, h2, h3⟩
  · exact ⟨[], rfl, by simp, .inl rfl⟩
  · have hs : szT 2 = 1 := by decide
    obtain ⟨l, l1, l2⟩ := list_of 0 (fun i z => v.cell? ⟨g, 0 + i, none⟩ = some (.int .i64 z)) n fun i hi => by
      obtain ⟨z, hz⟩ := (h3 i hi).1 rfl
      exact ⟨z, by simpa [hs] using hz⟩
    exact ⟨l, l1, by omega, .inr ⟨g, 0, rfl, h1, h2, fun i hi => l2 i (by omega)⟩⟩
theorem ints_ofW (th : TR base M N v) (h : n = 0 ∨ ∃ g o m, u = some ⟨g, o, none⟩ ∧ M g = some (2, m) ∧ o + n ≤ m) (hn : n ≤ 10000) : ∃ l : List Int, l.length = n ∧ IntsAt v base u l := by
  rcases h with rfl | ⟨g, o, m, rfl, hM, hm⟩
  · exact ⟨[], rfl, by simp, .inl rfl⟩
  · obtain ⟨h1, cur, h2, h3⟩ := th g _ m hM
    have hs : szT 2 = 1 := by decide
    obtain ⟨l, l1, l2⟩ := list_of 0 (fun i z => v.cell? ⟨g, o + i, none⟩ = some (.int .i64 z)) n fun i hi => by
      obtain ⟨z, hz⟩ := (h3 (o + i) (by omega)).1 rfl
      exact ⟨z, by rw [cell_of_heap h2]; simpa [hs] using hz⟩
    exact ⟨l, l1, by omega, .inr ⟨g, o, rfl, h1, (Array.getElem?_eq_some_iff.1 h2).1, fun i hi => l2 i (by omega)⟩⟩
theorem phis_ofR (th : TR base M N v) (hN : N ≤ 10000) (h : SlN M 88 (.slice u n c) n) (hn : n ≤ 10000) : ∃ l : List PhiD, l.length = n ∧ PhisAt v base u l ∧ ∀ p ∈ l, SmPhi p := by
  rcases sl_atR th h with rfl | ⟨g, rfl, h1, h2, h3⟩
  · exact ⟨[], rfl, ⟨by simp, .inl rfl⟩, by simp⟩
  · have hs : szT 88 = 2 := by decide
    obtain ⟨l, l1, l2⟩ := list_of phi0 (fun i p => (v.cell? ⟨g, 0 + i * 2, none⟩ = some (.int .i64 p.w) ∧ ∃ u c, v.cell? ⟨g, 0 + i * 2 + 1, none⟩ = some (.slice u p.ins.length c) ∧ IntsAt v base u p.ins) ∧ p.ins.length ≤ 10000) n fun i hi => by
      obtain ⟨⟨z, hz⟩, s, hs1, hs2⟩ := (h3 i hi).2.2.1 rfl
      obtain ⟨u, k, c, rfl, hk, hs3⟩ := hs2
      obtain ⟨m, m1, m2⟩ := ints_ofW th (u := u) hs3 (by omega)
      exact ⟨⟨z, m⟩, ⟨by simpa [hs] using hz, u, c, by simpa [hs, m1] using hs1, m2⟩, by dsimp only; omega⟩
    refine ⟨l, l1, ⟨by omega, .inr ⟨g, 0, rfl, h1, h2, fun i hi => (l2 i (by omega)).1⟩⟩, fun p hp => ?_⟩
    obtain ⟨i, hi, rfl⟩ := mem_getD phi0 hp
    have := (l2 i (by omega)).2
    show _ ≤ _
    omega
theorem insts_ofR (th : TR base M N v) (hN : N ≤ 10000) (h : SlN M 91 (.slice u n c) n) (hn : n ≤ 10000) : ∃ l : List InstD, l.length = n ∧ InstsAt v base u l ∧ ∀ p ∈ l, SmInst p := by
  rcases sl_atR th h with rfl | ⟨g, rfl, h1, h2, h3⟩
  · exact ⟨[], rfl, ⟨by simp, .inl rfl⟩, by simp⟩
  · have hs : szT 91 = 7 := by decide
    obtain ⟨l, l1, l2⟩ := list_of inst0 (fun i p => (v.cell? ⟨g, 0 + i * 7, none⟩ = some (.int .i64 p.op) ∧ v.cell? ⟨g, 0 + i * 7 + 1, none⟩ = some (.int .i64 p.w) ∧ v.cell? ⟨g, 0 + i * 7 + 2, none⟩ = some (.int .i64 p.a) ∧ v.cell? ⟨g, 0 + i * 7 + 3, none⟩ = some (.int .i64 p.b) ∧ v.cell? ⟨g, 0 + i * 7 + 4, none⟩ = some (.int .i64 p.c) ∧ v.cell? ⟨g, 0 + i * 7 + 5, none⟩ = some (.int .i64 p.imm) ∧ ∃ u c, v.cell? ⟨g, 0 + i * 7 + 6, none⟩ = some (.slice u p.args.length c) ∧ IntsAt v base u p.args) ∧ p.args.length ≤ 10000) n fun i hi => by
      obtain ⟨hz, s, hs1, hs2⟩ := (h3 i hi).2.2.2.1 rfl
      obtain ⟨u, k, c, rfl, hk, hs3⟩ := slv_form hs2
      obtain ⟨m, m1, m2⟩ := ints_ofR th hs3 (by omega)
      obtain ⟨z0, y0⟩ := hz 0 (by omega)
      obtain ⟨z1, y1⟩ := hz 1 (by omega)
      obtain ⟨z2, y2⟩ := hz 2 (by omega)
      obtain ⟨z3, y3⟩ := hz 3 (by omega)
      obtain ⟨z4, y4⟩ := hz 4 (by omega)
      obtain ⟨z5, y5⟩ := hz 5 (by omega)
      simp only [hs] at y0 y1 y2 y3 y4 y5 hs1
      exact ⟨⟨z0, z1, z2, z3, z4, z5, m⟩, ⟨y0, y1, y2, y3, y4, y5, u, c, by rw [hs1, m1], m2⟩, by dsimp only; omega⟩
    refine ⟨l, l1, ⟨by omega, .inr ⟨g, 0, rfl, h1, h2, fun i hi => (l2 i (by omega)).1⟩⟩, fun p hp => ?_⟩
    obtain ⟨i, hi, rfl⟩ := mem_getD inst0 hp
    have := (l2 i (by omega)).2
    show _ ≤ _
    omega
theorem blocks_ofR (th : TR base M N v) (hN : N ≤ 10000) (h : SlN M 86 (.slice u n c) n) (hn : n ≤ 10000) : ∃ l : List BlockD, l.length = n ∧ BlocksAt v base u l ∧ ∀ p ∈ l, SmBlock p := by
  rcases sl_atR th h with rfl | ⟨g, rfl, h1, h2, h3⟩
  · exact ⟨[], rfl, ⟨by simp, .inl rfl⟩, by simp⟩
  · have hs : szT 86 = 6 := by decide
    obtain ⟨l, l1, l2⟩ := list_of block0 (fun i p => ((∃ u c, v.cell? ⟨g, 0 + i * 6, none⟩ = some (.slice u p.phis.length c) ∧ PhisAt v base u p.phis) ∧ (∃ u c, v.cell? ⟨g, 0 + i * 6 + 1, none⟩ = some (.slice u p.insts.length c) ∧ InstsAt v base u p.insts) ∧ v.cell? ⟨g, 0 + i * 6 + 2, none⟩ = some (.int .i64 p.term.kind) ∧ v.cell? ⟨g, 0 + i * 6 + 3, none⟩ = some (.int .i64 p.term.a) ∧ v.cell? ⟨g, 0 + i * 6 + 4, none⟩ = some (.int .i64 p.term.x) ∧ v.cell? ⟨g, 0 + i * 6 + 5, none⟩ = some (.int .i64 p.term.y)) ∧ SmBlock p) n fun i hi => by
      obtain ⟨⟨s, hs1, hs2⟩, ⟨s', hs1', hs2'⟩, hz⟩ := (h3 i hi).2.2.2.2 rfl
      obtain ⟨u, k, c, rfl, hk, hs3⟩ := slv_form hs2
      obtain ⟨u', k', c', rfl, hk', hs3'⟩ := slv_form hs2'
      obtain ⟨m, m1, m2, m3⟩ := phis_ofR th hN hs3 (by omega)
      obtain ⟨m', m1', m2', m3'⟩ := insts_ofR th hN hs3' (by omega)
      obtain ⟨z2, y2⟩ := hz 2 (by omega) (by omega)
      obtain ⟨z3, y3⟩ := hz 3 (by omega) (by omega)
      obtain ⟨z4, y4⟩ := hz 4 (by omega) (by omega)
      obtain ⟨z5, y5⟩ := hz 5 (by omega) (by omega)
      simp only [hs] at y2 y3 y4 y5 hs1 hs1'
      exact ⟨⟨m, m', ⟨z2, z3, z4, z5⟩⟩, ⟨⟨u, c, by rw [← m1] at hs1; exact hs1, m2⟩, ⟨u', c', by rw [← m1'] at hs1'; exact hs1', m2'⟩, y2, y3, y4, y5⟩, ⟨by dsimp only; omega, m3⟩, ⟨by dsimp only; omega, m3'⟩⟩
    refine ⟨l, l1, ⟨by omega, .inr ⟨g, 0, rfl, h1, h2, fun i hi => (l2 i (by omega)).1⟩⟩, fun p hp => ?_⟩
    obtain ⟨i, hi, rfl⟩ := mem_getD block0 hp
    exact (l2 i (by omega)).2
/-- A module in memory, by its types. -/
def FunR (lo : Nat) (w : World) (np nb : Nat) (up ub : Option Addr) : Prop := ∃ M, TR lo M 400 w ∧ SlN M 2 (.slice up np 0) np ∧ SlN M 86 (.slice ub nb 0) nb ∧ np ≤ 2 ∧ 1 ≤ nb ∧ nb ≤ 400
def ModR (lo gm n : Nat) (w : World) : Prop := (∃ cur, w.heap[gm]? = some (.cells cur 49 (0, 0))) ∧ ∀ i, i < n → ∃ (np nb : Nat) (ret : Int) (up ub : Option Addr) (cp cb : Nat), w.cell? ⟨gm, i * 3, none⟩ = some (.slice up np cp) ∧ w.cell? ⟨gm, i * 3 + 1, none⟩ = some (.int .i64 ret) ∧ w.cell? ⟨gm, i * 3 + 2, none⟩ = some (.slice ub nb cb) ∧ FunR lo w np nb up ub
theorem ModR.same {lo gm n : Nat} {w w' : World} (h : ModR lo gm n w) (hg : lo ≤ gm) (hb : ∀ b, lo ≤ b → b < w.heap.size → w'.heap[b]? = w.heap[b]?) : ModR lo gm n w' := by
  obtain ⟨⟨cur, hc⟩, h⟩ := h
  have e := hb gm hg (Array.getElem?_eq_some_iff.1 hc).1
  refine ⟨⟨cur, e.trans hc⟩, fun i hi => ?_⟩
  obtain ⟨np, nb, ret, up, ub, cp, cb, h0, h1, h2, M, h3, h4⟩ := h i hi
  exact ⟨np, nb, ret, up, ub, cp, cb, (cell_blk e).trans h0, (cell_blk e).trans h1, (cell_blk e).trans h2, M, h3.same hb, h4⟩
theorem ModR.set {lo gm n b o : Nat} {w : World} {x y : Value} (h : ModR lo gm n w) (hb : b ≠ gm) (hy : w.cell? ⟨b, o, none⟩ = some y) (hx : ((∃ z : Int, y = .int .i64 z) ∧ ∃ z : Int, x = .int .i64 z) ∨ x = y ∨ ((∃ cur, w.heap[b]? = some (.cells cur 88 (0, 0))) ∧ o % 2 = 1 ∧ ∀ M, SlW M 400 y → SlW M 400 x)) : ModR lo gm n (w.setCell ⟨b, o, none⟩ x) := by
  obtain ⟨⟨cur, hc⟩, h⟩ := h
  have e : (w.setCell ⟨b, o, none⟩ x).heap[gm]? = w.heap[gm]? := Below.heap_setCell _ _ _ _ (Ne.symm hb)
  refine ⟨⟨cur, e.trans hc⟩, fun i hi => ?_⟩
  obtain ⟨np, nb, ret, up, ub, cp, cb, h0, h1, h2, M, h3, h4⟩ := h i hi
  refine ⟨np, nb, ret, up, ub, cp, cb, (cell_blk e).trans h0, (cell_blk e).trans h1, (cell_blk e).trans h2, M, h3.set hy fun T m hm => ?_, h4⟩
  rcases hx with hx | hx | ⟨⟨c1, hc1⟩, h5, h6⟩
  · exact .inl hx
  · exact .inr (.inl hx)
  · obtain ⟨_, c2, hc2, _⟩ := h3 b T m hm
    rw [hc1] at hc2
    cases hc2
    exact .inr (.inr ⟨rfl, h5, h6 M⟩)
theorem ModAll.r {gm n lo : Nat} {w : World} (hc : ∃ cur, w.heap[gm]? = some (.cells cur 49 (0, 0))) (h : ∀ i, i < n → ∃ (d : FuncD) (up ub : Option Addr) (cp cb : Nat), w.cell? ⟨gm, i * 3, none⟩ = some (.slice up d.params.length cp) ∧ w.cell? ⟨gm, i * 3 + 1, none⟩ = some (.int .i64 d.ret) ∧ w.cell? ⟨gm, i * 3 + 2, none⟩ = some (.slice ub d.blocks.length cb) ∧ Ty2 w lo d up ub) : ModR lo gm n w := by
  refine ⟨hc, fun i hi => ?_⟩
  obtain ⟨d, up, ub, cp, cb, h0, h1, h2, M, h3, h4, h5, h6, h7, h8⟩ := h i hi
  exact ⟨_, _, _, up, ub, cp, cb, h0, h1, h2, M, h3.tr, h4, h5, h6, h7, h8⟩
theorem FunR.low {lo lo' np nb : Nat} {w : World} {up ub : Option Addr} (h : FunR lo w np nb up ub) (hl : lo' ≤ lo) : FunR lo' w np nb up ub := by
  obtain ⟨M, h1, h2⟩ := h
  refine ⟨M, fun b T m hb => ?_, h2⟩
  obtain ⟨k1, k2⟩ := h1 b T m hb
  exact ⟨by omega, k2⟩
theorem ModR.low {lo lo' gm n : Nat} {w : World} (h : ModR lo gm n w) (hl : lo' ≤ lo) : ModR lo' gm n w := by
  refine ⟨h.1, fun i hi => ?_⟩
  obtain ⟨np, nb, ret, up, ub, cp, cb, h0, h1, h2, h3⟩ := h.2 i hi
  exact ⟨np, nb, ret, up, ub, cp, cb, h0, h1, h2, h3.low hl⟩
/-- Its functions, to be read. -/
theorem FunR.read {lo np nb : Nat} {w : World} {up ub : Option Addr} {ret : Int} (h : FunR lo w np nb up ub) : ∃ d : FuncD, d.params.length = np ∧ d.ret = ret ∧ d.blocks.length = nb ∧ SmFunc d ∧ IntsAt w lo up d.params ∧ BlocksAt w lo ub d.blocks := by
  obtain ⟨M, h1, h2, h3, h4, h5, h6⟩ := h
  obtain ⟨l, l1, l2⟩ := ints_ofR h1 h2 (by omega)
  obtain ⟨m, m1, m2, m3⟩ := blocks_ofR h1 (by omega) h3 (by omega)
  exact ⟨⟨l, ret, m⟩, l1, rfl, m1, ⟨by dsimp only; omega, by dsimp only; omega, m3⟩, l2, m2⟩
end Go.Proofs.YtojhakjkfkmklaaGreatDoor
