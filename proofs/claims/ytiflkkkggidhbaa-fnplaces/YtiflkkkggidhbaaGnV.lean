/- A drawn function as a value: lists out of memory by its types. -/
import Derived.Test.YtiflkkkggidhbaaGnU
namespace Go.Proofs.Ytiflkkkggidhbaa
open Go.RowKit Go.Deep
set_option linter.unusedVariables false

theorem list_of {α : Type} (z : α) (P : Nat → α → Prop) : ∀ n, (∀ i, i < n → ∃ x, P i x) → ∃ l : List α, l.length = n ∧ ∀ i, i < n → P i (l.getD i z)
  | 0, _ => ⟨[], rfl, fun i hi => by omega⟩
  | n + 1, h => by
    obtain ⟨l, h1, h2⟩ := list_of z P n fun i hi => h i (by omega)
    obtain ⟨x, hx⟩ := h n (by omega)
    refine ⟨l ++ [x], by simp [h1], fun i hi => ?_⟩
    by_cases e : i = n
    · subst e
      have : (l ++ [x]).getD i z = x := by rw [List.getD, List.getElem?_append_right (by omega), h1, Nat.sub_self]; rfl
      rw [this]; exact hx
    · have : (l ++ [x]).getD i z = l.getD i z := by rw [List.getD, List.getElem?_append_left (by omega), List.getD]
      rw [this]; exact h2 i (by omega)
theorem mem_getD {α : Type} (z : α) {l : List α} {p : α} (h : p ∈ l) : ∃ i, i < l.length ∧ p = l.getD i z := by
  obtain ⟨i, hi, rfl⟩ := List.getElem_of_mem h
  exact ⟨i, hi, by simp [List.getD, hi]⟩
variable {base N n c : Nat} {M : Tmap} {v : World} {u : Option Addr}
/-- What stands where a slice points. -/
theorem sl_at {T : TypeId} (th : TH base M N v) (h : SlN M T (.slice u n c) n) : n = 0 ∨ ∃ g, u = some ⟨g, 0, none⟩ ∧ base ≤ g ∧ g < v.heap.size ∧ ∀ i, i < n → ElOk M N T (fun j => v.cell? ⟨g, 0 + i * szT T + j, none⟩) := by
  obtain ⟨u', c', e, h⟩ := h
  cases e
  rcases h with h | ⟨g, m, rfl, hM, hm⟩
  · exact .inl h
  · obtain ⟨h1, cur, h2, h3⟩ := th g T m hM
    refine .inr ⟨g, rfl, h1, (Array.getElem?_eq_some_iff.1 h2).1, fun i hi => ?_⟩
    have e : (fun j => v.cell? ⟨g, 0 + i * szT T + j, none⟩) = fun j => cur[i * szT T + j]? := by
      funext j
      rw [cell_of_heap h2, Nat.zero_add]
    rw [e]
    exact h3 i (by omega)
theorem ints_of (th : TH base M N v) (h : SlN M 2 (.slice u n c) n) (hn : n ≤ 10000) : ∃ l : List Int, l.length = n ∧ IntsAt v base u l := by
  rcases sl_at th h with rfl | ⟨g, rfl, h1, h2, h3⟩
  · exact ⟨[], rfl, by simp, .inl rfl⟩
  · have hs : szT 2 = 1 := by decide
    obtain ⟨l, l1, l2⟩ := list_of 0 (fun i z => v.cell? ⟨g, 0 + i, none⟩ = some (.int .i64 z)) n fun i hi => by
      obtain ⟨z, hz⟩ := (h3 i hi).1 rfl
      exact ⟨z, by simpa [hs] using hz⟩
    exact ⟨l, l1, by omega, .inr ⟨g, 0, rfl, h1, h2, fun i hi => l2 i (by omega)⟩⟩
theorem slv_form {T : TypeId} {s : Value} (h : SlV M N T s) : ∃ u n c, s = .slice u n c ∧ n ≤ N ∧ SlN M T (.slice u n c) n := by
  obtain ⟨n, h1, h2⟩ := h
  obtain ⟨u, c, rfl, h3⟩ := h2
  exact ⟨u, n, c, rfl, h1, u, c, rfl, h3⟩
theorem phis_of (th : TH base M N v) (hN : N ≤ 10000) (h : SlN M 49 (.slice u n c) n) (hn : n ≤ 10000) : ∃ l : List PhiD, l.length = n ∧ PhisAt v base u l ∧ ∀ p ∈ l, SmPhi p := by
  rcases sl_at th h with rfl | ⟨g, rfl, h1, h2, h3⟩
  · exact ⟨[], rfl, ⟨by simp, .inl rfl⟩, by simp⟩
  · have hs : szT 49 = 2 := by decide
    obtain ⟨l, l1, l2⟩ := list_of phi0 (fun i p => (v.cell? ⟨g, 0 + i * 2, none⟩ = some (.int .i64 p.w) ∧ ∃ u c, v.cell? ⟨g, 0 + i * 2 + 1, none⟩ = some (.slice u p.ins.length c) ∧ IntsAt v base u p.ins) ∧ p.ins.length ≤ 10000) n fun i hi => by
      obtain ⟨⟨z, hz⟩, s, hs1, hs2⟩ := (h3 i hi).2.2.1 rfl
      obtain ⟨u, k, c, rfl, hk, hs3⟩ := slv_form hs2
      obtain ⟨m, m1, m2⟩ := ints_of th hs3 (by omega)
      exact ⟨⟨z, m⟩, ⟨by simpa [hs] using hz, u, c, by simpa [hs, m1] using hs1, m2⟩, by dsimp only; omega⟩
    refine ⟨l, l1, ⟨by omega, .inr ⟨g, 0, rfl, h1, h2, fun i hi => (l2 i (by omega)).1⟩⟩, fun p hp => ?_⟩
    obtain ⟨i, hi, rfl⟩ := mem_getD phi0 hp
    have := (l2 i (by omega)).2
    show _ ≤ _
    omega
theorem insts_of (th : TH base M N v) (hN : N ≤ 10000) (h : SlN M 39 (.slice u n c) n) (hn : n ≤ 10000) : ∃ l : List InstD, l.length = n ∧ InstsAt v base u l ∧ ∀ p ∈ l, SmInst p := by
  rcases sl_at th h with rfl | ⟨g, rfl, h1, h2, h3⟩
  · exact ⟨[], rfl, ⟨by simp, .inl rfl⟩, by simp⟩
  · have hs : szT 39 = 7 := by decide
    obtain ⟨l, l1, l2⟩ := list_of inst0 (fun i p => (v.cell? ⟨g, 0 + i * 7, none⟩ = some (.int .i64 p.op) ∧ v.cell? ⟨g, 0 + i * 7 + 1, none⟩ = some (.int .i64 p.w) ∧ v.cell? ⟨g, 0 + i * 7 + 2, none⟩ = some (.int .i64 p.a) ∧ v.cell? ⟨g, 0 + i * 7 + 3, none⟩ = some (.int .i64 p.b) ∧ v.cell? ⟨g, 0 + i * 7 + 4, none⟩ = some (.int .i64 p.c) ∧ v.cell? ⟨g, 0 + i * 7 + 5, none⟩ = some (.int .i64 p.imm) ∧ ∃ u c, v.cell? ⟨g, 0 + i * 7 + 6, none⟩ = some (.slice u p.args.length c) ∧ IntsAt v base u p.args) ∧ p.args.length ≤ 10000) n fun i hi => by
      obtain ⟨hz, s, hs1, hs2⟩ := (h3 i hi).2.2.2.1 rfl
      obtain ⟨u, k, c, rfl, hk, hs3⟩ := slv_form hs2
      obtain ⟨m, m1, m2⟩ := ints_of th hs3 (by omega)
      obtain ⟨z0, y0⟩ := hz 0 (by omega)
      obtain ⟨z1, y1⟩ := hz 1 (by omega)
      obtain ⟨z2, y2⟩ := hz 2 (by omega)
      obtain ⟨z3, y3⟩ := hz 3 (by omega)
      obtain ⟨z4, y4⟩ := hz 4 (by omega)
      obtain ⟨z5, y5⟩ := hz 5 (by omega)
      simp only [hs] at y0 y1 y2 y3 y4 y5 hs1
      exact ⟨⟨z0, z1, z2, z3, z4, z5, m⟩, ⟨y0, y1, y2, y3, y4, y5, u, c, by rw [hs1, m1], m2⟩, by dsimp only; omega⟩
    refine ⟨l, l1, ⟨by omega, .inr ⟨g, 0, rfl, h1, h2, fun i hi => (l2 i (by omega)).1⟩⟩, fun p hp => ?_⟩
    obtain ⟨i, hi, rfl⟩ := mem_getD inst0 hp
    have := (l2 i (by omega)).2
    show _ ≤ _
    omega
theorem blocks_of (th : TH base M N v) (hN : N ≤ 10000) (h : SlN M 47 (.slice u n c) n) (hn : n ≤ 10000) : ∃ l : List BlockD, l.length = n ∧ BlocksAt v base u l ∧ ∀ p ∈ l, SmBlock p := by
  rcases sl_at th h with rfl | ⟨g, rfl, h1, h2, h3⟩
  · exact ⟨[], rfl, ⟨by simp, .inl rfl⟩, by simp⟩
  · have hs : szT 47 = 6 := by decide
    obtain ⟨l, l1, l2⟩ := list_of block0 (fun i p => ((∃ u c, v.cell? ⟨g, 0 + i * 6, none⟩ = some (.slice u p.phis.length c) ∧ PhisAt v base u p.phis) ∧ (∃ u c, v.cell? ⟨g, 0 + i * 6 + 1, none⟩ = some (.slice u p.insts.length c) ∧ InstsAt v base u p.insts) ∧ v.cell? ⟨g, 0 + i * 6 + 2, none⟩ = some (.int .i64 p.term.kind) ∧ v.cell? ⟨g, 0 + i * 6 + 3, none⟩ = some (.int .i64 p.term.a) ∧ v.cell? ⟨g, 0 + i * 6 + 4, none⟩ = some (.int .i64 p.term.x) ∧ v.cell? ⟨g, 0 + i * 6 + 5, none⟩ = some (.int .i64 p.term.y)) ∧ SmBlock p) n fun i hi => by
      obtain ⟨⟨s, hs1, hs2⟩, ⟨s', hs1', hs2'⟩, hz⟩ := (h3 i hi).2.2.2.2 rfl
      obtain ⟨u, k, c, rfl, hk, hs3⟩ := slv_form hs2
      obtain ⟨u', k', c', rfl, hk', hs3'⟩ := slv_form hs2'
      obtain ⟨m, m1, m2, m3⟩ := phis_of th hN hs3 (by omega)
      obtain ⟨m', m1', m2', m3'⟩ := insts_of th hN hs3' (by omega)
      obtain ⟨z2, y2⟩ := hz 2 (by omega) (by omega)
      obtain ⟨z3, y3⟩ := hz 3 (by omega) (by omega)
      obtain ⟨z4, y4⟩ := hz 4 (by omega) (by omega)
      obtain ⟨z5, y5⟩ := hz 5 (by omega) (by omega)
      simp only [hs] at y2 y3 y4 y5 hs1 hs1'
      exact ⟨⟨m, m', ⟨z2, z3, z4, z5⟩⟩, ⟨⟨u, c, by rw [← m1] at hs1; exact hs1, m2⟩, ⟨u', c', by rw [← m1'] at hs1'; exact hs1', m2'⟩, y2, y3, y4, y5⟩, ⟨by dsimp only; omega, m3⟩, ⟨by dsimp only; omega, m3'⟩⟩
    refine ⟨l, l1, ⟨by omega, .inr ⟨g, 0, rfl, h1, h2, fun i hi => (l2 i (by omega)).1⟩⟩, fun p hp => ?_⟩
    obtain ⟨i, hi, rfl⟩ := mem_getD block0 hp
    exact (l2 i (by omega)).2
end Go.Proofs.Ytiflkkkggidhbaa
