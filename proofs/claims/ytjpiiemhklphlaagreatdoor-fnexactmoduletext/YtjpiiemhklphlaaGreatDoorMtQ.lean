/- Modules as texts: a list with a number ahead, the numbers of an end. -/
import Derived.Test.YtjpiiemhklphlaaGreatDoorMtP
import Derived.Test.YtjpiiemhklphlaaGreatDoorOps3
namespace Go.Proofs.YtjpiiemhklphlaaGreatDoor
open Go.RowKit
set_option linter.unusedVariables false

theorem wpList_sameT {ops : Array Oper} {rest : List Oper} {o : Oper} {a : Act} {Q : Exit → Act → World → Prop} {w : World} (hgd : o.guard = none) (s x : Operand) (t : TypeId) (ho : o.op = .call { callee := .builtin .append, args := #[s, x], argTypes := #[t, t] })
    {sv xv : Value} (hs : a.eval s = sv) (hx : a.eval x = xv) (hr : ∀ ty, (Builtin.append_ #[t, t] ty #[sv, xv]).run Tryz.prog w = .ok sv w) (h : wpList Tryz.prog ops Q rest (a.put o.dst sv) w) : wpList Tryz.prog ops Q (o :: rest) a w :=
  wpList_plain hgd fun K hK => by
    have := step_sameT (ops := ops) (E := True) (Q := Q) hgd s x t ho hs hx hr (K := K) (hK _ _ h)
    simpa [Region.wanted, hgd] using this
theorem wpList_intsX {ops : Array Oper} {rest : List Oper} {o : Oper} {a : Act} {Q : Exit → Act → World → Prop} {w : World} (hgd : o.guard = none) (s x : Operand)
    (ho : o.op = .call { callee := .builtin .append, args := #[s, x], argTypes := #[42, 42] })
    (base : Nat) (v : Value) (l : List Int) (hs : a.eval s = v) (hown : Row w base v l) (b off : Nat) (l2 : List Int) (c : Nat) (hx : a.eval x = .slice (some ⟨b, off, none⟩) l2.length c) (hc : ∀ j, j < l2.length → w.cell? ⟨b, off + j, none⟩ = some (.int .i64 (l2.getD j 0)))
    (hm : 0 < l2.length) (hl : l.length + l2.length ≤ 4194304) (hbase : base ≤ w.heap.size)
    (h : ∀ v' w', Row w' base v' (l ++ l2) → w.grownBy w' v.ownBlock → wpList Tryz.prog ops Q rest (a.put o.dst v') w') : wpList Tryz.prog ops Q (o :: rest) a w := by
  obtain ⟨i0, hi, hz0, hz1, hz2⟩ := info_parts infoI
  refine wpList_append_own w hgd s x 42 ho base 2 i0 (.int .i64 0) 1 8 Tryz.underlying42 hi hz0 hz1 hz2 rfl (by decide) v l.length (l.map (Value.int .i64)) hs hown ⟨b, off, none⟩ l2.length c (l2.map (Value.int .i64)) hx (by simp) ?_ (by simp [Value.oneCell']) (by unfold maxLen; omega) (by omega) hbase ?_
  · intro j y hj
    have hjl : j < l2.length := by have := (List.getElem?_eq_some_iff.1 hj).1; simpa using this
    rw [Addr.add_lit, hc j hjl]
    simp [hjl] at hj
    rw [← hj]
    simp [List.getD, hjl]
  · intro v' w' h1 h2 _
    refine h v' w' ?_ h2
    unfold Row
    rw [List.length_append, List.map_append]
    exact h1
theorem headedI (lo : Nat) (a : Option Addr) (c : Nat) (n : Int) (l : List Int) (w : World) (hk : IntsAt w lo a l) (hl : l.length ≤ 1000) :
    Calls Tryz.prog 28 #[.int .i64 n, .slice a l.length c] w fun e w' => ∃ v r, e = .returned (.slice v (n :: l).length r) ∧ IntsAt w' w.heap.size v (n :: l) ∧ Below w.heap.size w w' := by
  obtain ⟨i0, hi, _, _, _⟩ := info_parts infoI
  have b1 : Below w.heap.size w (w.alloc (.cells #[.int .i64 n] 2)) := (Below.refl _ _).alloc (Nat.le_refl _) _
  have R1 : Row (w.alloc (.cells #[.int .i64 n] 2)) w.heap.size (.slice (some ⟨w.heap.size, 0, none⟩) 1 1) [n] := row_oneT rfl (Nat.le_refl _)
  rcases hk.2 with he | ⟨b, off, rfl, hlo, hlt, hc⟩
  · subst he
    go_enter Tryz.func28, Tryz.ntmps28
    go_wp2_with (at_builtin; refine wpList_sameT rfl _ _ 42 rfl rfl rfl (fun ty => append_zero _ 1 1 (Nat.le_refl _) _ _ _ i0 Tryz.underlying42 hi) ?_)
    go_ret
    obtain ⟨u, c', hu, hI⟩ := R1.ints (by simp)
    cases hu
    exact ⟨_, _, rfl, hI, b1⟩
  · by_cases h0 : l = []
    · subst h0
      go_enter Tryz.func28, Tryz.ntmps28
      go_wp2_with (at_builtin; refine wpList_sameT rfl _ _ 42 rfl rfl rfl (fun ty => append_zero _ 1 1 (Nat.le_refl _) _ _ _ i0 Tryz.underlying42 hi) ?_)
      go_ret
      obtain ⟨u, c', hu, hI⟩ := R1.ints (by simp)
      cases hu
      exact ⟨_, _, rfl, hI, b1⟩
    · have hp : 0 < l.length := List.length_pos_iff.2 h0
      have hc1 : ∀ j, j < l.length → (w.alloc (.cells #[.int .i64 n] 2)).cell? ⟨b, off + j, none⟩ = some (.int .i64 (l.getD j 0)) := fun j hj => (bcell b1 _ _ hlt).trans (hc j hj)
      go_enter Tryz.func28, Tryz.ntmps28
      go_wp2_with (at_builtin; refine wpList_intsX rfl _ _ rfl w.heap.size _ [n] rfl R1 b off l _ rfl hc1 hp (by simp; omega) (by have := b1.size; omega) ?_; intro v2 w2 hR2 hg2)
      obtain ⟨u, c', rfl, hI⟩ := hR2.ints (by simp; omega)
      go_wp2_with fail
      go_ret
      refine ⟨u, c', rfl, hI, b1.grown hg2 (by have := b1.size; omega) (fun k hk => ?_)⟩
      cases hk
      exact Nat.le_refl _
set_option maxHeartbeats 1000000 in
theorem termNsI (d : TermD) (w : World) :
    Calls Tryz.prog 48 #[.agg #[.int .i64 d.kind, .int .i64 d.a, .int .i64 d.x, .int .i64 d.y]] w fun e w' => ∃ v r, e = .returned (.slice v (termNs d).length r) ∧ OwnAt w' w.heap.size v (termNs d) ∧ Below w.heap.size w w' := by
  obtain ⟨k, a, x, y⟩ := d
  dsimp only
  by_cases h1 : k = 1
  · subst h1
    have E : termNs ⟨1, a, x, y⟩ = [a] := by simp [termNs]
    rw [E]
    go_enter Tryz.func48, Tryz.ntmps48
    go_wp2_with fail
    go_ret
    exact ⟨_, _, rfl, own_mk2 rfl (by simp) (one_cells a), ((Below.refl _ _).alloc (Nat.le_refl _) _).alloc (by simp) _⟩
  by_cases h2 : k = 2
  · subst h2
    have E : termNs ⟨2, a, x, y⟩ = [x] := by simp [termNs]
    rw [E]
    go_enter Tryz.func48, Tryz.ntmps48
    go_wp2_with fail
    go_ret
    exact ⟨_, _, rfl, own_mk2 rfl (by simp) (one_cells x), ((Below.refl _ _).alloc (Nat.le_refl _) _).alloc (by simp) _⟩
  by_cases h3 : k = 3
  · subst h3
    have E : termNs ⟨3, a, x, y⟩ = [a, x, y] := by simp [termNs]
    rw [E]
    go_enter Tryz.func48, Tryz.ntmps48
    go_wp2_with fail
    go_ret
    exact ⟨_, _, rfl, own_mk2 rfl (by simp) (three_cells a x y), ((Below.refl _ _).alloc (Nat.le_refl _) _).alloc (by simp) _⟩
  have E : termNs ⟨k, a, x, y⟩ = [] := by simp [termNs, h1, h2, h3]
  rw [E]
  have n1 : (k == 1) = false := by simpa using h1
  have n2 : (k == 2) = false := by simpa using h2
  have n3 : (k == 3) = false := by simpa using h3
  go_enter Tryz.func48, Tryz.ntmps48
  go_wp2_with fail
  go_ret
  exact ⟨_, _, rfl, ⟨by simp, .inl rfl⟩, (Below.refl _ _).alloc (Nat.le_refl _) _⟩
end Go.Proofs.YtjpiiemhklphlaaGreatDoor
