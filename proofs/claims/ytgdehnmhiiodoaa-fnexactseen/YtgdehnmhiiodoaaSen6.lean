/- What is seen of a run: nothing was told. -/
import Derived.Test.YtgdehnmhiiodoaaSen5
namespace Go.Proofs.Ytgdehnmhiiodoaa
open Go.RowKit

theorem append_nothing {t ty : TypeId} (a : Option Addr) (c : Nat) (w : World) (i : TypeInfo) (ht : Try.prog.underlying t = some (.slice 2)) (hi : Try.prog.info? 2 = some i) :
    (Builtin.append_ #[t, t] ty #[.slice none 0 0, .slice a 0 c]).run Try.prog w = .ok (.slice none 0 0) w := by
  cases a <;> simp [Builtin.append_, run_underlying ht, sizeOf, typeInfo, hi, Builtin.lenOf, Builtin.firstCells, loadCells, loadCellsFrom]
theorem step_append_nothing {w : World} {ops : Array Oper} {o : Oper} {a : Act} {K : Act → World → Prop} {Q : Exit → Act → World → Prop} {E : Prop} (hgd : o.guard = none) (s x : Operand) (t : TypeId)
    (ho : o.op = .call { callee := .builtin .append, args := #[s, x], argTypes := #[t, t] }) (i : TypeInfo) (ht : Try.prog.underlying t = some (.slice 2)) (hi : Try.prog.info? 2 = some i)
    (hs : a.eval s = .slice none 0 0) (ad : Option Addr) (c : Nat) (hx : a.eval x = .slice ad 0 c) (h : K (a.put o.dst (.slice none 0 0)) w) :
    if Region.wanted o (yielded ops a.tmps) = true then Oper.wp Try.prog o a w K Q else E := by
  have hr := append_nothing (ty := o.type) ad c w i ht hi
  rw [if_pos (by simp [Region.wanted, hgd])]
  unfold Oper.wp execOp
  simp only [ho, resolve, invoke, builtin, Sem.run_bind, Sem.run_pure, Result.andThen_ok, List.map_toArray, List.map_cons, List.map_nil, hs, hx, hr]
  exact h
set_option maxHeartbeats 400000 in
theorem seenI_none (code value steps : Int) (mem : ByteArray) (u : Option Addr) (c : Nat) (w : World) (hm : mem.size ≤ 1048576) :
    Calls Try.prog 7 #[resV (⟨code, value, [], mem, steps⟩ : ResD) u c] w fun e w' => ∃ v q, e = .returned (resV (seenD (⟨code, value, [], mem, steps⟩ : ResD)) v q) ∧ OI w' w.heap.size v [] ∧ Below w.heap.size w w' := by
  obtain ⟨i0, hi, _, _, _⟩ := info_parts infoI
  have HI : Hid (Try.prog.info? 2 = some i0) := hi
  clear hi
  have HX := boxes_at (⟨code, value, [], mem, steps⟩ : ResD) u c w
  unfold resV seenD
  dsimp only
  go_enter Try.func7, Try.ntmps7
  go_wp2_with fail
  change Code.wp _ _ _ _ (boxes0 (⟨code, value, [], mem, steps⟩ : ResD) u c w)
  generalize boxes0 (⟨code, value, [], mem, steps⟩ : ResD) u c w = W at HX ⊢
  have ho : OI W (w.heap.size + 2) none [] := ⟨by simp, .inl rfl⟩
  have a0 := (HX.keep (Below.refl _ _).drew).a0
  have a1 := (HX.keep (Below.refl _ _).drew).a1
  have a2 := (HX.keep (Below.refl _ _).drew).a2
  have a3 := (HX.keep (Below.refl _ _).drew).a3
  dsimp only [List.length_nil] at a0 a1 a2 a3
  go_region_held2 (fun w' => w'.cell? ⟨w.heap.size, 0, none⟩ = some (.int .i64 code) ∧ w'.cell? ⟨w.heap.size, 1, none⟩ = some (.int .i64 value) ∧ w'.cell? ⟨w.heap.size, 2, none⟩ = some (  .slice u 0 c) ∧ w'.cell? ⟨w.heap.size, 3, none⟩ = some (.string mem)) (first | with_reducible exact ⟨a0, a1, a2, a3⟩ | with_reducible exact ⟨c0, c1, c2, c3⟩ | with_reducible exact ⟨cell_far (Nat.lt_succ_self _) (cell_far (Nat.lt_succ_self _) (cell_far (Nat.lt_succ_self _) (cell_far (Nat.lt_succ_self _) (cell_far (Nat.lt_succ_self _) c0)))), cell_far (Nat.lt_succ_self _) (cell_far (Nat.lt_succ_self _) (cell_far (Nat.lt_succ_self _) (cell_far (Nat.lt_succ_self _) (cell_far (Nat.lt_succ_self _) c1)))), cell_far (Nat.lt_succ_self _) (cell_far (Nat.lt_succ_self _) (cell_far (Nat.lt_succ_self _) (cell_far (Nat.lt_succ_self _) (cell_far (Nat.lt_succ_self _) c2)))), cell_far (Nat.lt_succ_self _) (cell_far (Nat.lt_succ_self _) (cell_far (Nat.lt_succ_self _) (cell_far (Nat.lt_succ_self _) (cell_far (Nat.lt_succ_self _) c3))))⟩) (first | (refine step_append_nothing rfl _ _ 22 rfl i0 Try.underlying22 HI.out rfl u c rfl ?_) | (go_at_call 14; refine (cloneS _ _ hm).mono ?_; rintro e w2 ⟨rfl, hb2⟩; have hx2 := HX.keep (below_drew hb2); have ho2 := ho.keep (agree_of_below (below_drew hb2) _); have c0 := hx2.a0; have c1 := hx2.a1; have c2 := hx2.a2; have c3 := hx2.a3; dsimp only [List.length_nil] at c0 c1 c2 c3; obtain ⟨⟨m0, f0⟩, ⟨m1, f1⟩, ⟨m2, f2⟩, ⟨m3, f3⟩, m4, f4⟩ := hx2.told; clear hb2))
  all_goals
    obtain ⟨hr, ho3, hB⟩ := seen_ends (q := 0) hx2 ho2
    clear m0 f0 m1 f1 m2 f2 m3 f3 m4 f4
    go_wp2_with fail
    exact bodyPost_ret (v := .agg #[.int .i64 code, .int .i64 value, .slice none 0 0, .string mem, .int .i64 0]) ((results_cell_row Try.results7 _ _ (w.heap.size + 1) 26 _ (0, 0) _ rfl hr Try.underlying26 rfl (by kernel_rfl)).trans (by rfl)) rfl ⟨none, ⟨0, rfl⟩, ho3, hB⟩
end Go.Proofs.Ytgdehnmhiiodoaa
