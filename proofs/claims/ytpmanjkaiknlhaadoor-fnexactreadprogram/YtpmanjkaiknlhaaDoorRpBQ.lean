/- A range over a function that may give up. -/
import Derived.RangeFuncNested
import Derived.RangeFuncBound
import Derived.RangeFuncCalls
import Derived.RangeFuncLeaves
import Derived.WalkKit
import Derived.OwnWalkIn
import Derived.Test.YtpmanjkaiknlhaaDoorRows
import Derived.WalkSpells
namespace Go.Proofs.YtpmanjkaiknlhaaDoor
open Go.RowKit
set_option linter.unusedVariables false

theorem below_put {A : World} {l n : Nat} (o' : Obj) (h : n ≤ l) : Below n A (A.putObj l o') := ⟨rfl, rfl, rfl, by simp [World.putObj], fun i hi => World.putObj_heap_other (by omega)⟩
theorem range_pan {F : Fence} {n : Nat} {P : Program} {g : Operand} {ps : Array Tmp} {assign body : Code} {Q : Exit → Act → World → Prop} {a : Act} {w : World}
    (hro : F.round = none) (h1 : 1 ≤ n) {gf : Nat} {lb : Array Value} (hg : a.eval g = .func (.func gf) #[] lb) (hFg : F.fn gf) (eg : ∀ args w, (callFunc gf args).run P w = .ok (.enter gf args) w)
    (N : Nat) (S : List Int → Prop) (Sp : List PanicEntry → Prop) (I : List Int → World → Prop)
    (hIb : ∀ pre A B, I pre A → Below A.heap.size A B → I pre B)
    (hIp : ∀ pre A l o o', w.heap.size ≤ l → I pre A → A.heap[l]? = some o → o.isCells = false → I pre (A.putObj l o'))
    (h0 : I [] w) (hps : ps.size = 1) (a₁ : Int → Act)
    (hassign : ∀ (l : Nat) (x : Int) (W : World) (K : Act → World → Prop), K (a₁ x) W →
      assign.wpIn (F.inRound l) (n - 1 - 1) P (Exit.then K (fun _ _ _ => False)) { tmps := (ps.zip #[.int .i64 x]).foldl (fun t (p, v) => t.setIfInBounds p v) a.tmps, defers := [] } W)
    (hbody : ∀ (l : Nat) (pre : List Int) (x : Int) (W : World), I pre W → pre.length < N → body.wpIn (F.inRound l) (n - 1 - 1) P (fun e _ W' => e = .normal ∧ I (pre ++ [x]) W' ∧ ∀ (j : Nat) (o : Obj), W.heap[j]? = some o → o.isCells = false → W'.heap[j]? = some o) (a₁ x) W)
    (hit : ∀ (l : Nat) (J : List Int → World → Prop) (W : World), (∀ pre A, J pre A → I pre A) → (∀ pre A B, J pre A → Below A.heap.size A B → J pre B) →
      (∀ pre x A, J pre A → pre.length < N → YieldAt F (n - 1 - 1) P l #[.int .i64 x] A fun e B => e = .returned (.bool true) ∧ J (pre ++ [x]) B) → J [] W →
      CallsIn F (n - 1) P gf (#[.func (.yield l) #[] #[]] ++ lb) W fun e B => (∃ v xs, e = .returned v ∧ S xs ∧ J xs B) ∨ (∃ ch pre, e = .panicked ch ∧ Sp ch ∧ J pre B))
    (hdone : ∀ (D : Nat) (xs : List Int) (W : World), w.heap.size ≤ D → S xs → I xs W → W.heap[D]? = some (.deferred (some [])) → Q .normal { a with defers := { target := .collected D, args := #[] } :: a.defers } W)
    (hpan : ∀ (D : Nat) (ch : List PanicEntry) (pre : List Int) (W : World), w.heap.size ≤ D → Sp ch → I pre W → W.heap[D]? = some (.deferred (some [])) → Q (.panic ch) { a with defers := { target := .collected D, args := #[] } :: a.defers } W) :
    (Code.rangeFunc g ps assign body).wpIn F n P Q a w := by
  refine wpIn_rangeFunc ?_
  intro fn hfn
  rw [hro]
  have E := run_enterLoop_outer (P := P) (w := w) fn a.tmps ps assign body
  generalize hR : ({ state := .ready, pending := none, fn, tmps := a.tmps, params := ps, assign, body, defers := w.heap.size } : Loop) = R at E
  have hst : R.state = .ready := by subst hR; rfl
  have hpe : R.pending = none := by subst hR; rfl
  have hpa : R.params = ps := by subst hR; rfl
  have hfnR : R.fn = fn := by subst hR; rfl
  have htm : R.tmps = a.tmps := by subst hR; rfl
  have has : R.assign = assign := by subst hR; rfl
  have hbo : R.body = body := by subst hR; rfl
  have hback : ({ { R with state := .busy } with state := .ready, pending := none } : Loop) = R := by subst hR; rfl
  clear hR
  obtain ⟨W1, hW1⟩ : ∃ W1, (w.alloc (.deferred (some []))).alloc (.loop R) = W1 := ⟨_, rfl⟩
  rw [hW1] at E
  have hL1 : W1.heap[w.heap.size + 1]? = some (.loop R) := by
    have h := World.alloc_heap_new (w.alloc (.deferred (some []))) (.loop R)
    rw [World.size_alloc, hW1] at h
    exact h
  have hB1 : Below w.heap.size w W1 := by rw [← hW1]; exact ((Below.refl _ w).alloc (Nat.le_refl _) _).alloc (by simp) _
  have hD1 : W1.heap[w.heap.size]? = some (.deferred (some [])) := by
    rw [← hW1]; exact (Below.heap_alloc _ _ _ (by simp)).trans (World.alloc_heap_new w _)
  have hI1 : I [] W1 := hIb _ _ _ h0 hB1
  refine ⟨w.heap.size + 1, [{ target := .collected w.heap.size, args := #[] }], W1, { target := .fn (.func gf) lb, args := #[.func (.yield (w.heap.size + 1)) #[] #[]] }, W1, gf,
    #[.func (.yield (w.heap.size + 1)) #[] #[]] ++ lb, W1, E, ?_, ?_, ?_, fun _ => h1, ?_⟩
  · simp only [resolve, hg]
    simp [go_sem]
  · intro f' hf'
    simp [Target.leads] at hf'
    subst hf'
    exact hFg
  · simp [invoke, go_sem, eg]
  · refine (hit (w.heap.size + 1) (fun pre A => I pre A ∧ A.heap[w.heap.size + 1]? = some (.loop R) ∧ A.heap[w.heap.size]? = some (.deferred (some []))) W1 (fun _ _ h => h.1) ?_ ?_ ⟨hI1, hL1, hD1⟩).mono ?_
    · rintro pre A B ⟨i1, i2, i3⟩ k
      exact ⟨hIb _ _ _ i1 k, (k.block _ (Array.getElem?_eq_some_iff.1 i2).1).trans i2, (k.block _ (Array.getElem?_eq_some_iff.1 i3).1).trans i3⟩
    · rintro pre x A ⟨i1, i2, i3⟩ hlen
      have hlt := (Array.getElem?_eq_some_iff.1 i2).1
      have hy := run_yield (P := P) (args := #[.int .i64 x]) i2 (by rw [hpa, hps]; rfl)
      rw [hpa, hfnR, htm, has, hbo] at hy
      refine ⟨fn, _, assign, body, hy, roundIn_of_wpIn hfn (hassign _ x A _ ⟨_, run_beginRound i2 hst, ?_⟩)⟩
      obtain ⟨A2, hA2⟩ : ∃ A2, A.putObj (w.heap.size + 1) (.loop { R with state := .busy }) = A2 := ⟨_, rfl⟩
      have j1 : I pre A2 := by rw [← hA2]; exact hIp _ _ _ _ _ (by omega) i1 i2 rfl
      have j2 : A2.heap[w.heap.size + 1]? = some (.loop { R with state := .busy }) := by rw [← hA2]; exact World.putObj_heap_same hlt
      have j3 : A2.heap[w.heap.size]? = some (.deferred (some [])) := by rw [← hA2]; exact (World.putObj_heap_other (by omega)).trans i3
      rw [hA2]
      refine wpIn_mono (hbody _ pre x A2 j1 hlen) ?_
      rintro e a3 A3 ⟨rfl, k1, k2⟩
      have l2 := k2 _ _ j2 rfl
      have l3 := k2 _ _ j3 rfl
      have he := run_endRound (P := P) none l2
      simp only [Option.isNone_none, if_true] at he
      rw [hback] at he
      exact ⟨_, _, he, rfl, hIp _ _ _ _ _ (by omega) k1 l2 rfl, World.putObj_heap_same (Array.getElem?_eq_some_iff.1 l2).1, (World.putObj_heap_other (by omega)).trans l3⟩
    · rintro e B (⟨v, xs, rfl, hS, i1, i2, i3⟩ | ⟨ch, pre, rfl, hS, i1, i2, i3⟩)
      · have hend := run_endLoop (P := P) i2 (by rw [hst]; simp)
        rw [hpe] at hend
        exact ⟨none, _, hend, hdone _ xs _ (Nat.le_refl _) hS (hIp _ _ _ _ _ (by omega) i1 i2 rfl) ((World.putObj_heap_other (by omega)).trans i3)⟩
      · exact hpan _ ch pre _ (Nat.le_refl _) hS i1 i3
theorem ops_round {F : Fence} {n : Nat} {P : Program} {ops : Array Oper} {Q : Exit → Act → World → Prop} {l : Nat} (hro : F.round = none) (hd : ∀ o ∈ ops.toList, ∀ c, o.op ≠ .defer c) :
    ∀ (is : List Nat) (a : Act) (w : World), wpOpsIn F n P ops Q is a w → wpOpsIn (F.inRound l) n P ops Q is a w
  | [], a, w, h => h
  | i :: rest, a, w, h => by
    have ih := ops_round (n := n) (P := P) (l := l) (Q := Q) hro hd rest
    unfold wpOpsIn at h ⊢
    cases ho : ops[i]? with
    | none => rw [ho] at h; exact ih a w h
    | some o =>
      rw [ho] at h
      dsimp only at h ⊢
      have hnd : ∀ c, o.op ≠ .defer c := hd o (by
        obtain ⟨hi, rfl⟩ := Array.getElem?_eq_some_iff.1 ho
        exact Array.mem_toList_iff.2 (Array.getElem_mem hi))
      split at h
      · rename_i hw
        rw [if_pos hw]
        refine ⟨h.1, ?_⟩
        have h2 := h.2
        rw [Oper.semAt_plain F _ _ hnd] at h2
        rw [Oper.semAt_plain (F.inRound l) _ _ hnd]
        generalize (execOp a.eval o).run P w = r at h2 ⊢
        unfold Oper.uponIn at h2 ⊢
        split <;> simp_all only
        · refine ⟨h2.1, CallsIn.inRound l (h2.2.mono ?_)⟩
          intro e w2 hq
          cases e with
          | returned v => exact ih _ _ hq
          | panicked c => exact hq
          | outgrown => exact hq
        · exact ⟨h2.1, RowsIn.mono (F := F) h2.2 (fun v w2 hq => ih _ _ hq)⟩
        · refine ⟨h2.1, RoundIn.mono (F := F) h2.2 ?_⟩
          intro e w2 hq
          cases e with
          | returned v => exact ih _ _ hq
          | panicked c => exact hq
          | outgrown => exact hq
      · rename_i hw
        rw [if_neg hw]
        exact ⟨h.1, ih _ _ h.2⟩
theorem region_round {F : Fence} {n : Nat} {P : Program} {id : Nat} {ops : Array Oper} {Q : Exit → Act → World → Prop} {a : Act} {w : World} {l : Nat} (hro : F.round = none) (hm : P.follows .mixedOrders = true) (hd : ∀ o ∈ ops.toList, ∀ c, o.op ≠ .defer c)
    (h : wpAnyIn F n P .any ops Q ops.size (Array.replicate ops.size false) a w.drew) : (Code.region id ops true).wpIn (F.inRound l) n P Q a w :=
  wpIn_region_draw fun t => by
    simp only [Region.schedule, hm, Bool.true_or, if_true]
    exact ops_round hro hd _ _ _ (wpAnyIn_sound ops.size t _ a _ h)
theorem step_run {F : Fence} {n : Nat} {P : Program} {ops : Array Oper} {o : Oper} {a : Act} {w w1 : World} {K : Act → World → Prop} {Q : Exit → Act → World → Prop} {E : Prop} {v' : Value} (hgd : o.guard = none) (s x : Operand) (t : TypeId)
    (ho : o.op = .call { callee := .builtin .append, args := #[s, x], argTypes := #[t, t] }) {v1 v2 : Value} (h1 : a.eval s = v1) (h2 : a.eval x = v2) (hrun : (Builtin.append_ #[t, t] o.type #[v1, v2]).run P w = .ok v' w1) (h : K (a.put o.dst v') w1) :
    if Region.wanted o (yielded ops a.tmps) = true then Oper.wpIn F n P o a w K Q else E := by
  have hw : Region.wanted o (yielded ops a.tmps) = true := by simp [Region.wanted, hgd]
  rw [if_pos hw]
  refine ⟨?_, ?_⟩
  · simp [Oper.about, ho, resolve, Target.leads, Sem.run_pure]
  · rw [Oper.semAt_plain F _ _ (by rw [ho]; intro c hc'; cases hc')]
    simp [execOp, ho, resolve, invoke, builtin, h1, h2, hrun, Result.andThen]
    exact h
end Go.Proofs.YtpmanjkaiknlhaaDoor
namespace Go.Proofs.YtpmanjkaiknlhaaDoor
open Go.RowKit
set_option linter.unusedVariables false
set_option linter.unusedSimpArgs false

theorem str_neq {a b : ByteArray} (h : ¬ a = b) : (a.toList == b.toList) = false := by
  rw [ByteArray.toList_eq, ByteArray.toList_eq, beq_eq_false_iff_ne]
  exact fun e => h (ByteArray.ext (Array.toList_inj.1 e))
theorem str_eqq {a b : ByteArray} (h : a = b) : (a.toList == b.toList) = true := by
  subst h
  exact beq_self_eq_true _
theorem hasY (s h : ByteArray) (w : World) (hh : h.size ≤ 1000) (hs : s.size ≤ 1048576) (h1 : h.size ≤ s.size) (h2 : s.extract 0 h.size = h) :
    Calls Tryd.prog 57 #[.string s, .string h] w fun e w' => e = .returned (.bool true) ∧ w' = w := by
  have E := str_eqq h2
  have hI : (h.size : Int) ≤ (s.size : Int) := by omega
  clear h2
  go_enter Tryd.func57, Tryd.ntmps57
  go_wp2_with fail
  go_ret
  exact ⟨rfl, rfl⟩
theorem hasN (s h : ByteArray) (w : World) (hh : h.size ≤ 1000) (hs : s.size ≤ 1048576) (h1 : ¬ (h.size ≤ s.size ∧ s.extract 0 h.size = h)) :
    Calls Tryd.prog 57 #[.string s, .string h] w fun e w' => e = .returned (.bool false) ∧ w' = w := by
  by_cases h2 : h.size ≤ s.size
  · have E := str_neq (fun e => h1 ⟨h2, e⟩)
    have hI : (h.size : Int) ≤ (s.size : Int) := by omega
    clear h1
    go_enter Tryd.func57, Tryd.ntmps57
    go_wp2_with fail
    go_ret
    exact ⟨rfl, rfl⟩
  · have hI : ¬ (h.size : Int) ≤ (s.size : Int) := by omega
    clear h1
    go_enter Tryd.func57, Tryd.ntmps57
    go_wp2_with fail
    go_ret
    exact ⟨rfl, rfl⟩
theorem cutPY (s h : ByteArray) (w : World) (hh : h.size ≤ 1000) (hs : s.size ≤ 1048576) (h1 : h.size ≤ s.size) (h2 : s.extract 0 h.size = h) :
    Calls Tryd.prog 38 #[.string s, .string h] w fun e w' => e = .returned (.tuple #[.string (s.extract h.size s.size), .bool true]) ∧ w' = w := by
  have P := hasY s h w hh hs h1 h2
  have hI : (h.size : Int) ≤ (s.size : Int) := by omega
  clear h2
  have Q : Calls Tryd.prog 46 #[.string s, .string h] w fun e w' => e = .returned (.tuple #[.string (s.extract h.size s.size), .bool true]) ∧ w' = w := by
    go_enter Tryd.func46, Tryd.ntmps46
    go_wp2_with fail
    refine P.mono ?_
    rintro e w1 ⟨rfl, h9⟩
    have h8 := h9.symm
    clear h9
    subst h8
    go_wp2_with fail
    go_ret2
    exact ⟨rfl, rfl⟩
  go_enter Tryd.func38, Tryd.ntmps38
  go_wp2_with fail
  refine Q.mono ?_
  rintro e w1 ⟨rfl, h9⟩
  have h8 := h9.symm
  clear h9
  subst h8
  go_wp2_with fail
  go_ret2
  exact ⟨rfl, rfl⟩
theorem cutPN (s h : ByteArray) (w : World) (hh : h.size ≤ 1000) (hs : s.size ≤ 1048576) (h1 : ¬ (h.size ≤ s.size ∧ s.extract 0 h.size = h)) :
    Calls Tryd.prog 38 #[.string s, .string h] w fun e w' => e = .returned (.tuple #[.string s, .bool false]) ∧ w' = w := by
  have P := hasN s h w hh hs h1
  clear h1
  have Q : Calls Tryd.prog 46 #[.string s, .string h] w fun e w' => e = .returned (.tuple #[.string s, .bool false]) ∧ w' = w := by
    go_enter Tryd.func46, Tryd.ntmps46
    go_wp2_with fail
    refine P.mono ?_
    rintro e w1 ⟨rfl, h9⟩
    have h8 := h9.symm
    clear h9
    subst h8
    go_wp2_with fail
    go_ret2
    exact ⟨rfl, rfl⟩
  go_enter Tryd.func38, Tryd.ntmps38
  go_wp2_with fail
  refine Q.mono ?_
  rintro e w1 ⟨rfl, h9⟩
  have h8 := h9.symm
  clear h9
  subst h8
  go_wp2_with fail
  go_ret2
  exact ⟨rfl, rfl⟩
end Go.Proofs.YtpmanjkaiknlhaaDoor
