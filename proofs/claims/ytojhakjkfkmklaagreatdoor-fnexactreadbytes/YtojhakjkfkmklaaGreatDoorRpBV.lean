import Derived.RangeFuncNested
import Derived.RangeFuncBound
import Derived.RangeFuncCalls
import Derived.RangeFuncLeaves
import Derived.WalkKit
import Derived.OwnWalkIn
import Derived.Test.YtojhakjkfkmklaaGreatDoorRows
import Derived.WalkSpells
import Derived.WalkLawsBesides
import Derived.Deep.QuietTactic
import Derived.Below
import Derived.Laws.IdiomStrings
namespace Go.Proofs.YtojhakjkfkmklaaGreatDoor
open Go.RowKit
set_option linter.unusedVariables false
theorem below_put {A : World} {l n : Nat} (o' : Obj) (h : n ≤ l) : Below n A (A.putObj l o') := ⟨rfl, rfl, rfl, by simp [World.putObj], fun i hi => World.putObj_heap_other (by omega)⟩
theorem range_pan {F : Fence} {n : Nat} {P : Program} {g : Operand} {ps : Array Tmp} {assign body : Code} {Q : Exit → Act → World → Prop} {a : Act} {w : World}
  (hro : F.round = none) (h1 : 1 ≤ n) {gf : Nat} {lb : Array Value} (hg : a.eval g = .func (.func gf) #[] lb) (hFg : F.fn gf) (eg : ∀ args w, (callFunc gf args).run P w = .ok (.enter gf args) w)
  (N : Nat) (S : List Int → Prop) (Sp : List PanicEntry → Prop) (I : List Int → World → Prop)
  (hIb : ∀ pre A B, I pre A → Below A.heap.size A B → I pre B)
  (hIp : ∀ pre A l o o', w.heap.size ≤ l → I pre A → A.heap[l]? = some o → o.isCells = false → I pre (A.putObj l o'))
  (h0 : I [] w) (hps : ps.size = 1) (a₁ : Int → Act)
  (hassign : ∀ (l : Nat) (x : Int) (W : World) (K : Act → World → Prop), K (a₁ x) W →
   assign.wpIn (F.inRound l) (n - 1 - 1) P (Exit.then K (fun _ _ _ => False)) { tmps := (ps.zip #[.int .i64 x]).foldl (fun t (p, v) => t.setIfInBounds p v) a.tmps, defers := [] } W)
  (hbody : ∀ (l : Nat) (pre : List Int) (x : Int) (W : World), I pre W → pre.length < N → body.wpIn (F.inRound l) (n - 1 - 1) P (fun e _ W' => e = .normal ∧ I (pre ++ [x]) W' ∧ ∀ (j : Nat) (o : Obj), W.heap[j]? = some o → o.isCells = false → W'.heap[j]? = some o) (a₁ x) W)
  (hit : ∀ (l : Nat) (J : List Int → World → Prop) (W : World), (∀ pre A, J pre A → I pre A) → (∀ pre A B, J pre A → Below A.heap.size A B → J pre B) →
   (∀ pre x A, J pre A → pre.length < N → YieldAt F (n - 1 - 1) P l #[.int .i64 x] A fun e B => e = .returned (.bool true) ∧ J (pre ++ [x]) B) → J [] W →
   CallsIn F (n - 1) P gf (#[.func (.yield l) #[] #[]] ++ lb) W fun e B => (∃ v xs, e = .returned v ∧ S xs ∧ J xs B) ∨ (∃ ch pre, e = .panicked ch ∧ Sp ch ∧ J pre B))
  (hdone : ∀ (D : Nat) (xs : List Int) (W : World), w.heap.size ≤ D → S xs → I xs W → W.heap[D]? = some (.deferred (some [])) → Q .normal { a with defers := { target := .collected D, args := #[] } :: a.defers } W)
  (hpan : ∀ (D : Nat) (ch : List PanicEntry) (pre : List Int) (W : World), w.heap.size ≤ D → Sp ch → I pre W → W.heap[D]? = some (.deferred (some [])) → Q (.panic ch) { a with defers := { target := .collected D, args := #[] } :: a.defers } W) :
  (Code.rangeFunc g ps assign body).wpIn F n P Q a w := by
 refine wpIn_rangeFunc ?_
 intro fn hfn
 rw [hro]
 have E := run_enterLoop_outer (P := P) (w := w) fn a.tmps ps assign body
 generalize hR : ({ state := .ready, pending := none, fn, tmps := a.tmps, params := ps, assign, body, defers := w.heap.size } : Loop) = R at E
 have hst : R.state = .ready := by subst hR; rfl
 have hpe : R.pending = none := by subst hR; rfl
 have hpa : R.params = ps := by subst hR; rfl
 have hfnR : R.fn = fn := by subst hR; rfl
 have htm : R.tmps = a.tmps := by subst hR; rfl
 have has : R.assign = assign := by subst hR; rfl
 have hbo : R.body = body := by subst hR; rfl
 have hback : ({ { R with state := .busy } with state := .ready, pending := none } : Loop) = R := by subst hR; rfl
 clear hR
 obtain ⟨W1, hW1⟩ : ∃ W1, (w.alloc (.deferred (some []))).alloc (.loop R) = W1 := ⟨_, rfl⟩
 rw [hW1] at E
 have hL1 : W1.heap[w.heap.size + 1]? = some (.loop R) := by
  have h := World.alloc_heap_new (w.alloc (.deferred (some []))) (.loop R)
  rw [World.size_alloc, hW1] at h
  exact h
 have hB1 : Below w.heap.size w W1 := by rw [← hW1]; exact ((Below.refl _ w).alloc (Nat.le_refl _) _).alloc (by simp) _
 have hD1 : W1.heap[w.heap.size]? = some (.deferred (some [])) := by
  rw [← hW1]; exact (Below.heap_alloc _ _ _ (by simp)).trans (World.alloc_heap_new w _)
 have hI1 : I [] W1 := hIb _ _ _ h0 hB1
 refine ⟨w.heap.size + 1, [{ target := .collected w.heap.size, args := #[] }], W1, { target := .fn (.func gf) lb, args := #[.func (.yield (w.heap.size + 1)) #[] #[]] }, W1, gf,
  #[.func (.yield (w.heap.size + 1)) #[] #[]] ++ lb, W1, E, ?_, ?_, ?_, fun _ => h1, ?_⟩
 ·simp only [resolve, hg]
  simp [go_sem]
 ·intro f' hf'
  simp [Target.leads] at hf'
  subst hf'
  exact hFg
 ·simp [invoke, go_sem, eg]
 ·refine (hit (w.heap.size + 1) (fun pre A => I pre A ∧ A.heap[w.heap.size + 1]? = some (.loop R) ∧ A.heap[w.heap.size]? = some (.deferred (some []))) W1 (fun _ _ h => h.1) ?_ ?_ ⟨hI1, hL1, hD1⟩).mono ?_
  ·rintro pre A B ⟨i1, i2, i3⟩ k
   exact ⟨hIb _ _ _ i1 k, (k.block _ (Array.getElem?_eq_some_iff.1 i2).1).trans i2, (k.block _ (Array.getElem?_eq_some_iff.1 i3).1).trans i3⟩
  ·rintro pre x A ⟨i1, i2, i3⟩ hlen
   have hlt := (Array.getElem?_eq_some_iff.1 i2).1
   have hy := run_yield (P := P) (args := #[.int .i64 x]) i2 (by rw [hpa, hps]; rfl)
   rw [hpa, hfnR, htm, has, hbo] at hy
   refine ⟨fn, _, assign, body, hy, roundIn_of_wpIn hfn (hassign _ x A _ ⟨_, run_beginRound i2 hst, ?_⟩)⟩
   obtain ⟨A2, hA2⟩ : ∃ A2, A.putObj (w.heap.size + 1) (.loop { R with state := .busy }) = A2 := ⟨_, rfl⟩
   have j1 : I pre A2 := by rw [← hA2]; exact hIp _ _ _ _ _ (by omega) i1 i2 rfl
   have j2 : A2.heap[w.heap.size + 1]? = some (.loop { R with state := .busy }) := by rw [← hA2]; exact World.putObj_heap_same hlt
   have j3 : A2.heap[w.heap.size]? = some (.deferred (some [])) := by rw [← hA2]; exact (World.putObj_heap_other (by omega)).trans i3
   rw [hA2]
   refine wpIn_mono (hbody _ pre x A2 j1 hlen) ?_
   rintro e a3 A3 ⟨rfl, k1, k2⟩
   have l2 := k2 _ _ j2 rfl
   have l3 := k2 _ _ j3 rfl
   have he := run_endRound (P := P) none l2
   simp only [Option.isNone_none, if_true] at he
   rw [hback] at he
   exact ⟨_, _, he, rfl, hIp _ _ _ _ _ (by omega) k1 l2 rfl, World.putObj_heap_same (Array.getElem?_eq_some_iff.1 l2).1, (World.putObj_heap_other (by omega)).trans l3⟩
  ·rintro e B (⟨v, xs, rfl, hS, i1, i2, i3⟩ | ⟨ch, pre, rfl, hS, i1, i2, i3⟩)
   ·have hend := run_endLoop (P := P) i2 (by rw [hst]; simp)
    rw [hpe] at hend
    exact ⟨none, _, hend, hdone _ xs _ (Nat.le_refl _) hS (hIp _ _ _ _ _ (by omega) i1 i2 rfl) ((World.putObj_heap_other (by omega)).trans i3)⟩
   ·exact hpan _ ch pre _ (Nat.le_refl _) hS i1 i3
theorem ops_round {F : Fence} {n : Nat} {P : Program} {ops : Array Oper} {Q : Exit → Act → World → Prop} {l : Nat} (hro : F.round = none) (hd : ∀ o ∈ ops.toList, ∀ c, o.op ≠ .defer c) :
  ∀ (is : List Nat) (a : Act) (w : World), wpOpsIn F n P ops Q is a w → wpOpsIn (F.inRound l) n P ops Q is a w
 | [], a, w, h => h
 | i :: rest, a, w, h => by
  have ih := ops_round (n := n) (P := P) (l := l) (Q := Q) hro hd rest
  unfold wpOpsIn at h ⊢
  cases ho : ops[i]? with
  | none => rw [ho] at h; exact ih a w h
  | some o =>
   rw [ho] at h
   dsimp only at h ⊢
   have hnd : ∀ c, o.op ≠ .defer c := hd o (by
    obtain ⟨hi, rfl⟩ := Array.getElem?_eq_some_iff.1 ho
    exact Array.mem_toList_iff.2 (Array.getElem_mem hi))
   split at h
   ·rename_i hw
    rw [if_pos hw]
    refine ⟨h.1, ?_⟩
    have h2 := h.2
    rw [Oper.semAt_plain F _ _ hnd] at h2
    rw [Oper.semAt_plain (F.inRound l) _ _ hnd]
    generalize (execOp a.eval o).run P w = r at h2 ⊢
    unfold Oper.uponIn at h2 ⊢
    split <;> simp_all only
    ·refine ⟨h2.1, CallsIn.inRound l (h2.2.mono ?_)⟩
     intro e w2 hq
     cases e with
     | returned v => exact ih _ _ hq
     | panicked c => exact hq
     | outgrown => exact hq
    ·exact ⟨h2.1, RowsIn.mono (F := F) h2.2 (fun v w2 hq => ih _ _ hq)⟩
    ·refine ⟨h2.1, RoundIn.mono (F := F) h2.2 ?_⟩
     intro e w2 hq
     cases e with
     | returned v => exact ih _ _ hq
     | panicked c => exact hq
     | outgrown => exact hq
   ·rename_i hw
    rw [if_neg hw]
    exact ⟨h.1, ih _ _ h.2⟩
theorem region_round {F : Fence} {n : Nat} {P : Program} {id : Nat} {ops : Array Oper} {Q : Exit → Act → World → Prop} {a : Act} {w : World} {l : Nat} (hro : F.round = none) (hm : P.follows .mixedOrders = true) (hd : ∀ o ∈ ops.toList, ∀ c, o.op ≠ .defer c)
  (h : wpAnyIn F n P .any ops Q ops.size (Array.replicate ops.size false) a w.drew) : (Code.region id ops true).wpIn (F.inRound l) n P Q a w :=
 wpIn_region_draw fun t => by
  simp only [Region.schedule, hm, Bool.true_or, if_true]
  exact ops_round hro hd _ _ _ (wpAnyIn_sound ops.size t _ a _ h)
theorem step_run {F : Fence} {n : Nat} {P : Program} {ops : Array Oper} {o : Oper} {a : Act} {w w1 : World} {K : Act → World → Prop} {Q : Exit → Act → World → Prop} {E : Prop} {v' : Value} (hgd : o.guard = none) (s x : Operand) (t : TypeId)
  (ho : o.op = .call { callee := .builtin .append, args := #[s, x], argTypes := #[t, t] }) {v1 v2 : Value} (h1 : a.eval s = v1) (h2 : a.eval x = v2) (hrun : (Builtin.append_ #[t, t] o.type #[v1, v2]).run P w = .ok v' w1) (h : K (a.put o.dst v') w1) :
  if Region.wanted o (yielded ops a.tmps) = true then Oper.wpIn F n P o a w K Q else E := by
 have hw : Region.wanted o (yielded ops a.tmps) = true := by simp [Region.wanted, hgd]
 rw [if_pos hw]
 refine ⟨?_, ?_⟩
 ·simp [Oper.about, ho, resolve, Target.leads, Sem.run_pure]
 ·rw [Oper.semAt_plain F _ _ (by rw [ho]; intro c hc'; cases hc')]
  simp [execOp, ho, resolve, invoke, builtin, h1, h2, hrun, Result.andThen]
  exact h
end Go.Proofs.YtojhakjkfkmklaaGreatDoor
namespace Go.Proofs.YtojhakjkfkmklaaGreatDoor
open Go.RowKit
def numOf : Value → Int | .int _ q => q | _ => 0
def rdl : Nat → Nat → List UInt8 → Nat × Nat
 | _, _, [] => (0, 0)
 | k, n, b :: r => if 5 ≤ k then (0, 0) else if 128 ≤ b.toNat then rdl (k + 1) (n + 128 ^ k * (b.toNat % 128)) r
   else if 4294967295 < n + 128 ^ k * (b.toNat % 128) ∨ (b.toNat = 0 ∧ 0 < k) then (0, 0) else (n + 128 ^ k * (b.toNat % 128), k + 1)
theorem rdl_five (n : Nat) (l : List UInt8) : rdl 5 n l = (0, 0) := by
 cases l <;> simp [rdl]
def rdAt (s : ByteArray) (a : Int) : Nat × Nat := if 0 ≤ a ∧ a < s.size then rdl 0 0 (s.data.toList.drop a.toNat) else (0, 0)
theorem drop_cons {s : ByteArray} {k : Nat} (hk : k < s.size) : s.data.toList.drop k = (s[k]'hk) :: s.data.toList.drop (k + 1) :=
 List.drop_eq_getElem_cons (by simpa using hk)
theorem drop_nil {s : ByteArray} {k : Nat} (hk : s.size ≤ k) : s.data.toList.drop k = [] := List.drop_eq_nil_of_le (by simpa using hk)
theorem blwI (n m : Int) (w : World) : Calls Tryz.prog 135 #[.int .i64 n, .int .i64 m] w fun e w' => e = .returned (.bool (decide (0 ≤ n ∧ n < m))) ∧ w' = w := by
 go_enter Tryz.func135, Tryz.ntmps135
 go_wp2_with fail
 all_goals go_ret
 all_goals exact ⟨congrArg (fun b => Ending.returned (.bool b)) (by rw [Bool.eq_iff_iff]; simp; omega), rfl⟩
theorem ret2_eq {x y : Int} {q : Nat × Nat} (h1 : x = (q.1 : Int)) (h2 : y = (q.2 : Int)) : Ending.returned (.tuple #[.int .i64 x, .int .i64 y]) = Ending.returned (.tuple #[.int .i64 (q.1 : Int), .int .i64 (q.2 : Int)]) := by rw [h1, h2]
theorem rdl_cons {k n : Nat} (hk : k < 5) (b : UInt8) (r : List UInt8) : rdl k n (b :: r) = if 128 ≤ b.toNat then rdl (k + 1) (n + 128 ^ k * (b.toNat % 128)) r
   else if 4294967295 < n + 128 ^ k * (b.toNat % 128) ∨ (b.toNat = 0 ∧ 0 < k) then (0, 0) else (n + 128 ^ k * (b.toNat % 128), k + 1) := by
 rw [rdl, if_neg (by omega)]
theorem byte_wrap {b : Nat} (h : b < 256) : wrap64 (b : Int) = b := by unfold wrap64; omega
set_option linter.unusedSimpArgs false in
set_option maxHeartbeats 4000000 in
theorem readS (s : ByteArray) (a : Int) (hs : s.size ≤ 1048576) (w : World) :
  Calls Tryz.prog 103 #[.string s, .int .i64 a] w fun e w' => e = .returned (.tuple #[.int .i64 (rdAt s a).1, .int .i64 (rdAt s a).2]) ∧ w' = w := by
 by_cases hin : 0 ≤ a ∧ a < s.size
 ·obtain ⟨p, rfl⟩ : ∃ p : Nat, a = p := ⟨a.toNat, by omega⟩
  have hp : p < s.size := by omega
  have HR : Hid (rdAt s p = rdl 0 0 (s.data.toList.drop p)) := by show _ = _; unfold rdAt; rw [if_pos hin]; rfl
  have h0 : ¬ ((p : Int) < 0) := by omega
  clear hin
  go_enter Tryz.func103, Tryz.ntmps103
  go_wp2_with fail
  go_loop [6, 7, 8] (fun n st i => ∃ k m : Nat, k ≤ 5 ∧ p + k ≤ s.size ∧ m < 128 ^ k ∧ i = .int .i64 k ∧ n = .int .i64 m ∧ st = .int .i64 ((128 ^ k : Nat) : Int) ∧ Hid (rdAt s p = rdl k m (s.data.toList.drop (p + k)))) (fun _ _ i => 5 - (numOf i).toNat)
  case atStart => exact ⟨0, 0, by omega, by omega, by omega, rfl, rfl, rfl, HR⟩
  case round =>
   obtain ⟨k, m, hk, hpk, hm, rfl, rfl, rfl, HK⟩ := hrel
   clear HR
   by_cases h5 : k = 5
   ·subst h5
    rw [rdl_five] at HK
    go_wp2_with fail
    go_ret2
    refine ⟨ret2_eq ?_ ?_, rfl⟩ <;> rw [HK.out] <;> rfl
   by_cases hsz : p + k < s.size
   ·rw [drop_cons hsz, rdl_cons (by omega)] at HK
    obtain ⟨b, hb, hbb⟩ : ∃ b : Nat, b < 256 ∧ (s[p + k]'hsz).toNat = b := ⟨_, (s[p + k]'hsz).toNat_lt, rfl⟩
    rw [hbb] at HK
    obtain ⟨x, HX⟩ : ∃ x : Int, Hid (x = b) := ⟨_, rfl⟩
    have hx0 : 0 ≤ x := by rw [HX.out]; omega
    have hx1 : x < 256 := by rw [HX.out]; omega
    have hc : k = 0 ∨ k = 1 ∨ k = 2 ∨ k = 3 ∨ k = 4 := by omega
    rcases hc with rfl | rfl | rfl | rfl | rfl
    ·have e0 : wrap64 (((s[p]'(by omega)).toNat : Nat) : Int) = x := by rw [show (s[p]'(by omega)).toNat = b from hbb, HX.out]; exact byte_wrap hb
     clear hbb hb
     simp only [Nat.reducePow, Nat.one_mul, Nat.reduceAdd, Nat.add_assoc, Nat.add_zero, Nat.zero_add] at HK hm
     go_wp2_with fail
     all_goals have hxx := HX.out
     all_goals try simp only [beq_iff_eq] at *
     all_goals first | (go_ret2; refine ⟨ret2_eq ?_ ?_, rfl⟩ <;> rw [HK.out] <;> (repeat' split) <;> omega) | (have HK2 := HK.out; rw [if_pos (by omega)] at HK2; refine ⟨⟨1, m + b % 128, by omega, by omega, by omega, rfl, ?_, rfl, ?_⟩, by decide⟩; (refine congrArg (Value.int .i64) ?_; omega); (first | exact HK2 | simpa using HK2)) | trace_state
    ·have e0 : wrap64 (((s[p + 1]'(by omega)).toNat : Nat) : Int) = x := by rw [show (s[p + 1]'(by omega)).toNat = b from hbb, HX.out]; exact byte_wrap hb
     clear hbb hb
     simp only [Nat.reducePow, Nat.one_mul, Nat.reduceAdd, Nat.add_assoc, Nat.add_zero, Nat.zero_add] at HK hm
     go_wp2_with fail
     all_goals have hxx := HX.out
     all_goals try simp only [beq_iff_eq] at *
     all_goals first | (go_ret2; refine ⟨ret2_eq ?_ ?_, rfl⟩ <;> rw [HK.out] <;> (repeat' split) <;> omega) | (have HK2 := HK.out; rw [if_pos (by omega)] at HK2; refine ⟨⟨2, m + 128 * (b % 128), by omega, by omega, by omega, rfl, ?_, rfl, ?_⟩, by decide⟩; (refine congrArg (Value.int .i64) ?_; omega); (first | exact HK2 | simpa using HK2)) | trace_state
    ·have e0 : wrap64 (((s[p + 2]'(by omega)).toNat : Nat) : Int) = x := by rw [show (s[p + 2]'(by omega)).toNat = b from hbb, HX.out]; exact byte_wrap hb
     clear hbb hb
     simp only [Nat.reducePow, Nat.one_mul, Nat.reduceAdd, Nat.add_assoc, Nat.add_zero, Nat.zero_add] at HK hm
     go_wp2_with fail
     all_goals have hxx := HX.out
     all_goals try simp only [beq_iff_eq] at *
     all_goals first | (go_ret2; refine ⟨ret2_eq ?_ ?_, rfl⟩ <;> rw [HK.out] <;> (repeat' split) <;> omega) | (have HK2 := HK.out; rw [if_pos (by omega)] at HK2; refine ⟨⟨3, m + 16384 * (b % 128), by omega, by omega, by omega, rfl, ?_, rfl, ?_⟩, by decide⟩; (refine congrArg (Value.int .i64) ?_; omega); (first | exact HK2 | simpa using HK2)) | trace_state
    ·have e0 : wrap64 (((s[p + 3]'(by omega)).toNat : Nat) : Int) = x := by rw [show (s[p + 3]'(by omega)).toNat = b from hbb, HX.out]; exact byte_wrap hb
     clear hbb hb
     simp only [Nat.reducePow, Nat.one_mul, Nat.reduceAdd, Nat.add_assoc, Nat.add_zero, Nat.zero_add] at HK hm
     go_wp2_with fail
     all_goals have hxx := HX.out
     all_goals try simp only [beq_iff_eq] at *
     all_goals first | (go_ret2; refine ⟨ret2_eq ?_ ?_, rfl⟩ <;> rw [HK.out] <;> (repeat' split) <;> omega) | (have HK2 := HK.out; rw [if_pos (by omega)] at HK2; refine ⟨⟨4, m + 2097152 * (b % 128), by omega, by omega, by omega, rfl, ?_, rfl, ?_⟩, by decide⟩; (refine congrArg (Value.int .i64) ?_; omega); (first | exact HK2 | simpa using HK2)) | trace_state
    ·have e0 : wrap64 (((s[p + 4]'(by omega)).toNat : Nat) : Int) = x := by rw [show (s[p + 4]'(by omega)).toNat = b from hbb, HX.out]; exact byte_wrap hb
     clear hbb hb
     simp only [Nat.reducePow, Nat.one_mul, Nat.reduceAdd, Nat.add_assoc, Nat.add_zero, Nat.zero_add] at HK hm
     go_wp2_with fail
     all_goals have hxx := HX.out
     all_goals try simp only [beq_iff_eq] at *
     all_goals first | (go_ret2; refine ⟨ret2_eq ?_ ?_, rfl⟩ <;> rw [HK.out] <;> (repeat' split) <;> omega) | (have HK2 := HK.out; rw [if_pos (by omega)] at HK2; refine ⟨⟨5, m + 268435456 * (b % 128), by omega, by omega, by omega, rfl, ?_, rfl, ?_⟩, by decide⟩; (refine congrArg (Value.int .i64) ?_; omega); (first | exact HK2 | simpa using HK2)) | trace_state
   ·rw [drop_nil (by omega)] at HK
    go_wp2_with fail
    go_ret2
    refine ⟨ret2_eq ?_ ?_, rfl⟩ <;> rw [HK.out] <;> rfl
 ·have HR : Hid (rdAt s a = (0, 0)) := by show _ = _; unfold rdAt; rw [if_neg hin]
  go_enter Tryz.func103, Tryz.ntmps103
  go_wp2_with fail
  all_goals first | omega | (go_ret2; refine ⟨ret2_eq ?_ ?_, rfl⟩ <;> rw [HR.out] <;> rfl) | trace_state
end Go.Proofs.YtojhakjkfkmklaaGreatDoor
namespace Go.Proofs.YtojhakjkfkmklaaGreatDoor
open Go.RowKit
def vl (n : Nat) : List UInt8 := if n < 128 then [UInt8.ofNat n] else UInt8.ofNat (128 + n % 128) :: vl (n / 128)
termination_by n
decreasing_by omega
theorem vl_last {n : Nat} (h : n < 128) : vl n = [UInt8.ofNat n] := by rw [vl, if_pos h]
theorem vl_more {n : Nat} (h : 128 ≤ n) : vl n = UInt8.ofNat (128 + n % 128) :: vl (n / 128) := by rw [vl, if_neg (by omega)]
theorem vl_len {k n : Nat} (h : n < 128 ^ k) (hk : 0 < k) : (vl n).length ≤ k := by
 induction k generalizing n with
 | zero => omega
 | succ k ih =>
  by_cases h1 : n < 128
  ·rw [vl_last h1]; simp
  ·rw [vl_more (by omega)]
   have hk0 : 0 < k := by
    rcases Nat.eq_zero_or_pos k with rfl | h0
    ·simp at h; omega
    ·exact h0
   have := ih (n := n / 128) (by rw [Nat.pow_succ] at h; omega) hk0
   simp; omega
theorem vl_five {n : Nat} (h : n ≤ 4294967295) : (vl n).length ≤ 5 := vl_len (by omega) (by omega)
def vof (a : Int) : ByteArray := if 0 ≤ a ∧ a ≤ 4294967295 then ⟨(vl a.toNat).toArray⟩ else ⟨#[]⟩
theorem conv_one (v : World) (z : Int) : (convert 22 9 (.slice (some ⟨v.heap.size, 0, none⟩) 1 1)).run Tryz.prog (v.alloc (.cells #[.int .u8 z] 5)) = .ok (.string ⟨#[UInt8.ofNat z.toNat]⟩) (v.alloc (.cells #[.int .u8 z] 5)) := by
 rw [run_convert_bytes_string _ _ _ 5 _ 1 1 Tryz.underlying22 Tryz.underlying5 Tryz.underlying9]
 have hl := run_loadCells_list (P := Tryz.prog) (v.alloc (.cells #[.int .u8 z] 5)) ⟨v.heap.size, 0, none⟩ ([z].map (Value.int .u8)) (fun j x hj => by
  rcases j with _ | j
  ·simp at hj; subst hj; simp [Addr.add]
  ·simp at hj)
 rw [run_bytesToString _ _ 1 1 [z] hl]
 rfl
theorem inS1 (a b c : Int) (w : World) : Calls Tryz.prog 55 #[.int .i64 a, .int .i64 b, .int .i64 c] w fun e w' => e = .returned (.bool (decide (b ≤ a ∧ a ≤ c))) ∧ w' = w := by
 go_enter Tryz.func55, Tryz.ntmps55
 go_wp2_with fail
 all_goals go_ret
 all_goals exact ⟨congrArg (fun b => Ending.returned (.bool b)) (by rw [Bool.eq_iff_iff]; simp; omega), rfl⟩
theorem inS1b (a b c : Int) (w : World) (v : Bool) (h : Hid (decide (b ≤ a ∧ a ≤ c) = v)) : Calls Tryz.prog 55 #[.int .i64 a, .int .i64 b, .int .i64 c] w fun e w' => e = .returned (.bool v) ∧ w' = w := by
 rw [← h.out]; exact inS1 a b c w
set_option maxHeartbeats 2000000 in
theorem varS (a : Int) (w : World) :
  Calls Tryz.prog 57 #[.int .i64 a] w fun e w' => e = .returned (.string (vof a)) ∧ Below w.heap.size w w' := by
 by_cases hin : 0 ≤ a ∧ a ≤ 4294967295
 ·obtain ⟨n, rfl⟩ : ∃ n : Nat, a = n := ⟨a.toNat, by omega⟩
  have hn : n ≤ 4294967295 := by omega
  have HV : Hid (vof n = ⟨(vl n).toArray⟩) := by show _ = _; unfold vof; rw [if_pos hin]; rfl
  have hd : Hid (decide ((0 : Int) ≤ (n : Int) ∧ (n : Int) ≤ 4294967295) = true) := by show _ = _; simp; omega
  have h5 := vl_five hn
  clear hin
  go_enter Tryz.func57, Tryz.ntmps57
  go_wp2_with (go_at_call 55; refine (inS1b _ _ _ _ _ hd).mono ?_; rintro e w1 ⟨rfl, rfl⟩)
  go_loopw [0, 3] (fun i st wr => ∃ (m : Nat) (l : List UInt8), m ≤ 4294967295 ∧ l.length ≤ 5 ∧ i = .int .i64 m ∧ st = .string ⟨l.toArray⟩ ∧ Hid (vl n = l ++ vl m) ∧ Below w1.heap.size w1 wr) (fun i _ _ => (numOf i).toNat)
  case atStart => exact ⟨n, [], hn, by simp, rfl, rfl, rfl, Below.refl _ _⟩
  case round =>
   obtain ⟨m, l, hm, hl, rfl, rfl, HL, hB⟩ := hrel
   have hcv := conv_one wr
   by_cases h1 : m < 128
   ·go_wp2_with fail
    go_ret
    refine ⟨?_, hB.alloc hB.size _⟩
    rw [HV.out, HL.out, vl_last h1]
    exact congrArg (fun z => Ending.returned (.string z)) (ByteArray.mk_append_mk _ _)
   ·have h2 : 128 ≤ m := by omega
    go_wp2_with fail
    refine ⟨⟨m / 128, l ++ [UInt8.ofNat (128 + m % 128)], by omega, ?_, ?_, ?_, ?_, hB.alloc hB.size _⟩, by simp only [numOf]; omega⟩
    ·have h6 := congrArg List.length HL.out
     have h7 : 0 < (vl (m / 128)).length := by rw [vl]; split <;> simp
     rw [vl_more h2] at h6
     simp at h6 ⊢; omega
    ·exact congrArg (Value.int .i64) (by omega)
    ·refine congrArg Value.string ?_
     rw [show (128 + UInt8.ofNat (m % 128) : UInt8) = UInt8.ofNat (128 + m % 128) by simp]
     exact ByteArray.mk_append_mk _ _
    ·show vl n = _
     rw [HL.out, vl_more h2]; simp
 ·have HV : Hid (vof a = ⟨#[]⟩) := by show _ = _; unfold vof; rw [if_neg hin]
  have hd : Hid (decide (0 ≤ a ∧ a ≤ 4294967295) = false) := by show _ = _; simpa using hin
  clear hin
  go_enter Tryz.func57, Tryz.ntmps57
  go_wp2_with (go_at_call 55; refine (inS1b _ _ _ _ _ hd).mono ?_; rintro e w1 ⟨rfl, rfl⟩)
  go_ret
  exact ⟨by rw [HV.out]; rfl, Below.refl _ _⟩
end Go.Proofs.YtojhakjkfkmklaaGreatDoor
