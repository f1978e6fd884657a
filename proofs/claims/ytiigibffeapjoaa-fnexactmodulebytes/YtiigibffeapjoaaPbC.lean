/- Numbers told to a loop: tellCount, tellAll, tellList. -/
import Derived.RangeFuncNested
import Derived.RangeFuncBound
import Derived.RangeFuncCalls
import Derived.RangeFuncLeaves
import Derived.Shelf.Abstract
import Derived.Shelf.RegionOpen
import Derived.WalkKit
import Derived.OwnWalkIn
import Derived.TacticsInMore
import Derived.LoopNIn
import Derived.LoopIn
import Derived.Test.YtiigibffeapjoaaVbA
namespace Go.Proofs.Ytiigibffeapjoaa
open Go.RowKit Go.Shelf
attribute [local go_sem] Oper.semAt_some
set_option linter.unusedVariables false

theorem round_any {m m' : Nat} {P : Program} {l : Nat} {f : FuncId} {tmps : Array Value} {assign body : Code} {w : World} {R : Ending → World → Prop}
    (h : RoundIn Fence.wide m P l f tmps assign body w R) : RoundIn Fence.wide m' P l f tmps assign body w R := ⟨h.1, fun c cs _ => h.2 c cs (fun d h => by cases h)⟩
theorem yield_any {m : Nat} (m' : Nat) {P : Program} {l : Nat} {args : Array Value} {W : World} {R : Ending → World → Prop} (h : YieldAt Fence.wide m P l args W R) : YieldAt Fence.wide m' P l args W R := by
  obtain ⟨fn, tmps, assign, body, hy, hR⟩ := h
  exact ⟨fn, tmps, assign, body, hy, round_any hR⟩
/-- What a loop's yield does at its record l. -/
def Yl (l : Nat) (Kp : World → World → Prop) (N : Nat) (J Jx : List Int → World → Prop) : Prop := ∀ m pre x W, J pre W → pre.length < N → YieldAt Fence.wide m Try.prog l #[.int .i64 x] W fun e W' => (e = .returned (.bool true) ∧ J (pre ++ [x]) W' ∧ Kp W W') ∨ (e = .returned (.bool false) ∧ Jx (pre ++ [x]) W')
def Told (Kp : World → World → Prop) (J Jx : List Int → World → Prop) (pre xs : List Int) (W : World) (e : Ending) (W' : World) : Prop := (e = .returned (.bool true) ∧ J (pre ++ xs) W' ∧ Kp W W') ∨ (e = .returned (.bool false) ∧ ∃ q, Jx q W')
theorem hdd (k : Nat) : Fence.wide.depth.isSome = true → 1 ≤ k := fun h => by cases h
set_option maxHeartbeats 1000000 in
theorem tellCountI (l : Nat) (Kp : World → World → Prop) (hKr : ∀ A, Kp A A) (hKt : ∀ {A B C : World}, Kp A B → Kp B C → Kp A C) (N : Nat) (J Jx : List Int → World → Prop) (hY : Yl l Kp N J Jx) (m n : Nat) (hn : n ≤ 1048576) (pre : List Int) (hpl : pre.length < N) (W : World) (hJ : J pre W) :
    CallsIn Fence.wide m Try.prog 33 #[.int .i64 (n : Int), .func (.yield l) #[] #[]] W fun e W' => Told Kp J Jx pre [(n : Int)] W e W' := by
  refine callsIn_of_wp Try.func33 rfl trivial ?_ rfl
  simp only [Try.ntmps33, List.size_toArray, List.length_cons, List.length_nil, Nat.reduceAdd, Nat.reduceSub, Array.replicate_succ, Array.replicate_zero, List.push_toArray, List.append_toArray, List.nil_append, List.cons_append]
  obtain ⟨fn, tmps, assign, body, hy, hR⟩ := hY (m - 1) pre n W hJ hpl
  gi_wp2
  refine ⟨hdd _, hR.mono ?_⟩
  rintro e W1 (⟨rfl, hJ1, hb1⟩ | ⟨rfl, hx1⟩)
  · gi_wp2
    go_ret
    exact .inl ⟨rfl, hJ1, hb1⟩
  · gi_wp2
    go_ret
    exact .inr ⟨rfl, _, hx1⟩
set_option maxHeartbeats 2000000 in
theorem tellAllI (l : Nat) (Kp : World → World → Prop) (hKr : ∀ A, Kp A A) (hKt : ∀ {A B C : World}, Kp A B → Kp B C → Kp A C) (N : Nat) (J Jx : List Int → World → Prop) (hY : Yl l Kp N J Jx) (m lo : Nat) (a : Option Addr) (c : Nat) (xs : List Int) (hn : xs.length ≤ 1048576) (pre : List Int) (hpl : pre.length + xs.length ≤ N) (W : World) (hJ : J pre W) (hk : ∀ W1, Kp W W1 → IntsAt W1 lo a xs) :
    CallsIn Fence.wide m Try.prog 65 #[.slice a xs.length c, .func (.yield l) #[] #[]] W fun e W' => Told Kp J Jx pre xs W e W' := by
  refine callsIn_of_wp Try.func65 rfl trivial ?_ rfl
  simp only [Try.ntmps65, List.size_toArray, List.length_cons, List.length_nil, Nat.reduceAdd, Nat.reduceSub, Array.replicate_succ, Array.replicate_zero, List.push_toArray, List.append_toArray, List.nil_append, List.cons_append]
  gi_wp2
  gi_loopw [9] (fun i wr => ∃ k : Nat, k ≤ xs.length ∧ i = .int .i64 k ∧ Hid (J (pre ++ xs.take k) wr) ∧ Hid (Kp W wr)) (fun i _ => xs.length - (intOf i).toNat)
  case atStart => exact ⟨0, by omega, rfl, by show J _ _; simpa using hJ, hKr _⟩
  case round =>
    obtain ⟨k, hk1, rfl, HJ, HB⟩ := hrel
    by_cases hlt : k < xs.length
    · obtain ⟨b, off, rfl, e1⟩ := ints_cellP (hk wr HB.out) hlt
      have HT : Hid (xs.take (k + 1) = xs.take k ++ [xs.getD k 0]) := take_snoc hlt
      generalize xs.getD k 0 = x at e1 HT
      obtain ⟨fn, tmps, assign, body, hy, hR⟩ := hY (m - 1) (pre ++ xs.take k) x wr HJ.out (by rw [List.length_append, List.length_take]; omega)
      gi_wp2
      refine ⟨hdd _, hR.mono ?_⟩
      rintro e W1 (⟨rfl, hJ1, hb1⟩ | ⟨rfl, hx1⟩)
      · have HJ1 : Hid (J (pre ++ xs.take (k + 1)) W1) := by show J _ _; rw [HT.out, ← List.append_assoc]; exact hJ1
        have HB1 : Hid (Kp W W1) := hKt HB.out hb1
        clear hJ1 hb1
        gi_wp2
        go_roundw
        case rel => exact ⟨k + 1, by omega, by go_num, HJ1, HB1⟩
        case measure => simp [intOf]; omega
      · have hx2 : ∃ q, Jx q W1 := ⟨_, hx1⟩
        clear hx1
        gi_wp2
        go_ret
        exact .inr ⟨rfl, hx2⟩
    · have HJ2 : Hid (J (pre ++ xs) wr) := by
        show J _ _
        have := HJ.out
        rw [List.take_of_length_le (by omega)] at this
        exact this
      gi_wp2
      go_ret
      exact .inl ⟨rfl, HJ2.out, HB.out⟩
set_option maxHeartbeats 2000000 in
theorem tellListI (l : Nat) (Kp : World → World → Prop) (hKr : ∀ A, Kp A A) (hKt : ∀ {A B C : World}, Kp A B → Kp B C → Kp A C) (N : Nat) (J Jx : List Int → World → Prop) (hY : Yl l Kp N J Jx) (m lo : Nat) (a : Option Addr) (c : Nat) (xs : List Int) (hn : xs.length ≤ 1048576) (pre : List Int) (hpl : pre.length + (xs.length + 1) ≤ N) (W : World) (hJ : J pre W) (hk : ∀ W1, Kp W W1 → IntsAt W1 lo a xs) :
    CallsIn Fence.wide m Try.prog 51 #[.slice a xs.length c, .func (.yield l) #[] #[]] W fun e W' => Told Kp J Jx pre (listN xs) W e W' := by
  have C := tellCountI l Kp hKr hKt N J Jx hY (m - 1) xs.length hn pre (by omega) W hJ
  have A : Hid (∀ W1, J (pre ++ [(xs.length : Int)]) W1 → Kp W W1 → CallsIn Fence.wide (m - 1) Try.prog 65 #[.slice a xs.length c, .func (.yield l) #[] #[]] W1 fun e W' => Told Kp J Jx (pre ++ [(xs.length : Int)]) xs W1 e W') := fun W1 h1 h2 =>
    tellAllI l Kp hKr hKt N J Jx hY (m - 1) lo a c xs hn _ (by rw [List.length_append, List.length_singleton]; omega) W1 h1 (fun W2 h3 => hk W2 (hKt h2 h3))
  refine callsIn_of_wp Try.func51 rfl trivial ?_ rfl
  simp only [Try.ntmps51, List.size_toArray, List.length_cons, List.length_nil, Nat.reduceAdd, Nat.reduceSub, Array.replicate_succ, Array.replicate_zero, List.push_toArray, List.append_toArray, List.nil_append, List.cons_append]
  gi_wp2
  refine ⟨trivial, hdd _, C.mono ?_⟩
  clear C
  rintro e W1 (⟨rfl, hJ1, hb1⟩ | ⟨rfl, hx1⟩)
  · have A1 := A.out W1 hJ1 hb1
    have HB1 : Hid (Kp W W1) := hb1
    clear A hJ1 hb1
    gi_wp2
    refine ⟨trivial, hdd _, A1.mono ?_⟩
    clear A1
    rintro e W2 (⟨rfl, hJ2, hb2⟩ | ⟨rfl, hx2⟩)
    · have HJ2 : Hid (J (pre ++ listN xs) W2) := by show J _ _; unfold listN; rw [List.append_cons]; exact hJ2
      have HB2 : Hid (Kp W W2) := hKt HB1.out hb2
      clear hJ2 hb2
      gi_wp2
      go_ret
      exact .inl ⟨rfl, HJ2.out, HB2.out⟩
    · gi_wp2
      go_ret
      exact .inr ⟨rfl, hx2⟩
  · gi_wp2
    refine ⟨trivial, ?_⟩
    gi_wp2
    go_ret
    exact .inr ⟨rfl, hx1⟩
end Go.Proofs.Ytiigibffeapjoaa
