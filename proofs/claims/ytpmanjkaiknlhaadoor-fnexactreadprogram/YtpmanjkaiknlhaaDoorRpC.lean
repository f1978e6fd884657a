/- Numbers that stand one behind the other in bytes: told to a loop. -/
import Derived.RangeFuncNested
import Derived.RangeFuncBound
import Derived.RangeFuncCalls
import Derived.RangeFuncLeaves
import Derived.Shelf.Abstract
import Derived.Shelf.RegionOpen
import Derived.WalkKit
import Derived.OwnWalkIn
import Derived.TacticsInMore
import Derived.LoopNIn
import Derived.LoopIn
import Derived.Test.YtpmanjkaiknlhaaDoorVoiQ
import Derived.Test.YtpmanjkaiknlhaaDoorRvi
import Derived.Test.YtpmanjkaiknlhaaDoorRiB
namespace Go.Proofs.YtpmanjkaiknlhaaDoor
open Go.RowKit Go.Shelf
attribute [local go_sem] Oper.semAt_some
set_option linter.unusedVariables false
set_option linter.unusedSimpArgs false

theorem hdw (k : Nat) : Fence.wide.depth.isSome = true → 1 ≤ k := fun h => by cases h
/-- The numbers so far. -/
structure Sofar (s : ByteArray) (pre : List Int) (k : Nat) : Prop where
  rng : Rng pre
  eq : s.data.toList = toL pre ++ s.data.toList.drop k
  le : pre.length ≤ k
  ks : k ≤ s.size
theorem rdAt_drop {s : ByteArray} {k : Nat} (h : k < s.size) : rdAt s (k : Int) = rdl 0 0 (s.data.toList.drop k) := by
  unfold rdAt
  rw [if_pos (by omega)]
  rfl
theorem Sofar.next {s : ByteArray} {pre : List Int} {k : Nat} (h : Sofar s pre k) (hk : k < s.size) (hm : (rdAt s (k : Int)).2 ≠ 0) : Sofar s (pre ++ [((rdAt s (k : Int)).1 : Int)]) (k + (rdAt s (k : Int)).2) := by
  rw [rdAt_drop hk] at hm ⊢
  generalize hq : rdl 0 0 (s.data.toList.drop k) = q at hm
  obtain ⟨x, m⟩ := q
  obtain ⟨h1, h2, h3⟩ := rd_yes hq hm
  dsimp only at hm ⊢
  rw [List.length_drop] at h3
  have hz : s.data.toList.length = s.size := Array.length_toList
  refine ⟨h.rng.join (fun y hy => by simp at hy; omega), ?_, ?_, by omega⟩
  · rw [toL_append, toL_cons, toL_nil, List.append_nil, List.append_assoc]
    have h4 := h.eq
    rw [h1, List.drop_drop] at h4
    exact h4
  · rw [List.length_append, List.length_singleton]
    have := h.le
    omega
theorem Sofar.bad {s : ByteArray} {pre : List Int} {k : Nat} (h : Sofar s pre k) (hk : k < s.size) (hm : (rdAt s (k : Int)).2 = 0) : ¬ ∃ L, Rng L ∧ s.data.toList = toL L := by
  rintro ⟨L, hL, he⟩
  obtain ⟨q, rfl, hq⟩ := toL_cut pre L _ h.rng hL (h.eq.symm.trans he)
  rw [rdAt_drop hk] at hm
  refine rd_no hL.right hq (fun e => ?_) hm
  have h1 := congrArg List.length e
  rw [List.length_drop] at h1
  have hz : s.data.toList.length = s.size := Array.length_toList
  simp at h1
  omega
theorem Sofar.end_ {s : ByteArray} {pre : List Int} {k : Nat} (h : Sofar s pre k) (hk : ¬ k < s.size) : Rng pre ∧ s.data.toList = toL pre := by
  have hz : s.data.toList.length = s.size := Array.length_toList
  have h1 := h.eq
  rw [List.drop_eq_nil_of_le (by omega), List.append_nil] at h1
  exact ⟨h.rng, h1⟩
def NumsEnd (s : ByteArray) (a : Addr) (J : List Int → World → Prop) (e : Ending) (W' : World) : Prop := (∃ v L, e = .returned v ∧ (Rng L ∧ s.data.toList = toL L) ∧ J L W') ∨ (∃ ch pre, e = .panicked ch ∧ (ch = [{ v := errV a, recovered := false }] ∧ ¬ ∃ L, Rng L ∧ s.data.toList = toL L) ∧ J pre W')
set_option maxHeartbeats 2000000 in
theorem numsI (l gs : Nat) (s : ByteArray) (a : Addr) (N : Nat) (J : List Int → World → Prop)
    (hJ : ∀ pre W, J pre W → Gv W gs (.string s) ∧ Gv W 0 (errV a))
    (hY : ∀ m pre x W, J pre W → pre.length < N → YieldAt Fence.wide m Tryd.prog l #[.int .i64 x] W fun e W' => e = .returned (.bool true) ∧ J (pre ++ [x]) W')
    (m : Nat) (W : World) (h0 : J [] W) (hs : s.size ≤ 20000) (hN : 20000 ≤ N) :
    CallsIn Fence.wide m Tryd.prog 47 #[.func (.yield l) #[] #[], .pointer (some ⟨gs, 0, none⟩)] W fun e W' => NumsEnd s a J e W' := by
  refine callsIn_of_wp Tryd.func47 rfl trivial ?_ rfl
  simp only [Tryd.ntmps47, List.size_toArray, List.length_cons, List.length_nil, Nat.reduceAdd, Nat.reduceSub, Array.replicate_succ, Array.replicate_zero, List.push_toArray, List.append_toArray, List.nil_append, List.cons_append]
  gi_wp2
  gi_loopw [3] (fun i wr => ∃ (k : Nat) (pre : List Int), i = .int .i64 k ∧ Hid (Sofar s pre k) ∧ Hid (J pre wr)) (fun i _ => s.size - (intOf i).toNat)
  case atStart => exact ⟨0, [], rfl, ⟨fun x hx => by simp at hx, by simp [toL], by simp, by omega⟩, h0⟩
  case round =>
    obtain ⟨k, pre, rfl, HS, HJ⟩ := hrel
    obtain ⟨gc, ge⟩ := hJ _ _ HJ.out
    have c0 := gc.cell
    have hks := HS.out.ks
    by_cases hlt : k < s.size
    · have hlI : (k : Int) < (s.size : Int) := by omega
      have hpl : pre.length < N := by have := HS.out.le; omega
      have R := readI s (k : Int) (by omega) wr
      by_cases hm : (rdAt s (k : Int)).2 = 0
      · have HB : Hid (¬ ∃ L, Rng L ∧ s.data.toList = toL L) := HS.out.bad hlt hm
        have Wn := wantN a wr ge
        generalize (rdAt s (k : Int)).1 = x at R
        rw [hm] at R
        gi_wp2
        refine ⟨trivial, hdw _, (callsIn_wide.2 R).mono ?_⟩
        rintro e W1 ⟨rfl, h9⟩
        have h8 := h9.symm
        clear h9
        subst h8
        gi_wp2
        refine ⟨trivial, hdw _, (callsIn_wide.2 Wn).mono ?_⟩
        rintro e W1 ⟨rfl, h9⟩
        have h8 := h9.symm
        clear h9
        subst h8
        gi_wp2
        exact ⟨rfl, .inr ⟨_, pre, rfl, ⟨rfl, HB.out⟩, HJ.out⟩⟩
      · have HN : Hid (Sofar s (pre ++ [((rdAt s (k : Int)).1 : Int)]) (k + (rdAt s (k : Int)).2)) := HS.out.next hlt hm
        have hks2 := HN.out.ks
        obtain ⟨fn, tmps, assign, body, hy, hR⟩ := hY (m - 1) pre ((rdAt s (k : Int)).1 : Int) wr HJ.out hpl
        generalize (rdAt s (k : Int)).1 = x at R HN hy hR
        generalize (rdAt s (k : Int)).2 = z at R HN hm hks2
        have hz0 : (0 : Int) < (z : Int) := by omega
        have Wy : Calls Tryd.prog 27 #[.bool (decide (0 < z))] wr fun e w' => e = .returned (.tuple #[]) ∧ w' = wr := by
          rw [decide_eq_true (show 0 < z by omega)]
          exact wantY wr
        gi_wp2
        refine ⟨trivial, hdw _, (callsIn_wide.2 R).mono ?_⟩
        rintro e W1 ⟨rfl, h9⟩
        have h8 := h9.symm
        clear h9
        subst h8
        gi_wp2
        refine ⟨trivial, hdw _, (callsIn_wide.2 Wy).mono ?_⟩
        rintro e W1 ⟨rfl, h9⟩
        have h8 := h9.symm
        clear h9
        subst h8
        gi_wp2
        refine ⟨hdw _, hR.mono ?_⟩
        rintro e W1 ⟨rfl, hJ1⟩
        have HJ1 : Hid (J (pre ++ [(x : Int)]) W1) := hJ1
        clear hJ1 c0 gc ge HJ
        gi_wp2
        go_roundw
        case rel => exact ⟨k + z, _, by go_num, HN, HJ1⟩
        case measure => simp [intOf]; omega
    · have hlI : ¬ (k : Int) < (s.size : Int) := by omega
      have HE : Hid (Rng pre ∧ s.data.toList = toL pre) := HS.out.end_ hlt
      gi_wp2
      exact bodyPost_end (results_none Tryd.results47 _ _ _) rfl (.inl ⟨_, pre, rfl, HE.out, HJ.out⟩)
end Go.Proofs.YtpmanjkaiknlhaaDoor
