import Derived.Test.YtojhakjkfkmklaaGreatDoorEqV
import Derived.Test.YtojhakjkfkmklaaGreatDoorRmAV
import Derived.Laws.CopyOwn
import Derived.RangeFuncNested
import Derived.RangeFuncBound
import Derived.RangeFuncCalls
import Derived.RangeFuncLeaves
import Derived.Shelf.Abstract
import Derived.Shelf.RegionOpen
import Derived.WalkKit
import Derived.OwnWalkIn
import Derived.TacticsInMore
import Derived.LoopNIn
import Derived.LoopIn
namespace Go.Proofs.YtojhakjkfkmklaaGreatDoor
open Go.RowKit
theorem below_box {w w' : World} {o : Obj} (h : Below (w.heap.size + 1) (w.alloc o) w') : Below w.heap.size w w' :=
 ((Below.refl w.heap.size w).alloc (Nat.le_refl _) o).trans (h.mono (by omega))
end Go.Proofs.YtojhakjkfkmklaaGreatDoor
namespace Go.Proofs.YtojhakjkfkmklaaGreatDoor
open Go.RowKit
set_option linter.unusedVariables false
structure Gv (w : World) (g : Nat) (v : Value) : Prop where
 cell : w.cell? ⟨g, 0, none⟩ = some v
 lt : g < w.heap.size
theorem Gv.keep {w w' : World} {g : Nat} {v : Value} (h : Gv w g v) (k : Below w.heap.size w w') : Gv w' g v := ⟨(cell_block (k.block g h.lt)).trans h.cell, Nat.lt_of_lt_of_le h.lt k.size⟩
def errV (a : Addr) : Value := .iface 181 (.pointer (some a))
def Gone (a : Addr) (e : Ending) : Prop := e = .panicked [{ v := errV a, recovered := false }]
theorem wantY (w : World) : Calls Tryz.prog 50 #[.bool true] w fun e w' => e = .returned (.tuple #[]) ∧ w' = w := by
 go_enter Tryz.func50, Tryz.ntmps50
 go_wp2_with fail
 exact bodyPost_end (results_none Tryz.results50 _ _ _) rfl ⟨rfl, rfl⟩
theorem wantN (a : Addr) (w : World) (hv : Gv w 0 (errV a)) : Calls Tryz.prog 50 #[.bool false] w fun e w' => e = .panicked [{ v := errV a, recovered := false }] ∧ w' = w := by
 have c := hv.cell
 unfold errV at c ⊢
 go_enter Tryz.func50, Tryz.ntmps50
 go_wp2_with fail
 exact ⟨rfl, rfl, rfl⟩
theorem map_cell {l : List Int} {j : Nat} {u : Value} (h : (l.map (Value.int .i64))[j]? = some u) : j < l.length ∧ u = .int .i64 (l.getD j 0) := by
 have hj : j < l.length := by have := (List.getElem?_eq_some_iff.1 h).1; simpa using this
 refine ⟨hj, ?_⟩
 simp [hj] at h
 rw [← h]; simp [List.getD, hj]
set_option maxHeartbeats 1000000 in
set_option maxRecDepth 100000 in
theorem cloneI (lo : Nat) (a : Option Addr) (cap : Nat) (l : List Int) (w : World) (hl : l.length ≤ 1048576) (hv : IntsAt w lo a l) :
  Calls Tryz.prog 122 #[.slice a l.length cap] w fun e w' => ∃ v, e = .returned v ∧ Row w' w.heap.size v l ∧ Below w.heap.size w w' := by
 obtain ⟨i0, hi, hz0, hz1, hz2⟩ := info_parts infoI
 rcases a with _ | ad
 ·have hnil : l = [] := by
   rcases hv.2 with h | ⟨b, off, h, _⟩
   ·exact h
   ·simp at h
  subst hnil
  have hq := fun (v : World) => Lib.run_eql_slice_nil v 46 2 none 0 cap 0 0 Tryz.underlying46
  go_enter Tryz.func122, Tryz.ntmps122
  go_wp2_with fail
  go_ret
  exact ⟨_, rfl, Row.nil _ _, Below.refl _ _⟩
 ·have hcell : ∀ j u, (l.map (Value.int .i64))[j]? = some u → (w.alloc (.cells #[] 2)).cell? (ad.add j) = some u := by
   intro j u hj
   rcases hv.2 with h | ⟨b, off, h, _, hb, hc⟩
   ·simp [h] at hj
   ·simp at h
    subst h
    obtain ⟨hjl, rfl⟩ := map_cell hj
    rw [Addr.add_lit, cell_block (Below.heap_alloc w _ b hb), hc j hjl]
  have hq := fun (v : World) => Lib.run_eql_slice_nil v 46 2 (some ad) l.length cap 0 0 Tryz.underlying46
  go_enter Tryz.func122, Tryz.ntmps122
  go_wp2_with (at_builtin; refine wpList_append_own _ rfl _ _ 46 rfl w.heap.size 2 i0 (.int .i64 0) 1 8 Tryz.underlying46 hi hz0 hz1 hz2 rfl (by decide) _ 0 [] rfl (World.ownsRow_lit w #[] 0 (Nat.le_refl _) (by decide) (by simp)) ad l.length cap (l.map (Value.int .i64)) rfl (by simp) hcell (by simp [Value.oneCell']) (by unfold maxLen; omega) (by omega) (by simp) ?_; intro v' w1 hown hgrow hnn)
  simp only [Nat.zero_add, List.nil_append] at hown
  go_ret
  exact ⟨_, rfl, hown, ((Below.refl _ _).alloc (Nat.le_refl _) _).grown hgrow (by simp) (fun k hk => by have hk' : some w.heap.size = some k := hk; simp at hk'; omega)⟩
structure OnlyR (R : Nat) (w w' : World) : Prop where
 os : w'.os = w.os
 tape : w'.tape = w.tape
 output : w'.output = w.output
 size : w.heap.size ≤ w'.heap.size
 block : ∀ i, i < w.heap.size → i ≠ R → w'.heap[i]? = w.heap[i]?
theorem OnlyR.refl (R : Nat) (w : World) : OnlyR R w w := ⟨rfl, rfl, rfl, Nat.le_refl _, fun _ _ _ => rfl⟩
theorem OnlyR.trans {R : Nat} {x y z : World} (h : OnlyR R x y) (k : OnlyR R y z) : OnlyR R x z := ⟨k.os.trans h.os, k.tape.trans h.tape, k.output.trans h.output, Nat.le_trans h.size k.size, fun i hi hn => (k.block i (Nat.lt_of_lt_of_le hi h.size) hn).trans (h.block i hi hn)⟩
theorem OnlyR.below {R : Nat} {w w' : World} (k : Below w.heap.size w w') : OnlyR R w w' := ⟨k.os, k.tape, k.output, k.size, fun i hi _ => k.block i hi⟩
theorem OnlyR.set {R : Nat} {w w' : World} (h : OnlyR R w w') (o : Nat) (v : Value) : OnlyR R w (w'.setCell ⟨R, o, none⟩ v) :=
 h.trans ⟨rfl, rfl, rfl, by simp [World.setCell], fun i _ hn => Below.heap_setCell _ _ _ _ hn⟩
theorem OnlyR.down {R n : Nat} {w w' : World} (h : OnlyR R w w') (hn : n ≤ R) (hz : n ≤ w.heap.size) : Below n w w' := ⟨h.os, h.tape, h.output, h.size, fun i hi => h.block i (by omega) (by omega)⟩
def RwAt (w : World) (R : Nat) (l : List Int) : Prop :=
 (l = [] ∧ At w R #[.slice none 0 0] 121) ∨ ∃ b off c, At w R #[.slice (some ⟨b, off, none⟩) l.length c] 121 ∧ l.length ≤ c ∧ c ≤ 9223372036854775807 ∧ b ≠ R ∧ b < w.heap.size ∧ ∀ i, i < l.length → w.cell? ⟨b, off + i, none⟩ = some (.int .i64 (l.getD i 0))
theorem RwAt.lt {w : World} {R : Nat} {l : List Int} (h : RwAt w R l) : R < w.heap.size := by
 rcases h with ⟨_, h⟩ | ⟨b, off, c, h, _⟩
 ·exact h.lt
 ·exact h.lt
theorem RwAt.keep {w w' : World} {R : Nat} {l : List Int} (h : RwAt w R l) (k : Below w.heap.size w w') : RwAt w' R l := by
 rcases h with ⟨e, h⟩ | ⟨b, off, c, h, h1, h2, h3, h4, h5⟩
 ·exact .inl ⟨e, h.below k⟩
 ·exact .inr ⟨b, off, c, h.below k, h1, h2, h3, Nat.lt_of_lt_of_le h4 k.size, fun i hi => (cell_block (k.block b h4)).trans (h5 i hi)⟩
theorem row_set {w : World} {R base : Nat} {v x : Value} {l : List Int} (h : Row w base v l) (hR : R < base) : Row (w.setCell ⟨R, 0, none⟩ x) base v l :=
 World.ownsRow.kept h (row := some R) ⟨rfl, rfl, rfl, by simp [World.setCell], fun k _ hk => Below.heap_setCell _ _ _ _ (fun e => hk (by simp [e]))⟩ (by
  cases e : v.ownBlock with
  | none => exact .inl rfl
  | some g => exact .inr (fun e2 => by have := (World.ownsRow.lt h g e).1; cases e2; omega))
theorem At.set0 {w : World} {R : Nat} {x : Value} {T : TypeId} (h : At w R #[x] T) (y : Value) : At (w.setCell ⟨R, 0, none⟩ y) R #[y] T := heap_set (o := 0) h
end Go.Proofs.YtojhakjkfkmklaaGreatDoor
namespace Go.Proofs.YtojhakjkfkmklaaGreatDoor
open Go.RowKit Go.Shelf
attribute [local go_sem] Oper.semAt_some
set_option linter.unusedVariables false
set_option linter.unusedSimpArgs false
theorem hdw (k : Nat) : Fence.wide.depth.isSome = true → 1 ≤ k := fun h => by cases h
structure Sofar (s : ByteArray) (pre : List Int) (k : Nat) : Prop where
 rng : Rng pre
 eq : s.data.toList = toL pre ++ s.data.toList.drop k
 le : pre.length ≤ k
 ks : k ≤ s.size
theorem rdAt_drop {s : ByteArray} {k : Nat} (h : k < s.size) : rdAt s (k : Int) = rdl 0 0 (s.data.toList.drop k) := by
 unfold rdAt
 rw [if_pos (by omega)]
 rfl
theorem Sofar.next {s : ByteArray} {pre : List Int} {k : Nat} (h : Sofar s pre k) (hk : k < s.size) (hm : (rdAt s (k : Int)).2 ≠ 0) : Sofar s (pre ++ [((rdAt s (k : Int)).1 : Int)]) (k + (rdAt s (k : Int)).2) := by
 rw [rdAt_drop hk] at hm ⊢
 generalize hq : rdl 0 0 (s.data.toList.drop k) = q at hm
 obtain ⟨x, m⟩ := q
 obtain ⟨h1, h2, h3⟩ := rd_yes hq hm
 dsimp only at hm ⊢
 rw [List.length_drop] at h3
 have hz : s.data.toList.length = s.size := Array.length_toList
 refine ⟨h.rng.join (fun y hy => by simp at hy; omega), ?_, ?_, by omega⟩
 ·rw [toL_append, toL_cons, toL_nil, List.append_nil, List.append_assoc]
  have h4 := h.eq
  rw [h1, List.drop_drop] at h4
  exact h4
 ·rw [List.length_append, List.length_singleton]
  have := h.le
  omega
theorem Sofar.bad {s : ByteArray} {pre : List Int} {k : Nat} (h : Sofar s pre k) (hk : k < s.size) (hm : (rdAt s (k : Int)).2 = 0) : ¬ ∃ L, Rng L ∧ s.data.toList = toL L := by
 rintro ⟨L, hL, he⟩
 obtain ⟨q, rfl, hq⟩ := toL_cut pre L _ h.rng hL (h.eq.symm.trans he)
 rw [rdAt_drop hk] at hm
 refine rd_no hL.right hq (fun e => ?_) hm
 have h1 := congrArg List.length e
 rw [List.length_drop] at h1
 have hz : s.data.toList.length = s.size := Array.length_toList
 simp at h1
 omega
theorem Sofar.end_ {s : ByteArray} {pre : List Int} {k : Nat} (h : Sofar s pre k) (hk : ¬ k < s.size) : Rng pre ∧ s.data.toList = toL pre := by
 have hz : s.data.toList.length = s.size := Array.length_toList
 have h1 := h.eq
 rw [List.drop_eq_nil_of_le (by omega), List.append_nil] at h1
 exact ⟨h.rng, h1⟩
def NumsEnd (s : ByteArray) (a : Addr) (J : List Int → World → Prop) (e : Ending) (W' : World) : Prop := (∃ v L, e = .returned v ∧ (Rng L ∧ s.data.toList = toL L) ∧ J L W') ∨ (∃ ch pre, e = .panicked ch ∧ (ch = [{ v := errV a, recovered := false }] ∧ ¬ ∃ L, Rng L ∧ s.data.toList = toL L) ∧ J pre W')
set_option maxHeartbeats 2000000 in
theorem numsI (l gs : Nat) (s : ByteArray) (a : Addr) (N : Nat) (J : List Int → World → Prop)
  (hJ : ∀ pre W, J pre W → Gv W gs (.string s) ∧ Gv W 0 (errV a))
  (hY : ∀ m pre x W, J pre W → pre.length < N → YieldAt Fence.wide m Tryz.prog l #[.int .i64 x] W fun e W' => e = .returned (.bool true) ∧ J (pre ++ [x]) W')
  (m : Nat) (W : World) (h0 : J [] W) (hs : s.size ≤ 20000) (hN : 20000 ≤ N) :
  CallsIn Fence.wide m Tryz.prog 120 #[.func (.yield l) #[] #[], .pointer (some ⟨gs, 0, none⟩)] W fun e W' => NumsEnd s a J e W' := by
 refine callsIn_of_wp Tryz.func120 rfl trivial ?_ rfl
 simp only [Tryz.ntmps120, List.size_toArray, List.length_cons, List.length_nil, Nat.reduceAdd, Nat.reduceSub, Array.replicate_succ, Array.replicate_zero, List.push_toArray, List.append_toArray, List.nil_append, List.cons_append]
 gi_wp2
 gi_loopw [3] (fun i wr => ∃ (k : Nat) (pre : List Int), i = .int .i64 k ∧ Hid (Sofar s pre k) ∧ Hid (J pre wr)) (fun i _ => s.size - (intOf i).toNat)
 case atStart => exact ⟨0, [], rfl, ⟨fun x hx => by simp at hx, by simp [toL], by simp, by omega⟩, h0⟩
 case round =>
  obtain ⟨k, pre, rfl, HS, HJ⟩ := hrel
  obtain ⟨gc, ge⟩ := hJ _ _ HJ.out
  have c0 := gc.cell
  have hks := HS.out.ks
  by_cases hlt : k < s.size
  ·have hlI : (k : Int) < (s.size : Int) := by omega
   have hpl : pre.length < N := by have := HS.out.le; omega
   have R := readI s (k : Int) (by omega) wr
   by_cases hm : (rdAt s (k : Int)).2 = 0
   ·have HB : Hid (¬ ∃ L, Rng L ∧ s.data.toList = toL L) := HS.out.bad hlt hm
    have Wn := wantN a wr ge
    generalize (rdAt s (k : Int)).1 = x at R
    rw [hm] at R
    gi_wp2
    refine ⟨trivial, hdw _, (callsIn_wide.2 R).mono ?_⟩
    rintro e W1 ⟨rfl, h9⟩
    have h8 := h9.symm
    clear h9
    subst h8
    gi_wp2
    refine ⟨trivial, hdw _, (callsIn_wide.2 Wn).mono ?_⟩
    rintro e W1 ⟨rfl, h9⟩
    have h8 := h9.symm
    clear h9
    subst h8
    gi_wp2
    exact ⟨rfl, .inr ⟨_, pre, rfl, ⟨rfl, HB.out⟩, HJ.out⟩⟩
   ·have HN : Hid (Sofar s (pre ++ [((rdAt s (k : Int)).1 : Int)]) (k + (rdAt s (k : Int)).2)) := HS.out.next hlt hm
    have hks2 := HN.out.ks
    obtain ⟨fn, tmps, assign, body, hy, hR⟩ := hY (m - 1) pre ((rdAt s (k : Int)).1 : Int) wr HJ.out hpl
    generalize (rdAt s (k : Int)).1 = x at R HN hy hR
    generalize (rdAt s (k : Int)).2 = z at R HN hm hks2
    have hz0 : (0 : Int) < (z : Int) := by omega
    have Wy : Calls Tryz.prog 50 #[.bool (decide (0 < z))] wr fun e w' => e = .returned (.tuple #[]) ∧ w' = wr := by
     rw [decide_eq_true (show 0 < z by omega)]
     exact wantY wr
    gi_wp2
    refine ⟨trivial, hdw _, (callsIn_wide.2 R).mono ?_⟩
    rintro e W1 ⟨rfl, h9⟩
    have h8 := h9.symm
    clear h9
    subst h8
    gi_wp2
    refine ⟨trivial, hdw _, (callsIn_wide.2 Wy).mono ?_⟩
    rintro e W1 ⟨rfl, h9⟩
    have h8 := h9.symm
    clear h9
    subst h8
    gi_wp2
    refine ⟨hdw _, hR.mono ?_⟩
    rintro e W1 ⟨rfl, hJ1⟩
    have HJ1 : Hid (J (pre ++ [(x : Int)]) W1) := hJ1
    clear hJ1 c0 gc ge HJ
    gi_wp2
    go_roundw
    case rel => exact ⟨k + z, _, by go_num, HN, HJ1⟩
    case measure => simp [intOf]; omega
  ·have hlI : ¬ (k : Int) < (s.size : Int) := by omega
   have HE : Hid (Rng pre ∧ s.data.toList = toL pre) := HS.out.end_ hlt
   gi_wp2
   exact bodyPost_end (results_none Tryz.results120 _ _ _) rfl (.inl ⟨_, pre, rfl, HE.out, HJ.out⟩)
end Go.Proofs.YtojhakjkfkmklaaGreatDoor
