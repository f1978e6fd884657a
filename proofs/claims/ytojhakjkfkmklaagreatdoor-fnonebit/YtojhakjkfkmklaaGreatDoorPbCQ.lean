/- Numbers told to a loop: tellCount, tellAll, tellList. -/
import Derived.RangeFuncNested
import Derived.RangeFuncBound
import Derived.RangeFuncCalls
import Derived.RangeFuncLeaves
import Derived.Shelf.Abstract
import Derived.Shelf.RegionOpen
import Derived.WalkKit
import Derived.OwnWalkIn
import Derived.TacticsInMore
import Derived.LoopNIn
import Derived.LoopIn
import Derived.Test.YtojhakjkfkmklaaGreatDoorRvrQ
import Derived.Test.YtojhakjkfkmklaaGreatDoorMbCQ
import Derived.Test.YtojhakjkfkmklaaGreatDoorOps3
namespace Go.Proofs.YtojhakjkfkmklaaGreatDoor
open Go.RowKit Go.Shelf
attribute [local go_sem] Oper.semAt_some
set_option linter.unusedVariables false

theorem round_any {m m' : Nat} {P : Program} {l : Nat} {f : FuncId} {tmps : Array Value} {assign body : Code} {w : World} {R : Ending → World → Prop}
    (h : RoundIn Fence.wide m P l f tmps assign body w R) : RoundIn Fence.wide m' P l f tmps assign body w R := ⟨h.1, fun c cs _ => h.2 c cs (fun d h => by cases h)⟩
theorem yield_any {m : Nat} (m' : Nat) {P : Program} {l : Nat} {args : Array Value} {W : World} {R : Ending → World → Prop} (h : YieldAt Fence.wide m P l args W R) : YieldAt Fence.wide m' P l args W R := by
  obtain ⟨fn, tmps, assign, body, hy, hR⟩ := h
  exact ⟨fn, tmps, assign, body, hy, round_any hR⟩
/-- What a loop's yield does at its record l. -/
def Yl (l : Nat) (Kp : World → World → Prop) (N : Nat) (J Jx : List Int → World → Prop) : Prop := ∀ m pre x W, J pre W → pre.length < N → YieldAt Fence.wide m Tryz.prog l #[.int .i64 x] W fun e W' => (e = .returned (.bool true) ∧ J (pre ++ [x]) W' ∧ Kp W W') ∨ (e = .returned (.bool false) ∧ Jx (pre ++ [x]) W')
def Told (Kp : World → World → Prop) (J Jx : List Int → World → Prop) (pre xs : List Int) (W : World) (e : Ending) (W' : World) : Prop := (e = .returned (.bool true) ∧ J (pre ++ xs) W' ∧ Kp W W') ∨ (e = .returned (.bool false) ∧ ∃ q, Jx q W')
theorem hdd (k : Nat) : Fence.wide.depth.isSome = true → 1 ≤ k := fun h => by cases h
set_option maxHeartbeats 1000000 in
theorem tellCountI (l : Nat) (Kp : World → World → Prop) (hKr : ∀ A, Kp A A) (hKt : ∀ {A B C : World}, Kp A B → Kp B C → Kp A C) (N : Nat) (J Jx : List Int → World → Prop) (hY : Yl l Kp N J Jx) (m n : Nat) (hn : n ≤ 1048576) (pre : List Int) (hpl : pre.length < N) (W : World) (hJ : J pre W) :
    CallsIn Fence.wide m Tryz.prog 46 #[.int .i64 (n : Int), .func (.yield l) #[] #[]] W fun e W' => Told Kp J Jx pre [(n : Int)] W e W' := by
  refine callsIn_of_wp Tryz.func46 rfl trivial ?_ rfl
  simp only [Tryz.ntmps46, List.size_toArray, List.length_cons, List.length_nil, Nat.reduceAdd, Nat.reduceSub, Array.replicate_succ, Array.replicate_zero, List.push_toArray, List.append_toArray, List.nil_append, List.cons_append]
  obtain ⟨fn, tmps, assign, body, hy, hR⟩ := hY (m - 1) pre n W hJ hpl
  gi_wp2
  refine ⟨hdd _, hR.mono ?_⟩
  rintro e W1 (⟨rfl, hJ1, hb1⟩ | ⟨rfl, hx1⟩)
  · gi_wp2
    go_ret
    exact .inl ⟨rfl, hJ1, hb1⟩
  · gi_wp2
    go_ret
    exact .inr ⟨rfl, _, hx1⟩
set_option maxHeartbeats 2000000 in
theorem tellAllI (l : Nat) (Kp : World → World → Prop) (hKr : ∀ A, Kp A A) (hKt : ∀ {A B C : World}, Kp A B → Kp B C → Kp A C) (N : Nat) (J Jx : List Int → World → Prop) (hY : Yl l Kp N J Jx) (m lo : Nat) (a : Option Addr) (c : Nat) (xs : List Int) (hn : xs.length ≤ 1048576) (pre : List Int) (hpl : pre.length + xs.length ≤ N) (W : World) (hJ : J pre W) (hk : ∀ W1, Kp W W1 → IntsAt W1 lo a xs) :
    CallsIn Fence.wide m Tryz.prog 115 #[.slice a xs.length c, .func (.yield l) #[] #[]] W fun e W' => Told Kp J Jx pre xs W e W' := by
  refine callsIn_of_wp Tryz.func115 rfl trivial ?_ rfl
  simp only [Tryz.ntmps115, List.size_toArray, List.length_cons, List.length_nil, Nat.reduceAdd, Nat.reduceSub, Array.replicate_succ, Array.replicate_zero, List.push_toArray, List.append_toArray, List.nil_append, List.cons_append]
  gi_wp2
  gi_loopw [9] (fun i wr => ∃ k : Nat, k ≤ xs.length ∧ i = .int .i64 k ∧ Hid (J (pre ++ xs.take k) wr) ∧ Hid (Kp W wr)) (fun i _ => xs.length - (intOf i).toNat)
  case atStart => exact ⟨0, by omega, rfl, by show J _ _; simpa using hJ, hKr _⟩
  case round =>
    obtain ⟨k, hk1, rfl, HJ, HB⟩ := hrel
    by_cases hlt : k < xs.length
    · obtain ⟨b, off, rfl, e1⟩ := ints_cellP (hk wr HB.out) hlt
      have HT : Hid (xs.take (k + 1) = xs.take k ++ [xs.getD k 0]) := take_snoc hlt
      generalize xs.getD k 0 = x at e1 HT
      obtain ⟨fn, tmps, assign, body, hy, hR⟩ := hY (m - 1) (pre ++ xs.take k) x wr HJ.out (by rw [List.length_append, List.length_take]; omega)
      gi_wp2
      refine ⟨hdd _, hR.mono ?_⟩
      rintro e W1 (⟨rfl, hJ1, hb1⟩ | ⟨rfl, hx1⟩)
      · have HJ1 : Hid (J (pre ++ xs.take (k + 1)) W1) := by show J _ _; rw [HT.out, ← List.append_assoc]; exact hJ1
        have HB1 : Hid (Kp W W1) := hKt HB.out hb1
        clear hJ1 hb1
        gi_wp2
        go_roundw
        case rel => exact ⟨k + 1, by omega, by go_num, HJ1, HB1⟩
        case measure => simp [intOf]; omega
      · have hx2 : ∃ q, Jx q W1 := ⟨_, hx1⟩
        clear hx1
        gi_wp2
        go_ret
        exact .inr ⟨rfl, hx2⟩
    · have HJ2 : Hid (J (pre ++ xs) wr) := by
        show J _ _
        have := HJ.out
        rw [List.take_of_length_le (by omega)] at this
        exact this
      gi_wp2
      go_ret
      exact .inl ⟨rfl, HJ2.out, HB.out⟩
set_option maxHeartbeats 2000000 in
theorem tellListI (l : Nat) (Kp : World → World → Prop) (hKr : ∀ A, Kp A A) (hKt : ∀ {A B C : World}, Kp A B → Kp B C → Kp A C) (N : Nat) (J Jx : List Int → World → Prop) (hY : Yl l Kp N J Jx) (m lo : Nat) (a : Option Addr) (c : Nat) (xs : List Int) (hn : xs.length ≤ 1048576) (pre : List Int) (hpl : pre.length + (xs.length + 1) ≤ N) (W : World) (hJ : J pre W) (hk : ∀ W1, Kp W W1 → IntsAt W1 lo a xs) :
    CallsIn Fence.wide m Tryz.prog 82 #[.slice a xs.length c, .func (.yield l) #[] #[]] W fun e W' => Told Kp J Jx pre (listN xs) W e W' := by
  have C := tellCountI l Kp hKr hKt N J Jx hY (m - 1) xs.length hn pre (by omega) W hJ
  have A : Hid (∀ W1, J (pre ++ [(xs.length : Int)]) W1 → Kp W W1 → CallsIn Fence.wide (m - 1) Tryz.prog 115 #[.slice a xs.length c, .func (.yield l) #[] #[]] W1 fun e W' => Told Kp J Jx (pre ++ [(xs.length : Int)]) xs W1 e W') := fun W1 h1 h2 =>
    tellAllI l Kp hKr hKt N J Jx hY (m - 1) lo a c xs hn _ (by rw [List.length_append, List.length_singleton]; omega) W1 h1 (fun W2 h3 => hk W2 (hKt h2 h3))
  refine callsIn_of_wp Tryz.func82 rfl trivial ?_ rfl
  simp only [Tryz.ntmps82, List.size_toArray, List.length_cons, List.length_nil, Nat.reduceAdd, Nat.reduceSub, Array.replicate_succ, Array.replicate_zero, List.push_toArray, List.append_toArray, List.nil_append, List.cons_append]
  gi_wp2
  refine ⟨trivial, hdd _, C.mono ?_⟩
  clear C
  rintro e W1 (⟨rfl, hJ1, hb1⟩ | ⟨rfl, hx1⟩)
  · have A1 := A.out W1 hJ1 hb1
    have HB1 : Hid (Kp W W1) := hb1
    clear A hJ1 hb1
    gi_wp2
    refine ⟨trivial, hdd _, A1.mono ?_⟩
    clear A1
    rintro e W2 (⟨rfl, hJ2, hb2⟩ | ⟨rfl, hx2⟩)
    · have HJ2 : Hid (J (pre ++ listN xs) W2) := by show J _ _; unfold listN; rw [List.append_cons]; exact hJ2
      have HB2 : Hid (Kp W W2) := hKt HB1.out hb2
      clear hJ2 hb2
      gi_wp2
      go_ret
      exact .inl ⟨rfl, HJ2.out, HB2.out⟩
    · gi_wp2
      go_ret
      exact .inr ⟨rfl, hx2⟩
  · gi_wp2
    refine ⟨trivial, ?_⟩
    gi_wp2
    go_ret
    exact .inr ⟨rfl, hx1⟩
end Go.Proofs.YtojhakjkfkmklaaGreatDoor
namespace Go.Proofs.YtojhakjkfkmklaaGreatDoor
open Go.RowKit Go.Shelf
attribute [local go_sem] Oper.semAt_some
set_option linter.unusedVariables false

theorem hasI (op : Int) (w : World) : Calls Tryz.prog 116 #[.int .i64 op] w fun e w' => e = .returned (.bool (immM op)) ∧ w' = w := by
  by_cases h1 : op = 21
  · subst h1
    go_enter Tryz.func116, Tryz.ntmps116
    go_wp2_with fail
    go_ret
    exact ⟨rfl, rfl⟩
  · have n1 : (op == 21) = false := by simpa using h1
    have E : Hid (immM op = (op == 26)) := by show _ = _; simp [immM, n1]
    go_enter Tryz.func116, Tryz.ntmps116
    go_wp2_with fail
    go_ret
    exact ⟨by rw [E.out]; rfl, rfl⟩
theorem termNsI (d : TermD) (w : World) :
    Calls Tryz.prog 118 #[.agg #[.int .i64 d.kind, .int .i64 d.a, .int .i64 d.x, .int .i64 d.y]] w fun e w' => ∃ v r, e = .returned (.slice v (termNs d).length r) ∧ OwnAt w' w.heap.size v (termNs d) ∧ Below w.heap.size w w' := by
  obtain ⟨k, a, x, y⟩ := d
  dsimp only
  by_cases h1 : k = 1
  · subst h1
    have E : termNs ⟨1, a, x, y⟩ = [a] := by simp [termNs]
    rw [E]
    go_enter Tryz.func118, Tryz.ntmps118
    go_wp2_with fail
    go_ret
    exact ⟨_, _, rfl, own_mk2 rfl (by simp) (one_cells a), ((Below.refl _ _).alloc (Nat.le_refl _) _).alloc (by simp) _⟩
  by_cases h2 : k = 2
  · subst h2
    have E : termNs ⟨2, a, x, y⟩ = [x] := by simp [termNs]
    rw [E]
    go_enter Tryz.func118, Tryz.ntmps118
    go_wp2_with fail
    go_ret
    exact ⟨_, _, rfl, own_mk2 rfl (by simp) (one_cells x), ((Below.refl _ _).alloc (Nat.le_refl _) _).alloc (by simp) _⟩
  by_cases h3 : k = 3
  · subst h3
    have E : termNs ⟨3, a, x, y⟩ = [a, x, y] := by simp [termNs]
    rw [E]
    go_enter Tryz.func118, Tryz.ntmps118
    go_wp2_with fail
    go_ret
    exact ⟨_, _, rfl, own_mk2 rfl (by simp) (three_cells a x y), ((Below.refl _ _).alloc (Nat.le_refl _) _).alloc (by simp) _⟩
  have E : termNs ⟨k, a, x, y⟩ = [] := by simp [termNs, h1, h2, h3]
  rw [E]
  have n1 : (k == 1) = false := by simpa using h1
  have n2 : (k == 2) = false := by simpa using h2
  have n3 : (k == 3) = false := by simpa using h3
  go_enter Tryz.func118, Tryz.ntmps118
  go_wp2_with fail
  go_ret
  exact ⟨_, _, rfl, ⟨by simp, .inl rfl⟩, (Below.refl _ _).alloc (Nat.le_refl _) _⟩
/-- What is asked of a loop: what a round keeps, and what it has. -/
structure LpM (l : Nat) (Kp : World → World → Prop) (N : Nat) (J Jx : List Int → World → Prop) : Prop where
  kr : ∀ A, Kp A A
  kt : ∀ {A B C : World}, Kp A B → Kp B C → Kp A C
  kb : ∀ {A B : World}, Below A.heap.size A B → Kp A B
  kc : ∀ {A B : World}, Kp A B → ∀ (i : Nat) (cs : Array Value) (t : TypeId), A.heap[i]? = some (.cells cs t (0, 0)) → t ≠ 5 → t ≠ 64 → B.heap[i]? = A.heap[i]?
  y : Yl l Kp N J Jx
  jb : ∀ (pre : List Int) {A B : World}, J pre A → Below A.heap.size A B → J pre B
theorem LpM.own {l : Nat} {Kp : World → World → Prop} {N : Nat} {J Jx : List Int → World → Prop} (h : LpM l Kp N J Jx) {A B : World} (k : Kp A B) {n : Nat} {v : Option Addr} {xs : List Int} (o : OwnAt A n v xs) : IntsAt B n v xs := by
  refine OwnAt.ints ⟨o.1, ?_⟩
  rcases o.2 with e | ⟨g, cur, ha, hg, hc, hv⟩
  · exact .inl e
  · exact .inr ⟨g, cur, ha, hg, (h.kc k g cur _ hc (by decide) (by decide)).trans hc, hv⟩
theorem LpM.at {l : Nat} {Kp : World → World → Prop} {N : Nat} {J Jx : List Int → World → Prop} (h : LpM l Kp N J Jx) {A B : World} (k : Kp A B) {g : Nat} {cs : Array Value} {t : TypeId} (o : At A g cs t) (h1 : t ≠ 5) (h2 : t ≠ 64) : At B g cs t := (h.kc k g cs t o h1 h2).trans o
set_option maxHeartbeats 2000000 in
theorem tellTermI (l : Nat) (Kp : World → World → Prop) (N : Nat) (J Jx : List Int → World → Prop) (hL : LpM l Kp N J Jx) (m : Nat) (d : TermD) (pre : List Int) (hpl : pre.length + (termM d).length ≤ N) (W : World) (hJ : J pre W) :
    CallsIn Fence.wide m Tryz.prog 85 #[.agg #[.int .i64 d.kind, .int .i64 d.a, .int .i64 d.x, .int .i64 d.y], .func (.yield l) #[] #[]] W fun e W' => Told Kp J Jx pre (termM d) W e W' := by
  have B0 : Below W.heap.size W (W.alloc (.cells #[.int .i64 d.kind, .int .i64 d.a, .int .i64 d.x, .int .i64 d.y] 84)) := (Below.refl _ _).alloc (Nat.le_refl _) _
  have A0 := At.new W #[.int .i64 d.kind, .int .i64 d.a, .int .i64 d.x, .int .i64 d.y] 84
  have hM : (termM d).length = 1 + (termNs d).length := by unfold termM; rw [List.length_cons]; omega
  have hTl := termM_len d
  have HM : Hid (pre ++ termM d = pre ++ [d.kind] ++ termNs d) := by show _ = _; unfold termM; simp
  refine callsIn_of_wp Tryz.func85 rfl trivial ?_ rfl
  simp only [Tryz.ntmps85, List.size_toArray, List.length_cons, List.length_nil, Nat.reduceAdd, Nat.reduceSub, Array.replicate_succ, Array.replicate_zero, List.push_toArray, List.append_toArray, List.nil_append, List.cons_append]
  obtain ⟨fn, tmps, assign, body, hy, hR⟩ := hL.y (m - 1) pre d.kind _ (hL.jb pre hJ B0) (by omega)
  gi_wp2
  refine ⟨hdd _, hR.mono ?_⟩
  clear hR
  rintro e W1 (⟨rfl, hJ1, hb1⟩ | ⟨rfl, hx1⟩)
  · have A1 := hL.at hb1 A0 (by decide) (by decide)
    have HK1 : Hid (Kp W W1) := hL.kt (hL.kb B0) hb1
    have c0 := (A1.cell 0).trans rfl
    have c1 := (A1.cell 1).trans rfl
    have c2 := (A1.cell 2).trans rfl
    have c3 := (A1.cell 3).trans rfl
    gi_wp2
    refine ⟨trivial, hdd _, (callsIn_wide.2 (termNsI d W1)).mono ?_⟩
    rintro e W2 ⟨v, r, rfl, o2, b2⟩
    have TA := tellAllI l Kp hL.kr hL.kt N J Jx hL.y (m - 1) W1.heap.size v r (termNs d) (by omega) (pre ++ [d.kind]) (by rw [List.length_append, List.length_singleton]; omega) W2 (hL.jb _ hJ1 b2) (fun V hV => hL.own hV o2)
    have HK2 : Hid (Kp W W2) := hL.kt HK1.out (hL.kb b2)
    clear c0 c1 c2 c3
    gi_wp2
    refine ⟨trivial, hdd _, TA.mono ?_⟩
    rintro e W3 (⟨rfl, hJ3, hb3⟩ | ⟨rfl, hx3⟩)
    · have hJ4 : J (pre ++ termM d) W3 := by rw [HM.out]; exact hJ3
      have HK3 := hL.kt HK2.out hb3
      gi_wp2
      go_ret
      exact .inl ⟨rfl, hJ4, HK3⟩
    · gi_wp2
      go_ret
      exact .inr ⟨rfl, hx3⟩
  · gi_wp2
    refine ⟨trivial, ?_⟩
    gi_wp2
    refine ⟨trivial, ?_⟩
    gi_wp2
    go_ret
    exact .inr ⟨rfl, _, hx1⟩
set_option maxHeartbeats 4000000 in
theorem tellPhisI (l : Nat) (Kp : World → World → Prop) (N : Nat) (J Jx : List Int → World → Prop) (hL : LpM l Kp N J Jx) (m lo : Nat) (a : Option Addr) (c : Nat) (xs : List PhiD) (hn : xs.length ≤ 1048576) (hi : ∀ p ∈ xs, p.ins.length ≤ 10) (pre : List Int) (hpl : pre.length + (phisM xs).length ≤ N) (W w0 : World) (hJ : J pre W) (hA : ∀ V, Kp W V → Agree lo w0 V) (hk : PhisAt w0 lo a xs) :
    CallsIn Fence.wide m Tryz.prog 83 #[.slice a xs.length c, .func (.yield l) #[] #[]] W fun e W' => Told Kp J Jx pre (phisM xs) W e W' := by
  have hM : (phisM xs).length = 1 + (xs.flatMap phiM).length := by unfold phisM; rw [List.length_cons]; omega
  have HK : Hid (PhisAt w0 lo a xs) := hk
  have HA : Hid (∀ V, Kp W V → Agree lo w0 V) := hA
  have HI : Hid (∀ p ∈ xs, p.ins.length ≤ 10) := hi
  clear hk hi hA
  have C := tellCountI l Kp hL.kr hL.kt N J Jx hL.y (m - 1) xs.length hn pre (by omega) W hJ
  refine callsIn_of_wp Tryz.func83 rfl trivial ?_ rfl
  simp only [Tryz.ntmps83, List.size_toArray, List.length_cons, List.length_nil, Nat.reduceAdd, Nat.reduceSub, Array.replicate_succ, Array.replicate_zero, List.push_toArray, List.append_toArray, List.nil_append, List.cons_append]
  gi_wp2
  refine ⟨trivial, hdd _, C.mono ?_⟩
  clear C
  rintro e W1 (⟨rfl, hJ1, hb1⟩ | ⟨rfl, hx1⟩)
  · gi_wp2
    gi_loopw [14] (fun i wr => ∃ k : Nat, k ≤ xs.length ∧ i = .int .i64 k ∧ Hid (J (pre ++ [(xs.length : Int)] ++ (xs.take k).flatMap phiM) wr) ∧ Hid (Kp W wr)) (fun i _ => xs.length - (intOf i).toNat)
    case atStart => exact ⟨0, by omega, rfl, by show J _ _; simpa using hJ1, hb1⟩
    case round =>
      obtain ⟨k, hk1, rfl, HJ, HB⟩ := hrel
      by_cases hlt : k < xs.length
      · rcases HK.out.2 with hz | ⟨bp, op, rfl, hlop, hbp, hcell⟩
        · simp [hz] at hlt
        obtain ⟨e0', ⟨i0, j0, e1', m1⟩⟩ := hcell k hlt
        have e0 := (cell_agree (HA.out wr HB.out) hlop hbp).trans e0'
        have e1 := (cell_agree (HA.out wr HB.out) hlop hbp).trans e1'
        have hyi := HI.out _ (getD_mem phi0 xs k hlt)
        have hfs := flat_snoc (z := phi0) phiM hlt
        have hfl := flat_le xs phiM (k + 1)
        rw [hfs, List.length_append] at hfl
        have HN : Hid ((xs.take (k + 1)).flatMap phiM = (xs.take k).flatMap phiM ++ phiM (xs.getD k phi0)) := hfs
        have HM1 : Hid (IntsAt w0 lo i0 (xs.getD k phi0).ins) := m1
        clear hfs hcell e0' e1' m1
        generalize xs.getD k phi0 = y at e0 e1 hyi hfl HN HM1
        generalize hR : (xs.take k).flatMap phiM = R at hfl HN HJ
        have hPM : (phiM y).length = y.ins.length + 2 := by simp [phiM, listN]
        have B0 : Below wr.heap.size wr (wr.alloc (.cells #[.int .i64 y.w, .slice i0 y.ins.length j0] 88)) := (Below.refl _ _).alloc (Nat.le_refl _) _
        have A0 := At.new wr #[.int .i64 y.w, .slice i0 y.ins.length j0] 88
        obtain ⟨fn, tmps, assign, body, hy, hR2⟩ := hL.y (m - 1) _ y.w _ (hL.jb _ HJ.out B0) (by simp only [List.length_append, List.length_cons, List.length_nil]; omega)
        clear hR
        gi_wp2
        refine ⟨hdd _, hR2.mono ?_⟩
        clear hR2
        rintro e W2 (⟨rfl, hJ2, hb2⟩ | ⟨rfl, hx2⟩)
        · have HK2 : Hid (Kp W W2) := hL.kt HB.out (hL.kt (hL.kb B0) hb2)
          have A2 := hL.at hb2 A0 (by decide) (by decide)
          have c1 := (A2.cell 1).trans rfl
          have TL := tellListI l Kp hL.kr hL.kt N J Jx hL.y (m - 1) lo i0 j0 y.ins (by omega) _ (by simp only [List.length_append, List.length_cons, List.length_nil]; omega) W2 hJ2 (fun V hV => HM1.out.keep (HA.out V (hL.kt HK2.out hV)))
          clear hJ2 hb2
          gi_wp2
          refine ⟨trivial, hdd _, TL.mono ?_⟩
          clear TL
          rintro e W3 (⟨rfl, hJ3, hb3⟩ | ⟨rfl, hx3⟩)
          · have HJ3 : Hid (J (pre ++ [(xs.length : Int)] ++ (xs.take (k + 1)).flatMap phiM) W3) := by
              show J _ _
              rw [HN.out]
              have := hJ3
              unfold phiM
              simpa [List.append_assoc] using this
            have HK3 : Hid (Kp W W3) := hL.kt HK2.out hb3
            clear hJ3 hb3
            gi_wp2
            go_roundw
            case rel => exact ⟨k + 1, by omega, by go_num, HJ3, HK3⟩
            case measure => simp [intOf]; omega
          · gi_wp2
            go_ret
            exact .inr ⟨rfl, hx3⟩
        · gi_wp2
          refine ⟨trivial, ?_⟩
          gi_wp2
          go_ret
          exact .inr ⟨rfl, _, hx2⟩
      · have HJ2 : Hid (J (pre ++ phisM xs) wr) := by
          show J _ _
          have := HJ.out
          rw [flat_all xs phiM hlt] at this
          unfold phisM
          simpa [List.append_assoc] using this
        gi_wp2
        go_ret
        exact .inl ⟨rfl, HJ2.out, HB.out⟩
  · gi_wp2
    go_ret
    exact .inr ⟨rfl, hx1⟩
end Go.Proofs.YtojhakjkfkmklaaGreatDoor
namespace Go.Proofs.YtojhakjkfkmklaaGreatDoor
open Go.RowKit Go.Shelf
attribute [local go_sem] Oper.semAt_some
set_option linter.unusedVariables false

set_option maxHeartbeats 8000000 in
theorem tellInstsI (l : Nat) (Kp : World → World → Prop) (N : Nat) (J Jx : List Int → World → Prop) (hL : LpM l Kp N J Jx) (m lo : Nat) (a : Option Addr) (c : Nat) (xs : List InstD) (hn : xs.length ≤ 1048576) (hi : ∀ p ∈ xs, SmInst p ∧ (opsD p).length ≤ 4) (pre : List Int) (hpl : pre.length + (instsM xs).length ≤ N) (W w0 : World) (hJ : J pre W) (hA : ∀ V, Kp W V → Agree lo w0 V) (hk : InstsAt w0 lo a xs) :
    CallsIn Fence.wide m Tryz.prog 84 #[.slice a xs.length c, .func (.yield l) #[] #[]] W fun e W' => Told Kp J Jx pre (instsM xs) W e W' := by
  have hM : (instsM xs).length = 1 + (xs.flatMap instM).length := by unfold instsM; rw [List.length_cons]; omega
  have HK : Hid (InstsAt w0 lo a xs) := hk
  have HA : Hid (∀ V, Kp W V → Agree lo w0 V) := hA
  have HI0 : Hid (∀ p ∈ xs, SmInst p ∧ (opsD p).length ≤ 4) := hi
  clear hk hi hA
  have C := tellCountI l Kp hL.kr hL.kt N J Jx hL.y (m - 1) xs.length hn pre (by omega) W hJ
  refine callsIn_of_wp Tryz.func84 rfl trivial ?_ rfl
  simp only [Tryz.ntmps84, List.size_toArray, List.length_cons, List.length_nil, Nat.reduceAdd, Nat.reduceSub, Array.replicate_succ, Array.replicate_zero, List.push_toArray, List.append_toArray, List.nil_append, List.cons_append]
  gi_wp2
  refine ⟨trivial, hdd _, C.mono ?_⟩
  clear C
  rintro e W1 (⟨rfl, hJ1, hb1⟩ | ⟨rfl, hx1⟩)
  · gi_wp2
    gi_loopw [14] (fun i wr => ∃ k : Nat, k ≤ xs.length ∧ i = .int .i64 k ∧ Hid (J (pre ++ [(xs.length : Int)] ++ (xs.take k).flatMap instM) wr) ∧ Hid (Kp W wr)) (fun i _ => xs.length - (intOf i).toNat)
    case atStart => exact ⟨0, by omega, rfl, by show J _ _; simpa using hJ1, hb1⟩
    case round =>
      obtain ⟨k, hk1, rfl, HJ, HB⟩ := hrel
      by_cases hlt : k < xs.length
      · rcases HK.out.2 with hz | ⟨bp, op, rfl, hlop, hbp, hcell⟩
        · simp [hz] at hlt
        obtain ⟨e0', e1', e2', e3', e4', e5', ⟨i0, j0, e6', m1⟩⟩ := hcell k hlt
        have hag := HA.out wr HB.out
        have e0 := (cell_agree hag hlop hbp).trans e0'
        have e1 := (cell_agree hag hlop hbp).trans e1'
        have e2 := (cell_agree hag hlop hbp).trans e2'
        have e3 := (cell_agree hag hlop hbp).trans e3'
        have e4 := (cell_agree hag hlop hbp).trans e4'
        have e5 := (cell_agree hag hlop hbp).trans e5'
        have e6 := (cell_agree hag hlop hbp).trans e6'
        obtain ⟨his, hops⟩ := HI0.out _ (getD_mem inst0 xs k hlt)
        have hfs := flat_snoc (z := inst0) instM hlt
        have hfl := flat_le xs instM (k + 1)
        rw [hfs, List.length_append] at hfl
        have HN : Hid ((xs.take (k + 1)).flatMap instM = (xs.take k).flatMap instM ++ instM (xs.getD k inst0)) := hfs
        have HM1 : Hid (IntsAt w0 lo i0 (xs.getD k inst0).args) := m1
        clear hfs hcell e0' e1' e2' e3' e4' e5' e6' m1 hag
        generalize xs.getD k inst0 = y at e0 e1 e2 e3 e4 e5 e6 his hops hfl HN HM1
        generalize (xs.take k).flatMap instM = R at hfl HN HJ
        have hPM : (instM y).length = (if immM y.op = true then 1 else 0) + (opsD y).length + 3 := by unfold instM listN; split <;> simp <;> omega
        have B0 : Below wr.heap.size wr (wr.alloc (.cells #[.int .i64 y.op, .int .i64 y.w, .int .i64 y.a, .int .i64 y.b, .int .i64 y.c, .int .i64 y.imm, .slice i0 y.args.length j0] 91)) := (Below.refl _ _).alloc (Nat.le_refl _) _
        have A0 := At.new wr #[.int .i64 y.op, .int .i64 y.w, .int .i64 y.a, .int .i64 y.b, .int .i64 y.c, .int .i64 y.imm, .slice i0 y.args.length j0] 91
        have hPM3 : 3 ≤ (instM y).length := by omega
        obtain ⟨fn, tmps, assign, body, hy, hR2⟩ := hL.y (m - 1) _ y.op _ (hL.jb _ HJ.out B0) (by simp only [List.length_append, List.length_cons, List.length_nil]; omega)
        gi_wp2
        refine ⟨hdd _, hR2.mono ?_⟩
        clear hR2
        rintro e W2 (⟨rfl, hJ2, hb2⟩ | ⟨rfl, hx2⟩)
        · have HK2 : Hid (Kp W W2) := hL.kt HB.out (hL.kt (hL.kb B0) hb2)
          have A2 := hL.at hb2 A0 (by decide) (by decide)
          have d1 := (A2.cell 1).trans rfl
          obtain ⟨fn2, tmps2, assign2, body2, hy2, hR3⟩ := hL.y (m - 1) _ y.w W2 hJ2 (by simp only [List.length_append, List.length_cons, List.length_nil]; omega)
          clear hJ2 hb2
          gi_wp2
          refine ⟨hdd _, hR3.mono ?_⟩
          clear hR3
          rintro e W3 (⟨rfl, hJ3, hb3⟩ | ⟨rfl, hx3⟩)
          · have HK3 : Hid (Kp W W3) := hL.kt HK2.out hb3
            have A3 := hL.at hb3 A2 (by decide) (by decide)
            have HJ3 : Hid (J _ W3) := hJ3
            clear hJ3 hb3 d1
            have d0 := (A3.cell 0).trans rfl
            have d5 := (A3.cell 5).trans rfl
            gi_wp2
            refine ⟨trivial, hdd _, (callsIn_wide.2 (hasI y.op W3)).mono ?_⟩
            rintro e W9 ⟨rfl, h9⟩
            have h8 := h9.symm
            clear h9
            subst h8
            by_cases hi : immM y.op = true
            · have HI : Hid (immM y.op = true) := hi
              rw [if_pos hi] at hPM
              rw [hi]
              clear hi
              obtain ⟨fn3, tmps3, assign3, body3, hy3, hR4⟩ := hL.y (m - 1) _ y.imm W3 HJ3.out (by simp only [List.length_append, List.length_cons, List.length_nil]; omega)
              gi_wp2
              refine ⟨hdd _, hR4.mono ?_⟩
              clear hR4
              rintro e W4 (⟨rfl, hJ4, hb4⟩ | ⟨rfl, hx4⟩)
              · have HK4 : Hid (Kp W W4) := hL.kt HK3.out hb4
                have A4 := hL.at hb4 A3 (by decide) (by decide)
                have HJ4 : Hid (J _ W4) := hJ4
                clear hJ4 hb4 d0 d5
                have c0 := (A4.cell 0).trans rfl
                have c1 := (A4.cell 1).trans rfl
                have c2 := (A4.cell 2).trans rfl
                have c3 := (A4.cell 3).trans rfl
                have c4 := (A4.cell 4).trans rfl
                have c5 := (A4.cell 5).trans rfl
                have c6 := (A4.cell 6).trans rfl
                gi_wp2
                refine ⟨trivial, hdd _, (callsIn_wide.2 (operI lo y i0 j0 W4 his (HM1.out.keep (HA.out _ HK4.out)))).mono ?_⟩
                rintro e W6 ⟨v, r, rfl, o6, b6⟩
                have HK6 : Hid (Kp W W6) := hL.kt HK4.out (hL.kb b6)
                have TL := tellListI l Kp hL.kr hL.kt N J Jx hL.y (m - 1) W4.heap.size v r (opsD y) (by omega) _ (by simp only [List.length_append, List.length_cons, List.length_nil]; omega) W6 (hL.jb _ HJ4.out b6) (fun V hV => hL.own hV o6)
                clear c0 c1 c2 c3 c4 c5 c6 b6 o6
                gi_wp2
                refine ⟨trivial, hdd _, TL.mono ?_⟩
                clear TL
                rintro e W7 (⟨rfl, hJ7, hb7⟩ | ⟨rfl, hx7⟩)
                · have HJ7 : Hid (J (pre ++ [(xs.length : Int)] ++ (xs.take (k + 1)).flatMap instM) W7) := by
                    show J _ _
                    rw [HN.out]
                    have := hJ7
                    unfold instM
                    rw [if_pos HI.out]
                    simpa [List.append_assoc] using this
                  have HK7 : Hid (Kp W W7) := hL.kt HK6.out hb7
                  clear hJ7 hb7
                  gi_wp2
                  go_roundw
                  case rel => exact ⟨k + 1, by omega, by go_num, HJ7, HK7⟩
                  case measure => simp [intOf]; omega
                · gi_wp2
                  go_ret
                  exact .inr ⟨rfl, hx7⟩
              · gi_wp2_with (refine wpListIn_skip (by rfl) (by rfl) ?_)
                refine ⟨trivial, ?_⟩
                gi_wp2_with (refine wpListIn_skip (by rfl) (by rfl) ?_)
                refine ⟨trivial, ?_⟩
                gi_wp2_with (refine wpListIn_skip (by rfl) (by rfl) ?_)
                go_ret
                exact .inr ⟨rfl, _, hx4⟩
            · have HI : Hid (¬ immM y.op = true) := hi
              rw [if_neg hi] at hPM
              rw [Bool.not_eq_true] at hi
              rw [hi]
              clear hi d0 d5
              have c0 := (A3.cell 0).trans rfl
              have c1 := (A3.cell 1).trans rfl
              have c2 := (A3.cell 2).trans rfl
              have c3 := (A3.cell 3).trans rfl
              have c4 := (A3.cell 4).trans rfl
              have c5 := (A3.cell 5).trans rfl
              have c6 := (A3.cell 6).trans rfl
              gi_wp2_with (refine wpListIn_skip (by rfl) (by rfl) ?_)
              refine ⟨trivial, hdd _, (callsIn_wide.2 (operI lo y i0 j0 W3 his (HM1.out.keep (HA.out _ HK3.out)))).mono ?_⟩
              rintro e W6 ⟨v, r, rfl, o6, b6⟩
              have HK6 : Hid (Kp W W6) := hL.kt HK3.out (hL.kb b6)
              have TL := tellListI l Kp hL.kr hL.kt N J Jx hL.y (m - 1) W3.heap.size v r (opsD y) (by omega) _ (by simp only [List.length_append, List.length_cons, List.length_nil]; omega) W6 (hL.jb _ HJ3.out b6) (fun V hV => hL.own hV o6)
              clear c0 c1 c2 c3 c4 c5 c6 b6 o6
              gi_wp2
              refine ⟨trivial, hdd _, TL.mono ?_⟩
              clear TL
              rintro e W7 (⟨rfl, hJ7, hb7⟩ | ⟨rfl, hx7⟩)
              · have HJ7 : Hid (J (pre ++ [(xs.length : Int)] ++ (xs.take (k + 1)).flatMap instM) W7) := by
                  show J _ _
                  rw [HN.out]
                  have := hJ7
                  unfold instM
                  rw [if_neg HI.out]
                  simpa [List.append_assoc] using this
                have HK7 : Hid (Kp W W7) := hL.kt HK6.out hb7
                clear hJ7 hb7
                gi_wp2
                go_roundw
                case rel => exact ⟨k + 1, by omega, by go_num, HJ7, HK7⟩
                case measure => simp [intOf]; omega
              · gi_wp2
                go_ret
                exact .inr ⟨rfl, hx7⟩
          · gi_wp2_with (refine wpListIn_skip (by rfl) (by rfl) ?_)
            refine ⟨trivial, ?_⟩
            gi_wp2_with (refine wpListIn_skip (by rfl) (by rfl) ?_)
            refine ⟨trivial, ?_⟩
            gi_wp2_with (refine wpListIn_skip (by rfl) (by rfl) ?_)
            refine ⟨trivial, ?_⟩
            gi_wp2_with (refine wpListIn_skip (by rfl) (by rfl) ?_)
            go_ret
            exact .inr ⟨rfl, _, hx3⟩
        · gi_wp2_with (refine wpListIn_skip (by rfl) (by rfl) ?_)
          refine ⟨trivial, ?_⟩
          gi_wp2_with (refine wpListIn_skip (by rfl) (by rfl) ?_)
          refine ⟨trivial, ?_⟩
          gi_wp2_with (refine wpListIn_skip (by rfl) (by rfl) ?_)
          refine ⟨trivial, ?_⟩
          gi_wp2_with (refine wpListIn_skip (by rfl) (by rfl) ?_)
          go_ret
          exact .inr ⟨rfl, _, hx2⟩
      · have HJ2 : Hid (J (pre ++ instsM xs) wr) := by
          show J _ _
          have := HJ.out
          rw [flat_all xs instM hlt] at this
          unfold instsM
          simpa [List.append_assoc] using this
        gi_wp2
        go_ret
        exact .inl ⟨rfl, HJ2.out, HB.out⟩
  · gi_wp2
    go_ret
    exact .inr ⟨rfl, hx1⟩
end Go.Proofs.YtojhakjkfkmklaaGreatDoor
