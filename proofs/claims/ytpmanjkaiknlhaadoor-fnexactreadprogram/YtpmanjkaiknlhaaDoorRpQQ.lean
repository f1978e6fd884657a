/- Marks through a program's rows, and what is held of them. -/
import Derived.Test.YtpmanjkaiknlhaaDoorRpKQ
import Derived.Test.YtpmanjkaiknlhaaDoorMrA
import Derived.Test.YtpmanjkaiknlhaaDoorPgE
import Derived.Test.YtpmanjkaiknlhaaDoorRpO
namespace Go.Proofs.YtpmanjkaiknlhaaDoor
open Go.RowKit
set_option linter.unusedVariables false
set_option linter.unusedSimpArgs false

def at7 (p i : Nat) (v0 v1 v2 v3 v4 v5 v6 : Value) : Value := if i = p then v0 else if i = p + 1 then v1 else if i = p + 2 then v2 else if i = p + 3 then v3 else if i = p + 4 then v4 else if i = p + 5 then v5 else v6
theorem set7_get (cj : Array Value) (p : Nat) (hp : p + 7 ≤ cj.size) {v0 v1 v2 v3 v4 v5 v6 : Value} {i : Nat} :
    (((((((cj.setIfInBounds p v0).setIfInBounds (p + 1) v1).setIfInBounds (p + 2) v2).setIfInBounds (p + 3) v3).setIfInBounds (p + 4) v4).setIfInBounds (p + 5) v5).setIfInBounds (p + 6) v6)[i]? = if p ≤ i ∧ i < p + 7 then some (at7 p i v0 v1 v2 v3 v4 v5 v6) else cj[i]? := by
  simp only [Array.getElem?_setIfInBounds, Array.size_setIfInBounds, at7]
  by_cases h : p ≤ i ∧ i < p + 7
  · rw [if_pos h]
    rcases (by omega : i = p ∨ i = p + 1 ∨ i = p + 2 ∨ i = p + 3 ∨ i = p + 4 ∨ i = p + 5 ∨ i = p + 6) with rfl | rfl | rfl | rfl | rfl | rfl | rfl <;> simp <;> omega
  · rw [if_neg h]
    repeat rw [if_neg (by omega)]
theorem set7_val (k : Int) (p i : Nat) (h : p ≤ i) (h2 : i < p + 7) : some (at7 p i (.int .i64 (k + (p : Int))) (.int .i64 (k + (p : Int) + 1)) (.int .i64 (k + (p : Int) + 1 + 1)) (.int .i64 (k + (p : Int) + 1 + 1 + 1)) (.int .i64 (k + (p : Int) + 1 + 1 + 1 + 1)) (.int .i64 (k + (p : Int) + 1 + 1 + 1 + 1 + 1)) (.int .i64 (k + (p : Int) + 1 + 1 + 1 + 1 + 1 + 1))) = some (.int .i64 (k + (i : Int))) := by
  unfold at7
  rcases (by omega : i = p ∨ i = p + 1 ∨ i = p + 2 ∨ i = p + 3 ∨ i = p + 4 ∨ i = p + 5 ∨ i = p + 6) with rfl | rfl | rfl | rfl | rfl | rfl | rfl <;> simp <;> omega
set_option maxHeartbeats 2000000 in
theorem markMx (g c n : Nat) (k : Int) (cur : Array Value) (w : World) (hn : n ≤ 1048576) (hk0 : 0 ≤ k) (hk : k ≤ 4611686018427387904) (hb : w.heap[g]? = some (.cells cur 38 (0, 0))) (hc : ∀ i, i < n * 7 → ∃ z : Int, cur[i]? = some (.int .i64 z)) :
    Calls Tryd.prog 19 #[.slice (some ⟨g, 0, none⟩) n c, .int .i64 k] w fun e w' => e = .returned (.int .i64 (k + 7 * n)) ∧ Only g w w' ∧ ∃ cur', w'.heap[g]? = some (.cells cur' 38 (0, 0)) ∧ Cur cur cur' ∧ ∀ i : Nat, i < 7 * n → cur'[i]? = some (.int .i64 (k + i)) := by
  have HB : Hid (w.heap[g]? = some (.cells cur 38 (0, 0))) := hb
  have HC : Hid (∀ i, i < n * 7 → ∃ z : Int, cur[i]? = some (.int .i64 z)) := hc
  clear hb hc
  go_enter Tryd.func19, Tryd.ntmps19
  go_wp2_with fail
  go_loopw [1, 5] (fun q i wr => ∃ (j : Nat) (cj : Array Value), j ≤ n ∧ i = .int .i64 j ∧ q = .int .i64 (k + 7 * j) ∧ Hid (wr.heap[g]? = some (.cells cj 38 (0, 0))) ∧ Hid (Cur cur cj) ∧ Hid (Only g w wr) ∧ Hid (∀ i : Nat, i < 7 * j → cj[i]? = some (.int .i64 (k + i)))) (fun _ i _ => n - (intOf i).toNat)
  case atStart => exact ⟨0, cur, by omega, rfl, by simp, HB.out, Cur.refl _, Only.refl _ _, fun i hi => by omega⟩
  case round =>
    obtain ⟨j, cj, hj, rfl, rfl, HJ, HCu, HO, HM⟩ := hrel
    by_cases hlt : j < n
    · have hjn : (j : Int) < n := by omega
      obtain ⟨z0, hz0⟩ := HC.out (j * 7) (by omega)
      obtain ⟨y0, hy0⟩ := HCu.out.int hz0
      have e0 : wr.cell? ⟨g, j * 7, none⟩ = some (.int .i64 y0) := (cell_of_heap HJ.out).trans hy0
      have f0 : wr.frozen? ⟨g, j * 7, none⟩ = false := froz_of_heap HJ.out
      obtain ⟨z1, hz1⟩ := HC.out (j * 7 + 1) (by omega)
      obtain ⟨y1, hy1⟩ := HCu.out.int hz1
      have e1 : wr.cell? ⟨g, j * 7 + 1, none⟩ = some (.int .i64 y1) := (cell_of_heap HJ.out).trans hy1
      have f1 : wr.frozen? ⟨g, j * 7 + 1, none⟩ = false := froz_of_heap HJ.out
      obtain ⟨z2, hz2⟩ := HC.out (j * 7 + 2) (by omega)
      obtain ⟨y2, hy2⟩ := HCu.out.int hz2
      have e2 : wr.cell? ⟨g, j * 7 + 2, none⟩ = some (.int .i64 y2) := (cell_of_heap HJ.out).trans hy2
      have f2 : wr.frozen? ⟨g, j * 7 + 2, none⟩ = false := froz_of_heap HJ.out
      obtain ⟨z3, hz3⟩ := HC.out (j * 7 + 3) (by omega)
      obtain ⟨y3, hy3⟩ := HCu.out.int hz3
      have e3 : wr.cell? ⟨g, j * 7 + 3, none⟩ = some (.int .i64 y3) := (cell_of_heap HJ.out).trans hy3
      have f3 : wr.frozen? ⟨g, j * 7 + 3, none⟩ = false := froz_of_heap HJ.out
      obtain ⟨z4, hz4⟩ := HC.out (j * 7 + 4) (by omega)
      obtain ⟨y4, hy4⟩ := HCu.out.int hz4
      have e4 : wr.cell? ⟨g, j * 7 + 4, none⟩ = some (.int .i64 y4) := (cell_of_heap HJ.out).trans hy4
      have f4 : wr.frozen? ⟨g, j * 7 + 4, none⟩ = false := froz_of_heap HJ.out
      obtain ⟨z5, hz5⟩ := HC.out (j * 7 + 5) (by omega)
      obtain ⟨y5, hy5⟩ := HCu.out.int hz5
      have e5 : wr.cell? ⟨g, j * 7 + 5, none⟩ = some (.int .i64 y5) := (cell_of_heap HJ.out).trans hy5
      have f5 : wr.frozen? ⟨g, j * 7 + 5, none⟩ = false := froz_of_heap HJ.out
      obtain ⟨z6, hz6⟩ := HC.out (j * 7 + 6) (by omega)
      obtain ⟨y6, hy6⟩ := HCu.out.int hz6
      have e6 : wr.cell? ⟨g, j * 7 + 6, none⟩ = some (.int .i64 y6) := (cell_of_heap HJ.out).trans hy6
      have f6 : wr.frozen? ⟨g, j * 7 + 6, none⟩ = false := froz_of_heap HJ.out
      have U0 := HCu.out.trans (Cur.set hy0 (k + 7 * j))
      have V0 := Cur.set hy0 (k + 7 * j)
      obtain ⟨x1, hx1⟩ := V0.int hy1
      have V1 := V0.trans (Cur.set hx1 (k + 7 * j + 1))
      obtain ⟨x2, hx2⟩ := V1.int hy2
      have V2 := V1.trans (Cur.set hx2 (k + 7 * j + 1 + 1))
      obtain ⟨x3, hx3⟩ := V2.int hy3
      have V3 := V2.trans (Cur.set hx3 (k + 7 * j + 1 + 1 + 1))
      obtain ⟨x4, hx4⟩ := V3.int hy4
      have V4 := V3.trans (Cur.set hx4 (k + 7 * j + 1 + 1 + 1 + 1))
      obtain ⟨x5, hx5⟩ := V4.int hy5
      have V5 := V4.trans (Cur.set hx5 (k + 7 * j + 1 + 1 + 1 + 1 + 1))
      obtain ⟨x6, hx6⟩ := V5.int hy6
      have V6 := V5.trans (Cur.set hx6 (k + 7 * j + 1 + 1 + 1 + 1 + 1 + 1))
      have HV : Hid _ := HCu.out.trans V6
      have HH : Hid ((((((((wr.setCell ⟨g, j * 7, none⟩ (.int .i64 (k + 7 * j))).setCell ⟨g, j * 7 + 1, none⟩ (.int .i64 (k + 7 * j + 1))).setCell ⟨g, j * 7 + 2, none⟩ (.int .i64 (k + 7 * j + 1 + 1))).setCell ⟨g, j * 7 + 3, none⟩ (.int .i64 (k + 7 * j + 1 + 1 + 1))).setCell ⟨g, j * 7 + 4, none⟩ (.int .i64 (k + 7 * j + 1 + 1 + 1 + 1))).setCell ⟨g, j * 7 + 5, none⟩ (.int .i64 (k + 7 * j + 1 + 1 + 1 + 1 + 1))).setCell ⟨g, j * 7 + 6, none⟩ (.int .i64 (k + 7 * j + 1 + 1 + 1 + 1 + 1 + 1))).heap[g]? = some (.cells (((((((cj.setIfInBounds (j * 7) (.int .i64 (k + 7 * j))).setIfInBounds (j * 7 + 1) (.int .i64 (k + 7 * j + 1))).setIfInBounds (j * 7 + 2) (.int .i64 (k + 7 * j + 1 + 1))).setIfInBounds (j * 7 + 3) (.int .i64 (k + 7 * j + 1 + 1 + 1))).setIfInBounds (j * 7 + 4) (.int .i64 (k + 7 * j + 1 + 1 + 1 + 1))).setIfInBounds (j * 7 + 5) (.int .i64 (k + 7 * j + 1 + 1 + 1 + 1 + 1))).setIfInBounds (j * 7 + 6) (.int .i64 (k + 7 * j + 1 + 1 + 1 + 1 + 1 + 1))) 38 (0, 0))) := heap_set (heap_set (heap_set (heap_set (heap_set (heap_set (heap_set HJ.out))))))
      have hcs : j * 7 + 7 ≤ cj.size := by have := (Array.getElem?_eq_some_iff.1 hy6).1; omega
      have HM2 : Hid (∀ i : Nat, i < 7 * (j + 1) → (((((((cj.setIfInBounds (j * 7) (.int .i64 (k + 7 * j))).setIfInBounds (j * 7 + 1) (.int .i64 (k + 7 * j + 1))).setIfInBounds (j * 7 + 2) (.int .i64 (k + 7 * j + 1 + 1))).setIfInBounds (j * 7 + 3) (.int .i64 (k + 7 * j + 1 + 1 + 1))).setIfInBounds (j * 7 + 4) (.int .i64 (k + 7 * j + 1 + 1 + 1 + 1))).setIfInBounds (j * 7 + 5) (.int .i64 (k + 7 * j + 1 + 1 + 1 + 1 + 1))).setIfInBounds (j * 7 + 6) (.int .i64 (k + 7 * j + 1 + 1 + 1 + 1 + 1 + 1)))[i]? = some (.int .i64 (k + i))) := fun i hi => by
        rw [set7_get cj (j * 7) hcs]
        by_cases hi2 : i < j * 7
        · rw [if_neg (by omega)]
          exact HM.out i (by omega)
        · rw [if_pos (by omega)]
          have hv := set7_val k (j * 7) i (by omega) (by omega)
          rw [show k + 7 * (j : Int) = k + ((j * 7 : Nat) : Int) from by omega]
          exact hv
      clear hz0 hy0 hz1 hy1 hz2 hy2 hz3 hy3 hz4 hy4 hz5 hy5 hz6 hy6 V0 V1 V2 V3 V4 V5 V6 hx1 hx2 hx3 hx4 hx5 hx6 U0
      go_wp2_with fail
      go_roundw
      case rel => exact ⟨j + 1, _, by omega, by go_num, by refine congrArg (Value.int .i64) ?_; first | omega | (unfold wrap64; omega), HH.out, HV.out, ((((((HO.out.set _ _).set _ _).set _ _).set _ _).set _ _).set _ _).set _ _, HM2.out⟩
      case measure => simp [intOf]; omega
    · have hke : j = n := by omega
      subst hke
      go_wp2_with fail
      go_ret
      exact ⟨rfl, HO.out, cj, HJ.out, HCu.out, HM.out⟩
set_option maxHeartbeats 1000000 in
theorem markMx0 (a : Option Addr) (c : Nat) (k : Int) (w : World) :
    Calls Tryd.prog 19 #[.slice a 0 c, .int .i64 k] w fun e w' => e = .returned (.int .i64 k) ∧ w' = w := by
  go_enter Tryd.func19, Tryd.ntmps19
  go_wp2_with fail
  go_loop [1, 5] (fun q i => q = .int .i64 k ∧ i = .int .i64 0) (fun _ _ => 0)
  case atStart => exact ⟨rfl, rfl⟩
  case round =>
    obtain ⟨rfl, rfl⟩ := hrel
    go_wp2_with fail
    go_ret
    exact ⟨rfl, rfl⟩
/-- Numbers from k on, in a row of its own. -/
def Mk (w : World) (base : Nat) (u : Option Addr) (k : Int) (m : Nat) : Prop := m = 0 ∨ ∃ g, u = some ⟨g, 0, none⟩ ∧ base ≤ g ∧ g < w.heap.size ∧ ∀ i : Nat, i < m → w.cell? ⟨g, i, none⟩ = some (.int .i64 (k + i))
/-- Only that block is turned. -/
structure OnlyV (b : Option Nat) (w w' : World) : Prop where
  os : w'.os = w.os
  tape : w'.tape = w.tape
  output : w'.output = w.output
  size : w'.heap.size = w.heap.size
  other : ∀ k : Nat, b ≠ some k → w'.heap[k]? = w.heap[k]?
theorem OnlyV.refl (b : Option Nat) (w : World) : OnlyV b w w := ⟨rfl, rfl, rfl, rfl, fun _ _ => rfl⟩
theorem Mk.onlyV {w w' : World} {base : Nat} {u : Option Addr} {k : Int} {m : Nat} {b : Option Nat} (h : Mk w base u k m) (ko : OnlyV b w w') (hn : ∀ g, u = some ⟨g, 0, none⟩ → b ≠ some g) : Mk w' base u k m := by
  rcases h with h | ⟨g, h1, h2, h3, h4⟩
  · exact .inl h
  · exact .inr ⟨g, h1, h2, by rw [ko.size]; exact h3, fun i hi => (cell_block (ko.other g (hn g h1))).trans (h4 i hi)⟩
theorem Mk.keep {w w' : World} {base : Nat} {u : Option Addr} {k : Int} {m : Nat} (h : Mk w base u k m) (ka : Agree base w w') : Mk w' base u k m := by
  rcases h with h | ⟨g, h1, h2, h3, h4⟩
  · exact .inl h
  · exact .inr ⟨g, h1, h2, Nat.lt_of_lt_of_le h3 ka.1, fun i hi => (cell_block (ka.2 g h2 h3)).trans (h4 i hi)⟩
theorem Mk.ints {w : World} {base : Nat} {u : Option Addr} {k : Int} {m : Nat} (h : Mk w base u k m) (hm : m ≤ 1048576) : IntsAt w base u (marks k m) := by
  refine ⟨by rw [marks_len]; omega, ?_⟩
  rcases h with h | ⟨g, h1, h2, h3, h4⟩
  · subst h; exact .inl rfl
  · exact .inr ⟨g, 0, h1, h2, h3, fun i hi => by rw [marks_len] at hi; rw [Nat.zero_add, h4 i hi, marks_at k hi]⟩
theorem markRow (base : Nat) (u : Option Addr) (c : Nat) (l : List Int) (k : Int) (w : World) (hl : l.length ≤ 1000) (hk0 : 0 ≤ k) (hk : k ≤ 100000) (h : Row w base (.slice u l.length c) l) :
    Calls Tryd.prog 18 #[.slice u l.length c, .int .i64 k] w fun e w' => e = .returned (.int .i64 (k + l.length)) ∧ Mk w' base u k l.length ∧ OnlyV (Value.slice u l.length c).ownBlock w w' := by
  by_cases h0 : l.length = 0
  · rw [h0]
    refine (markZero u c k w).mono ?_
    rintro e w1 ⟨rfl, rfl⟩
    exact ⟨by simp, .inl rfl, OnlyV.refl _ _⟩
  · rcases h.2 with ⟨_, hn⟩ | ⟨g, cap, cur, hv, hb, hg, hnc, _, hcs, htk⟩
    · exact absurd hn h0
    · cases hv
      refine (markVals g c l.length k cur w (by omega) hk0 (by omega) hg (fun i hi => ?_)).mono ?_
      · have e : (cur.toList.take (l.length * 1))[i]? = (l.map (Value.int .i64))[i]? := by rw [htk]
        rw [List.getElem?_take, if_pos (by omega)] at e
        simp [hi] at e
        exact ⟨l[i], by simpa using e⟩
      · rintro e w1 ⟨rfl, ho, cur', hb', _, hm⟩
        exact ⟨rfl, .inr ⟨g, rfl, hb, (Array.getElem?_eq_some_iff.1 hb').1, fun i hi => (cell_of_heap hb').trans (hm i hi)⟩, ⟨ho.os, ho.tape, ho.output, ho.size, fun q hq => ho.other q (fun e => hq (by rw [e]; rfl))⟩⟩
theorem markRowM (base : Nat) (u : Option Addr) (c : Nat) (l : List MInsD) (k : Int) (w : World) (hl : l.length ≤ 1000) (hk0 : 0 ≤ k) (hk : k ≤ 100000) (h : RowMs w base (.slice u l.length c) l) :
    Calls Tryd.prog 19 #[.slice u l.length c, .int .i64 k] w fun e w' => e = .returned (.int .i64 (k + 7 * l.length)) ∧ Mk w' base u k (7 * l.length) ∧ OnlyV (Value.slice u l.length c).ownBlock w w' := by
  by_cases h0 : l.length = 0
  · rw [h0]
    refine (markMx0 u c k w).mono ?_
    rintro e w1 ⟨rfl, rfl⟩
    exact ⟨by simp, .inl rfl, OnlyV.refl _ _⟩
  · rcases h.2 with ⟨_, hn⟩ | ⟨g, cap, cur, hv, hb, hg, hnc, _, hcs, htk⟩
    · exact absurd hn h0
    · cases hv
      refine (markMx g c l.length k cur w (by omega) hk0 (by omega) hg (fun i hi => ?_)).mono ?_
      · have e : (cur.toList.take (l.length * 7))[i]? = (l.flatMap minV)[i]? := by rw [htk]
        rw [List.getElem?_take, if_pos (by omega)] at e
        have hq : i = i / 7 * 7 + i % 7 := by omega
        rw [hq, flat7 l (i / 7) (i % 7) (by omega) (by omega)] at e
        rw [← hq] at e
        have hr : i % 7 < 7 := by omega
        have e2 : cur[i]? = (minV (l.getD (i / 7) mins0))[i % 7]? := by simpa using e
        rw [e2]
        generalize l.getD (i / 7) mins0 = y
        generalize i % 7 = j at hr
        match j, hr with
        | 0, _ => exact ⟨_, rfl⟩
        | 1, _ => exact ⟨_, rfl⟩
        | 2, _ => exact ⟨_, rfl⟩
        | 3, _ => exact ⟨_, rfl⟩
        | 4, _ => exact ⟨_, rfl⟩
        | 5, _ => exact ⟨_, rfl⟩
        | 6, _ => exact ⟨_, rfl⟩
      · rintro e w1 ⟨rfl, ho, cur', hb', _, hm⟩
        exact ⟨rfl, .inr ⟨g, rfl, hb, (Array.getElem?_eq_some_iff.1 hb').1, fun i hi => (cell_of_heap hb').trans (hm i hi)⟩, ⟨ho.os, ho.tape, ho.output, ho.size, fun q hq => ho.other q (fun e => hq (by rw [e]; rfl))⟩⟩
set_option maxHeartbeats 2000000 in
theorem heldMk (base : Nat) (u : Option Addr) (c n : Nat) (k : Int) (w : World) (hn : n ≤ 1000) (hk0 : 0 ≤ k) (hk : k ≤ 100000) (hv : Mk w base u k (7 * n)) :
    Calls Tryd.prog 21 #[.slice u n c, .int .i64 k] w fun e w' => e = .returned (.int .i64 (k + 7 * n)) ∧ w' = w := by
  have HV : Hid (Mk w base u k (7 * n)) := hv
  clear hv
  go_enter Tryd.func21, Tryd.ntmps21
  go_wp2_with fail
  go_loop [1, 5] (fun q i => ∃ j : Nat, j ≤ n ∧ i = .int .i64 j ∧ q = .int .i64 (k + 7 * j)) (fun _ i => n - (intOf i).toNat)
  case atStart => exact ⟨0, by omega, rfl, by simp⟩
  case round =>
    obtain ⟨j, hj, rfl, rfl⟩ := hrel
    by_cases hlt : j < n
    · rcases HV.out with h | ⟨g, rfl, _, _, hc⟩
      · omega
      have hjn : (j : Int) < n := by omega
      have e0 : w.cell? ⟨g, j * 7, none⟩ = some (.int .i64 (k + 7 * j)) := (hc (j * 7) (by omega)).trans (by congr 2; omega)
      have e1 : w.cell? ⟨g, j * 7 + 1, none⟩ = some (.int .i64 (k + 7 * j + 1)) := (hc (j * 7 + 1) (by omega)).trans (by congr 2; omega)
      have e2 : w.cell? ⟨g, j * 7 + 2, none⟩ = some (.int .i64 (k + 7 * j + 1 + 1)) := (hc (j * 7 + 2) (by omega)).trans (by congr 2; omega)
      have e3 : w.cell? ⟨g, j * 7 + 3, none⟩ = some (.int .i64 (k + 7 * j + 1 + 1 + 1)) := (hc (j * 7 + 3) (by omega)).trans (by congr 2; omega)
      have e4 : w.cell? ⟨g, j * 7 + 4, none⟩ = some (.int .i64 (k + 7 * j + 1 + 1 + 1 + 1)) := (hc (j * 7 + 4) (by omega)).trans (by congr 2; omega)
      have e5 : w.cell? ⟨g, j * 7 + 5, none⟩ = some (.int .i64 (k + 7 * j + 1 + 1 + 1 + 1 + 1)) := (hc (j * 7 + 5) (by omega)).trans (by congr 2; omega)
      have e6 : w.cell? ⟨g, j * 7 + 6, none⟩ = some (.int .i64 (k + 7 * j + 1 + 1 + 1 + 1 + 1 + 1)) := (hc (j * 7 + 6) (by omega)).trans (by congr 2; omega)
      clear hc
      go_wp2_with fail
      exact ⟨⟨j + 1, by omega, by go_num, by refine congrArg (Value.int .i64) ?_; first | omega | (unfold wrap64; omega)⟩, by simp only [intOf]; omega⟩
    · have hke : j = n := by omega
      subst hke
      go_wp2_with fail
      go_ret
      exact ⟨rfl, rfl⟩
end Go.Proofs.YtpmanjkaiknlhaaDoor
namespace Go.Proofs.YtpmanjkaiknlhaaDoor
open Go.RowKit
set_option linter.unusedVariables false
set_option linter.unusedSimpArgs false

structure PMark (w : World) (base : Nat) (p : ProgD) (u1 u2 u3 : Option Addr) : Prop where
  m1 : Mk w base u1 1 p.params.length
  m2 : Mk w base u2 (1 + p.params.length) p.widths.length
  m3 : Mk w base u3 (1 + p.params.length + p.widths.length) (7 * p.code.length)
theorem PMark.keep {w w' : World} {base : Nat} {p : ProgD} {u1 u2 u3 : Option Addr} (h : PMark w base p u1 u2 u3) (k : Agree base w w') : PMark w' base p u1 u2 u3 := ⟨h.m1.keep k, h.m2.keep k, h.m3.keep k⟩
/-- What is no row stays, and all below. -/
structure KpT (base : Nat) (w w' : World) : Prop where
  below : Below base w w'
  at_ : ∀ b cs T, At w b cs T → T ≠ 2 → T ≠ 38 → At w' b cs T
theorem KpT.refl (base : Nat) (w : World) : KpT base w w := ⟨Below.refl _ _, fun _ _ _ h _ _ => h⟩
theorem KpT.trans {base : Nat} {a b c : World} (h : KpT base a b) (k : KpT base b c) : KpT base a c := ⟨h.below.trans k.below, fun q cs T h1 h2 h3 => k.at_ q cs T (h.at_ q cs T h1 h2 h3) h2 h3⟩
theorem KpT.of_below {base : Nat} {a b : World} (h : Below a.heap.size a b) (hb : base ≤ a.heap.size) : KpT base a b := ⟨h.mono hb, fun q cs T h1 _ _ => h1.below h⟩
theorem KpT.row {base : Nat} {w w' : World} {v : Value} {l : List Int} (h : Row w base v l) (k : OnlyV v.ownBlock w w') : KpT base w w' :=
  ⟨⟨k.os, k.tape, k.output, by rw [k.size]; exact Nat.le_refl _, fun i hi => k.other i (fun e => by have := (h.ge e).1; omega)⟩, fun b cs T hb hT _ => (k.other b (fun e => by obtain ⟨cur, hc⟩ := h.typ e; exact hb.ne hc hT rfl)).trans hb⟩
theorem KpT.rowM {base : Nat} {w w' : World} {v : Value} {l : List MInsD} (h : RowMs w base v l) (k : OnlyV v.ownBlock w w') : KpT base w w' :=
  ⟨⟨k.os, k.tape, k.output, by rw [k.size]; exact Nat.le_refl _, fun i hi => k.other i (fun e => by have := (h.ge e).1; omega)⟩, fun b cs T hb _ hT => (k.other b (fun e => by obtain ⟨_, cur, hc⟩ := h.ge e; exact hb.ne hc hT rfl)).trans hb⟩
theorem ProgOwn.keep {w w' : World} {base : Nat} {p : ProgD} {u1 : Option Addr} {c1 : Nat} {u2 : Option Addr} {c2 : Nat} {u3 : Option Addr} {c3 : Nat} (h : ProgOwn w base p u1 c1 u2 c2 u3 c3) (k : Below w.heap.size w w') : ProgOwn w' base p u1 c1 u2 c2 u3 c3 := ⟨h.r1.keep k, h.r2.keep k, h.r3.keep k, h.ap⟩
theorem own_of {u : Option Addr} {n c g : Nat} (h : u = some ⟨g, 0, none⟩) : (Value.slice u n c).ownBlock = some g := by rw [h]; rfl
structure SmP (p : ProgD) : Prop where
  a : p.params.length ≤ 1000
  b : p.widths.length ≤ 1000
  c : p.code.length ≤ 1000
theorem typs_ne {w : World} {base : Nat} {v v' : Value} {l : List Int} {l' : List MInsD} (h : Row w base v l) (h' : RowMs w base v' l') {g : Nat} (e : v.ownBlock = some g) (e' : v'.ownBlock = some g) : False := by
  obtain ⟨cur, hc⟩ := h.typ e
  obtain ⟨_, cur', hc'⟩ := h'.ge e'
  rw [hc] at hc'
  cases hc'
set_option maxHeartbeats 2000000 in
theorem markProgO (base : Nat) (p : ProgD) (u1 : Option Addr) (c1 : Nat) (u2 : Option Addr) (c2 : Nat) (u3 : Option Addr) (c3 : Nat) (w : World) (hs : SmP p) (hb : base ≤ w.heap.size) (h : ProgOwn w base p u1 c1 u2 c2 u3 c3) :
    Calls Tryd.prog 7 #[.agg #[.int .i64 p.regs, .slice u1 p.params.length c1, .slice u2 p.widths.length c2, .slice u3 p.code.length c3], .int .i64 1] w fun e w' => e = .returned (.int .i64 (1 + p.params.length + p.widths.length + 7 * p.code.length)) ∧ PMark w' base p u1 u2 u3 ∧ KpT base w w' := by
  obtain ⟨s1, s2, s3⟩ := hs
  have B0 : Below w.heap.size w (w.alloc (.cells #[.int .i64 p.regs, .slice u1 p.params.length c1, .slice u2 p.widths.length c2, .slice u3 p.code.length c3] 25)) := (Below.refl _ _).alloc (Nat.le_refl _) _
  have A0 := At.new w #[.int .i64 p.regs, .slice u1 p.params.length c1, .slice u2 p.widths.length c2, .slice u3 p.code.length c3] 25
  have O0 := h.keep B0
  obtain ⟨W0, hW0⟩ : ∃ W0, w.alloc (.cells #[.int .i64 p.regs, .slice u1 p.params.length c1, .slice u2 p.widths.length c2, .slice u3 p.code.length c3] 25) = W0 := ⟨_, rfl⟩
  rw [hW0] at B0 A0 O0
  have HA0 : Hid (At W0 w.heap.size #[.int .i64 p.regs, .slice u1 p.params.length c1, .slice u2 p.widths.length c2, .slice u3 p.code.length c3] 25) := A0
  have HO0 : Hid (ProgOwn W0 base p u1 c1 u2 c2 u3 c3) := O0
  have HK0 : Hid (KpT base w W0) := KpT.of_below B0 hb
  have M1 := markRow base u1 c1 p.params 1 W0 s1 (by omega) (by omega) O0.r1
  clear B0 A0 O0 h
  have x0 : W0.cell? ⟨w.heap.size, 0, none⟩ = some (.int .i64 p.regs) := HA0.out.cell 0
  have x1 : W0.cell? ⟨w.heap.size, 1, none⟩ = some (.slice u1 p.params.length c1) := HA0.out.cell 1
  have x2 : W0.cell? ⟨w.heap.size, 2, none⟩ = some (.slice u2 p.widths.length c2) := HA0.out.cell 2
  have x3 : W0.cell? ⟨w.heap.size, 3, none⟩ = some (.slice u3 p.code.length c3) := HA0.out.cell 3
  go_enter Tryd.func7, Tryd.ntmps7
  go_wp2_with fail
  refine M1.mono ?_
  rintro e w1 ⟨rfl, m1, o1⟩
  have K1 := KpT.row HO0.out.r1 o1
  have HA1 : Hid (At w1 w.heap.size #[.int .i64 p.regs, .slice u1 p.params.length c1, .slice u2 p.widths.length c2, .slice u3 p.code.length c3] 25) := K1.at_ _ _ _ HA0.out (by decide) (by decide)
  have HR2 : Hid (Row w1 base (.slice u2 p.widths.length c2) p.widths) := HO0.out.r2.block fun g hg _ => o1.other g (fun e => HO0.out.ap g e hg)
  have HR3 : Hid (RowMs w1 base (.slice u3 p.code.length c3) p.code) := HO0.out.r3.block fun g hg _ => o1.other g (fun e => typs_ne HO0.out.r1 HO0.out.r3 e hg)
  have HM1 : Hid (Mk w1 base u1 1 p.params.length) := m1
  have HK1 : Hid (KpT base w w1) := HK0.out.trans K1
  have M2 := markRow base u2 c2 p.widths (1 + (p.params.length : Int)) w1 s2 (by omega) (by omega) HR2.out
  clear M1 m1 o1 K1 HK0 x0 x1 x2 x3 hW0
  have x0 : w1.cell? ⟨w.heap.size, 0, none⟩ = some (.int .i64 p.regs) := HA1.out.cell 0
  have x1 : w1.cell? ⟨w.heap.size, 1, none⟩ = some (.slice u1 p.params.length c1) := HA1.out.cell 1
  have x2 : w1.cell? ⟨w.heap.size, 2, none⟩ = some (.slice u2 p.widths.length c2) := HA1.out.cell 2
  have x3 : w1.cell? ⟨w.heap.size, 3, none⟩ = some (.slice u3 p.code.length c3) := HA1.out.cell 3
  go_wp2_with fail
  refine M2.mono ?_
  rintro e w2 ⟨rfl, m2, o2⟩
  have K2 := KpT.row HR2.out o2
  have HA2 : Hid (At w2 w.heap.size #[.int .i64 p.regs, .slice u1 p.params.length c1, .slice u2 p.widths.length c2, .slice u3 p.code.length c3] 25) := K2.at_ _ _ _ HA1.out (by decide) (by decide)
  have HR4 : Hid (RowMs w2 base (.slice u3 p.code.length c3) p.code) := HR3.out.block fun g hg _ => o2.other g (fun e => typs_ne HR2.out HR3.out e hg)
  have HM2 : Hid (Mk w2 base u1 1 p.params.length) := HM1.out.onlyV o2 (fun g e h2 => HO0.out.ap g (own_of e) h2)
  have HM3 : Hid (Mk w2 base u2 (1 + p.params.length) p.widths.length) := m2
  have HK2 : Hid (KpT base w w2) := HK1.out.trans K2
  have M3 := markRowM base u3 c3 p.code (1 + (p.params.length : Int) + (p.widths.length : Int)) w2 s3 (by omega) (by omega) HR4.out
  clear M2 m2 o2 K2 HK1 HM1 x0 x1 x2 x3
  have x0 : w2.cell? ⟨w.heap.size, 0, none⟩ = some (.int .i64 p.regs) := HA2.out.cell 0
  have x1 : w2.cell? ⟨w.heap.size, 1, none⟩ = some (.slice u1 p.params.length c1) := HA2.out.cell 1
  have x2 : w2.cell? ⟨w.heap.size, 2, none⟩ = some (.slice u2 p.widths.length c2) := HA2.out.cell 2
  have x3 : w2.cell? ⟨w.heap.size, 3, none⟩ = some (.slice u3 p.code.length c3) := HA2.out.cell 3
  go_wp2_with fail
  refine M3.mono ?_
  rintro e w3 ⟨rfl, m3, o3⟩
  have n1 : Mk w3 base u1 1 p.params.length := HM2.out.onlyV o3 (fun g e h2 => typs_ne HO0.out.r1 HO0.out.r3 (own_of e) h2)
  have n2 : Mk w3 base u2 (1 + p.params.length) p.widths.length := HM3.out.onlyV o3 (fun g e h2 => typs_ne HO0.out.r2 HO0.out.r3 (own_of e) h2)
  have HP : Hid (PMark w3 base p u1 u2 u3) := ⟨n1, n2, m3⟩
  have HK3 : Hid (KpT base w w3) := HK2.out.trans (KpT.rowM HR4.out o3)
  clear M3 m3 o3 n1 n2 x0 x1 x2 x3
  go_wp2_with fail
  go_ret
  exact ⟨rfl, HP.out, HK3.out⟩
set_option maxHeartbeats 2000000 in
theorem heldProgO (base : Nat) (p : ProgD) (u1 : Option Addr) (c1 : Nat) (u2 : Option Addr) (c2 : Nat) (u3 : Option Addr) (c3 : Nat) (w : World) (hs : SmP p) (h : PMark w base p u1 u2 u3) :
    Calls Tryd.prog 8 #[.agg #[.int .i64 p.regs, .slice u1 p.params.length c1, .slice u2 p.widths.length c2, .slice u3 p.code.length c3], .int .i64 1] w fun e w' => e = .returned (.int .i64 (1 + p.params.length + p.widths.length + 7 * p.code.length)) ∧ Below w.heap.size w w' := by
  obtain ⟨s1, s2, s3⟩ := hs
  have B0 : Below w.heap.size w (w.alloc (.cells #[.int .i64 p.regs, .slice u1 p.params.length c1, .slice u2 p.widths.length c2, .slice u3 p.code.length c3] 25)) := (Below.refl _ _).alloc (Nat.le_refl _) _
  have A0 := At.new w #[.int .i64 p.regs, .slice u1 p.params.length c1, .slice u2 p.widths.length c2, .slice u3 p.code.length c3] 25
  have P0 := h.keep (agree_of_below B0 base)
  obtain ⟨W0, hW0⟩ : ∃ W0, w.alloc (.cells #[.int .i64 p.regs, .slice u1 p.params.length c1, .slice u2 p.widths.length c2, .slice u3 p.code.length c3] 25) = W0 := ⟨_, rfl⟩
  rw [hW0] at B0 A0 P0
  have HB0 : Hid (Below w.heap.size w W0) := B0
  have K1 := heldInts base u1 c1 p.params.length 1 W0 (by omega) (by omega) (by omega) (P0.m1.ints (by omega))
  have K2 := heldInts base u2 c2 p.widths.length (1 + (p.params.length : Int)) W0 (by omega) (by omega) (by omega) (P0.m2.ints (by omega))
  have K3 := heldMk base u3 c3 p.code.length (1 + (p.params.length : Int) + (p.widths.length : Int)) W0 s3 (by omega) (by omega) P0.m3
  have hn1 : ¬ (1 : Int) + (p.params.length : Int) < 0 := by omega
  have hn2 : ¬ (1 : Int) + (p.params.length : Int) + (p.widths.length : Int) < 0 := by omega
  have hn3 : ¬ (1 : Int) + (p.params.length : Int) + (p.widths.length : Int) + 7 * (p.code.length : Int) < 0 := by omega
  have x0 : W0.cell? ⟨w.heap.size, 0, none⟩ = some (.int .i64 p.regs) := A0.cell 0
  have x1 : W0.cell? ⟨w.heap.size, 1, none⟩ = some (.slice u1 p.params.length c1) := A0.cell 1
  have x2 : W0.cell? ⟨w.heap.size, 2, none⟩ = some (.slice u2 p.widths.length c2) := A0.cell 2
  have x3 : W0.cell? ⟨w.heap.size, 3, none⟩ = some (.slice u3 p.code.length c3) := A0.cell 3
  clear A0 P0 h B0
  go_enter Tryd.func8, Tryd.ntmps8
  go_wp2_with fail
  refine K1.mono ?_
  rintro e w9 ⟨rfl, h9⟩
  have h8 := h9.symm
  clear h9
  subst h8
  go_wp2_with fail
  refine K2.mono ?_
  rintro e w9 ⟨rfl, h9⟩
  have h8 := h9.symm
  clear h9
  subst h8
  go_wp2_with fail
  refine K3.mono ?_
  rintro e w9 ⟨rfl, h9⟩
  have h8 := h9.symm
  clear h9
  subst h8
  go_wp2_with fail
  go_ret
  exact ⟨rfl, HB0.out⟩
structure CsP (w w1 W : World) (p : ProgD) (s1 : Option Addr) (d1 : Nat) (s2 : Option Addr) (d2 : Nat) (s3 : Option Addr) (d3 : Nat) : Prop where
  p_ : At W w1.heap.size #[.int .i64 p.regs, .slice s1 p.params.length d1, .slice s2 p.widths.length d2, .slice s3 p.code.length d3] 25
  ag : Agree w.heap.size w1 W
  below : Below w.heap.size w W
theorem CsP.keep {w w1 W W2 : World} {p : ProgD} {s1 : Option Addr} {d1 : Nat} {s2 : Option Addr} {d2 : Nat} {s3 : Option Addr} {d3 : Nat} (h : CsP w w1 W p s1 d1 s2 d2 s3 d3) (k : Below W.heap.size W W2) : CsP w w1 W2 p s1 d1 s2 d2 s3 d3 := ⟨h.p_.below k, agree_below h.ag k, h.below.trans (k.mono h.below.size)⟩
theorem CsP.kpt {w w1 W W2 : World} {base : Nat} {p : ProgD} {s1 : Option Addr} {d1 : Nat} {s2 : Option Addr} {d2 : Nat} {s3 : Option Addr} {d3 : Nat} (h : CsP w w1 W p s1 d1 s2 d2 s3 d3) (k : KpT base W W2) (hb : w1.heap.size ≤ base) (hw : w.heap.size ≤ base) : CsP w w1 W2 p s1 d1 s2 d2 s3 d3 :=
  ⟨k.at_ _ _ _ h.p_ (by decide) (by decide), ⟨Nat.le_trans h.ag.1 k.below.size, fun b h1 h2 => (k.below.block b (by omega)).trans (h.ag.2 b h1 h2)⟩, h.below.trans (k.below.mono hw)⟩
def PTold (w : World) (base : Nat) (p : ProgD) (ok : Bool) (e : Ending) : Prop := ∃ s1 d1 s2 d2 s3 d3, e = .returned (.tuple #[.agg #[.int .i64 p.regs, .slice s1 p.params.length d1, .slice s2 p.widths.length d2, .slice s3 p.code.length d3], .bool ok]) ∧ IntsAt w base s1 p.params ∧ IntsAt w base s2 p.widths ∧ MinsAt w base s3 p.code
def POwn (w : World) (base : Nat) (p : ProgD) (ok : Bool) (e : Ending) : Prop := ∃ u1 c1 u2 c2 u3 c3, e = .returned (.tuple #[.agg #[.int .i64 p.regs, .slice u1 p.params.length c1, .slice u2 p.widths.length c2, .slice u3 p.code.length c3], .bool ok]) ∧ ProgOwn w base p u1 c1 u2 c2 u3 c3
theorem uniP (s : ByteArray) : ∃ (p : ProgD) (ok : Bool), SmP p ∧ (∀ base w e, ReadToldS s base w e → PTold w base p ok e) ∧ (∀ base w e, ReadTold s base w e → POwn w base p ok e) := by
  by_cases h : ∃ p, OkP s p
  · obtain ⟨p, hp⟩ := h
    refine ⟨p, true, ?_, ?_, ?_⟩
    · obtain ⟨h1, h2, h3⟩ := progB_small hp.1
      exact ⟨by omega, by omega, by omega⟩
    · rintro base w e (⟨q, s1, d1, s2, d2, s3, d3, hq, he, hr⟩ | ⟨hn, _⟩)
      · cases ok_one hp hq
        exact ⟨s1, d1, s2, d2, s3, d3, he, hr⟩
      · exact absurd ⟨p, hp⟩ hn
    · rintro base w e (⟨q, s1, d1, s2, d2, s3, d3, hq, he, hr⟩ | ⟨hn, _⟩)
      · cases ok_one hp hq
        exact ⟨s1, d1, s2, d2, s3, d3, he, hr⟩
      · exact absurd ⟨p, hp⟩ hn
  · refine ⟨⟨0, [], [], []⟩, false, ⟨by simp, by simp, by simp⟩, ?_, ?_⟩
    · rintro base w e (⟨q, s1, d1, s2, d2, s3, d3, hq, _⟩ | ⟨hn, he⟩)
      · exact absurd ⟨q, hq⟩ h
      · exact ⟨none, 0, none, 0, none, 0, he, ⟨by simp, .inl rfl⟩, ⟨by simp, .inl rfl⟩, ⟨by simp, .inl rfl⟩⟩
    · rintro base w e (⟨q, s1, d1, s2, d2, s3, d3, hq, _⟩ | ⟨hn, he⟩)
      · exact absurd ⟨q, hq⟩ h
      · exact ⟨none, 0, none, 0, none, 0, he, ⟨Row.nil _ _, Row.nil _ _, World.ownsRow_nil _ _ _ _, fun g e _ => by cases e⟩⟩
theorem ProgOwn.ints {w : World} {base : Nat} {p : ProgD} {u1 : Option Addr} {c1 : Nat} {u2 : Option Addr} {c2 : Nat} {u3 : Option Addr} {c3 : Nat} (h : ProgOwn w base p u1 c1 u2 c2 u3 c3) (hs : SmP p) : IntsAt w base u1 p.params ∧ IntsAt w base u2 p.widths ∧ MinsAt w base u3 p.code := by
  obtain ⟨h1, h2, h3⟩ := hs
  obtain ⟨a1, b1, e1, i1⟩ := h.r1.ints (by omega)
  obtain ⟨a2, b2, e2, i2⟩ := h.r2.ints (by omega)
  obtain ⟨a3, b3, e3, i3⟩ := h.r3.mins (by omega)
  cases e1; cases e2; cases e3
  exact ⟨i1, i2, i3⟩
set_option maxHeartbeats 8000000 in
set_option maxRecDepth 100000 in
theorem fnExactReadProgram_core (a : Addr) (s : ByteArray) (w : World) (hv : Gv w 0 (errV a)) :
    Calls Tryd.prog 3 #[.string s] w fun e w' => e = .returned (.bool true) ∧ Below w.heap.size w w' := by
  by_cases hs : 1048576 < s.size
  · have q : (1048576 : Int) < s.size := by omega
    go_enter Tryd.func3, Tryd.ntmps3
    go_wp2_with fail
    go_ret
    exact ⟨rfl, Below.refl _ _⟩
  have q : ¬ (1048576 : Int) < s.size := by omega
  have hs2 : s.size ≤ 1048576 := by omega
  obtain ⟨p, ok, hgl, US, UI⟩ := uniP s
  have Hgl : Hid (SmP p) := hgl
  have HUI : Hid (∀ base w e, ReadTold s base w e → POwn w base p ok e) := UI
  have hRI : Hid (∀ W, Below w.heap.size w W → Calls Tryd.prog 5 #[.string s] W fun e w' => ReadTold s W.heap.size w' e ∧ Below W.heap.size W w') := fun W k => readPI a s W hs2 (hv.keep k)
  have hRS := readPS s w hs2
  clear hv UI hs hs2 hgl
  go_enter Tryd.func3, Tryd.ntmps3
  go_wp2_with fail
  refine hRS.mono ?_
  rintro e w1 ⟨hc, b1⟩
  obtain ⟨s1, d1, s2, d2, s3, d3, rfl, i1, i2, i3⟩ := US _ _ _ hc
  have HI1 : Hid (IntsAt w1 w.heap.size s1 p.params) := i1
  have HI2 : Hid (IntsAt w1 w.heap.size s2 p.widths) := i2
  have HI3 : Hid (MinsAt w1 w.heap.size s3 p.code) := i3
  have k1 : Below w1.heap.size w1 (w1.alloc (.cells #[.int .i64 p.regs, .slice s1 p.params.length d1, .slice s2 p.widths.length d2, .slice s3 p.code.length d3] 25)) := (Below.refl _ _).alloc (Nat.le_refl _) _
  have C1 : Hid (CsP w w1 (w1.alloc (.cells #[.int .i64 p.regs, .slice s1 p.params.length d1, .slice s2 p.widths.length d2, .slice s3 p.code.length d3] 25)) p s1 d1 s2 d2 s3 d3) := ⟨At.new _ _ _, agree_of_below k1 _, b1.trans (k1.mono b1.size)⟩
  have z1 : w.heap.size ≤ w1.heap.size := b1.size
  have z2 : w1.heap.size + 1 = (w1.alloc (.cells #[.int .i64 p.regs, .slice s1 p.params.length d1, .slice s2 p.widths.length d2, .slice s3 p.code.length d3] 25)).heap.size := by simp
  clear hRS US hc i1 i2 i3 b1 k1
  obtain ⟨W2, hW2⟩ : ∃ W, (w1.alloc (.cells #[.int .i64 p.regs, .slice s1 p.params.length d1, .slice s2 p.widths.length d2, .slice s3 p.code.length d3] 25)) = W := ⟨_, rfl⟩
  rw [hW2] at C1 z2
  go_wp2_with fail
  clear hW2
  refine (hRI.out W2 C1.out.below).mono ?_
  rintro e w3 ⟨hc, b3⟩
  obtain ⟨u1, c1, u2, c2, u3, c3, rfl, hR⟩ := HUI.out _ _ _ hc
  have z3 : W2.heap.size ≤ w3.heap.size := b3.size
  have k3 : Below w3.heap.size w3 (w3.alloc (.cells #[.int .i64 p.regs, .slice u1 p.params.length c1, .slice u2 p.widths.length c2, .slice u3 p.code.length c3] 25)) := (Below.refl _ _).alloc (Nat.le_refl _) _
  have C4 : Hid (CsP w w1 (w3.alloc (.cells #[.int .i64 p.regs, .slice u1 p.params.length c1, .slice u2 p.widths.length c2, .slice u3 p.code.length c3] 25)) p s1 d1 s2 d2 s3 d3) := (C1.out.keep b3).keep k3
  have Q4 : Hid (At (w3.alloc (.cells #[.int .i64 p.regs, .slice u1 p.params.length c1, .slice u2 p.widths.length c2, .slice u3 p.code.length c3] 25)) w3.heap.size #[.int .i64 p.regs, .slice u1 p.params.length c1, .slice u2 p.widths.length c2, .slice u3 p.code.length c3] 25) := At.new _ _ _
  have O4 : Hid (ProgOwn (w3.alloc (.cells #[.int .i64 p.regs, .slice u1 p.params.length c1, .slice u2 p.widths.length c2, .slice u3 p.code.length c3] 25)) W2.heap.size p u1 c1 u2 c2 u3 c3) := hR.keep k3
  have zW : W2.heap.size ≤ (w3.alloc (.cells #[.int .i64 p.regs, .slice u1 p.params.length c1, .slice u2 p.widths.length c2, .slice u3 p.code.length c3] 25)).heap.size := by simp; omega
  clear C1 hc hR b3 k3
  obtain ⟨W4, hW4⟩ : ∃ W, (w3.alloc (.cells #[.int .i64 p.regs, .slice u1 p.params.length c1, .slice u2 p.widths.length c2, .slice u3 p.code.length c3] 25)) = W := ⟨_, rfl⟩
  rw [hW4] at C4 Q4 O4 zW
  have x0 : W4.cell? ⟨w1.heap.size, 0, none⟩ = some (.int .i64 p.regs) := C4.out.p_.cell 0
  have x1 : W4.cell? ⟨w1.heap.size, 1, none⟩ = some (.slice s1 p.params.length d1) := C4.out.p_.cell 1
  have x2 : W4.cell? ⟨w1.heap.size, 2, none⟩ = some (.slice s2 p.widths.length d2) := C4.out.p_.cell 2
  have x3 : W4.cell? ⟨w1.heap.size, 3, none⟩ = some (.slice s3 p.code.length d3) := C4.out.p_.cell 3
  have y0 : W4.cell? ⟨w3.heap.size, 0, none⟩ = some (.int .i64 p.regs) := Q4.out.cell 0
  have y1 : W4.cell? ⟨w3.heap.size, 1, none⟩ = some (.slice u1 p.params.length c1) := Q4.out.cell 1
  have y2 : W4.cell? ⟨w3.heap.size, 2, none⟩ = some (.slice u2 p.widths.length c2) := Q4.out.cell 2
  have y3 : W4.cell? ⟨w3.heap.size, 3, none⟩ = some (.slice u3 p.code.length c3) := Q4.out.cell 3
  go_wp2_with fail
  clear hW4
  clear x0 x1 x2 x3
  clear y0 y1 y2 y3
  have G4 := O4.out.ints Hgl.out
  refine (eqProgram_any _ _ p u1 c1 u2 c2 u3 c3 s1 d1 s2 d2 s3 d3 W4 G4.1 G4.2.1 G4.2.2 (HI1.out.keep C4.out.ag) (HI2.out.keep C4.out.ag) (HI3.out.keep C4.out.ag)).mono ?_
  rintro e w5 ⟨rfl, b5⟩
  have C5 : Hid (CsP w w1 w5 p s1 d1 s2 d2 s3 d3) := C4.out.keep b5
  have Q5 : Hid (At w5 w3.heap.size #[.int .i64 p.regs, .slice u1 p.params.length c1, .slice u2 p.widths.length c2, .slice u3 p.code.length c3] 25) := Q4.out.below b5
  have O5 : Hid (ProgOwn w5 W2.heap.size p u1 c1 u2 c2 u3 c3) := O4.out.keep b5
  have z5 : W2.heap.size ≤ w5.heap.size := by have := b5.size; omega
  clear C4 Q4 O4 b5 G4 zW
  have y0 : w5.cell? ⟨w3.heap.size, 0, none⟩ = some (.int .i64 p.regs) := Q5.out.cell 0
  have y1 : w5.cell? ⟨w3.heap.size, 1, none⟩ = some (.slice u1 p.params.length c1) := Q5.out.cell 1
  have y2 : w5.cell? ⟨w3.heap.size, 2, none⟩ = some (.slice u2 p.widths.length c2) := Q5.out.cell 2
  have y3 : w5.cell? ⟨w3.heap.size, 3, none⟩ = some (.slice u3 p.code.length c3) := Q5.out.cell 3
  go_wp2_with fail
  clear y0 y1 y2 y3
  refine (markProgO W2.heap.size p u1 c1 u2 c2 u3 c3 w5 Hgl.out z5 O5.out).mono ?_
  rintro e w6 ⟨rfl, om, kp⟩
  have C6 : Hid (CsP w w1 w6 p s1 d1 s2 d2 s3 d3) := C5.out.kpt kp (by omega) (by omega)
  have Q6 : Hid (At w6 w3.heap.size #[.int .i64 p.regs, .slice u1 p.params.length c1, .slice u2 p.widths.length c2, .slice u3 p.code.length c3] 25) := kp.at_ _ _ _ Q5.out (by decide) (by decide)
  have OM6 : Hid (PMark w6 W2.heap.size p u1 u2 u3) := om
  clear C5 Q5 O5 om kp z5
  have y0 : w6.cell? ⟨w3.heap.size, 0, none⟩ = some (.int .i64 p.regs) := Q6.out.cell 0
  have y1 : w6.cell? ⟨w3.heap.size, 1, none⟩ = some (.slice u1 p.params.length c1) := Q6.out.cell 1
  have y2 : w6.cell? ⟨w3.heap.size, 2, none⟩ = some (.slice u2 p.widths.length c2) := Q6.out.cell 2
  have y3 : w6.cell? ⟨w3.heap.size, 3, none⟩ = some (.slice u3 p.code.length c3) := Q6.out.cell 3
  go_wp2_with fail
  clear y0 y1 y2 y3
  refine (heldProgO _ p u1 c1 u2 c2 u3 c3 w6 Hgl.out OM6.out).mono ?_
  rintro e w7 ⟨rfl, b7⟩
  have C7 : Hid (CsP w w1 w7 p s1 d1 s2 d2 s3 d3) := C6.out.keep b7
  have Q7 : Hid (At w7 w3.heap.size #[.int .i64 p.regs, .slice u1 p.params.length c1, .slice u2 p.widths.length c2, .slice u3 p.code.length c3] 25) := Q6.out.below b7
  have OM7 : Hid (PMark w7 W2.heap.size p u1 u2 u3) := OM6.out.keep (agree_of_below b7 _)
  have hnn : ¬ (1 : Int) + p.params.length + p.widths.length + 7 * p.code.length < 0 := by omega
  clear C6 Q6 OM6 b7
  go_wp2_with fail
  refine (hRI.out w7 C7.out.below).mono ?_
  rintro e w8 ⟨hc, b8⟩
  obtain ⟨h1, e1, h2, e2, h3, e3, rfl, hR⟩ := HUI.out _ _ _ hc
  have k8 : Below w8.heap.size w8 (w8.alloc (.cells #[.int .i64 p.regs, .slice h1 p.params.length e1, .slice h2 p.widths.length e2, .slice h3 p.code.length e3] 25)) := (Below.refl _ _).alloc (Nat.le_refl _) _
  have C9 : Hid (CsP w w1 (w8.alloc (.cells #[.int .i64 p.regs, .slice h1 p.params.length e1, .slice h2 p.widths.length e2, .slice h3 p.code.length e3] 25)) p s1 d1 s2 d2 s3 d3) := (C7.out.keep b8).keep k8
  have Q9 : Hid (At (w8.alloc (.cells #[.int .i64 p.regs, .slice h1 p.params.length e1, .slice h2 p.widths.length e2, .slice h3 p.code.length e3] 25)) w3.heap.size #[.int .i64 p.regs, .slice u1 p.params.length c1, .slice u2 p.widths.length c2, .slice u3 p.code.length c3] 25) := (Q7.out.below b8).below k8
  have OM9 : Hid (PMark (w8.alloc (.cells #[.int .i64 p.regs, .slice h1 p.params.length e1, .slice h2 p.widths.length e2, .slice h3 p.code.length e3] 25)) W2.heap.size p u1 u2 u3) := (OM7.out.keep (agree_of_below b8 _)).keep (agree_of_below k8 _)
  have R9 : Hid (At (w8.alloc (.cells #[.int .i64 p.regs, .slice h1 p.params.length e1, .slice h2 p.widths.length e2, .slice h3 p.code.length e3] 25)) w8.heap.size #[.int .i64 p.regs, .slice h1 p.params.length e1, .slice h2 p.widths.length e2, .slice h3 p.code.length e3] 25) := At.new _ _ _
  have I9 : Hid (ProgOwn (w8.alloc (.cells #[.int .i64 p.regs, .slice h1 p.params.length e1, .slice h2 p.widths.length e2, .slice h3 p.code.length e3] 25)) w7.heap.size p h1 e1 h2 e2 h3 e3) := hR.keep k8
  clear C7 Q7 OM7 hc hR b8 k8
  obtain ⟨W9, hW9⟩ : ∃ W, (w8.alloc (.cells #[.int .i64 p.regs, .slice h1 p.params.length e1, .slice h2 p.widths.length e2, .slice h3 p.code.length e3] 25)) = W := ⟨_, rfl⟩
  rw [hW9] at C9 Q9 OM9 R9 I9
  have x0 : W9.cell? ⟨w1.heap.size, 0, none⟩ = some (.int .i64 p.regs) := C9.out.p_.cell 0
  have x1 : W9.cell? ⟨w1.heap.size, 1, none⟩ = some (.slice s1 p.params.length d1) := C9.out.p_.cell 1
  have x2 : W9.cell? ⟨w1.heap.size, 2, none⟩ = some (.slice s2 p.widths.length d2) := C9.out.p_.cell 2
  have x3 : W9.cell? ⟨w1.heap.size, 3, none⟩ = some (.slice s3 p.code.length d3) := C9.out.p_.cell 3
  have y0 : W9.cell? ⟨w8.heap.size, 0, none⟩ = some (.int .i64 p.regs) := R9.out.cell 0
  have y1 : W9.cell? ⟨w8.heap.size, 1, none⟩ = some (.slice h1 p.params.length e1) := R9.out.cell 1
  have y2 : W9.cell? ⟨w8.heap.size, 2, none⟩ = some (.slice h2 p.widths.length e2) := R9.out.cell 2
  have y3 : W9.cell? ⟨w8.heap.size, 3, none⟩ = some (.slice h3 p.code.length e3) := R9.out.cell 3
  go_wp2_with fail
  clear hW9
  clear x0 x1 x2 x3
  clear y0 y1 y2 y3
  have G9 := I9.out.ints Hgl.out
  refine (eqProgram_any _ _ p h1 e1 h2 e2 h3 e3 s1 d1 s2 d2 s3 d3 W9 G9.1 G9.2.1 G9.2.2 (HI1.out.keep C9.out.ag) (HI2.out.keep C9.out.ag) (HI3.out.keep C9.out.ag)).mono ?_
  rintro e w10 ⟨rfl, b10⟩
  have C10 : Hid (Below w.heap.size w w10) := (C9.out.keep b10).below
  have Q10 : Hid (At w10 w3.heap.size #[.int .i64 p.regs, .slice u1 p.params.length c1, .slice u2 p.widths.length c2, .slice u3 p.code.length c3] 25) := Q9.out.below b10
  have OM10 : Hid (PMark w10 W2.heap.size p u1 u2 u3) := OM9.out.keep (agree_of_below b10 _)
  clear C9 Q9 OM9 R9 I9 b10 G9
  have y0 : w10.cell? ⟨w3.heap.size, 0, none⟩ = some (.int .i64 p.regs) := Q10.out.cell 0
  have y1 : w10.cell? ⟨w3.heap.size, 1, none⟩ = some (.slice u1 p.params.length c1) := Q10.out.cell 1
  have y2 : w10.cell? ⟨w3.heap.size, 2, none⟩ = some (.slice u2 p.widths.length c2) := Q10.out.cell 2
  have y3 : w10.cell? ⟨w3.heap.size, 3, none⟩ = some (.slice u3 p.code.length c3) := Q10.out.cell 3
  go_wp2_with fail
  clear y0 y1 y2 y3
  refine (heldProgO _ p u1 c1 u2 c2 u3 c3 w10 Hgl.out OM10.out).mono ?_
  rintro e w11 ⟨rfl, b11⟩
  have C11 : Hid (Below w.heap.size w w11) := C10.out.trans (b11.mono C10.out.size)
  clear C10 Q10 OM10 b11
  go_wp2_with fail
  go_ret
  exact ⟨rfl, C11.out⟩
end Go.Proofs.YtpmanjkaiknlhaaDoor
