/- What is alive: the program's sets: slices.BinarySearch and slices.Clone at int64. -/
import Derived.Test.YtolaghondjfhdabGreatDoorLvPQ
import Derived.Test.YtolaghondjfhdabGreatDoorMemQ
import Derived.Shelf.Spec.SlicesInsert
import Derived.Lib.Overlaps
import Derived.Laws.Externs
import Derived.Laws.IdiomCopy
import Derived.Lib.AppendZerosOnto
import Derived.Laws.NewBlocks
import Derived.Deep.RegionLaw
import Derived.Lib.SliceRun
import Derived.Laws.Rows
namespace Go.Proofs.YtolaghondjfhdabGreatDoor
open Go.RowKit
set_option linter.unusedVariables false

theorem nanI (x : Int) (w : World) : Calls Tryz.prog 118 #[.int .i64 x] w fun e w' => e = .returned (.bool false) ∧ w' = w := by
  go_enter Tryz.func118, Tryz.ntmps118
  go_wp2_with fail
  go_ret
  exact ⟨rfl, rfl⟩
theorem cnanI (x : Int) (w : World) : Calls Tryz.prog 123 #[.int .i64 x] w fun e w' => e = .returned (.bool false) ∧ w' = w := by
  go_enter Tryz.func123, Tryz.ntmps123
  go_wp2_with fail
  go_ret
  exact ⟨rfl, rfl⟩
theorem lessI (x y : Int) (w : World) : Calls Tryz.prog 117 #[.int .i64 x, .int .i64 y] w fun e w' => e = .returned (.bool (decide (x < y))) ∧ w' = w := by
  go_enter Tryz.func117, Tryz.ntmps117
  go_wp2_with (go_at_call 123; refine (cnanI _ _).mono ?_; rintro e w9 ⟨rfl, h9⟩; have h8 := h9.symm; clear h9; subst h8)
  go_ret
  exact ⟨rfl, rfl⟩
/-- Where a number belongs: behind all that are less. -/
def posL : List Int → Int → Nat
  | [], _ => 0
  | y :: r, x => if y < x then posL r x + 1 else 0
theorem posL_le (x : Int) : ∀ l : List Int, posL l x ≤ l.length
  | [] => Nat.le_refl _
  | y :: r => by
    have := posL_le x r
    unfold posL
    split <;> simp <;> omega
theorem posL_lt (x : Int) : ∀ (l : List Int) (j : Nat), j < posL l x → l.getD j 0 < x
  | [], j, h => by simp [posL] at h
  | y :: r, j, h => by
    unfold posL at h
    split at h
    · rename_i hy
      cases j with
      | zero => simpa using hy
      | succ j => simpa using posL_lt x r j (by omega)
    · omega
theorem posL_ge (x : Int) : ∀ (l : List Int), Srt l → posL l x < l.length → x ≤ l.getD (posL l x) 0
  | [], _, h => by simp at h
  | y :: r, hs, h => by
    have h1 := List.pairwise_cons.1 hs
    unfold posL at h ⊢
    split
    · rename_i hy
      rw [if_pos hy] at h
      have := posL_ge x r h1.2 (by simpa using h)
      simpa using this
    · rename_i hy
      simp; omega
theorem posL_is {l : List Int} {x : Int} {k : Nat} (hk : k ≤ l.length) (h1 : ∀ j, j < k → l.getD j 0 < x) (h2 : k < l.length → x ≤ l.getD k 0) : posL l x = k := by
  have hp := posL_le x l
  rcases Nat.lt_trichotomy (posL l x) k with h | h | h
  · exfalso
    have hs := h1 _ h
    have : ¬ l.getD (posL l x) 0 < x := by
      have h3 : ∀ (l : List Int), posL l x < l.length → ¬ l.getD (posL l x) 0 < x := by
        intro l
        induction l with
        | nil => intro h; simp at h
        | cons y r ih =>
          intro h
          unfold posL at h ⊢
          split
          · rename_i hy
            rw [if_pos hy] at h
            simpa using ih (by simpa using h)
          · rename_i hy
            simpa using hy
      exact h3 l (by omega)
    exact this hs
  · exact h
  · exfalso
    have hs := posL_lt x l k h
    have := h2 (by omega)
    omega
theorem ins_pos {l : List Int} {x : Int} (hs : Srt l) (hx : x ∉ l) : ins l x = l.take (posL l x) ++ x :: l.drop (posL l x) := by
  refine ins_new (posL_le x l) (posL_lt x l) (fun h => ?_)
  have h1 := posL_ge x l hs h
  rcases Int.lt_or_eq_of_le h1 with h2 | h2
  · exact h2
  · exact absurd (by rw [h2]; exact getD_mem 0 l _ h) hx
theorem ins_has {l : List Int} {x : Int} (hs : Srt l) (hx : x ∈ l) : posL l x < l.length ∧ l.getD (posL l x) 0 = x ∧ ins l x = l := by
  have h1 : posL l x < l.length := by
    rcases Nat.lt_or_ge (posL l x) l.length with h | h
    · exact h
    · exfalso
      obtain ⟨j, hj, e⟩ := List.getElem_of_mem hx
      have := posL_lt x l j (by omega)
      simp [List.getD, hj, e] at this
  have h2 : l.getD (posL l x) 0 = x := by
    have h3 := posL_ge x l hs h1
    obtain ⟨j, hj, e⟩ := List.getElem_of_mem hx
    rcases Nat.lt_trichotomy j (posL l x) with h | h | h
    · have := posL_lt x l j h
      simp [List.getD, hj, e] at this
    · subst h
      simp [List.getD, hj, e]
    · have := List.pairwise_iff_getElem.1 hs _ _ h1 hj h
      rw [e] at this
      simp only [List.getD, List.getElem?_eq_getElem h1, Option.getD_some] at h3
      omega
  exact ⟨h1, h2, ins_same h1 (posL_lt x l) h2⟩
theorem less_has {l : List Int} {x : Int} (hs : Srt l) (hx : x ∈ l) : lessL l x = l.take (posL l x) ++ l.drop (posL l x + 1) := by
  obtain ⟨h1, h2, _⟩ := ins_has hs hx
  have h3 : l = l.take (posL l x) ++ x :: l.drop (posL l x + 1) := by
    conv => lhs; rw [← List.take_append_drop (posL l x) l, drop_get 0 l _ h1, h2]
  have hp := hs
  rw [h3] at hp
  unfold Srt at hp
  rw [List.pairwise_append, List.pairwise_cons] at hp
  obtain ⟨_, ⟨hb, _⟩, ha⟩ := hp
  conv => lhs; rw [h3]
  unfold lessL
  rw [List.filter_append, List.filter_cons_of_neg (by simp)]
  congr 1
  · exact List.filter_eq_self.2 (fun y hy => by have := ha y hy x (by simp); simp; omega)
  · exact List.filter_eq_self.2 (fun y hy => by have := hb y hy; simp; omega)
theorem less_not {l : List Int} {x : Int} (hx : x ∉ l) : lessL l x = l := List.filter_eq_self.2 (fun y hy => by simp; intro e; exact hx (e ▸ hy))
set_option maxHeartbeats 2000000 in
set_option maxRecDepth 100000 in
theorem searchI (lo : Nat) (a : Option Addr) (c : Nat) (l : List Int) (x : Int) (w : World) (hl : l.length ≤ 1000) (hs : Srt l) (hv : IntsAt w lo a l) :
    Calls Tryz.prog 109 #[.slice a l.length c, .int .i64 x] w fun e w' => e = .returned (.tuple #[.int .i64 (posL l x : Nat), .bool (decide (x ∈ l))]) ∧ w' = w := by
  have HV : Hid (IntsAt w lo a l) := hv
  have HS : Hid (Srt l) := hs
  clear hv hs
  go_enter Tryz.func109, Tryz.ntmps109
  go_wp2_with fail
  go_loopw [7, 8] (fun i j wr => ∃ (p q : Int), 0 ≤ p ∧ p ≤ q ∧ q ≤ l.length ∧ i = .int .i64 p ∧ j = .int .i64 q ∧ Hid (∀ k : Nat, (k : Int) < p → l.getD k 0 < x) ∧ Hid (∀ k : Nat, q ≤ k → k < l.length → x ≤ l.getD k 0) ∧ Hid (wr = w)) (fun i j _ => (intOf j - intOf i).toNat)
  case atStart => exact ⟨0, l.length, by omega, by omega, by omega, rfl, rfl, fun k hk => by omega, fun k h1 h2 => by omega, rfl⟩
  case round =>
    obtain ⟨p, q, hp0, hpq, hq, rfl, rfl, H1, H2, HW⟩ := hrel
    have hW := HW.out
    subst hW
    by_cases hlt : p < q
    · obtain ⟨h, hh1, hh2, HH⟩ : ∃ h : Int, p ≤ h ∧ h < q ∧ Hid ((p + q) / 2 = h) := ⟨(p + q) / 2, by omega, by omega, rfl⟩
      have hb1 : 0 ≤ p + q := by omega
      have hb2 : p + q ≤ 2000 := by omega
      obtain ⟨k, rfl⟩ : ∃ k : Nat, h = k := ⟨h.toNat, by omega⟩
      have hkl : k < l.length := by omega
      obtain ⟨bb, off, rfl, e1⟩ : ∃ bb off, a = some ⟨bb, off, none⟩ ∧ wr.cell? ⟨bb, off + k, none⟩ = some (.int .i64 (l.getD k 0)) := by
        rcases HV.out.2 with h | ⟨b, off, ha, _, _, hc⟩
        · rw [h] at hkl; simp at hkl
        · exact ⟨b, off, ha, hc _ hkl⟩
      have e1 : wr.cell? ⟨bb, off + ((p + q) / 2).toNat, none⟩ = some (.int .i64 (l.getD k 0)) := by rw [HH.out]; simpa using e1
      have HLK : Hid (∀ j : Nat, (j : Int) < k → l.getD j 0 < l.getD k 0) := fun j hj => by
        have hj' : j < k := by omega
        have hjl : j < l.length := by omega
        have := List.pairwise_iff_getElem.1 HS.out j k hjl hkl hj'
        simpa [List.getD, hjl, hkl] using this
      have HLG : Hid (∀ j : Nat, (k : Int) ≤ j → j < l.length → l.getD k 0 ≤ l.getD j 0) := fun j hj hjl => by
        rcases Nat.lt_or_ge k j with h | h
        · have := List.pairwise_iff_getElem.1 HS.out k j hkl hjl h
          simp only [List.getD, List.getElem?_eq_getElem hkl, List.getElem?_eq_getElem hjl, Option.getD_some]
          omega
        · have : j = k := by omega
          rw [this]; omega
      have P := fun v => lessI (l.getD k 0) x v
      have HKK : Hid (∀ j : Nat, (j : Int) < k + 1 → j ≠ k → (j : Int) < k) := fun j h1 h2 => by omega
      generalize hy : l.getD k 0 = y at e1 P HLK HLG
      have HY : Hid (l.getD k 0 = y) := hy
      clear hy
      by_cases hx : y < x
      · have hd : decide (y < x) = true := decide_eq_true hx
        rw [hd] at P
        have HXX : Hid (y < x) := hx
        have R1 : Hid (∀ j : Nat, (j : Int) < k + 1 → l.getD j 0 < x) := fun j hj => by
          by_cases e : j = k
          · rw [e, HY.out]; exact HXX.out
          · have h1 := HLK.out j (HKK.out j hj e)
            have h2 := HXX.out
            omega
        clear hx hd HLK HLG
        go_wp2_with (go_at_call 117; refine (P _).mono ?_; rintro e w9 ⟨rfl, h9⟩; have h8 := h9.symm; clear h9; subst h8)
        go_roundw
        case rel => exact ⟨(p + q) / 2 + 1, q, by omega, by omega, by omega, rfl, rfl, by rw [HH.out]; exact R1, H2, (by first | exact rfl | exact trivial)⟩
        case measure => simp [intOf]; omega
      · have hd : decide (y < x) = false := decide_eq_false hx
        rw [hd] at P
        have R2 : Hid (∀ j : Nat, (k : Int) ≤ j → j < l.length → x ≤ l.getD j 0) := fun j h1 h2 => by
          have := HLG.out j h1 h2
          omega
        clear hx hd HLK HLG
        go_wp2_with (go_at_call 117; refine (P _).mono ?_; rintro e w9 ⟨rfl, h9⟩; have h8 := h9.symm; clear h9; subst h8)
        go_roundw
        case rel => exact ⟨p, (p + q) / 2, by omega, by omega, by omega, rfl, rfl, H1, by rw [HH.out]; exact R2, (by first | exact rfl | exact trivial)⟩
        case measure => simp [intOf]; omega
    · obtain ⟨k, rfl⟩ : ∃ k : Nat, p = k := ⟨p.toNat, by omega⟩
      have hkl : k ≤ l.length := by omega
      have hkp : posL l x = k := posL_is hkl (fun j hj => H1.out j (by omega)) (fun h => H2.out k (by omega) h)
      have HKP : Hid (posL l x = k) := hkp
      by_cases hk2 : k < l.length
      · obtain ⟨bb, off, rfl, e1⟩ : ∃ bb off, a = some ⟨bb, off, none⟩ ∧ wr.cell? ⟨bb, off + k, none⟩ = some (.int .i64 (l.getD k 0)) := by
          rcases HV.out.2 with h | ⟨b, off, ha, _, _, hc⟩
          · rw [h] at hk2; simp at hk2
          · exact ⟨b, off, ha, hc _ hk2⟩
        have HD : Hid (decide (x ∈ l) = (l.getD k 0 == x)) := by
          show _ = _
          by_cases hx : x ∈ l
          · obtain ⟨_, h2, _⟩ := ins_has HS.out hx
            rw [hkp] at h2
            rw [h2, decide_eq_true hx]
            simp
          · rw [decide_eq_false hx]
            symm
            simp only [beq_eq_false_iff_ne]
            intro e
            exact hx (by rw [← e]; exact getD_mem 0 l k hk2)
        clear hkp
        generalize l.getD k 0 = y at e1 HD
        have NI := fun v z => nanI z v
        cases hyx : (y == x) with
        | true =>
          have hyx2 : y = x := by simpa using hyx
          subst hyx2
          clear hyx
          go_wp2_with (go_at_call 118; refine (NI _ _).mono ?_; rintro e w9 ⟨rfl, h9⟩; have h8 := h9.symm; clear h9; subst h8)
          go_ret2
          exact ⟨by rw [HKP.out, HD.out]; simp, rfl⟩
        | false =>
          go_wp2_with (go_at_call 118; refine (NI _ _).mono ?_; rintro e w9 ⟨rfl, h9⟩; have h8 := h9.symm; clear h9; subst h8)
          go_ret2
          exact ⟨by rw [HKP.out, HD.out, hyx]; rfl, rfl⟩
      · have HD : Hid (decide (x ∈ l) = false) := by
          show _ = _
          rw [decide_eq_false_iff_not]
          intro hx
          have := (ins_has HS.out hx).1
          omega
        clear hkp
        go_wp2_with fail
        go_ret2
        exact ⟨by rw [HKP.out, HD.out]; rfl, rfl⟩
end Go.Proofs.YtolaghondjfhdabGreatDoor
namespace Go.Proofs.YtolaghondjfhdabGreatDoor
open Go.RowKit

/-- A block of cells that stays. -/
def At (w : World) (g : Nat) (cs : Array Value) (T : TypeId) : Prop := w.heap[g]? = some (.cells cs T (0, 0))
theorem At.lt {w : World} {g : Nat} {cs : Array Value} {T : TypeId} (h : At w g cs T) : g < w.heap.size := (Array.getElem?_eq_some_iff.1 h).1
theorem At.below {w w' : World} {g : Nat} {cs : Array Value} {T : TypeId} (h : At w g cs T) (k : Below w.heap.size w w') : At w' g cs T := (k.block g h.lt).trans h
theorem At.new (w : World) (cs : Array Value) (T : TypeId) : At (w.alloc (.cells cs T)) w.heap.size cs T := heap_alloc_last w _
theorem At.cell {w : World} {g : Nat} {cs : Array Value} {T : TypeId} (h : At w g cs T) (o : Nat) : w.cell? ⟨g, o, none⟩ = cs[o]? := cell_of_heap h
theorem At.setOther {w : World} {g gi o : Nat} {cs : Array Value} {T : TypeId} {v : Value} (h : At w g cs T) (hn : g ≠ gi) : At (w.setCell ⟨gi, o, none⟩ v) g cs T := (Below.heap_setCell _ _ _ _ (by show g ≠ gi; exact hn)).trans h
end Go.Proofs.YtolaghondjfhdabGreatDoor
namespace Go.Proofs.YtolaghondjfhdabGreatDoor
open Go.RowKit
set_option linter.unusedVariables false

/-- Cells put into a row from a place on. -/
def setsA (cur : Array Value) : Nat → List Value → Array Value
  | _, [] => cur
  | o, v :: r => setsA (cur.setIfInBounds o v) (o + 1) r
theorem setsA_size : ∀ (vs : List Value) (o : Nat) (cur : Array Value), (setsA cur o vs).size = cur.size
  | [], _, _ => rfl
  | v :: r, o, cur => by rw [setsA, setsA_size r]; simp
theorem setsA_get : ∀ (vs : List Value) (o : Nat) (cur : Array Value), o + vs.length ≤ cur.size → ∀ i, (setsA cur o vs)[i]? = if o ≤ i ∧ i < o + vs.length then vs[i - o]? else cur[i]?
  | [], o, cur, _, i => by rw [if_neg (by simp)]; rfl
  | v :: r, o, cur, h, i => by
    simp only [List.length_cons] at h
    rw [setsA, setsA_get r (o + 1) _ (by simp; omega) i]
    by_cases h1 : i = o
    · subst h1
      rw [if_neg (by omega), if_pos (by simp), Nat.sub_self]
      simp [show i < cur.size by omega]
    · by_cases h2 : o ≤ i ∧ i < o + (r.length + 1)
      · rw [if_pos (by omega), if_pos (by simp only [List.length_cons]; exact h2)]
        obtain ⟨j, rfl⟩ : ∃ j, i = o + 1 + j := ⟨i - (o + 1), by omega⟩
        rw [show o + 1 + j - (o + 1) = j by omega, show o + 1 + j - o = j + 1 by omega]
        simp
      · rw [if_neg (by omega), if_neg (by simp only [List.length_cons]; exact h2), Array.getElem?_setIfInBounds_ne (by omega)]
theorem heap_setCells {g : Nat} {T : TypeId} : ∀ (vs : List Value) (o : Nat) (w : World) (cur : Array Value), w.heap[g]? = some (.cells cur T (0, 0)) → (w.setCells g o vs).heap[g]? = some (.cells (setsA cur o vs) T (0, 0))
  | [], _, _, _, h => h
  | v :: r, o, w, cur, h => heap_setCells r (o + 1) _ _ (heap_set h)
theorem grown_setCells {w : World} (g : Nat) : ∀ (vs : List Value) (o : Nat) (v : World), w.grownBy v (some g) → w.grownBy (v.setCells g o vs) (some g)
  | [], _, _, h => h
  | x :: r, o, v, h => grown_setCells g r (o + 1) _ ⟨h.os, h.tape, h.output, Nat.le_trans h.size (by simp [World.setCell]), fun i hi hn => (Below.heap_setCell _ _ _ _ (by show i ≠ g; intro e; exact hn (by rw [e]))).trans (h.block i hi hn)⟩
theorem row_of {w : World} {base g cap : Nat} {cur : Array Value} {l : List Int} (h : w.heap[g]? = some (.cells cur 2 (0, 0))) (hg : base ≤ g) (hs : cur.size = cap) (hn : l.length ≤ cap) (hm : cap ≤ maxLen) (hc : ∀ i, i < l.length → cur[i]? = some (.int .i64 (l.getD i 0))) : Row w base (.slice (some ⟨g, 0, none⟩) l.length cap) l := by
  refine ⟨by simp, .inr ⟨g, cap, cur, rfl, hg, h, hn, hm, by omega, ?_⟩⟩
  apply List.ext_getElem?
  intro i
  rw [Nat.mul_one, List.getElem?_take]
  split
  · rename_i hi
    rw [Array.getElem?_toList, hc i hi]
    simp [List.getD, hi]
  · rename_i hi
    rw [List.getElem?_eq_none (by simp; omega)]
theorem row_cells {w : World} {base g n cap : Nat} {l : List Int} (h : Row w base (.slice (some ⟨g, 0, none⟩) n cap) l) : n = l.length ∧ base ≤ g ∧ ∃ cur, w.heap[g]? = some (.cells cur 2 (0, 0)) ∧ cur.size = cap ∧ l.length ≤ cap ∧ cap ≤ maxLen ∧ ∀ i, i < l.length → cur[i]? = some (.int .i64 (l.getD i 0)) := by
  rcases h.2 with ⟨e, _⟩ | ⟨g', cap', cur, e, hg, hc, h1, h2, h3, h4⟩
  · cases e
  · cases e
    refine ⟨rfl, hg, cur, hc, by omega, h1, h2, fun i hi => ?_⟩
    have h5 := congrArg (fun z : List Value => z[i]?) h4
    simp only [Nat.mul_one, List.getElem?_take, hi, if_pos, Array.getElem?_toList] at h5
    rw [h5]
    simp [List.getD, hi]
set_option maxHeartbeats 1000000 in
set_option maxRecDepth 100000 in
theorem cloneI (lo : Nat) (a : Option Addr) (cap : Nat) (l : List Int) (w : World) (hl : l.length ≤ 1048576) (hv : IntsAt w lo a l) :
    Calls Tryz.prog 22 #[.slice a l.length cap] w fun e w' => ∃ v, e = .returned v ∧ Row w' w.heap.size v l ∧ Below w.heap.size w w' := by
  obtain ⟨i0, hi, hz0, hz1, hz2⟩ := info_parts infoI
  rcases a with _ | ad
  · have hnil : l = [] := by
      rcases hv.2 with h | ⟨b, off, h, _⟩
      · exact h
      · simp at h
    subst hnil
    have hq := fun (v : World) => Lib.run_eql_slice_nil v 22 2 none 0 cap 0 0 Tryz.underlying22
    go_enter Tryz.func22, Tryz.ntmps22
    go_wp2_with fail
    go_ret
    exact ⟨_, rfl, Row.nil _ _, Below.refl _ _⟩
  · have hcell : ∀ j u, (l.map (Value.int .i64))[j]? = some u → (w.alloc (.cells #[] 2)).cell? (ad.add j) = some u := by
      intro j u hj
      rcases hv.2 with h | ⟨b, off, h, _, hb, hc⟩
      · simp [h] at hj
      · simp at h
        subst h
        obtain ⟨hjl, rfl⟩ := map_cell hj
        rw [Addr.add_lit, cell_block (Below.heap_alloc w _ b hb), hc j hjl]
    have hq := fun (v : World) => Lib.run_eql_slice_nil v 22 2 (some ad) l.length cap 0 0 Tryz.underlying22
    go_enter Tryz.func22, Tryz.ntmps22
    go_wp2_with (at_builtin; refine wpList_append_own _ rfl _ _ 22 rfl w.heap.size 2 i0 (.int .i64 0) 1 8 Tryz.underlying22 hi hz0 hz1 hz2 rfl (by decide) _ 0 [] rfl (World.ownsRow_lit w #[] 0 (Nat.le_refl _) (by decide) (by simp)) ad l.length cap (l.map (Value.int .i64)) rfl (by simp) hcell (by simp [Value.oneCell']) (by unfold maxLen; omega) (by omega) (by simp) ?_; intro v' w1 hown hgrow hnn)
    simp only [Nat.zero_add, List.nil_append] at hown
    go_ret
    exact ⟨_, rfl, hown, ((Below.refl _ _).alloc (Nat.le_refl _) _).grown hgrow (by simp) (fun k hk => by have hk' : some w.heap.size = some k := hk; simp at hk'; omega)⟩
/-- Where a row lies behind a step: where it did, or in new memory. -/
def Lies (w : World) (v v' : Value) : Prop := v'.ownBlock = v.ownBlock ∨ ∃ g, v'.ownBlock = some g ∧ w.heap.size ≤ g
set_option maxHeartbeats 1000000 in
set_option maxRecDepth 100000 in
theorem insEndI (w : World) (base : Nat) (v : Value) (l : List Int) (x : Int) (vb : Nat) (hr : Row w base v l) (hl : l.length ≤ 1000) (hx : At w vb #[.int .i64 x] 2) (hb : base ≤ w.heap.size) :
    Calls Tryz.prog 110 #[v, .int .i64 l.length, .slice (some ⟨vb, 0, none⟩) 1 1] w fun e w' => ∃ v', e = .returned v' ∧ Row w' base v' (l ++ [x]) ∧ w.grownBy w' v.ownBlock ∧ Lies w v v' := by
  have hcx : w.cell? ⟨vb, 0, none⟩ = some (.int .i64 x) := (hx.cell 0).trans rfl
  rcases hr.2 with ⟨rfl, h0⟩ | ⟨g, cap, cur, rfl, _, _, hcap, hmax, _⟩
  · have hn : l = [] := List.length_eq_zero_iff.1 h0
    subst hn
    go_enter Tryz.func110, Tryz.ntmps110
    go_wp2_with (at_builtin; refine push_at rfl _ _ rfl base (.slice none 0 0) [] rfl hr x vb 1 rfl hcx (by simp) hb _ rfl ?_; intro g3 c3 w3 ho3 hg3 hl3 _)
    go_ret
    exact ⟨_, rfl, ho3, hg3, hl3.imp (fun h => h.symm) (fun h => ⟨g3, rfl, by omega⟩)⟩
  · have hcm : cap ≤ 9223372036854775807 := by unfold maxLen at hmax; omega
    go_enter Tryz.func110, Tryz.ntmps110
    go_wp2_with (at_builtin; refine push_at rfl _ _ rfl base (.slice (some ⟨g, 0, none⟩) l.length cap) l rfl hr x vb 1 rfl hcx (by omega) hb _ rfl ?_; intro g3 c3 w3 ho3 hg3 hl3 _)
    all_goals
      go_ret
      exact ⟨_, rfl, by have := ho3; simpa using this, hg3, hl3.imp (fun h => h.symm) (fun h => ⟨g3, rfl, by omega⟩)⟩
end Go.Proofs.YtolaghondjfhdabGreatDoor
namespace Go.Proofs.YtolaghondjfhdabGreatDoor
open Go.RowKit
set_option linter.unusedVariables false

theorem size64 : (Tryz.prog.info? 2).map (·.size) = some 1 := by
  obtain ⟨i0, hi0, h0, h1, h2⟩ := info_parts infoI
  rw [hi0]; simp [h1]
set_option maxHeartbeats 4000000 in
set_option maxRecDepth 100000 in
theorem insShiftI (w : World) (base g c : Nat) (l : List Int) (k : Nat) (x : Int) (vb : Nat) (hr : Row w base (.slice (some ⟨g, 0, none⟩) l.length c) l) (hk : k < l.length) (hl : l.length ≤ 1000) (hroom : l.length + 1 ≤ c) (hx : At w vb #[.int .i64 x] 2) (hvg : vb ≠ g) :
    Calls Tryz.prog 110 #[.slice (some ⟨g, 0, none⟩) l.length c, .int .i64 k, .slice (some ⟨vb, 0, none⟩) 1 1] w fun e w' => e = .returned (.slice (some ⟨g, 0, none⟩) (l.length + 1) c) ∧ w' = (w.drew.setCells g (k + 1) ((l.drop k).map (Value.int .i64))).setCells g k [.int .i64 x] := by
  obtain ⟨_, hbg, cur, hcur, hsz, hlc, hcm, hcell⟩ := row_cells hr
  have hc63 : c ≤ 9223372036854775807 := by unfold maxLen at hcm; omega
  have hCg : ∀ j, j < l.length → w.cell? ⟨g, j, none⟩ = some (.int .i64 (l.getD j 0)) := fun j hj => (cell_of_heap hcur).trans (hcell j hj)
  have hSp : ∀ j, j < l.length + 1 → (w.cell? ⟨g, j, none⟩).isSome = true := fun j hj => by rw [cell_of_heap hcur, Array.getElem?_eq_getElem (by omega)]; rfl
  have hFz : ∀ j, w.frozen? ⟨g, j, none⟩ = false := fun j => froz_of_heap hcur
  have hxc : w.cell? ⟨vb, 0, none⟩ = some (.int .i64 x) := (hx.cell 0).trans rfl
  have hov : ∀ lb cb, (callFunc 119 #[.slice (some ⟨vb, 0, none⟩) 1 1, .slice (some ⟨g, k + 1, none⟩) lb cb]).run Tryz.prog w = .ok (.value (.bool false)) w := fun lb cb => by
    rw [run_callFunc_extern Tryz.func119 (by kernel_rfl) (by kernel_rfl) (by kernel_rfl) (e := Extern.SlicesOverlaps.overlaps #[22, 22] #[4]) (by kernel_rfl),
      Lib.run_overlaps_apart w 22 4 2 Tryz.underlying22 1 (fun w => Tryz.sizeOf2 w) ⟨vb, 0, none⟩ ⟨g, k + 1, none⟩ 1 1 lb cb hvg 2 2 1 c (by have := hx; unfold At at this; simp [World.shape?, this]) (by simp [World.shape?, hcur, hsz]) (by omega) (froz_of_heap hx) (froz_of_heap hx)]
    rfl
  have hdl : ((l.drop k).map (Value.int .i64)).length = l.length - k := by simp
  have hcp1 : ∀ ty dc sc, (Builtin.copy_ #[22, 22] ty #[.slice (some ⟨g, k + 1, none⟩) (l.length - k) dc, .slice (some ⟨g, k, none⟩) (l.length + 1 - k) sc]).run Tryz.prog w.drew = .ok (goInt ((l.drop k).map (Value.int .i64)).length) (w.drew.setCells g (k + 1) ((l.drop k).map (Value.int .i64))) := fun ty dc sc =>
    run_copy_cells w.drew _ _ ty 2 g (k + 1) (l.length - k) dc ⟨g, k, none⟩ (l.length + 1 - k) sc _ Tryz.underlying22 size64 (by rw [hdl]; simp only [Nat.min_def]; split <;> omega)
      (fun j v hj => by
        obtain ⟨h1, rfl⟩ := map_cell hj
        simp only [List.length_drop] at h1
        rw [Addr.add_lit]
        show w.cell? _ = _
        rw [hCg (k + j) (by omega)]
        simp [List.getD, show k + j < l.length by omega])
      (fun j hj => by show (w.cell? _).isSome = true; exact hSp _ (by omega)) (fun j hj => by show w.frozen? _ = false; exact hFz _) (ints_one _)
  obtain ⟨W1, hW1⟩ : ∃ W1, W1 = w.drew.setCells g (k + 1) ((l.drop k).map (Value.int .i64)) := ⟨_, rfl⟩
  have hc1 : W1.heap[g]? = some (.cells (setsA cur (k + 1) ((l.drop k).map (Value.int .i64))) 2 (0, 0)) := by
    rw [hW1]
    exact heap_setCells _ _ w.drew cur hcur
  have hs1 : (setsA cur (k + 1) ((l.drop k).map (Value.int .i64))).size = c := by rw [setsA_size, hsz]
  have hx1 : W1.cell? ⟨vb, 0, none⟩ = some (.int .i64 x) := by
    rw [hW1, World.cell?_setCells_out g _ _ _ _ (fun h _ => absurd h hvg)]
    exact hxc
  have hcp2 : ∀ (W : World), (∀ x, W.cell? x = W1.cell? x) → (∀ x, W.frozen? x = W1.frozen? x) → ∀ ty dc, (Builtin.copy_ #[22, 22] ty #[.slice (some ⟨g, k, none⟩) (l.length + 1 - k) dc, .slice (some ⟨vb, 0, none⟩) 1 1]).run Tryz.prog W = .ok (goInt [Value.int .i64 x].length) (W.setCells g k [Value.int .i64 x]) := fun W hWc hWf ty dc =>
    run_copy_cells W _ _ ty 2 g k (l.length + 1 - k) dc ⟨vb, 0, none⟩ 1 1 _ Tryz.underlying22 size64 (by simp only [List.length_singleton, Nat.min_def]; split <;> omega)
      (fun j v hj => by
        match j, hj with
        | 0, hj => rw [Addr.add_lit, hWc]; simp at hj; rw [← hj]; exact hx1)
      (fun j hj => by rw [hWc, cell_of_heap hc1, Array.getElem?_eq_getElem (by simp at hj; omega)]; rfl) (fun j hj => by rw [hWf]; exact froz_of_heap hc1) (by simp [Value.oneCell'])
  rw [← hW1] at hcp1 ⊢
  have hdl2 : ((l.drop k).map (Value.int .i64)).length = l.length - k := by simp
  rw [hdl2] at hcp1
  clear hW1 hdl2
  have hb2 : ¬ (c = k + 1) := by omega
  have hb4 : ¬ (c = k) := by omega
  have hne : ¬ (k = l.length) := by omega
  clear hcell hcur hSp hFz hCg hxc hc1 hs1 hx1 hr hcm hdl
  go_enter Tryz.func110, Tryz.ntmps110
  go_wp2_with (simp only [hov])
  have mixed : Tryz.prog.follows .mixedOrders = true := by kernel_rfl
  have hw1 : IntKind.i64.wrap ((k : Int) + 1) = (k : Int) + 1 := by rw [IntKind.wrap_i64]; omega
  have hb1 : (0 : Int) ≤ (k : Int) + 1 := by omega
  have hin : k ≤ l.length := by omega
  have htn : ((k : Int) + 1).toNat = k + 1 := by omega
  have hb3 : (k : Int) ≤ (l.length : Int) + 1 := by omega
  go_region_law_o (refine step_copy_runI rfl _ _ 22 22 rfl _ _ (by simp [Act.eval, Act.put]) (by simp [Act.eval, Act.put]) (hcp1 _ _ _) ?_)
  go_wp2_with (at_builtin; refine wpList_copy_runI _ rfl _ _ 22 22 rfl _ _ rfl rfl (hcp2 _ (fun _ => rfl) (fun _ => rfl) _ _) ?_)
  go_ret
  exact ⟨rfl, rfl⟩
theorem ins_list (l : List Int) (k : Nat) (x : Int) (hk : k ≤ l.length) (i : Nat) (hi : i < l.length + 1) : (l.take k ++ x :: l.drop k).getD i 0 = if i < k then l.getD i 0 else if i = k then x else l.getD (i - 1) 0 := by
  have hlk : (l.take k).length = k := by simp; omega
  by_cases h1 : i < k
  · rw [if_pos h1]
    simp [List.getD, List.getElem?_append_left (show i < (l.take k).length by omega), h1]
  · rw [if_neg h1]
    by_cases h2 : i = k
    · subst h2
      rw [if_pos rfl]
      simp [List.getD, hlk]
    · rw [if_neg h2]
      obtain ⟨j, rfl⟩ : ∃ j, i = k + 1 + j := ⟨i - (k + 1), by omega⟩
      simp only [List.getD]
      rw [List.getElem?_append_right (by omega), hlk, show k + 1 + j - k = j + 1 by omega, List.getElem?_cons_succ, List.getElem?_drop, show k + 1 + j - 1 = k + j by omega]
theorem insShiftR (w : World) (base g c : Nat) (l : List Int) (k : Nat) (x : Int) (vb : Nat) (hr : Row w base (.slice (some ⟨g, 0, none⟩) l.length c) l) (hk : k < l.length) (hl : l.length ≤ 1000) (hroom : l.length + 1 ≤ c) (hx : At w vb #[.int .i64 x] 2) (hvg : vb ≠ g) :
    Calls Tryz.prog 110 #[.slice (some ⟨g, 0, none⟩) l.length c, .int .i64 k, .slice (some ⟨vb, 0, none⟩) 1 1] w fun e w' => ∃ v', e = .returned v' ∧ Row w' base v' (l.take k ++ x :: l.drop k) ∧ w.grownBy w' (some g) ∧ v'.ownBlock = some g := by
  refine (insShiftI w base g c l k x vb hr hk hl hroom hx hvg).mono ?_
  rintro e w' ⟨rfl, rfl⟩
  obtain ⟨_, hbg, cur, hcur, hsz, hlc, hcm, hcell⟩ := row_cells hr
  have hL : (l.take k ++ x :: l.drop k).length = l.length + 1 := by simp; omega
  have hh := heap_setCells [Value.int .i64 x] k _ _ (heap_setCells ((l.drop k).map (Value.int .i64)) (k + 1) w.drew cur hcur)
  have hdl : ((l.drop k).map (Value.int .i64)).length = l.length - k := by simp
  have hd : w.grownBy w.drew (some g) := ⟨rfl, rfl, rfl, Nat.le_refl _, fun i _ _ => rfl⟩
  refine ⟨_, rfl, ?_, grown_setCells g _ _ _ (grown_setCells g _ _ _ hd), rfl⟩
  rw [← hL]
  refine row_of hh hbg (by rw [setsA_size, setsA_size, hsz]) (by omega) hcm (fun i hi => ?_)
  rw [hL] at hi
  rw [setsA_get _ _ _ (by rw [setsA_size]; simp; omega), ins_list l k x (by omega) i hi]
  by_cases h2 : i = k
  · subst h2
    rw [if_pos (by simp), if_neg (by omega), if_pos rfl]
    simp
  · rw [if_neg (by simp; omega), setsA_get _ _ _ (by omega), hdl]
    by_cases h1 : i < k
    · rw [if_neg (by omega), if_pos h1]
      exact hcell i (by omega)
    · rw [if_pos (by omega), if_neg h1, if_neg h2]
      obtain ⟨j, rfl⟩ : ∃ j, i = k + 1 + j := ⟨i - (k + 1), by omega⟩
      rw [show k + 1 + j - (k + 1) = j by omega, show k + 1 + j - 1 = k + j by omega]
      simp [List.getD, show k + j < l.length by omega]
end Go.Proofs.YtolaghondjfhdabGreatDoor
namespace Go.Proofs.YtolaghondjfhdabGreatDoor
open Go.RowKit
set_option linter.unusedVariables false

set_option maxHeartbeats 4000000 in
set_option maxRecDepth 100000 in
theorem insGrowR (w : World) (base g c : Nat) (l : List Int) (k : Nat) (x : Int) (vb : Nat) (hr : Row w base (.slice (some ⟨g, 0, none⟩) l.length c) l) (hk : k < l.length) (hl : l.length ≤ 1000) (hroom : c < l.length + 1) (hx : At w vb #[.int .i64 x] 2) (hb : base ≤ w.heap.size) :
    Calls Tryz.prog 110 #[.slice (some ⟨g, 0, none⟩) l.length c, .int .i64 k, .slice (some ⟨vb, 0, none⟩) 1 1] w fun e w' => ∃ v', e = .returned v' ∧ Row w' base v' (l.take k ++ x :: l.drop k) ∧ w.grownBy w' (some g) ∧ v'.ownBlock = some w.heap.size := by
  obtain ⟨_, hbg, cur, hcur, hsz, hlc, hcm, hcell⟩ := row_cells hr
  obtain ⟨i0, hi0, hz0, hzs, hzb⟩ := info_parts infoI
  have hgw : g < w.heap.size := (Array.getElem?_eq_some_iff.1 hcur).1
  have hvw := hx.lt
  have hCg : ∀ j, j < l.length → w.cell? ⟨g, j, none⟩ = some (.int .i64 (l.getD j 0)) := fun j hj => (cell_of_heap hcur).trans (hcell j hj)
  have hxc : w.cell? ⟨vb, 0, none⟩ = some (.int .i64 x) := (hx.cell 0).trans rfl
  have hik : k + (l.length + 1 - k) = l.length + 1 := by omega
  have hkk : (l.length : Int) + 1 - (k : Int) = ((l.length + 1 - k : Nat) : Int) := by omega
  have hold : (Builtin.firstCells i0.size k (.slice (some ⟨g, 0, none⟩) k c)).run Tryz.prog w.drew = .ok ((l.take k).map (Value.int .i64)).toArray w.drew := by
    rw [hzs]
    exact run_firstCells_some w.drew 1 k ⟨g, 0, none⟩ k c _ (by simp; omega) (fun j v hj => by
      obtain ⟨h1, rfl⟩ := map_cell hj
      have h2 : j < k := by simp at h1; omega
      rw [Addr.add_lit, Nat.zero_add]
      show w.cell? _ = _
      rw [hCg j (by omega)]
      simp [List.getD, h2])
  obtain ⟨G, hG⟩ : ∃ G, G = grownCap w (l.length + 1) c 2 := ⟨_, rfl⟩
  obtain ⟨ROW, hROW⟩ : ∃ ROW : Array Value, ROW = ((l.take k).map (Value.int .i64)).toArray ++ Builtin.zeroCells (Value.int .i64 0).cells (l.length + 1 - k) ++ Builtin.zeroCells (Value.int .i64 0).cells (G - (l.length + 1)) := ⟨_, rfl⟩
  obtain ⟨W1, hW1⟩ : ∃ W1, W1 = w.drew.alloc (.cells ROW 2) := ⟨_, rfl⟩
  have hrz : ∀ ty, (Builtin.append_ #[22, 3] ty #[.slice (some ⟨g, 0, none⟩) k c, .int .i64 ((l.length : Int) + 1 - (k : Int))]).run Tryz.prog w = .ok (.slice (some ⟨w.heap.size, 0, none⟩) (l.length + 1) G) W1 := fun ty => by
    have h := Lib.run_append_grow_zeros w 22 3 ty 2 i0 _ .i64 .i64 Tryz.underlying22 Tryz.underlying3 hi0 hz0 (some ⟨g, 0, none⟩) k c ((l.take k).map (Value.int .i64)) hold (l.length + 1 - k) (by omega) (by omega) (by omega) (by omega) (by rw [hzb]; omega) (by rw [hzb, hik]; exact growslice_fits hroom (by omega))
    rw [hik] at h
    rw [hkk, hW1, hROW, hG]
    exact h
  have hGn : l.length + 1 ≤ G := by rw [hG]; exact grownCap_ge w _ _ _
  have hGm : G ≤ maxLen := by rw [hG]; exact grownCap_le_maxLen w _ _ _ (by unfold maxLen; omega)
  have hG63 : G ≤ 9223372036854775807 := by unfold maxLen at hGm; omega
  have hRs : ROW.size = G := by
    rw [hROW]
    simp [Builtin.zeroCells, Value.cells]
    omega
  have hN1 : W1.heap[w.heap.size]? = some (.cells ROW 2 (0, 0)) := by rw [hW1]; exact heap_alloc_last w.drew _
  have hB1 : ∀ i, i < w.heap.size → W1.heap[i]? = w.heap[i]? := fun i hi => by rw [hW1]; exact Below.heap_alloc w.drew _ i hi
  have hz1 : W1.heap.size = w.heap.size + 1 := by rw [hW1]; simp
  have hg1 : w.grownBy W1 (some w.heap.size) := ⟨by rw [hW1]; rfl, by rw [hW1]; rfl, by rw [hW1]; rfl, by omega, fun i hi _ => hB1 i hi⟩
  clear hW1 hold hG
  have hcpA : ∀ ty dc, (Builtin.copy_ #[22, 22] ty #[.slice (some ⟨w.heap.size, k, none⟩) (l.length + 1 - k) dc, .slice (some ⟨vb, 0, none⟩) 1 1]).run Tryz.prog W1 = .ok (goInt [Value.int .i64 x].length) (W1.setCells w.heap.size k [Value.int .i64 x]) := fun ty dc =>
    run_copy_cells W1 _ _ ty 2 w.heap.size k (l.length + 1 - k) dc ⟨vb, 0, none⟩ 1 1 _ Tryz.underlying22 size64 (by simp only [List.length_singleton, Nat.min_def]; split <;> omega)
      (fun j v hj => by
        match j, hj with
        | 0, hj => rw [Addr.add_lit, cell_block (hB1 vb hvw)]; simp at hj; rw [← hj]; exact hxc)
      (fun j hj => by rw [cell_of_heap hN1, Array.getElem?_eq_getElem (by simp at hj; omega)]; rfl) (fun j hj => froz_of_heap hN1) (by simp [Value.oneCell'])
  obtain ⟨W2, hW2⟩ : ∃ W2, W2 = W1.setCells w.heap.size k [Value.int .i64 x] := ⟨_, rfl⟩
  have hN2 : W2.heap[w.heap.size]? = some (.cells (setsA ROW k [Value.int .i64 x]) 2 (0, 0)) := by rw [hW2]; exact heap_setCells _ _ W1 ROW hN1
  have hg2 : w.grownBy W2 (some w.heap.size) := by rw [hW2]; exact grown_setCells _ _ _ _ hg1
  rw [← hW2] at hcpA
  have hcpB : ∀ ty dc sc, (Builtin.copy_ #[22, 22] ty #[.slice (some ⟨w.heap.size, k + 1, none⟩) (l.length - k) dc, .slice (some ⟨g, k, none⟩) (l.length - k) sc]).run Tryz.prog W2.drew = .ok (goInt ((l.drop k).map (Value.int .i64)).length) (W2.drew.setCells w.heap.size (k + 1) ((l.drop k).map (Value.int .i64))) := fun ty dc sc =>
    run_copy_cells W2.drew _ _ ty 2 w.heap.size (k + 1) (l.length - k) dc ⟨g, k, none⟩ (l.length - k) sc _ Tryz.underlying22 size64 (by simp)
      (fun j v hj => by
        obtain ⟨h1, rfl⟩ := map_cell hj
        simp only [List.length_drop] at h1
        rw [Addr.add_lit]
        show W2.cell? _ = _
        rw [cell_block (hg2.block g hgw (by simp; omega)), hCg (k + j) (by omega)]
        simp [List.getD, show k + j < l.length by omega])
      (fun j hj => by
        show (W2.cell? _).isSome = true
        rw [cell_of_heap hN2, Array.getElem?_eq_getElem (by rw [setsA_size]; simp at hj; omega)]; rfl) (fun j hj => by show W2.frozen? _ = false; exact froz_of_heap hN2) (ints_one _)
  obtain ⟨W3, hW3⟩ : ∃ W3, W3 = W2.drew.setCells w.heap.size (k + 1) ((l.drop k).map (Value.int .i64)) := ⟨_, rfl⟩
  have hN3 : W3.heap[w.heap.size]? = some (.cells (setsA (setsA ROW k [Value.int .i64 x]) (k + 1) ((l.drop k).map (Value.int .i64))) 2 (0, 0)) := by rw [hW3]; exact heap_setCells _ _ W2.drew _ hN2
  have hg3 : w.grownBy W3 (some w.heap.size) := by rw [hW3]; exact grown_setCells _ _ _ _ ⟨hg2.os, hg2.tape, hg2.output, hg2.size, hg2.block⟩
  rw [← hW3] at hcpB
  have hdl : ((l.drop k).map (Value.int .i64)).length = l.length - k := by simp
  rw [hdl] at hcpB
  have hL : (l.take k ++ x :: l.drop k).length = l.length + 1 := by simp; omega
  have HROWfin : Hid (Row W3 base (.slice (some ⟨w.heap.size, 0, none⟩) (l.length + 1) G) (l.take k ++ x :: l.drop k)) := by
    show Row _ _ _ _
    rw [← hL]
    refine row_of hN3 hb (by rw [setsA_size, setsA_size, hRs]) (by omega) hGm (fun i hi => ?_)
    rw [hL] at hi
    rw [setsA_get _ _ _ (by rw [setsA_size, hdl]; omega), ins_list l k x (by omega) i hi, hdl]
    by_cases h1 : k + 1 ≤ i
    · rw [if_pos (by omega), if_neg (by omega), if_neg (by omega)]
      obtain ⟨j, rfl⟩ : ∃ j, i = k + 1 + j := ⟨i - (k + 1), by omega⟩
      rw [show k + 1 + j - (k + 1) = j by omega, show k + 1 + j - 1 = k + j by omega]
      simp [List.getD, show k + j < l.length by omega]
    · rw [if_neg (by omega), setsA_get _ _ _ (by simp; omega)]
      by_cases h2 : i = k
      · subst h2
        rw [if_pos (by simp), if_neg (by omega), if_pos rfl]
        simp
      · rw [if_neg (by simp; omega), if_pos (by omega), hROW, Array.append_assoc, Array.getElem?_append_left (by simp; omega)]
        simp [List.getD, show i < k by omega, show i < l.length by omega]
  have hgF : w.grownBy W3 (some g) := ⟨hg3.os, hg3.tape, hg3.output, hg3.size, fun i hi _ => hg3.block i hi (by simp; omega)⟩
  have mixed : Tryz.prog.follows .mixedOrders = true := by kernel_rfl
  have hc63 : c ≤ 9223372036854775807 := by unfold maxLen at hcm; omega
  clear hcell hcur hCg hxc hN1 hN2 hN3 hB1 hg1 hg2 hg3 hW2 hW3 hROW hRs hr hcm hdl hL hik hkk hz0 hzs hzb hi0
  have hne : ¬ (k = l.length) := by omega
  have hin : k ≤ l.length := by omega
  have hw1 : IntKind.i64.wrap ((k : Int) + 1) = (k : Int) + 1 := by rw [IntKind.wrap_i64]; omega
  have hb1 : (0 : Int) ≤ (k : Int) + 1 := by omega
  have htn : ((k : Int) + 1).toNat = k + 1 := by omega
  have hb3 : (k : Int) ≤ (l.length : Int) + 1 := by omega
  have hGk : ¬ (G = k) := by omega
  have hGk1 : ¬ (G = k + 1) := by omega
  have hck : ¬ (c = k) := by omega
  have hgt : (c : Int) < (l.length : Int) + 1 := by omega
  go_enter Tryz.func110, Tryz.ntmps110
  go_wp2_with (first | (at_builtin; refine Lib.wpList_append_run _ rfl _ _ _ _ rfl _ _ rfl rfl _ _ (hrz _) ?_) | (at_builtin; refine wpList_copy_runI _ rfl _ _ 22 22 rfl _ _ rfl rfl (hcpA _ _) ?_))
  go_region_law_o (refine step_copy_runI rfl _ _ 22 22 rfl _ _ (by simp [Act.eval, Act.put]) (by simp [Act.eval, Act.put]) (hcpB _ _ _) ?_)
  go_wp2_with fail
  go_ret
  exact ⟨_, rfl, HROWfin.out, hgF, rfl⟩
/-- slices.Insert of one number, wherever it belongs. -/
theorem insertI (w : World) (base : Nat) (v : Value) (l : List Int) (k : Nat) (x : Int) (vb : Nat) (hr : Row w base v l) (hk : k ≤ l.length) (hl : l.length ≤ 1000) (hx : At w vb #[.int .i64 x] 2) (hvg : v.ownBlock ≠ some vb) (hb : base ≤ w.heap.size) :
    Calls Tryz.prog 110 #[v, .int .i64 k, .slice (some ⟨vb, 0, none⟩) 1 1] w fun e w' => ∃ v', e = .returned v' ∧ Row w' base v' (l.take k ++ x :: l.drop k) ∧ w.grownBy w' v.ownBlock ∧ Lies w v v' := by
  rcases Nat.lt_or_ge k l.length with h | h
  · obtain ⟨g, c, rfl⟩ : ∃ g c, v = .slice (some ⟨g, 0, none⟩) l.length c := by
      rcases hr.2 with ⟨_, h0⟩ | ⟨g, c, _, e, _⟩
      · omega
      · exact ⟨g, c, e⟩
    have hvg' : vb ≠ g := fun e => hvg (by rw [e]; rfl)
    by_cases hc : l.length + 1 ≤ c
    · refine (insShiftR w base g c l k x vb hr h hl hc hx hvg').mono ?_
      rintro e w' ⟨v', rfl, h1, h2, h3⟩
      exact ⟨v', rfl, h1, h2, .inl h3⟩
    · refine (insGrowR w base g c l k x vb hr h hl (by omega) hx hb).mono ?_
      rintro e w' ⟨v', rfl, h1, h2, h3⟩
      exact ⟨v', rfl, h1, h2, .inr ⟨_, h3, Nat.le_refl _⟩⟩
  · have hkl : k = l.length := by omega
    subst hkl
    rw [List.take_length, List.drop_length]
    exact insEndI w base v l x vb hr hl hx hb
end Go.Proofs.YtolaghondjfhdabGreatDoor
namespace Go.Proofs.YtolaghondjfhdabGreatDoor
open Go.RowKit
set_option linter.unusedVariables false

theorem del_list (l : List Int) (k : Nat) (hk : k < l.length) (i : Nat) (hi : i < l.length - 1) : (l.take k ++ l.drop (k + 1)).getD i 0 = if i < k then l.getD i 0 else l.getD (i + 1) 0 := by
  have hlk : (l.take k).length = k := by simp; omega
  by_cases h1 : i < k
  · rw [if_pos h1]
    simp [List.getD, List.getElem?_append_left (show i < (l.take k).length by omega), h1]
  · rw [if_neg h1]
    simp only [List.getD]
    rw [List.getElem?_append_right (by omega), hlk, List.getElem?_drop, show k + 1 + (i - k) = i + 1 by omega]
set_option maxHeartbeats 4000000 in
set_option maxRecDepth 100000 in
theorem deleteI (w : World) (base : Nat) (v : Value) (l : List Int) (k : Nat) (hr : Row w base v l) (hk : k < l.length) (hl : l.length ≤ 1000) :
    Calls Tryz.prog 111 #[v, .int .i64 k, .int .i64 ((k : Int) + 1)] w fun e w' => ∃ v', e = .returned v' ∧ Row w' base v' (l.take k ++ l.drop (k + 1)) ∧ w.grownBy w' v.ownBlock ∧ v'.ownBlock = v.ownBlock := by
  obtain ⟨g, c, rfl⟩ : ∃ g c, v = .slice (some ⟨g, 0, none⟩) l.length c := by
    rcases hr.2 with ⟨_, h0⟩ | ⟨g, c, _, e, _⟩
    · omega
    · exact ⟨g, c, e⟩
  obtain ⟨_, hbg, cur, hcur, hsz, hlc, hcm, hcell⟩ := row_cells hr
  obtain ⟨i0, hi0, hz0, hzs, hzb⟩ := info_parts infoI
  have hc63 : c ≤ 9223372036854775807 := by unfold maxLen at hcm; omega
  have hCg : ∀ j, j < l.length → w.cell? ⟨g, j, none⟩ = some (.int .i64 (l.getD j 0)) := fun j hj => (cell_of_heap hcur).trans (hcell j hj)
  obtain ⟨news, hnews⟩ : ∃ news, news = (l.drop (k + 1)).map (Value.int .i64) := ⟨_, rfl⟩
  have hlen : news.length = l.length - (k + 1) := by rw [hnews]; simp
  obtain ⟨A, hA, hsrc⟩ : ∃ A : Addr, (if c = k + 1 then some (⟨g, 0, none⟩ : Addr) else some ⟨g, k + 1, none⟩) = some A ∧ Hid (∀ t u, news[t]? = some u → w.drew.cell? (A.add t) = some u) := by
    by_cases h : c = k + 1
    · refine ⟨⟨g, 0, none⟩, by simp [h], fun t u hu => ?_⟩
      have h0 : news.length = 0 := by rw [hlen]; omega
      rw [List.length_eq_zero_iff.1 h0] at hu
      simp at hu
    · refine ⟨⟨g, k + 1, none⟩, by simp [h], fun t u hu => ?_⟩
      rw [hnews] at hu
      obtain ⟨h1, rfl⟩ := map_cell hu
      simp only [List.length_drop] at h1
      rw [Addr.add_lit]
      show w.cell? _ = _
      rw [hCg (k + 1 + t) (by omega)]
      simp [List.getD, show k + 1 + t < l.length by omega]
  have s1 : Hid (news.length = (l.length - (k + 1)) * 1) := by show _ = _; rw [Nat.mul_one]; exact hlen
  have s2 : Hid (∀ u ∈ news, u.oneCell' = true) := by rw [hnews]; exact ints_one _
  have s3 : Hid (∀ t, t < news.length → (w.drew.cell? ⟨g, 0 + k * 1 + t, none⟩).isSome = true ∧ w.drew.frozen? ⟨g, 0 + k * 1 + t, none⟩ = false) := fun t ht => by
    rw [hlen] at ht
    rw [Nat.mul_one, Nat.zero_add]
    exact ⟨by show (w.cell? _).isSome = true; rw [hCg (k + t) (by omega)]; rfl, by show w.frozen? _ = false; exact froz_of_heap hcur⟩
  obtain ⟨W1, hW1⟩ : ∃ W1, W1 = w.drew.setCells g (0 + k * 1) news := ⟨_, rfl⟩
  have hN1 : W1.heap[g]? = some (.cells (setsA cur k news) 2 (0, 0)) := by
    rw [hW1, Nat.mul_one, Nat.zero_add]
    exact heap_setCells _ _ w.drew cur hcur
  have hg1 : w.grownBy W1 (some g) := by rw [hW1]; exact grown_setCells g _ _ _ ⟨rfl, rfl, rfl, Nat.le_refl _, fun i _ _ => rfl⟩
  have hcl : ∀ ty cc, (Builtin.clear_ #[22] ty #[.slice (some ⟨g, k + (l.length - (k + 1)), none⟩) (l.length - (k + (l.length - (k + 1)))) cc]).run Tryz.prog W1 = .ok (.tuple #[]) (W1.setCells g (k + (l.length - (k + 1))) (List.replicate (l.length - (k + (l.length - (k + 1)))) (.int .i64 0))) := fun ty cc =>
    Lib.run_clear_slice W1 _ _ ty _ Tryz.underlying22 (fun w => Tryz.zeroValue2 w) rfl rfl g _ _ _ (by omega) (fun t ht => by rw [cell_of_heap hN1, Array.getElem?_eq_getElem (by rw [setsA_size]; omega)]; rfl) (fun t ht => froz_of_heap hN1)
  obtain ⟨W2, hW2⟩ : ∃ W2, W2 = W1.setCells g (k + (l.length - (k + 1))) (List.replicate (l.length - (k + (l.length - (k + 1)))) (.int .i64 0)) := ⟨_, rfl⟩
  have hN2 : W2.heap[g]? = some (.cells (setsA (setsA cur k news) (k + (l.length - (k + 1))) (List.replicate (l.length - (k + (l.length - (k + 1)))) (.int .i64 0))) 2 (0, 0)) := by rw [hW2]; exact heap_setCells _ _ W1 _ hN1
  have hg2 : w.grownBy W2 (some g) := by rw [hW2]; exact grown_setCells g _ _ _ hg1
  rw [← hW2] at hcl
  have hL : (l.take k ++ l.drop (k + 1)).length = l.length - 1 := by simp; omega
  have HROW : Hid (Row W2 base (.slice (some ⟨g, 0, none⟩) (k + (l.length - (k + 1))) c) (l.take k ++ l.drop (k + 1))) := by
    show Row _ _ _ _
    rw [show k + (l.length - (k + 1)) = l.length - 1 by omega] at hN2 ⊢
    rw [← hL]
    refine row_of (l := l.take k ++ l.drop (k + 1)) hN2 hbg (by rw [setsA_size, setsA_size, hsz]) (by omega) hcm (fun i hi => ?_)
    rw [hL] at hi
    rw [setsA_get _ _ _ (by rw [setsA_size]; simp; omega), del_list l k hk i hi, if_neg (by omega), setsA_get _ _ _ (by omega), hlen]
    by_cases h1 : i < k
    · rw [if_neg (by omega), if_pos h1]
      exact hcell i (by omega)
    · rw [if_pos (by omega), if_neg h1, hnews]
      obtain ⟨j, rfl⟩ : ∃ j, i = k + j := ⟨i - k, by omega⟩
      rw [show k + j - k = j by omega, show k + j + 1 = k + 1 + j by omega]
      simp [List.getD, show k + 1 + j < l.length by omega]
  have hW : Hid (W1 = w.drew.setCells g (0 + k * 1) news) := hW1
  have mixed : Tryz.prog.follows .mixedOrders = true := by kernel_rfl
  have hic : k ≤ c := by omega
  have hjc : k + 1 ≤ c := by omega
  have hkl : k + 1 ≤ l.length := by omega
  have hw1 : IntKind.i64.wrap ((k : Int) + 1) = (k : Int) + 1 := by rw [IntKind.wrap_i64]; omega
  have htn : ((k : Int) + 1).toNat = k + 1 := by omega
  have hq1 : (0 : Int) ≤ (k : Int) + 1 := by omega
  have hq2 : (k : Int) + 1 ≤ (l.length : Int) := by omega
  clear hcell hcur hCg hN1 hN2 hg1 hW1 hW2 hr hcm hL hlen hnews hsz
  go_enter Tryz.func111, Tryz.ntmps111
  go_wp2_with fail
  go_region_law_o (refine step_append_room rfl (.tmp 22) (.tmp 25) 22 rfl 2 i0 1 Tryz.underlying22 hi0 hzs g 0 k c (by simp [Act.eval, Act.put]) A (l.length - (k + 1)) (c - (k + 1)) news (by simp [Act.eval, Act.put]) s1.out hsrc.out s2.out (by omega) s3.out ?_; rw [← hW.out])
  clear hA
  go_wp2_with fail
  go_ret
  exact ⟨_, rfl, HROW.out, hg2, rfl⟩
end Go.Proofs.YtolaghondjfhdabGreatDoor
namespace Go.Proofs.YtolaghondjfhdabGreatDoor
open Go.RowKit
set_option linter.unusedVariables false

/-- A set in a box at block A. -/
structure SetAt (w : World) (base A : Nat) (v : Value) (l : List Int) : Prop where
  box : At w A #[v] 76
  row : Row w base v l
/-- What stays where a set at A is written into. -/
structure Kept (w w' : World) (A : Nat) (v v' : Value) : Prop where
  os : w'.os = w.os
  tape : w'.tape = w.tape
  output : w'.output = w.output
  size : w.heap.size ≤ w'.heap.size
  block : ∀ i, i < w.heap.size → i ≠ A → v.ownBlock ≠ some i → w'.heap[i]? = w.heap[i]?
  lies : Lies w v v'
theorem Kept.refl (w : World) (A : Nat) (v : Value) : Kept w w A v v := ⟨rfl, rfl, rfl, Nat.le_refl _, fun _ _ _ _ => rfl, .inl rfl⟩
theorem Kept.trans {w w1 w2 : World} {A : Nat} {v v1 v2 : Value} (h : Kept w w1 A v v1) (k : Kept w1 w2 A v1 v2) : Kept w w2 A v v2 := by
  refine ⟨k.os.trans h.os, k.tape.trans h.tape, k.output.trans h.output, Nat.le_trans h.size k.size, fun i hi hA hv => ?_, ?_⟩
  · refine (k.block i (Nat.lt_of_lt_of_le hi h.size) hA (fun e => ?_)).trans (h.block i hi hA hv)
    rcases h.lies with h1 | ⟨g, h1, h2⟩
    · exact hv (h1 ▸ e)
    · rw [h1] at e
      have : g = i := by simpa using e
      omega
  · rcases k.lies with k1 | ⟨g, k1, k2⟩
    · rcases h.lies with h1 | ⟨g, h1, h2⟩
      · exact .inl (k1.trans h1)
      · exact .inr ⟨g, k1.trans h1, h2⟩
    · exact .inr ⟨g, k1, Nat.le_trans h.size k2⟩
theorem Kept.below {w w' : World} {A B : Nat} {v v' : Value} (h : Kept w w' A v v') (hA : B ≤ A) (hv : ∀ g, v.ownBlock = some g → B ≤ g) (hB : B ≤ w.heap.size) : Below B w w' :=
  ⟨h.os, h.tape, h.output, h.size, fun i hi => h.block i (by omega) (by omega) (fun e => by have := hv i e; omega)⟩
theorem SetAt.ne {w : World} {base A : Nat} {v : Value} {l : List Int} (h : SetAt w base A v l) : v.ownBlock ≠ some A := fun e => by
  rcases h.row.2 with ⟨rfl, _⟩ | ⟨g, c, cur, rfl, _, hc, _⟩
  · cases e
  · have : g = A := by simpa [Value.ownBlock] using e
    subst this
    have := h.box
    unfold At at this
    rw [hc] at this
    cases this
theorem Row.kept {w w' : World} {base : Nat} {v : Value} {l : List Int} (h : Row w base v l) (k : ∀ g, v.ownBlock = some g → w'.heap[g]? = w.heap[g]?) : Row w' base v l := h.block fun g hg _ => k g hg
/-- One number more, put where it belongs. -/
theorem put_step {w w2 : World} {base A : Nat} {v v2 : Value} {l l2 : List Int} {o : Obj} (h : SetAt w base A v l) (hr : Row w2 base v2 l2) (hg : (w.alloc o).grownBy w2 v.ownBlock) (hl : Lies (w.alloc o) v v2) : SetAt (w2.setCell ⟨A, 0, none⟩ v2) base A v2 l2 ∧ Kept w (w2.setCell ⟨A, 0, none⟩ v2) A v v2 := by
  have hz : (w.alloc o).heap.size = w.heap.size + 1 := by simp
  have hA := h.box.lt
  have hA2 : w2.heap[A]? = some (.cells #[v] 76 (0, 0)) := by
    rw [hg.block A (by omega) (fun e => h.ne e.symm), Below.heap_alloc w o A hA]
    exact h.box
  have hne : v2.ownBlock ≠ some A := fun e => by
    rcases hr.2 with ⟨rfl, _⟩ | ⟨g, c, cur, rfl, _, hc, _⟩
    · cases e
    · have : g = A := by simpa [Value.ownBlock] using e
      subst this
      rw [hA2] at hc
      cases hc
  refine ⟨⟨heap_set (o := 0) hA2, hr.kept fun g e => Below.heap_setCell _ _ _ _ (by show g ≠ A; intro e2; exact hne (e2 ▸ e))⟩, ⟨hg.os, hg.tape, hg.output, ?_, fun i hi hiA hv => ?_, ?_⟩⟩
  · have := hg.size
    simp [World.setCell] at this ⊢
    omega
  · rw [Below.heap_setCell _ _ _ _ (by show i ≠ A; exact hiA), hg.block i (by omega) (fun e => hv e.symm), Below.heap_alloc w o i hi]
  · rcases hl with h1 | ⟨g, h1, h2⟩
    · exact .inl h1
    · exact .inr ⟨g, h1, by omega⟩
theorem sum_snoc {A B : List Int} {k : Nat} (hk : k < B.length) : sumL A (B.take (k + 1)) = ins (sumL A (B.take k)) (B.getD k 0) := by
  unfold sumL
  rw [List.take_succ_eq_append_getElem hk, List.foldl_append]
  simp [List.getD, hk]
theorem Fine.take {c : Nat} {s b : List Int} (h : Fine c s) (hb : Rng c b) (k : Nat) : Fine c (sumL s (b.take k)) := h.sum fun x hx => hb x (List.mem_of_mem_take hx)
set_option maxHeartbeats 4000000 in
set_option maxRecDepth 100000 in
theorem putI (w : World) (base A : Nat) (v : Value) (l : List Int) (lo : Nat) (a : Option Addr) (c : Nat) (xs : List Int) (cn : Nat) (hS : SetAt w base A v l) (hxs : IntsAt w lo a xs) (hsep : xs ≠ [] → ∀ b off, a = some ⟨b, off, none⟩ → b ≠ A ∧ v.ownBlock ≠ some b) (hf : Fine cn l) (hx : Rng cn xs) (hc : cn ≤ 60) (hxl : xs.length ≤ 1000) (hb : base ≤ w.heap.size) :
    Calls Tryz.prog 94 #[.pointer (some ⟨A, 0, none⟩), .slice a xs.length c] w fun e w' => e = .returned (.tuple #[]) ∧ ∃ v', SetAt w' base A v' (sumL l xs) ∧ Kept w w' A v v' := by
  have HX : Hid (IntsAt w lo a xs) := hxs
  have HSEP : Hid (xs ≠ [] → ∀ b off, a = some ⟨b, off, none⟩ → b ≠ A ∧ v.ownBlock ≠ some b) := hsep
  have HF : Hid (∀ k, Fine cn (sumL l (xs.take k))) := fun k => hf.take hx k
  have HS0 : Hid (SetAt w base A v l) := hS
  clear hxs hsep hf hx hS
  go_enter Tryz.func94, Tryz.ntmps94
  go_wp2_with fail
  go_loopw [10] (fun i wr => ∃ (k : Nat) (v1 : Value), k ≤ xs.length ∧ i = .int .i64 k ∧ Hid (SetAt wr base A v1 (sumL l (xs.take k))) ∧ Hid (Kept w wr A v v1)) (fun i _ => xs.length - (intOf i).toNat)
  case atStart => exact ⟨0, v, by omega, rfl, HS0, Kept.refl _ _ _⟩
  case round =>
    obtain ⟨k, v1, hk, rfl, HS, HK⟩ := hrel
    by_cases hlt : k < xs.length
    · obtain ⟨ba, off, rfl, e1⟩ : ∃ ba off, a = some ⟨ba, off, none⟩ ∧ wr.cell? ⟨ba, off + k, none⟩ = some (.int .i64 (xs.getD k 0)) := by
        rcases HX.out.2 with h | ⟨ba, off, ha, _, hba, hc⟩
        · rw [h] at hlt; simp at hlt
        · obtain ⟨s1, s2⟩ := HSEP.out (fun e => by rw [e] at hlt; simp at hlt) ba off ha
          exact ⟨ba, off, ha, (cell_block (HK.out.block ba hba s1 s2)).trans (hc k hlt)⟩
      have hfk := HF.out k
      have hlen := hfk.len
      have HSN : Hid (sumL l (xs.take (k + 1)) = ins (sumL l (xs.take k)) (xs.getD k 0)) := sum_snoc hlt
      have HSR : Hid (Srt (sumL l (xs.take k))) := hfk.1
      generalize xs.getD k 0 = x at e1 HSN
      generalize sumL l (xs.take k) = s at *
      obtain ⟨ua, uc, rfl, is1⟩ := HS.out.row.ints (by omega)
      have b0 : wr.cell? ⟨A, 0, none⟩ = some (.slice ua s.length uc) := (HS.out.box.cell 0).trans rfl
      have P1 := searchI base ua uc s x wr (by omega) HSR.out is1
      have hpl := posL_le x s
      have hzb : base ≤ wr.heap.size := Nat.le_trans hb HK.out.size
      have fzA : wr.frozen? ⟨A, 0, none⟩ = false := froz_of_heap HS.out.box
      clear hfk
      by_cases hin : x ∈ s
      · rw [decide_eq_true hin] at P1
        have HE : Hid (ins s x = s) := (ins_has HSR.out hin).2.2
        clear hin
        generalize posL s x = q at P1 hpl
        go_wp2_with fail
        refine P1.mono ?_
        rintro e w9 ⟨rfl, h9⟩
        have h8 := h9.symm
        clear h9
        subst h8
        go_wp2_with fail
        go_roundw
        case rel => exact ⟨k + 1, _, by omega, by go_num, by show SetAt _ _ _ _ _; rw [HSN.out, HE.out]; exact HS.out, HK⟩
        case measure => simp [intOf]; omega
      · rw [decide_eq_false hin] at P1
        have HE : Hid (ins s x = s.take (posL s x) ++ x :: s.drop (posL s x)) := ins_pos HSR.out hin
        have PI := insertI (wr.alloc (.cells #[.int .i64 x] 2)) base (.slice ua s.length uc) s (posL s x) x wr.heap.size (HS.out.row.alloc _) hpl (by omega) (At.new wr _ _) (fun e => by have := (HS.out.row.ge e).2; omega) (by simp; omega)
        clear hin
        generalize posL s x = q at P1 PI HE hpl
        go_wp2_with fail
        refine P1.mono ?_
        rintro e w9 ⟨rfl, h9⟩
        have h8 := h9.symm
        clear h9
        subst h8
        go_wp2_with fail
        refine PI.mono ?_
        rintro e w2 ⟨v2, rfl, hr2, hg2, hl2⟩
        obtain ⟨hS3, hK3⟩ := put_step HS.out hr2 hg2 hl2
        have HS3 : Hid (SetAt (w2.setCell ⟨A, 0, none⟩ v2) base A v2 (sumL l (xs.take (k + 1)))) := by show SetAt _ _ _ _ _; rw [HSN.out, HE.out]; exact hS3
        have HK3 : Hid (Kept w (w2.setCell ⟨A, 0, none⟩ v2) A v v2) := HK.out.trans hK3
        have hA := HS.out.box.lt
        have b2 : w2.heap[A]? = some (.cells #[.slice ua s.length uc] 76 (0, 0)) := by
          rw [hg2.block A (by simp; omega) (fun e => HS.out.ne e.symm), Below.heap_alloc wr _ A hA]
          exact HS.out.box
        have c2 : w2.cell? ⟨A, 0, none⟩ = some (.slice ua s.length uc) := (cell_of_heap b2).trans rfl
        have f2 : w2.frozen? ⟨A, 0, none⟩ = false := froz_of_heap b2
        obtain ⟨vu, vc, hv2⟩ := hr2.slice
        clear hS3 hK3 hr2 hg2 hl2 b0 fzA PI P1
        generalize (s.take q ++ x :: s.drop q).length = nn at hv2
        subst hv2
        go_wp2_with fail
        go_roundw
        case rel => exact ⟨k + 1, _, by omega, by go_num, HS3, HK3⟩
        case measure => simp [intOf]; omega
    · have HS4 : Hid (SetAt wr base A v1 (sumL l xs)) := by
        have := HS.out
        rw [List.take_of_length_le (by omega)] at this
        exact this
      go_wp2_with fail
      go_end0
      exact ⟨rfl, v1, HS4.out, HK.out⟩
theorem Fine.search {c : Nat} {s : List Int} (h : Fine c s) (x : Int) : x ∈ s → posL s x < s.length ∧ lessL s x = s.take (posL s x) ++ s.drop (posL s x + 1) := fun hx => ⟨(ins_has h.1 hx).1, less_has h.1 hx⟩
theorem drop_step {w w2 : World} {base A : Nat} {v v2 : Value} {l l2 : List Int} (h : SetAt w base A v l) (hr : Row w2 base v2 l2) (hg : w.grownBy w2 v.ownBlock) (hl : v2.ownBlock = v.ownBlock) : SetAt (w2.setCell ⟨A, 0, none⟩ v2) base A v2 l2 ∧ Kept w (w2.setCell ⟨A, 0, none⟩ v2) A v v2 := by
  have hA := h.box.lt
  have hA2 : w2.heap[A]? = some (.cells #[v] 76 (0, 0)) := (hg.block A hA (fun e => h.ne e.symm)).trans h.box
  have hne : v2.ownBlock ≠ some A := by rw [hl]; exact h.ne
  refine ⟨⟨heap_set (o := 0) hA2, hr.kept fun g e => Below.heap_setCell _ _ _ _ (by show g ≠ A; intro e2; exact hne (e2 ▸ e))⟩, ⟨hg.os, hg.tape, hg.output, ?_, fun i hi hiA hv => ?_, .inl hl⟩⟩
  · have := hg.size
    simpa [World.setCell] using this
  · rw [Below.heap_setCell _ _ _ _ (by show i ≠ A; exact hiA), hg.block i hi (fun e => hv e.symm)]
set_option maxHeartbeats 2000000 in
set_option maxRecDepth 100000 in
theorem dropI (w : World) (base A : Nat) (v : Value) (l : List Int) (x : Int) (cn : Nat) (hS : SetAt w base A v l) (hf : Fine cn l) (hc : cn ≤ 60) :
    Calls Tryz.prog 96 #[.pointer (some ⟨A, 0, none⟩), .int .i64 x] w fun e w' => e = .returned (.tuple #[]) ∧ ∃ v', SetAt w' base A v' (lessL l x) ∧ Kept w w' A v v' := by
  have hlen := hf.len
  obtain ⟨ua, uc, rfl, is1⟩ := hS.row.ints (by omega)
  have b0 : w.cell? ⟨A, 0, none⟩ = some (.slice ua l.length uc) := (hS.box.cell 0).trans rfl
  have P1 := searchI base ua uc l x w (by omega) hf.1 is1
  have HS : Hid (SetAt w base A (.slice ua l.length uc) l) := hS
  by_cases hin : x ∈ l
  · rw [decide_eq_true hin] at P1
    obtain ⟨hp, hE⟩ := hf.search x hin
    have HE : Hid (lessL l x = l.take (posL l x) ++ l.drop (posL l x + 1)) := hE
    have PD := deleteI w base _ l (posL l x) hS.row hp (by omega)
    clear hin hE hf is1 hS
    generalize posL l x = q at P1 PD HE hp
    go_enter Tryz.func96, Tryz.ntmps96
    go_wp2_with fail
    refine P1.mono ?_
    rintro e w9 ⟨rfl, h9⟩
    have h8 := h9.symm
    clear h9
    subst h8
    go_wp2_with fail
    refine PD.mono ?_
    rintro e w2 ⟨v2, rfl, hr2, hg2, hl2⟩
    obtain ⟨hS3, hK3⟩ := drop_step HS.out hr2 hg2 hl2
    have HS3 : Hid (SetAt (w2.setCell ⟨A, 0, none⟩ v2) base A v2 (lessL l x)) := by show SetAt _ _ _ _ _; rw [HE.out]; exact hS3
    have HK3 : Hid (Kept w (w2.setCell ⟨A, 0, none⟩ v2) A (.slice ua l.length uc) v2) := hK3
    have b2 : w2.heap[A]? = some (.cells #[.slice ua l.length uc] 76 (0, 0)) := (hg2.block A HS.out.box.lt (fun e => HS.out.ne e.symm)).trans HS.out.box
    have c2 : w2.cell? ⟨A, 0, none⟩ = some (.slice ua l.length uc) := (cell_of_heap b2).trans rfl
    have f2 : w2.frozen? ⟨A, 0, none⟩ = false := froz_of_heap b2
    obtain ⟨vu, vc, hv2⟩ := hr2.slice
    clear hS3 hK3 hr2 hg2 hl2 b0 PD P1
    generalize (l.take q ++ l.drop (q + 1)).length = nn at hv2
    subst hv2
    go_wp2_with fail
    go_end0
    exact ⟨rfl, _, HS3.out, HK3.out⟩
  · rw [decide_eq_false hin] at P1
    have HE : Hid (lessL l x = l) := less_not hin
    clear hin hf is1 hS
    generalize posL l x = q at P1
    go_enter Tryz.func96, Tryz.ntmps96
    go_wp2_with fail
    refine P1.mono ?_
    rintro e w9 ⟨rfl, h9⟩
    have h8 := h9.symm
    clear h9
    subst h8
    go_wp2_with fail
    go_end0
    exact ⟨rfl, _, by rw [HE.out]; exact HS.out, Kept.refl _ _ _⟩
set_option maxHeartbeats 1000000 in
theorem listI (lo : Nat) (a : Option Addr) (c : Nat) (l : List Int) (w : World) (hl : l.length ≤ 1048576) (hv : IntsAt w lo a l) :
    Calls Tryz.prog 70 #[.agg #[.slice a l.length c]] w fun e w' => ∃ v, e = .returned v ∧ Row w' w.heap.size v l ∧ Below w.heap.size w w' := by
  have hb0 : Below w.heap.size w (w.alloc (.cells #[.slice a l.length c] 76)) := (Below.refl _ _).alloc (Nat.le_refl _) _
  have P := cloneI lo a c l _ hl (hv.keep (agree_of_below hb0 lo))
  go_enter Tryz.func70, Tryz.ntmps70
  go_wp2_with fail
  refine P.mono ?_
  rintro e w1 ⟨v1, rfl, r1, b1⟩
  have hB := hb0.trans (b1.mono hb0.size)
  have r2 := r1.low (lo' := w.heap.size) hb0.size
  clear P r1 b1 hb0
  go_wp2_with fail
  go_ret
  exact ⟨_, rfl, r2, hB⟩
set_option maxHeartbeats 1000000 in
theorem copiedI (lo : Nat) (a : Option Addr) (c : Nat) (l : List Int) (w : World) (hl : l.length ≤ 1048576) (hv : IntsAt w lo a l) :
    Calls Tryz.prog 39 #[.agg #[.slice a l.length c]] w fun e w' => ∃ v, e = .returned (.agg #[v]) ∧ Row w' w.heap.size v l ∧ Below w.heap.size w w' := by
  have hb0 : Below w.heap.size w ((w.alloc (.cells #[.slice a l.length c] 76)).alloc (.cells #[.slice none 0 0] 76)) := ((Below.refl _ _).alloc (Nat.le_refl _) _).alloc (by simp) _
  have P := listI lo a c l _ hl (hv.keep (agree_of_below hb0 lo))
  have hA : ((w.alloc (.cells #[.slice a l.length c] 76)).alloc (.cells #[.slice none 0 0] 76)).heap[w.heap.size + 1]? = some (.cells #[.slice none 0 0] 76 (0, 0)) := heap_two _ _ _
  go_enter Tryz.func39, Tryz.ntmps39
  go_wp2_with fail
  refine P.mono ?_
  rintro e w1 ⟨v1, rfl, r1, b1⟩
  have hB := hb0.trans (b1.mono hb0.size)
  have hA1 := (b1.block (w.heap.size + 1) (Array.getElem?_eq_some_iff.1 hA).1).trans hA
  have c1 : w1.cell? ⟨w.heap.size + 1, 0, none⟩ = some (.slice none 0 0) := (cell_of_heap hA1).trans rfl
  have f1 : w1.frozen? ⟨w.heap.size + 1, 0, none⟩ = false := froz_of_heap hA1
  have HA1 : Hid (w1.heap[w.heap.size + 1]? = some (.cells #[.slice none 0 0] 76 (0, 0))) := hA1
  have HR : Hid (Row w1 w.heap.size v1 l) := r1.low hb0.size
  have HGE : Hid (∀ g, v1.ownBlock = some g → g ≠ w.heap.size + 1) := fun g hg e => by
    have := (r1.ge hg).1
    have h2 : w.heap.size + 1 < ((w.alloc (.cells #[.slice a l.length c] 76)).alloc (.cells #[.slice none 0 0] 76)).heap.size := by simp
    omega
  clear P r1 b1 hb0 hA hA1
  obtain ⟨vu, vc, rfl⟩ := HR.out.slice
  go_wp2_with fail
  have hset := heap_set (o := 0) (v := .slice vu l.length vc) HA1.out
  refine bodyPost_ret (v := .agg #[.slice vu l.length vc]) ((results_cell_row Tryz.results39 _ _ (w.heap.size + 1) 76 _ (0, 0) _ rfl hset Tryz.underlying76 rfl (by kernel_rfl)).trans (by rfl)) rfl ?_
  exact ⟨_, rfl, HR.out.kept fun g hg => Below.heap_setCell _ _ _ _ (by show g ≠ w.heap.size + 1; exact HGE.out g hg), hB.setCell (p := ⟨w.heap.size + 1, 0, none⟩) (by show w.heap.size ≤ w.heap.size + 1; omega) _⟩
theorem sizeI (a : Option Addr) (c n : Nat) (w : World) :
    Calls Tryz.prog 68 #[.agg #[.slice a n c]] w fun e w' => e = .returned (.int .i64 n) ∧ Below w.heap.size w w' := by
  go_enter Tryz.func68, Tryz.ntmps68
  go_wp2_with fail
  go_ret
  exact ⟨rfl, (Below.refl _ _).alloc (Nat.le_refl _) _⟩
set_option maxHeartbeats 1000000 in
theorem setHasI (lo : Nat) (a : Option Addr) (c : Nat) (l : List Int) (x : Int) (w : World) (hl : l.length ≤ 1000) (hs : Srt l) (hv : IntsAt w lo a l) :
    Calls Tryz.prog 99 #[.agg #[.slice a l.length c], .int .i64 x] w fun e w' => e = .returned (.bool (decide (x ∈ l))) ∧ Below w.heap.size w w' := by
  have hb0 : Below w.heap.size w (w.alloc (.cells #[.slice a l.length c] 76)) := (Below.refl _ _).alloc (Nat.le_refl _) _
  have P := searchI lo a c l x _ hl hs (hv.keep (agree_of_below hb0 lo))
  generalize decide (x ∈ l) = r at P ⊢
  go_enter Tryz.func99, Tryz.ntmps99
  go_wp2_with fail
  refine P.mono ?_
  rintro e w1 ⟨rfl, h9⟩
  have h8 := h9.symm
  clear h9
  subst h8
  go_wp2_with fail
  go_ret
  exact ⟨rfl, hb0⟩
end Go.Proofs.YtolaghondjfhdabGreatDoor
