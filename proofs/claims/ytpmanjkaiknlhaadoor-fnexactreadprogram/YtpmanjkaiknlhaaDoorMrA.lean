/- Numbers that are the call's own; writing marks into them. -/
import Derived.Test.YtpmanjkaiknlhaaDoorTo1
import Derived.Laws.OwnMore
namespace Go.Proofs.YtpmanjkaiknlhaaDoor
open Go.RowKit
set_option linter.unusedVariables false


def OI (w : World) (lo : Nat) (a : Option Addr) (l : List Int) : Prop :=
  l.length ≤ 9223372036854775807 ∧ (l = [] ∨ ∃ g cur, a = some ⟨g, 0, none⟩ ∧ lo ≤ g ∧ w.heap[g]? = some (.cells cur 2 (0, 0)) ∧ ∀ i, i < l.length → cur[i]? = some (.int .i64 (l.getD i 0)))
theorem OI.keep {w w' : World} {lo : Nat} {a : Option Addr} {l : List Int} (h : OI w lo a l) (k : Agree lo w w') : OI w' lo a l := by
  obtain ⟨hm, h⟩ := h
  refine ⟨hm, ?_⟩
  rcases h with h | ⟨g, cur, ha, hl, hb, hc⟩
  · exact .inl h
  · exact .inr ⟨g, cur, ha, hl, (k.2 g hl (Array.getElem?_eq_some_iff.1 hb).1).trans hb, hc⟩
theorem OI.low {w : World} {lo lo' : Nat} {a : Option Addr} {l : List Int} (h : OI w lo a l) (k : lo' ≤ lo) : OI w lo' a l := by
  obtain ⟨hm, h⟩ := h
  refine ⟨hm, ?_⟩
  rcases h with h | ⟨g, cur, ha, hl, hb, hc⟩
  · exact .inl h
  · exact .inr ⟨g, cur, ha, Nat.le_trans k hl, hb, hc⟩
theorem OI.at {w : World} {lo : Nat} {a : Option Addr} {l : List Int} (h : OI w lo a l) : IntsAt w lo a l := by
  obtain ⟨hm, h⟩ := h
  refine ⟨hm, ?_⟩
  rcases h with h | ⟨g, cur, ha, hl, hb, hc⟩
  · exact .inl h
  · exact .inr ⟨g, 0, ha, hl, (Array.getElem?_eq_some_iff.1 hb).1, fun i hi => (cell_of_heap hb).trans (by simpa using hc i hi)⟩
def isI : Value → Bool | .int .i64 _ => true | _ => false
theorem isI_yes {v : Value} (h : isI v = true) : ∃ z, v = .int .i64 z := by
  unfold isI at h
  split at h
  · exact ⟨_, rfl⟩
  · cases h
/-- Where a cell held a number it holds one, else what it held. -/
def Cur (cur cur' : Array Value) : Prop := ∀ (j : Nat) (v : Value), cur[j]? = some v → ∃ v', cur'[j]? = some v' ∧ (isI v = true → isI v' = true) ∧ (isI v = false → v' = v)
theorem Cur.int {cur cur' : Array Value} (h : Cur cur cur') {j : Nat} {z : Int} (hj : cur[j]? = some (.int .i64 z)) : ∃ z : Int, cur'[j]? = some (.int .i64 z) := by
  obtain ⟨v', h1, h2, _⟩ := h j _ hj
  obtain ⟨y, rfl⟩ := isI_yes (h2 rfl)
  exact ⟨y, h1⟩
theorem Cur.slice {cur cur' : Array Value} (h : Cur cur cur') {j : Nat} {u : Option Addr} {n c : Nat} (hj : cur[j]? = some (.slice u n c)) : cur'[j]? = some (.slice u n c) := by
  obtain ⟨v', h1, _, h3⟩ := h j _ hj
  rw [h1, h3 rfl]
theorem Cur.refl (cur : Array Value) : Cur cur cur := fun _ v h => ⟨v, h, fun h => h, fun _ => rfl⟩
theorem Cur.trans {a b c : Array Value} (h : Cur a b) (k : Cur b c) : Cur a c := fun j v hv => by
  obtain ⟨v1, h1, h2, h3⟩ := h j v hv
  obtain ⟨v2, k1, k2, k3⟩ := k j v1 h1
  refine ⟨v2, k1, fun e => k2 (h2 e), fun e => ?_⟩
  have e1 := h3 e
  subst e1
  exact k3 e
theorem Cur.set {cur : Array Value} {o : Nat} {z : Int} (h : cur[o]? = some (.int .i64 z)) (y : Int) : Cur cur (cur.setIfInBounds o (.int .i64 y)) := fun j v hv => by
  by_cases e : o = j
  · subst e
    rw [h] at hv
    cases hv
    have hlt := (Array.getElem?_eq_some_iff.1 h).1
    exact ⟨.int .i64 y, by simp [hlt], fun _ => rfl, fun e => by cases e⟩
  · exact ⟨v, by rw [Array.getElem?_setIfInBounds_ne e]; exact hv, fun h => h, fun _ => rfl⟩
/-- Of the blocks from lo to hi only numbers were turned; no other block was touched. -/
structure Hdr (lo hi : Nat) (w w' : World) : Prop where
  os : w'.os = w.os
  tape : w'.tape = w.tape
  output : w'.output = w.output
  size : w.heap.size ≤ w'.heap.size
  out : ∀ g : Nat, g < lo ∨ hi ≤ g → g < w.heap.size → w'.heap[g]? = w.heap[g]?
  cells : ∀ (g : Nat) (cur : Array Value) (T : TypeId), w.heap[g]? = some (.cells cur T (0, 0)) → ∃ cur', w'.heap[g]? = some (.cells cur' T (0, 0)) ∧ Cur cur cur'
theorem Hdr.refl (lo hi : Nat) (w : World) : Hdr lo hi w w := ⟨rfl, rfl, rfl, Nat.le_refl _, fun _ _ _ => rfl, fun _ cur _ h => ⟨cur, h, Cur.refl _⟩⟩
theorem Hdr.trans {lo hi : Nat} {a b c : World} (h : Hdr lo hi a b) (k : Hdr lo hi b c) : Hdr lo hi a c :=
  ⟨k.os.trans h.os, k.tape.trans h.tape, k.output.trans h.output, Nat.le_trans h.size k.size, fun g hg hl => (k.out g hg (Nat.lt_of_lt_of_le hl h.size)).trans (h.out g hg hl), fun g cur T hc => by
    obtain ⟨c1, h1, h2⟩ := h.cells g cur T hc
    obtain ⟨c2, k1, k2⟩ := k.cells g c1 T h1
    exact ⟨c2, k1, h2.trans k2⟩⟩
theorem Hdr.alloc (lo hi : Nat) (w : World) (o : Obj) : Hdr lo hi w (w.alloc o) :=
  ⟨rfl, rfl, rfl, by simp, fun g _ hl => Below.heap_alloc w o g hl, fun g cur T hc => ⟨cur, (Below.heap_alloc w o g (Array.getElem?_eq_some_iff.1 hc).1).trans hc, Cur.refl _⟩⟩
theorem Hdr.store {lo hi : Nat} {w w1 : World} (h : Hdr lo hi w w1) {g o : Nat} {cur : Array Value} {T : TypeId} {z : Int} (hc : w.heap[g]? = some (.cells cur T (0, 0))) (ho : cur[o]? = some (.int .i64 z)) (hl : lo ≤ g) (hh : g < hi) (y : Int) :
    Hdr lo hi w (w1.setCell ⟨g, o, none⟩ (.int .i64 y)) := by
  refine h.trans ⟨rfl, rfl, rfl, by simp [World.setCell], fun k hk _ => Below.heap_setCell _ _ _ _ (by show k ≠ g; omega), fun k c1 T1 h1 => ?_⟩
  by_cases e : k = g
  · subst e
    obtain ⟨c2, h2, h3⟩ := h.cells k cur T hc
    rw [h2] at h1
    cases h1
    obtain ⟨z1, hz1⟩ := h3.int ho
    exact ⟨_, heap_set h2, Cur.set hz1 y⟩
  · exact ⟨c1, (Below.heap_setCell _ _ _ _ (by show k ≠ g; omega)).trans h1, Cur.refl _⟩
/-- What a store wants to know, behind other stores. -/
theorem Hdr.cell {lo hi : Nat} {w w1 : World} (h : Hdr lo hi w w1) {g o : Nat} {cur : Array Value} {T : TypeId} {z : Int} (hc : w.heap[g]? = some (.cells cur T (0, 0))) (ho : cur[o]? = some (.int .i64 z)) :
    (∃ y : Int, w1.cell? ⟨g, o, none⟩ = some (.int .i64 y)) ∧ w1.frozen? ⟨g, o, none⟩ = false := by
  obtain ⟨c2, h2, h3⟩ := h.cells g cur T hc
  obtain ⟨z1, hz1⟩ := h3.int ho
  exact ⟨⟨z1, (cell_of_heap h2).trans hz1⟩, froz_of_heap h2⟩
theorem Hdr.head {lo hi : Nat} {w w1 : World} (h : Hdr lo hi w w1) {g o : Nat} {cur : Array Value} {T : TypeId} {u : Option Addr} {n c : Nat} (hc : w.heap[g]? = some (.cells cur T (0, 0))) (ho : cur[o]? = some (.slice u n c)) :
    w1.cell? ⟨g, o, none⟩ = some (.slice u n c) := by
  obtain ⟨c2, h2, h3⟩ := h.cells g cur T hc
  exact (cell_of_heap h2).trans (h3.slice ho)
def SI (w : World) (lo hi : Nat) (a : Option Addr) (n : Nat) : Prop :=
  n = 0 ∨ ∃ g cur, a = some ⟨g, 0, none⟩ ∧ lo ≤ g ∧ g < hi ∧ w.heap[g]? = some (.cells cur 2 (0, 0)) ∧ ∀ i, i < n → ∃ z : Int, cur[i]? = some (.int .i64 z)
theorem SI.keep {w w' : World} {lo hi : Nat} {a : Option Addr} {n : Nat} (h : SI w lo hi a n) (k : Hdr lo hi w w') : SI w' lo hi a n := by
  rcases h with h | ⟨g, cur, ha, hl, hh, hb, hc⟩
  · exact .inl h
  · obtain ⟨cur', hb', hi⟩ := k.cells g cur _ hb
    exact .inr ⟨g, cur', ha, hl, hh, hb', fun i hi' => by obtain ⟨z, hz⟩ := hc i hi'; exact hi.int hz⟩
theorem OI.sh {w : World} {lo : Nat} {a : Option Addr} {l : List Int} (h : OI w lo a l) : SI w lo w.heap.size a l.length := by
  rcases h.2 with h | ⟨g, cur, ha, hl, hb, hc⟩
  · exact .inl (by simp [h])
  · exact .inr ⟨g, cur, ha, hl, (Array.getElem?_eq_some_iff.1 hb).1, hb, fun i hi' => ⟨_, hc i hi'⟩⟩


/-- Only one block was touched. -/
structure Only (g : Nat) (w w' : World) : Prop where
  os : w'.os = w.os
  tape : w'.tape = w.tape
  output : w'.output = w.output
  size : w'.heap.size = w.heap.size
  other : ∀ k : Nat, k ≠ g → w'.heap[k]? = w.heap[k]?
theorem Only.refl (g : Nat) (w : World) : Only g w w := ⟨rfl, rfl, rfl, rfl, fun _ _ => rfl⟩
theorem Only.set {g : Nat} {w w1 : World} (h : Only g w w1) (o : Nat) (v : Value) : Only g w (w1.setCell ⟨g, o, none⟩ v) :=
  ⟨h.os, h.tape, h.output, by simp [World.setCell]; exact h.size, fun k hk => (Below.heap_setCell _ _ _ _ hk).trans (h.other k hk)⟩
/-- The numbers from k on. -/
def marks (k : Int) (n : Nat) : List Int := (List.range n).map fun i : Nat => k + (i : Int)
theorem marks_len (k : Int) (n : Nat) : (marks k n).length = n := by simp [marks]
theorem marks_at (k : Int) {n i : Nat} (h : i < n) : (marks k n).getD i 0 = k + i := by simp [marks, List.getD, h]

set_option maxHeartbeats 1000000 in
theorem markVals (g c n : Nat) (k : Int) (cur : Array Value) (w : World) (hn : n ≤ 1048576) (hk0 : 0 ≤ k) (hk : k ≤ 4611686018427387904) (hb : w.heap[g]? = some (.cells cur 2 (0, 0))) (hc : ∀ i, i < n → ∃ z : Int, cur[i]? = some (.int .i64 z)) :
    Calls Tryd.prog 18 #[.slice (some ⟨g, 0, none⟩) n c, .int .i64 k] w fun e w' => e = .returned (.int .i64 (k + n)) ∧ Only g w w' ∧ ∃ cur', w'.heap[g]? = some (.cells cur' 2 (0, 0)) ∧ Cur cur cur' ∧ ∀ i, i < n → cur'[i]? = some (.int .i64 (k + i)) := by
  have HB : Hid (w.heap[g]? = some (.cells cur 2 (0, 0))) := hb
  have HC : Hid (∀ i, i < n → ∃ z : Int, cur[i]? = some (.int .i64 z)) := hc
  clear hb hc
  go_enter Tryd.func18, Tryd.ntmps18
  go_wp2_with fail
  go_loopw [1, 5] (fun q i wr => ∃ (j : Nat) (cj : Array Value), j ≤ n ∧ i = .int .i64 j ∧ q = .int .i64 (k + j) ∧ Hid (wr.heap[g]? = some (.cells cj 2 (0, 0))) ∧ Hid (Cur cur cj) ∧ Hid (∀ i, i < j → cj[i]? = some (.int .i64 (k + i))) ∧ Hid (Only g w wr)) (fun _ i _ => n - (intOf i).toNat)
  case atStart => exact ⟨0, cur, by omega, rfl, by simp, HB.out, Cur.refl _, fun i hi => by omega, Only.refl _ _⟩
  case round =>
    obtain ⟨j, cj, hj, rfl, rfl, HJ, HCu, HD, HO⟩ := hrel
    by_cases hlt : j < n
    · obtain ⟨z, hz⟩ := HC.out j hlt
      obtain ⟨y, hy⟩ := HCu.out.int hz
      have e1 : wr.cell? ⟨g, j, none⟩ = some (.int .i64 y) := (cell_of_heap HJ.out).trans hy
      have e2 : wr.frozen? ⟨g, j, none⟩ = false := froz_of_heap HJ.out
      have HH : Hid ((wr.setCell ⟨g, j, none⟩ (.int .i64 (k + j))).heap[g]? = some (.cells (cj.setIfInBounds j (.int .i64 (k + j))) 2 (0, 0))) := heap_set HJ.out
      have HC2 : Hid (Cur cur (cj.setIfInBounds j (.int .i64 (k + j)))) := HCu.out.trans (Cur.set hy _)
      have HD2 : Hid (∀ i, i < j + 1 → (cj.setIfInBounds j (.int .i64 (k + j)))[i]? = some (.int .i64 (k + i))) := fun i hi => by
        by_cases e : i = j
        · subst e
          have hl := (Array.getElem?_eq_some_iff.1 hy).1
          simp [hl]
        · rw [Array.getElem?_setIfInBounds_ne (by omega)]; exact HD.out i (by omega)
      clear hz hy
      go_wp2_with fail
      go_roundw
      case rel => exact ⟨j + 1, _, by omega, by go_num, by refine congrArg (Value.int .i64) ?_; first | omega | (unfold wrap64; omega), HH.out, HC2.out, HD2.out, HO.out.set _ _⟩
      case measure => simp [intOf]; omega
    · have hke : j = n := by omega
      subst hke
      go_wp2_with fail
      go_ret
      exact ⟨rfl, HO.out, cj, HJ.out, HCu.out, HD.out⟩
set_option maxHeartbeats 1000000 in
theorem markZero (a : Option Addr) (c : Nat) (k : Int) (w : World) :
    Calls Tryd.prog 18 #[.slice a 0 c, .int .i64 k] w fun e w' => e = .returned (.int .i64 k) ∧ w' = w := by
  go_enter Tryd.func18, Tryd.ntmps18
  go_wp2_with fail
  go_loop [1, 5] (fun q i => q = .int .i64 k ∧ i = .int .i64 0) (fun _ _ => 0)
  case atStart => exact ⟨rfl, rfl⟩
  case round =>
    obtain ⟨rfl, rfl⟩ := hrel
    go_wp2_with fail
    go_ret
    exact ⟨rfl, rfl⟩
theorem only_hdr {g lo hi : Nat} {w w' : World} {cur cur' : Array Value} {T : TypeId} (h : Only g w w') (hb : w.heap[g]? = some (.cells cur T (0, 0))) (hb' : w'.heap[g]? = some (.cells cur' T (0, 0))) (hc : Cur cur cur') (hl : lo ≤ g) (hh : g < hi) : Hdr lo hi w w' :=
  ⟨h.os, h.tape, h.output, by rw [h.size]; exact Nat.le_refl _, fun k hk _ => h.other k (by omega), fun k c1 T1 h1 => by
    by_cases e : k = g
    · subst e
      rw [hb] at h1
      cases h1
      exact ⟨cur', hb', hc⟩
    · exact ⟨c1, (h.other k e).trans h1, Cur.refl _⟩⟩
theorem markInts (lo hi : Nat) (a : Option Addr) (c n : Nat) (k : Int) (w : World) (hn : n ≤ 1048576) (hk0 : 0 ≤ k) (hk : k ≤ 4611686018427387904) (hv : SI w lo hi a n) :
    Calls Tryd.prog 18 #[.slice a n c, .int .i64 k] w fun e w' => e = .returned (.int .i64 (k + n)) ∧ Hdr lo hi w w' := by
  rcases hv with rfl | ⟨g, cur, rfl, hl, hh, hb, hc⟩
  · refine (markZero a c k w).mono ?_
    rintro e w1 ⟨rfl, rfl⟩
    exact ⟨by simp, Hdr.refl _ _ _⟩
  · refine (markVals g c n k cur w hn hk0 hk hb hc).mono ?_
    rintro e w1 ⟨rfl, ho, cur', hb', hcu, _⟩
    exact ⟨rfl, only_hdr ho hb hb' hcu hl hh⟩
set_option maxHeartbeats 1000000 in
theorem heldInts (lo : Nat) (a : Option Addr) (c n : Nat) (k : Int) (w : World) (hn : n ≤ 1048576) (hk0 : 0 ≤ k) (hk : k ≤ 4611686018427387904) (hv : IntsAt w lo a (marks k n)) :
    Calls Tryd.prog 20 #[.slice a n c, .int .i64 k] w fun e w' => e = .returned (.int .i64 (k + n)) ∧ w' = w := by
  have HV : Hid (n = 0 ∨ ∃ b off, a = some ⟨b, off, none⟩ ∧ ∀ i, i < n → w.cell? ⟨b, off + i, none⟩ = some (.int .i64 (k + i))) := by
    rcases hv.2 with h | ⟨b, off, ha, _, _, hc⟩
    · exact .inl (by have := congrArg List.length h; simpa [marks_len] using this)
    · exact .inr ⟨b, off, ha, fun i hi => by rw [hc i (by rw [marks_len]; exact hi), marks_at k hi]⟩
  clear hv
  go_enter Tryd.func20, Tryd.ntmps20
  go_wp2_with fail
  go_loop [1, 5] (fun q i => ∃ j : Nat, j ≤ n ∧ i = .int .i64 j ∧ q = .int .i64 (k + j)) (fun _ i => n - (intOf i).toNat)
  case atStart => exact ⟨0, by omega, rfl, by simp⟩
  case round =>
    obtain ⟨j, hj, rfl, rfl⟩ := hrel
    by_cases hlt : j < n
    · rcases HV.out with h | ⟨b, off, rfl, hc⟩
      · omega
      have e1 := hc j hlt
      clear hc
      go_wp2_with fail
      exact ⟨⟨j + 1, by omega, by go_num, by refine congrArg (Value.int .i64) ?_; first | omega | (unfold wrap64; omega)⟩, by simp only [intOf]; omega⟩
    · have hke : j = n := by omega
      subst hke
      go_wp2_with fail
      go_ret
      exact ⟨rfl, rfl⟩



theorem below_hdr {B lo hi : Nat} {w a b : World} (h : Below B w a) (k : Hdr lo hi a b) (hB : B ≤ lo) (hz : B ≤ a.heap.size) : Below B w b :=
  ⟨k.os.trans h.os, k.tape.trans h.tape, k.output.trans h.output, Nat.le_trans h.size k.size, fun g hg => (k.out g (.inl (by omega)) (by omega)).trans (h.block g hg)⟩
theorem below_only {B g : Nat} {w a b : World} (h : Below B w a) (k : Only g a b) (hB : B ≤ g) : Below B w b :=
  ⟨k.os.trans h.os, k.tape.trans h.tape, k.output.trans h.output, by rw [k.size]; exact h.size, fun i hi => (k.other i (by omega)).trans (h.block i hi)⟩
theorem row_own {w : World} {base : Nat} {v : Value} {l : List Int} (hm : l.length ≤ 1048576) (h : w.ownsRow base 2 1 v l.length (l.map (Value.int .i64))) : ∃ u c, v = .slice u l.length c ∧ OI w base u l := by
  rcases h.2 with ⟨hv, hn⟩ | ⟨g, cap, cur, hv, hb, hg, hnc, _, hcs, htk⟩
  · exact ⟨none, 0, by rw [hv, hn], by omega, .inl (List.length_eq_zero_iff.1 hn)⟩
  · refine ⟨_, cap, hv, by omega, .inr ⟨g, cur, rfl, hb, hg, fun i hi => ?_⟩⟩
    have e : (cur.toList.take (l.length * 1))[i]? = (l.map (Value.int .i64))[i]? := by rw [htk]
    rw [List.getElem?_take, if_pos (by omega)] at e
    simp [hi] at e
    simpa [List.getD, hi] using e
theorem hdr_below {lo hi : Nat} {w w' : World} (h : Below w.heap.size w w') : Hdr lo hi w w' :=
  ⟨h.os, h.tape, h.output, h.size, fun g _ hg => h.block g hg, fun g cur _ hc => ⟨cur, (h.block g (Array.getElem?_eq_some_iff.1 hc).1).trans hc, Cur.refl _⟩⟩
theorem agree_hdr {lo' lo hi : Nat} {a b c : World} (h : Agree lo' a b) (k : Hdr lo hi b c) (hz : a.heap.size ≤ lo) : Agree lo' a c :=
  ⟨Nat.le_trans h.1 k.size, fun g hg hl => (k.out g (.inl (by omega)) (Nat.lt_of_lt_of_le hl h.1)).trans (h.2 g hg hl)⟩
theorem agree_only {lo' g : Nat} {a b c : World} (h : Agree lo' a b) (k : Only g b c) (hz : a.heap.size ≤ g) : Agree lo' a c :=
  ⟨by rw [k.size]; exact h.1, fun i hi hl => (k.other i (by omega)).trans (h.2 i hi hl)⟩
theorem agree_below {lo' : Nat} {a b c : World} (h : Agree lo' a b) (k : Below b.heap.size b c) : Agree lo' a c := h.trans (agree_of_below k _)
/-- What numbers written into a list of the call's own leave. -/
theorem mark_own (lo : Nat) (a : Option Addr) (c : Nat) (l : List Int) (w : World) (hl : l.length ≤ 1048576) (hv : OI w lo a l) :
    Calls Tryd.prog 18 #[.slice a l.length c, .int .i64 1] w fun e w' => e = .returned (.int .i64 (1 + l.length)) ∧ OI w' lo a (marks 1 l.length) ∧ ∃ g, lo ≤ g ∧ Only g w w' := by
  rcases hv.2 with h | ⟨g, cur, rfl, hlo, hb, hc⟩
  · subst h
    refine (markZero a c 1 w).mono ?_
    rintro e w1 ⟨rfl, rfl⟩
    exact ⟨by simp, ⟨by simp [marks], .inl (by simp [marks])⟩, lo, Nat.le_refl _, Only.refl _ _⟩
  · refine (markVals g c l.length 1 cur w hl (by omega) (by omega) hb (fun i hi => ⟨_, hc i hi⟩)).mono ?_
    rintro e w1 ⟨rfl, ho, cur', hb', _, hd⟩
    exact ⟨rfl, ⟨by rw [marks_len]; omega, .inr ⟨g, cur', rfl, hlo, hb', fun i hi => by rw [marks_len] at hi; rw [hd i hi, marks_at 1 hi]⟩⟩, g, hlo, ho⟩


end Go.Proofs.YtpmanjkaiknlhaaDoor
