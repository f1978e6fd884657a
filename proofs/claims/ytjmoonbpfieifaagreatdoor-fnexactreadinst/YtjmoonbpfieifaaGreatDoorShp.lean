/- The shape of what was copied, and what writing numbers into it keeps. -/
import Derived.Test.YtjmoonbpfieifaaGreatDoorTow
namespace Go.Proofs.YtjmoonbpfieifaaGreatDoor
open Go.RowKit

def isIv : Value → Bool | .int .i64 _ => true | _ => false
theorem isI_yes {v : Value} (h : isIv v = true) : ∃ z, v = .int .i64 z := by
  unfold isIv at h
  split at h
  · exact ⟨_, rfl⟩
  · cases h
/-- Where a cell held a number it holds one, else what it held. -/
def Cur (cur cur' : Array Value) : Prop := ∀ (j : Nat) (v : Value), cur[j]? = some v → ∃ v', cur'[j]? = some v' ∧ (isIv v = true → isIv v' = true) ∧ (isIv v = false → v' = v)
theorem Cur.int {cur cur' : Array Value} (h : Cur cur cur') {j : Nat} {z : Int} (hj : cur[j]? = some (.int .i64 z)) : ∃ z : Int, cur'[j]? = some (.int .i64 z) := by
  obtain ⟨v', h1, h2, _⟩ := h j _ hj
  obtain ⟨y, rfl⟩ := isI_yes (h2 rfl)
  exact ⟨y, h1⟩
theorem Cur.slice {cur cur' : Array Value} (h : Cur cur cur') {j : Nat} {u : Option Addr} {n c : Nat} (hj : cur[j]? = some (.slice u n c)) : cur'[j]? = some (.slice u n c) := by
  obtain ⟨v', h1, _, h3⟩ := h j _ hj
  rw [h1, h3 rfl]
theorem Cur.refl (cur : Array Value) : Cur cur cur := fun _ v h => ⟨v, h, fun h => h, fun _ => rfl⟩
theorem Cur.trans {a b c : Array Value} (h : Cur a b) (k : Cur b c) : Cur a c := fun j v hv => by
  obtain ⟨v1, h1, h2, h3⟩ := h j v hv
  obtain ⟨v2, k1, k2, k3⟩ := k j v1 h1
  refine ⟨v2, k1, fun e => k2 (h2 e), fun e => ?_⟩
  have e1 := h3 e
  subst e1
  exact k3 e
theorem Cur.set {cur : Array Value} {o : Nat} {z : Int} (h : cur[o]? = some (.int .i64 z)) (y : Int) : Cur cur (cur.setIfInBounds o (.int .i64 y)) := fun j v hv => by
  by_cases e : o = j
  · subst e
    rw [h] at hv
    cases hv
    have hlt := (Array.getElem?_eq_some_iff.1 h).1
    exact ⟨.int .i64 y, by simp [hlt], fun _ => rfl, fun e => by cases e⟩
  · exact ⟨v, by rw [Array.getElem?_setIfInBounds_ne e]; exact hv, fun h => h, fun _ => rfl⟩
/-- Of the blocks from lo to hi only numbers were turned; no other block was touched. -/
structure Hdr (lo hi : Nat) (w w' : World) : Prop where
  os : w'.os = w.os
  tape : w'.tape = w.tape
  output : w'.output = w.output
  size : w.heap.size ≤ w'.heap.size
  out : ∀ g : Nat, g < lo ∨ hi ≤ g → g < w.heap.size → w'.heap[g]? = w.heap[g]?
  cells : ∀ (g : Nat) (cur : Array Value) (T : TypeId), w.heap[g]? = some (.cells cur T (0, 0)) → ∃ cur', w'.heap[g]? = some (.cells cur' T (0, 0)) ∧ Cur cur cur'
theorem Hdr.refl (lo hi : Nat) (w : World) : Hdr lo hi w w := ⟨rfl, rfl, rfl, Nat.le_refl _, fun _ _ _ => rfl, fun _ cur _ h => ⟨cur, h, Cur.refl _⟩⟩
theorem Hdr.trans {lo hi : Nat} {a b c : World} (h : Hdr lo hi a b) (k : Hdr lo hi b c) : Hdr lo hi a c :=
  ⟨k.os.trans h.os, k.tape.trans h.tape, k.output.trans h.output, Nat.le_trans h.size k.size, fun g hg hl => (k.out g hg (Nat.lt_of_lt_of_le hl h.size)).trans (h.out g hg hl), fun g cur T hc => by
    obtain ⟨c1, h1, h2⟩ := h.cells g cur T hc
    obtain ⟨c2, k1, k2⟩ := k.cells g c1 T h1
    exact ⟨c2, k1, h2.trans k2⟩⟩
theorem Hdr.alloc (lo hi : Nat) (w : World) (o : Obj) : Hdr lo hi w (w.alloc o) :=
  ⟨rfl, rfl, rfl, by simp, fun g _ hl => Below.heap_alloc w o g hl, fun g cur T hc => ⟨cur, (Below.heap_alloc w o g (Array.getElem?_eq_some_iff.1 hc).1).trans hc, Cur.refl _⟩⟩
theorem Hdr.store {lo hi : Nat} {w w1 : World} (h : Hdr lo hi w w1) {g o : Nat} {cur : Array Value} {T : TypeId} {z : Int} (hc : w.heap[g]? = some (.cells cur T (0, 0))) (ho : cur[o]? = some (.int .i64 z)) (hl : lo ≤ g) (hh : g < hi) (y : Int) :
    Hdr lo hi w (w1.setCell ⟨g, o, none⟩ (.int .i64 y)) := by
  refine h.trans ⟨rfl, rfl, rfl, by simp [World.setCell], fun k hk _ => Below.heap_setCell _ _ _ _ (by show k ≠ g; omega), fun k c1 T1 h1 => ?_⟩
  by_cases e : k = g
  · subst e
    obtain ⟨c2, h2, h3⟩ := h.cells k cur T hc
    rw [h2] at h1
    cases h1
    obtain ⟨z1, hz1⟩ := h3.int ho
    exact ⟨_, heap_set h2, Cur.set hz1 y⟩
  · exact ⟨c1, (Below.heap_setCell _ _ _ _ (by show k ≠ g; omega)).trans h1, Cur.refl _⟩
/-- What a store wants to know, behind other stores. -/
theorem Hdr.cell {lo hi : Nat} {w w1 : World} (h : Hdr lo hi w w1) {g o : Nat} {cur : Array Value} {T : TypeId} {z : Int} (hc : w.heap[g]? = some (.cells cur T (0, 0))) (ho : cur[o]? = some (.int .i64 z)) :
    (∃ y : Int, w1.cell? ⟨g, o, none⟩ = some (.int .i64 y)) ∧ w1.frozen? ⟨g, o, none⟩ = false := by
  obtain ⟨c2, h2, h3⟩ := h.cells g cur T hc
  obtain ⟨z1, hz1⟩ := h3.int ho
  exact ⟨⟨z1, (cell_of_heap h2).trans hz1⟩, froz_of_heap h2⟩
theorem Hdr.head {lo hi : Nat} {w w1 : World} (h : Hdr lo hi w w1) {g o : Nat} {cur : Array Value} {T : TypeId} {u : Option Addr} {n c : Nat} (hc : w.heap[g]? = some (.cells cur T (0, 0))) (ho : cur[o]? = some (.slice u n c)) :
    w1.cell? ⟨g, o, none⟩ = some (.slice u n c) := by
  obtain ⟨c2, h2, h3⟩ := h.cells g cur T hc
  exact (cell_of_heap h2).trans (h3.slice ho)
def SI (w : World) (lo hi : Nat) (a : Option Addr) (n : Nat) : Prop :=
  n = 0 ∨ ∃ g cur, a = some ⟨g, 0, none⟩ ∧ lo ≤ g ∧ g < hi ∧ w.heap[g]? = some (.cells cur 2 (0, 0)) ∧ ∀ i, i < n → ∃ z : Int, cur[i]? = some (.int .i64 z)
theorem SI.keep {w w' : World} {lo hi : Nat} {a : Option Addr} {n : Nat} (h : SI w lo hi a n) (k : Hdr lo hi w w') : SI w' lo hi a n := by
  rcases h with h | ⟨g, cur, ha, hl, hh, hb, hc⟩
  · exact .inl h
  · obtain ⟨cur', hb', hi⟩ := k.cells g cur _ hb
    exact .inr ⟨g, cur', ha, hl, hh, hb', fun i hi' => by obtain ⟨z, hz⟩ := hc i hi'; exact hi.int hz⟩
theorem OI.sh {w : World} {lo : Nat} {a : Option Addr} {l : List Int} (h : OI w lo a l) : SI w lo w.heap.size a l.length := by
  rcases h.2 with h | ⟨g, cur, ha, hl, hb, hc⟩
  · exact .inl (by simp [h])
  · exact .inr ⟨g, cur, ha, hl, (Array.getElem?_eq_some_iff.1 hb).1, hb, fun i hi' => ⟨_, hc i hi'⟩⟩
def SP (w : World) (lo hi : Nat) (a : Option Addr) (l : List PhiD) : Prop :=
  l = [] ∨ ∃ g cur, a = some ⟨g, 0, none⟩ ∧ lo ≤ g ∧ g < hi ∧ w.heap[g]? = some (.cells cur 151 (0, 0)) ∧ ∀ i, i < l.length → (∃ z : Int, cur[i * 2]? = some (.int .i64 z)) ∧ (∃ u c, cur[i * 2 + 1]? = some (.slice u (l.getD i phi0).ins.length c) ∧ SI w lo hi u (l.getD i phi0).ins.length)
theorem SP.keep {w w' : World} {lo hi : Nat} {a : Option Addr} {l : List PhiD} (h : SP w lo hi a l) (k : Hdr lo hi w w') : SP w' lo hi a l := by
  rcases h with h | ⟨g, cur, ha, hl, hh, hb, hc⟩
  · exact .inl h
  · obtain ⟨cur', hb', hi⟩ := k.cells g cur _ hb
    refine .inr ⟨g, cur', ha, hl, hh, hb', fun i hi' => ?_⟩
    obtain ⟨⟨z0, h0⟩, ⟨u1, c1, h1, k1⟩⟩ := hc i hi'
    exact ⟨hi.int h0, ⟨u1, c1, hi.slice h1, k1.keep k⟩⟩
theorem OP.sh {w : World} {lo : Nat} {a : Option Addr} {l : List PhiD} (h : OP w lo a l) : SP w lo w.heap.size a l := by
  rcases h.2 with h | ⟨g, cur, ha, hl, hb, hc⟩
  · exact .inl h
  · refine .inr ⟨g, cur, ha, hl, (Array.getElem?_eq_some_iff.1 hb).1, hb, fun i hi' => ?_⟩
    obtain ⟨h0, ⟨u1, c1, h1, k1⟩⟩ := hc i hi'
    exact ⟨⟨_, h0⟩, ⟨u1, c1, h1, k1.sh⟩⟩
def SN (w : World) (lo hi : Nat) (a : Option Addr) (l : List InstD) : Prop :=
  l = [] ∨ ∃ g cur, a = some ⟨g, 0, none⟩ ∧ lo ≤ g ∧ g < hi ∧ w.heap[g]? = some (.cells cur 26 (0, 0)) ∧ ∀ i, i < l.length → (∃ z : Int, cur[i * 7]? = some (.int .i64 z)) ∧ (∃ z : Int, cur[i * 7 + 1]? = some (.int .i64 z)) ∧ (∃ z : Int, cur[i * 7 + 2]? = some (.int .i64 z)) ∧ (∃ z : Int, cur[i * 7 + 3]? = some (.int .i64 z)) ∧ (∃ z : Int, cur[i * 7 + 4]? = some (.int .i64 z)) ∧ (∃ z : Int, cur[i * 7 + 5]? = some (.int .i64 z)) ∧ (∃ u c, cur[i * 7 + 6]? = some (.slice u (l.getD i inst0).args.length c) ∧ SI w lo hi u (l.getD i inst0).args.length)
theorem SN.keep {w w' : World} {lo hi : Nat} {a : Option Addr} {l : List InstD} (h : SN w lo hi a l) (k : Hdr lo hi w w') : SN w' lo hi a l := by
  rcases h with h | ⟨g, cur, ha, hl, hh, hb, hc⟩
  · exact .inl h
  · obtain ⟨cur', hb', hi⟩ := k.cells g cur _ hb
    refine .inr ⟨g, cur', ha, hl, hh, hb', fun i hi' => ?_⟩
    obtain ⟨⟨z0, h0⟩, ⟨z1, h1⟩, ⟨z2, h2⟩, ⟨z3, h3⟩, ⟨z4, h4⟩, ⟨z5, h5⟩, ⟨u6, c6, h6, k6⟩⟩ := hc i hi'
    exact ⟨hi.int h0, hi.int h1, hi.int h2, hi.int h3, hi.int h4, hi.int h5, ⟨u6, c6, hi.slice h6, k6.keep k⟩⟩
theorem ON.sh {w : World} {lo : Nat} {a : Option Addr} {l : List InstD} (h : ON w lo a l) : SN w lo w.heap.size a l := by
  rcases h.2 with h | ⟨g, cur, ha, hl, hb, hc⟩
  · exact .inl h
  · refine .inr ⟨g, cur, ha, hl, (Array.getElem?_eq_some_iff.1 hb).1, hb, fun i hi' => ?_⟩
    obtain ⟨h0, h1, h2, h3, h4, h5, ⟨u6, c6, h6, k6⟩⟩ := hc i hi'
    exact ⟨⟨_, h0⟩, ⟨_, h1⟩, ⟨_, h2⟩, ⟨_, h3⟩, ⟨_, h4⟩, ⟨_, h5⟩, ⟨u6, c6, h6, k6.sh⟩⟩
def SB (w : World) (lo hi : Nat) (a : Option Addr) (l : List BlockD) : Prop :=
  l = [] ∨ ∃ g cur, a = some ⟨g, 0, none⟩ ∧ lo ≤ g ∧ g < hi ∧ w.heap[g]? = some (.cells cur 69 (0, 0)) ∧ ∀ i, i < l.length → (∃ u c, cur[i * 6]? = some (.slice u (l.getD i block0).phis.length c) ∧ SP w lo hi u (l.getD i block0).phis) ∧ (∃ u c, cur[i * 6 + 1]? = some (.slice u (l.getD i block0).insts.length c) ∧ SN w lo hi u (l.getD i block0).insts) ∧ (∃ z : Int, cur[i * 6 + 2]? = some (.int .i64 z)) ∧ (∃ z : Int, cur[i * 6 + 3]? = some (.int .i64 z)) ∧ (∃ z : Int, cur[i * 6 + 4]? = some (.int .i64 z)) ∧ (∃ z : Int, cur[i * 6 + 5]? = some (.int .i64 z))
theorem SB.keep {w w' : World} {lo hi : Nat} {a : Option Addr} {l : List BlockD} (h : SB w lo hi a l) (k : Hdr lo hi w w') : SB w' lo hi a l := by
  rcases h with h | ⟨g, cur, ha, hl, hh, hb, hc⟩
  · exact .inl h
  · obtain ⟨cur', hb', hi⟩ := k.cells g cur _ hb
    refine .inr ⟨g, cur', ha, hl, hh, hb', fun i hi' => ?_⟩
    obtain ⟨⟨u0, c0, h0, k0⟩, ⟨u1, c1, h1, k1⟩, ⟨z2, h2⟩, ⟨z3, h3⟩, ⟨z4, h4⟩, ⟨z5, h5⟩⟩ := hc i hi'
    exact ⟨⟨u0, c0, hi.slice h0, k0.keep k⟩, ⟨u1, c1, hi.slice h1, k1.keep k⟩, hi.int h2, hi.int h3, hi.int h4, hi.int h5⟩
theorem OB.sh {w : World} {lo : Nat} {a : Option Addr} {l : List BlockD} (h : OB w lo a l) : SB w lo w.heap.size a l := by
  rcases h.2 with h | ⟨g, cur, ha, hl, hb, hc⟩
  · exact .inl h
  · refine .inr ⟨g, cur, ha, hl, (Array.getElem?_eq_some_iff.1 hb).1, hb, fun i hi' => ?_⟩
    obtain ⟨⟨u0, c0, h0, k0⟩, ⟨u1, c1, h1, k1⟩, h2, h3, h4, h5⟩ := hc i hi'
    exact ⟨⟨u0, c0, h0, k0.sh⟩, ⟨u1, c1, h1, k1.sh⟩, ⟨_, h2⟩, ⟨_, h3⟩, ⟨_, h4⟩, ⟨_, h5⟩⟩
end Go.Proofs.YtjmoonbpfieifaaGreatDoor
