import Derived.Test.YtgojlnclpebdcaaGreatDoorGrgR
import Derived.Laws.EntriesVeiled
import Derived.Laws.Tables
import Derived.Laws.Rows
namespace Go.Proofs.YtgojlnclpebdcaaGreatDoor
open Go.RowKit
theorem dfs_count (S : Nat → List Nat) (wo : Option Nat) (n : Nat) (hS : ∀ a, ∀ s ∈ S a, s < n) (k : Nat) : ∀ (x : Nat) (p : List Nat × List Nat) (c : Nat), x < n → p.2.length + un n p.1 + c ≤ n → (dfs S wo k x p).2.length + un n (dfs S wo k x p).1 + c ≤ n := by
 induction k with
 | zero => intro x p c _ h; exact h
 | succ k ih =>
  intro x p c hx h
  by_cases hc : wo = some x ∨ x ∈ p.1
  ·rw [dfs_skip hc]; exact h
  ·rw [dfs_go hc]
   have hf : ∀ (l : List Nat) (p : List Nat × List Nat) (c : Nat), (∀ s ∈ l, s < n) → p.2.length + un n p.1 + c ≤ n → (l.foldl (fun p s => dfs S wo k s p) p).2.length + un n (l.foldl (fun p s => dfs S wo k s p) p).1 + c ≤ n := by
    intro l
    induction l with
    | nil => intro p c _ h; exact h
    | cons s r ihl => intro p c hl h; exact ihl _ c (fun y hy => hl y (List.mem_cons_of_mem _ hy)) (ih s p c (hl s (List.mem_cons_self ..)) h)
   have hu := un_cons hx (fun hm => hc (.inr hm))
   have := hf (S x) (x :: p.1, p.2) (c + 1) (hS x) (by show p.2.length + un n (x :: p.1) + (c + 1) ≤ n; omega)
   simp only [List.length_append, List.length_cons, List.length_nil]
   omega
theorem fold_count (S : Nat → List Nat) (wo : Option Nat) (n : Nat) (hS : ∀ a, ∀ s ∈ S a, s < n) (k : Nat) (l : List Nat) : ∀ (p : List Nat × List Nat) (c : Nat), (∀ s ∈ l, s < n) → p.2.length + un n p.1 + c ≤ n → (l.foldl (fun p s => dfs S wo k s p) p).2.length + un n (l.foldl (fun p s => dfs S wo k s p) p).1 + c ≤ n := by
 induction l with
 | nil => intro p c _ h; exact h
 | cons s r ihl => intro p c hl h; exact ihl _ c (fun y hy => hl y (List.mem_cons_of_mem _ hy)) (dfs_count S wo n hS k s p c (hl s (List.mem_cons_self ..)) h)
theorem dfs_met (S : Nat → List Nat) (wo : Option Nat) (k : Nat) : ∀ (x : Nat) (p : List Nat × List Nat), ∀ y ∈ p.1, y ∈ (dfs S wo k x p).1 := by
 induction k with
 | zero => intro x p y hy; exact hy
 | succ k ih =>
  intro x p y hy
  by_cases hc : wo = some x ∨ x ∈ p.1
  ·rw [dfs_skip hc]; exact hy
  ·rw [dfs_go hc]
   have hf : ∀ (l : List Nat) (p : List Nat × List Nat), ∀ y ∈ p.1, y ∈ (l.foldl (fun p s => dfs S wo k s p) p).1 := by
    intro l
    induction l with
    | nil => intro p y hy; exact hy
    | cons s r ihl => intro p y hy; exact ihl _ y (ih s p y hy)
   exact hf (S x) _ y (List.mem_cons_of_mem _ hy)
theorem fold_met (S : Nat → List Nat) (wo : Option Nat) (k : Nat) (l : List Nat) : ∀ (p : List Nat × List Nat), ∀ y ∈ p.1, y ∈ (l.foldl (fun p s => dfs S wo k s p) p).1 := by
 induction l with
 | nil => intro p y hy; exact hy
 | cons s r ihl => intro p y hy; exact ihl _ y (dfs_met S wo k s p y hy)
theorem fold_take {α β : Type} (f : β → α → β) (z : α) (l : List α) (p : β) (j : Nat) (h : j < l.length) : (l.take (j + 1)).foldl f p = f ((l.take j).foldl f p) (l.getD j z) := by
 rw [List.take_succ_eq_append_getElem h, List.foldl_append]
 simp [List.getD, h]
def woV (N : Nat) : Option Nat → Value
 | none => .pointer none
 | some a => ptrV N a
theorem wo_eql (W : World) (N n x : Nat) (wo : Option Nat) (h : ∀ i, i < n → ∃ cs, W.heap[N + 1 + i]? = some (.cells cs 74 (0, 0))) (hx : x < n) (hw : ∀ a, wo = some a → a < n) :
  (binOp .eql 75 (.pointer (some ⟨N + 1 + x, 0, none⟩)) (woV N wo)).run Tryz.prog W = .ok (.bool (decide (wo = some x))) W := by
 cases wo with
 | none =>
  show (binOp .eql 75 (.pointer (some ⟨N + 1 + x, 0, none⟩)) (.pointer none)).run Tryz.prog W = _
  have hu := Tryz.underlying75
  have hp : Tryz.prog.pointee 75 = 74 := by unfold Program.pointee; rw [hu]
  rw [run_eql_pointer_nil W _ _ (by rw [hp]; exact hu)]; rfl
 | some a =>
  have h := ptr_eql W N n x a h hx (hw a rfl)
  have e : decide (some a = some x) = decide (x = a) := by simp [eq_comm]
  rw [e]; exact h
structure Vst (w0 : World) (N n : Nat) (S : Nat → List Nat) (wo : Option Nat) (p : List Nat × List Nat) (w : World) : Prop where
 below : Below w0.heap.size w0 w
 cW : w.heap[w0.heap.size]? = some (.cells #[woV N wo] 75 (0, 0))
 cT : ∃ tv, w.heap[w0.heap.size + 1]? = some (.cells #[tv] 69 (0, 0)) ∧ w.ownsRow (w0.heap.size + 4) 75 1 tv p.2.length (p.2.map (ptrV N))
 cS : ∃ arr : Array Value, w.heap[w0.heap.size + 2]? = some (.cells arr 83 (0, 0)) ∧ arr.size = 10 ∧ ∀ i, i < 10 → arr[i]? = some (.bool (decide (i ∈ p.1)))
 cV : w.heap[w0.heap.size + 3]? = some (.cells #[.func (.func 70) #[] #[.pointer (some ⟨w0.heap.size, 0, none⟩), .pointer (some ⟨w0.heap.size + 2, 0, none⟩), .pointer (some ⟨w0.heap.size + 3, 0, none⟩), .pointer (some ⟨w0.heap.size + 1, 0, none⟩)]] 116 (0, 0))
 size : w0.heap.size + 4 ≤ w.heap.size
theorem Vst.drew {w0 w : World} {N n : Nat} {S : Nat → List Nat} {wo : Option Nat} {p : List Nat × List Nat} (h : Vst w0 N n S wo p w) : Vst w0 N n S wo p w.drew := ⟨h.below.drew, h.cW, h.cT, h.cS, h.cV, h.size⟩
theorem Vst.meet {w0 w : World} {N n x : Nat} {S : Nat → List Nat} {wo : Option Nat} {p : List Nat × List Nat} (h : Vst w0 N n S wo p w) : Vst w0 N n S wo (x :: p.1, p.2) (w.setCell ⟨w0.heap.size + 2, x, none⟩ (.bool true)) := by
 have hs := h.size
 obtain ⟨tv, t1, t2⟩ := h.cT
 obtain ⟨arr, a1, a2, a3⟩ := h.cS
 refine ⟨h.below.setCell (by show w0.heap.size ≤ w0.heap.size + 2; omega) _, heap_other (by show w0.heap.size ≠ w0.heap.size + 2; omega) h.cW, ⟨tv, heap_other (by show w0.heap.size + 1 ≠ w0.heap.size + 2; omega) t1, ?_⟩, ⟨_, heap_set a1, by simpa using a2, fun i hi => ?_⟩, heap_other (by show w0.heap.size + 3 ≠ w0.heap.size + 2; omega) h.cV, by simpa [World.setCell] using hs⟩
 ·exact ownsRow_block t2 fun g hg _ => heap_other (by show g ≠ w0.heap.size + 2; have := (own_ge t2 hg).1; omega) rfl
 ·by_cases hix : i = x
  ·subst hix; simp [a2, hi]
  ·rw [Array.getElem?_setIfInBounds_ne (by omega), a3 i hi]
   simp [hix]
theorem Vst.tell {w0 w w3 : World} {N n x : Nat} {S : Nat → List Nat} {wo : Option Nat} {p : List Nat × List Nat} {tv v3 : Value} (o : Obj) (h : Vst w0 N n S wo p w) (ht : w.heap[w0.heap.size + 1]? = some (.cells #[tv] 69 (0, 0))) (hown : w.ownsRow (w0.heap.size + 4) 75 1 tv p.2.length (p.2.map (ptrV N)))
  (ho : w3.ownsRow (w0.heap.size + 4) 75 1 v3 (p.2.length + 1) (p.2.map (ptrV N) ++ [ptrV N x])) (hg : (w.alloc o).grownBy w3 tv.ownBlock) :
  w3.heap[w0.heap.size + 1]? = some (.cells #[tv] 69 (0, 0)) ∧ Vst w0 N n S wo (p.1, p.2 ++ [x]) (w3.setCell ⟨w0.heap.size + 1, 0, none⟩ v3) ∧ Below w0.heap.size w (w3.setCell ⟨w0.heap.size + 1, 0, none⟩ v3) := by
 have hs := h.size
 have hk : ∀ g, g < w0.heap.size + 4 → w3.heap[g]? = w.heap[g]? := fun g hgl => (hg.block g (by simp; omega) fun e => by
  have := (own_ge hown e.symm).1; omega).trans (Below.heap_alloc _ _ _ (by omega))
 have hz : w.heap.size ≤ w3.heap.size := by have := hg.size; simp at this; omega
 have hB : Below w0.heap.size w (w3.setCell ⟨w0.heap.size + 1, 0, none⟩ v3) := by
  refine (((Below.refl w0.heap.size w).alloc (by omega) o).grown hg (by simp; omega) (fun j hj => ?_)).setCell (by show w0.heap.size ≤ w0.heap.size + 1; omega) _
  have := (own_ge hown hj).1; omega
 obtain ⟨arr, a1, a2, a3⟩ := h.cS
 have h2 : w3.ownsRow (w0.heap.size + 4) 75 1 v3 (p.2 ++ [x]).length ((p.2 ++ [x]).map (ptrV N)) := by simpa using ho
 refine ⟨(hk _ (by omega)).trans ht, ⟨h.below.trans hB, heap_other (by show w0.heap.size ≠ w0.heap.size + 1; omega) ((hk _ (by omega)).trans h.cW), ⟨v3, ?_, ?_⟩, ⟨arr, heap_other (by show w0.heap.size + 2 ≠ w0.heap.size + 1; omega) ((hk _ (by omega)).trans a1), a2, a3⟩, heap_other (by show w0.heap.size + 3 ≠ w0.heap.size + 1; omega) ((hk _ (by omega)).trans h.cV), by simp [World.setCell]; omega⟩, hB⟩
 ·exact (heap_set ((hk _ (by omega)).trans ht)).trans rfl
 ·exact ownsRow_block h2 fun g hg' _ => heap_other (by show g ≠ w0.heap.size + 1; have := (own_ge h2 hg').1; omega) rfl
theorem at_append {v : Value} {w : World} {b : Nat} {e : TypeId} {l : List Nat} {N : Nat} (h : w.ownsRow b e 1 v l.length (l.map (ptrV N))) (o : Obj) : (w.alloc o).ownsRow b e 1 v l.length (l.map (ptrV N)) :=
 ownsRow_block h fun _ _ hg => Below.heap_alloc _ _ _ hg
set_option maxRecDepth 100000 in
set_option maxHeartbeats 4000000 in
theorem visitI (w0 : World) (N n : Nat) (S : Nat → List Nat) (wo : Option Nat) (hG : Graph w0 N n S) (hn : n ≤ 10) (hS : ∀ a, ∀ s ∈ S a, s < n) (hS2 : ∀ a, (S a).length ≤ 1000) (hwo : ∀ a, wo = some a → a < n) (k : Nat) : ∀ (x : Nat) (p : List Nat × List Nat) (w : World), x < n → un n p.1 < k → p.2.length + un n p.1 ≤ n → Vst w0 N n S wo p w →
  Calls Tryz.prog 70 #[ptrV N x, .pointer (some ⟨w0.heap.size, 0, none⟩), .pointer (some ⟨w0.heap.size + 2, 0, none⟩), .pointer (some ⟨w0.heap.size + 3, 0, none⟩), .pointer (some ⟨w0.heap.size + 1, 0, none⟩)] w fun e w' => e = .returned (.tuple #[]) ∧ Vst w0 N n S wo (dfs S wo k x p) w' ∧ Below w0.heap.size w w' := by
 obtain ⟨i0, hi, hz0, hz1, hz2⟩ := info_parts infoPg
 have HI : Hid (Tryz.prog.info? 75 = some i0) := hi
 have HZ0 : Hid (i0.zero = some (Value.pointer none)) := hz0
 have HZ1 : Hid (i0.size = 1) := hz1
 have HZ2 : Hid (i0.bytes = 8) := hz2
 clear hi hz0 hz1 hz2
 induction k with
 | zero => intro x p w _ h; omega
 | succ k ih =>
  intro x p w hx hk hcnt hV
  have hsz := hG.size
  obtain ⟨a, c, a', c', hnd, hpa, _⟩ := hG.node x hx
  have hGw := hG.keep (agree_of_below hV.below N)
  have c0 : w.cell? ⟨N + 1 + x, 0, none⟩ = some (.int .i64 x) := (cell_of_heap ((hV.below.block _ (by omega)).trans hnd)).trans rfl
  have c1 : w.cell? ⟨N + 1 + x, 1, none⟩ = some (.slice a (S x).length c) := (cell_of_heap ((hV.below.block _ (by omega)).trans hnd)).trans rfl
  have cw : w.cell? ⟨w0.heap.size, 0, none⟩ = some (woV N wo) := (cell_of_heap hV.cW).trans rfl
  have hq := wo_eql w N n x wo (fun i hi => by obtain ⟨_, _, _, _, h, _⟩ := hGw.node i hi; exact ⟨_, h⟩) hx hwo
  obtain ⟨arr, a1, a2, a3⟩ := hV.cS
  have cs : w.cell? ⟨w0.heap.size + 2, x, none⟩ = some (.bool (decide (x ∈ p.1))) := (cell_of_heap a1).trans (a3 x (by omega))
  have fs : w.frozen? ⟨w0.heap.size + 2, x, none⟩ = false := froz_of_heap a1
  have HV : Hid (Vst w0 N n S wo p w) := hV
  clear hV hGw hnd a1 a2 a3
  generalize woV N wo = wv at cw hq
  unfold ptrV
  by_cases hwx : wo = some x
  ·rw [dfs_skip (.inl hwx)]
   rw [decide_eq_true hwx] at hq
   clear ih hwx
   go_enter Tryz.func70, Tryz.ntmps70
   go_wp2_with fail
   refine bodyPost_ret (results_none rfl _ _ _) rfl ?_
   exact ⟨rfl, HV.out, Below.refl _ _⟩
  rw [decide_eq_false hwx] at hq
  by_cases hm : x ∈ p.1
  ·rw [dfs_skip (.inr hm)]
   rw [decide_eq_true hm] at cs
   clear ih hm hwx
   go_enter Tryz.func70, Tryz.ntmps70
   go_wp2_with fail
   refine bodyPost_ret (results_none rfl _ _ _) rfl ?_
   exact ⟨rfl, HV.out, Below.refl _ _⟩
  rw [decide_eq_false hm] at cs
  rw [dfs_go (fun h => h.elim hwx hm)]
  have hun := un_cons hx hm
  have HP : Hid (PtrsAt w0 N N a (S x)) := hpa
  have HC1 : Hid (un n (x :: p.1) < k) := (by show _ < _; omega)
  have HC2 : Hid (p.2.length + un n (x :: p.1) + 1 ≤ n) := (by show _ ≤ _; omega)
  have hS3 := hS2 x
  have HS : Hid (∀ a, ∀ s ∈ S a, s < n) := hS
  have IH : Hid (∀ (x : Nat) (p : List Nat × List Nat) (w : World), x < n → un n p.1 < k → p.2.length + un n p.1 ≤ n → Vst w0 N n S wo p w →
    Calls Tryz.prog 70 #[ptrV N x, .pointer (some ⟨w0.heap.size, 0, none⟩), .pointer (some ⟨w0.heap.size + 2, 0, none⟩), .pointer (some ⟨w0.heap.size + 3, 0, none⟩), .pointer (some ⟨w0.heap.size + 1, 0, none⟩)] w fun e w' => e = .returned (.tuple #[]) ∧ Vst w0 N n S wo (dfs S wo k x p) w' ∧ Below w0.heap.size w w') := ih
  have HV1 : Hid (Vst w0 N n S wo (x :: p.1, p.2) (w.setCell ⟨w0.heap.size + 2, x, none⟩ (.bool true))) := HV.out.meet
  have hns : N + 1 + x < w0.heap.size := by omega
  clear ih hpa hun hm hwx hcnt hk hS hS2 hwo hG
  go_enter Tryz.func70, Tryz.ntmps70
  go_wp2_with fail
  go_loopw [29] (fun i wr => ∃ j : Nat, j ≤ (S x).length ∧ i = .int .i64 j ∧ Vst w0 N n S wo (((S x).take j).foldl (fun p s => dfs S wo k s p) (x :: p.1, p.2)) wr ∧ Below w0.heap.size w wr) (fun i _ => (S x).length - (intOf i).toNat)
  case atStart => exact ⟨0, by omega, rfl, HV1.out, (Below.refl _ _).setCell (by show w0.heap.size ≤ w0.heap.size + 2; omega) _⟩
  case round =>
   obtain ⟨j, hj, rfl, hV, hB⟩ := hrel
   clear HV1
   have HVj : Hid (Vst w0 N n S wo (((S x).take j).foldl (fun p s => dfs S wo k s p) (x :: p.1, p.2)) wr) := hV
   have HBj : Hid (Below w0.heap.size w wr) := hB
   by_cases hjl : j < (S x).length
   ·rcases HP.out with hn0 | ⟨g, rfl, hg1, hg2, hgc⟩
    ·simp [hn0] at hjl
    have e1 : wr.cell? ⟨g, j, none⟩ = some (.pointer (some ⟨N + 1 + (S x).getD j 0, 0, none⟩)) := (cell_block (hV.below.block g hg2)).trans (hgc j hjl)
    have e2 : wr.cell? ⟨w0.heap.size + 3, 0, none⟩ = some (.func (.func 70) #[] #[.pointer (some ⟨w0.heap.size, 0, none⟩), .pointer (some ⟨w0.heap.size + 2, 0, none⟩), .pointer (some ⟨w0.heap.size + 3, 0, none⟩), .pointer (some ⟨w0.heap.size + 1, 0, none⟩)]) := (cell_of_heap hV.cV).trans rfl
    have hsn : Hid ((S x).getD j 0 < n) := HS.out x _ (getD_mem 0 _ j hjl)
    have hft : Hid (((S x).take (j + 1)).foldl (fun p s => dfs S wo k s p) (x :: p.1, p.2) = dfs S wo k ((S x).getD j 0) (((S x).take j).foldl (fun p s => dfs S wo k s p) (x :: p.1, p.2))) := fold_take _ 0 _ _ j hjl
    have hlow : ∀ s ∈ (S x).take j, s < n := fun s hs => HS.out x s (List.mem_of_mem_take hs)
    have hun1 : Hid (un n (((S x).take j).foldl (fun p s => dfs S wo k s p) (x :: p.1, p.2)).1 < k) := Nat.lt_of_le_of_lt (un_mono (fold_met S wo k _ _)) HC1.out
    have hct1 : Hid ((((S x).take j).foldl (fun p s => dfs S wo k s p) (x :: p.1, p.2)).2.length + un n (((S x).take j).foldl (fun p s => dfs S wo k s p) (x :: p.1, p.2)).1 ≤ n) := (by have := fold_count S wo n HS.out k ((S x).take j) (x :: p.1, p.2) 1 hlow HC2.out; show _ ≤ _; omega)
    generalize ((S x).take j).foldl (fun p s => dfs S wo k s p) (x :: p.1, p.2) = pj at HVj hft hun1 hct1
    generalize (S x).getD j 0 = s at e1 hsn hft
    clear hV hB hgc hlow
    go_wp2_with (go_at_call 70; refine (IH.out s pj _ hsn.out hun1.out hct1.out HVj.out).mono ?_; rintro e w3 ⟨rfl, hV3, hb3⟩; have HV3 : Hid _ := hV3; have Hb3 : Hid _ := hb3; clear hV3 hb3)
    go_roundw
    case rel => exact ⟨j + 1, by omega, by go_num, hft.out ▸ HV3.out, HBj.out.trans Hb3.out⟩
    case measure => simp [intOf]; omega
   ·have hje : j = (S x).length := by omega
    subst hje
    rw [List.take_length] at HVj
    obtain ⟨tv, t1, t2⟩ := HVj.out.cT
    have hct := fold_count S wo n HS.out k (S x) (x :: p.1, p.2) 1 (HS.out x) HC2.out
    generalize hqe : (S x).foldl (fun p s => dfs S wo k s p) (x :: p.1, p.2) = q at HVj t2 hct
    have QE : Hid ((S x).foldl (fun p s => dfs S wo k s p) (x :: p.1, p.2) = q) := hqe
    clear hqe
    obtain ⟨ta, tc, rfl⟩ := own_slice t2
    have e1 : wr.cell? ⟨w0.heap.size + 1, 0, none⟩ = some (.slice ta q.2.length tc) := (cell_of_heap t1).trans rfl
    have T1 : Hid _ := t1
    have T2 : Hid _ := t2
    have hq : q.2.length ≤ 10 := by omega
    have A1 : Hid _ := at_append t2 (.cells #[ptrV N x] 75)
    have hzz : w0.heap.size + 4 ≤ wr.heap.size := HVj.out.size
    clear hV hB t1 t2 hct
    go_wp2_with (at_builtin; refine wpList_append_own _ rfl _ _ 69 rfl (w0.heap.size + 4) 75 i0 (.pointer none) 1 8 Tryz.underlying69 HI.out HZ0.out HZ1.out HZ2.out rfl (by decide) (.slice ta q.2.length tc) q.2.length (q.2.map (ptrV N)) rfl (by exact A1.out) ⟨wr.heap.size, 0, none⟩ 1 1 [ptrV N x] rfl (by simp) (by exact lit_cell) (by simp [Value.oneCell', ptrV]) (by unfold maxLen; omega) (by omega) (by simp; omega) ?_; intro v3 w3 ho3 hg3 _; obtain ⟨u3, k3, hu3⟩ := own_slice ho3; subst hu3; obtain ⟨hb3, hV3, hB3⟩ := HVj.out.tell _ T1.out T2.out ho3 (by exact hg3); have e3 : w3.cell? ⟨w0.heap.size + 1, 0, none⟩ = some (.slice ta q.2.length tc) := (cell_of_heap hb3).trans rfl; have f3 : w3.frozen? ⟨w0.heap.size + 1, 0, none⟩ = false := froz_of_heap hb3; have HV3 : Hid _ := hV3; have HB3 : Hid _ := hB3; clear ho3 hg3 hb3 hV3 hB3)
    go_end0
    exact ⟨rfl, by rw [QE.out]; exact HV3.out, HBj.out.trans HB3.out⟩
theorem vst_start (w0 : World) (N n : Nat) (S : Nat → List Nat) (wo : Option Nat) :
  Vst w0 N n S wo ([], []) ((((w0.alloc (.cells #[woV N wo] 75)).alloc (.cells #[.slice none 0 0] 69)).alloc (.cells #[.bool false, .bool false, .bool false, .bool false, .bool false, .bool false, .bool false, .bool false, .bool false, .bool false] 83)).alloc (.cells #[(.func (.func 70) #[] #[.pointer (some ⟨w0.heap.size, 0, none⟩), .pointer (some ⟨w0.heap.size + 2, 0, none⟩), .pointer (some ⟨w0.heap.size + 3, 0, none⟩), .pointer (some ⟨w0.heap.size + 1, 0, none⟩)])] 116)) := by
 have z1 : (w0.alloc (.cells #[woV N wo] 75)).heap.size = w0.heap.size + 1 := by simp
 generalize hw1 : w0.alloc (.cells #[woV N wo] 75) = w1 at z1
 have b1 : w1.heap[w0.heap.size]? = some (.cells #[woV N wo] 75 (0, 0)) := by rw [← hw1]; exact heap_alloc_last _ _
 have B1 : Below w0.heap.size w0 w1 := by rw [← hw1]; exact (Below.refl _ _).alloc (Nat.le_refl _) _
 have z2 : (w1.alloc (.cells #[.slice none 0 0] 69)).heap.size = w0.heap.size + 2 := by simp; omega
 have b2 := heap_alloc_last w1 (.cells #[.slice none 0 0] 69)
 generalize hw2 : w1.alloc (.cells #[.slice none 0 0] 69) = w2 at z2 b2
 have b21 : w2.heap[w0.heap.size]? = w1.heap[w0.heap.size]? := by rw [← hw2]; exact Below.heap_alloc _ _ _ (by omega)
 have B2 : Below w0.heap.size w0 w2 := by rw [← hw2]; exact B1.alloc (by omega) _
 have z3 : (w2.alloc (.cells #[.bool false, .bool false, .bool false, .bool false, .bool false, .bool false, .bool false, .bool false, .bool false, .bool false] 83)).heap.size = w0.heap.size + 3 := by simp; omega
 have b3 := heap_alloc_last w2 (.cells #[.bool false, .bool false, .bool false, .bool false, .bool false, .bool false, .bool false, .bool false, .bool false, .bool false] 83)
 generalize hw3 : w2.alloc (.cells #[.bool false, .bool false, .bool false, .bool false, .bool false, .bool false, .bool false, .bool false, .bool false, .bool false] 83) = w3 at z3 b3
 have b31 : ∀ g, g < w0.heap.size + 2 → w3.heap[g]? = w2.heap[g]? := fun g hg => by rw [← hw3]; exact Below.heap_alloc _ _ _ (by omega)
 have B3 : Below w0.heap.size w0 w3 := by rw [← hw3]; exact B2.alloc (by omega) _
 have z4 : (w3.alloc (.cells #[(.func (.func 70) #[] #[.pointer (some ⟨w0.heap.size, 0, none⟩), .pointer (some ⟨w0.heap.size + 2, 0, none⟩), .pointer (some ⟨w0.heap.size + 3, 0, none⟩), .pointer (some ⟨w0.heap.size + 1, 0, none⟩)])] 116)).heap.size = w0.heap.size + 4 := by simp; omega
 have b4 := heap_alloc_last w3 (.cells #[(.func (.func 70) #[] #[.pointer (some ⟨w0.heap.size, 0, none⟩), .pointer (some ⟨w0.heap.size + 2, 0, none⟩), .pointer (some ⟨w0.heap.size + 3, 0, none⟩), .pointer (some ⟨w0.heap.size + 1, 0, none⟩)])] 116)
 generalize hw4 : w3.alloc (.cells #[(.func (.func 70) #[] #[.pointer (some ⟨w0.heap.size, 0, none⟩), .pointer (some ⟨w0.heap.size + 2, 0, none⟩), .pointer (some ⟨w0.heap.size + 3, 0, none⟩), .pointer (some ⟨w0.heap.size + 1, 0, none⟩)])] 116) = w4 at z4 b4
 have b41 : ∀ g, g < w0.heap.size + 3 → w4.heap[g]? = w3.heap[g]? := fun g hg => by rw [← hw4]; exact Below.heap_alloc _ _ _ (by omega)
 have B4 : Below w0.heap.size w0 w4 := by rw [← hw4]; exact B3.alloc (by omega) _
 rw [z1] at b2; rw [z2] at b3; rw [z3] at b4
 refine ⟨B4, (b41 _ (by omega)).trans ((b31 _ (by omega)).trans (b21.trans b1)), ⟨.slice none 0 0, (b41 _ (by omega)).trans ((b31 _ (by omega)).trans b2), ⟨rfl, .inl ⟨rfl, rfl⟩⟩⟩, ⟨_, (b41 _ (by omega)).trans b3, rfl, fun i hi => ?_⟩, b4, by omega⟩
 match i, hi with
 | 0, _ => rfl
 | 1, _ => rfl
 | 2, _ => rfl
 | 3, _ => rfl
 | 4, _ => rfl
 | 5, _ => rfl
 | 6, _ => rfl
 | 7, _ => rfl
 | 8, _ => rfl
 | 9, _ => rfl
set_option maxRecDepth 100000 in
set_option maxHeartbeats 4000000 in
theorem toldI (N n : Nat) (S : Nat → List Nat) (wo : Option Nat) (w : World) (hG : Graph w N n S) (h1 : 0 < n) (hn : n ≤ 10) (hS : ∀ a, ∀ s ∈ S a, s < n) (hS2 : ∀ a, (S a).length ≤ 1000) (hwo : ∀ a, wo = some a → a < n) :
  Calls Tryz.prog 39 #[.slice (some ⟨N, 0, none⟩) n n, woV N wo] w fun e w' => ∃ u c, e = .returned (.slice u (post S wo n).length c) ∧ PtrsAt w' w.heap.size N u (post S wo n) ∧ Below w.heap.size w w' := by
 have hv : ∃ v, woV N wo = .pointer v := by
  cases wo with
  | none => exact ⟨_, rfl⟩
  | some a => exact ⟨_, rfl⟩
 obtain ⟨wp, hwp⟩ := hv
 have hc := visitI w N n S wo hG hn hS hS2 hwo (n + 1) 0 ([], [])
 have HC : Hid (∀ W : World, Vst w N n S wo ([], []) W → Calls Tryz.prog 70 #[ptrV N 0, .pointer (some ⟨w.heap.size, 0, none⟩), .pointer (some ⟨w.heap.size + 2, 0, none⟩), .pointer (some ⟨w.heap.size + 3, 0, none⟩), .pointer (some ⟨w.heap.size + 1, 0, none⟩)] W fun e w' => e = .returned (.tuple #[]) ∧ Vst w N n S wo (dfs S wo (n + 1) 0 ([], [])) w' ∧ Below w.heap.size W w') := fun W hW => hc W h1 (by show un n [] < _; rw [un_nil]; omega) (by show 0 + un n [] ≤ n; rw [un_nil]; omega) hW
 have c0 : w.cell? ⟨N, 0, none⟩ = some (.pointer (some ⟨N + 1 + 0, 0, none⟩)) := hG.head 0 h1
 have hsz := hG.size
 have hvs := vst_start w N n S wo
 rw [hwp] at hvs ⊢
 have HVs : Hid (Vst w N n S wo ([], []) ((((w.alloc (.cells #[.pointer wp] 75)).alloc (.cells #[.slice none 0 0] 69)).alloc (.cells #[.bool false, .bool false, .bool false, .bool false, .bool false, .bool false, .bool false, .bool false, .bool false, .bool false] 83)).alloc (.cells #[(.func (.func 70) #[] #[.pointer (some ⟨w.heap.size, 0, none⟩), .pointer (some ⟨w.heap.size + 1 + 1, 0, none⟩), .pointer (some ⟨w.heap.size + 1 + 1 + 1, 0, none⟩), .pointer (some ⟨w.heap.size + 1, 0, none⟩)])] 116))) := hvs
 have e6 : w.cell? ⟨N, 0, none⟩ = some (.pointer (some ⟨N + 1, 0, none⟩)) := c0
 have hNl : N < w.heap.size := by omega
 clear hc hG hS hS2 hwo hwp hvs c0
 go_enter Tryz.func39, Tryz.ntmps39
 go_wp2_with fail
 generalize ((((w.alloc (.cells #[.pointer wp] 75)).alloc (.cells #[.slice none 0 0] 69)).alloc (.cells #[.bool false, .bool false, .bool false, .bool false, .bool false, .bool false, .bool false, .bool false, .bool false, .bool false] 83)).alloc (.cells #[(.func (.func 70) #[] #[.pointer (some ⟨w.heap.size, 0, none⟩), .pointer (some ⟨w.heap.size + 1 + 1, 0, none⟩), .pointer (some ⟨w.heap.size + 1 + 1 + 1, 0, none⟩), .pointer (some ⟨w.heap.size + 1, 0, none⟩)])] 116)) = w5 at HVs ⊢
 have e5 : w5.cell? ⟨w.heap.size + 1 + 1 + 1, 0, none⟩ = some (.func (.func 70) #[] #[.pointer (some ⟨w.heap.size, 0, none⟩), .pointer (some ⟨w.heap.size + 1 + 1, 0, none⟩), .pointer (some ⟨w.heap.size + 1 + 1 + 1, 0, none⟩), .pointer (some ⟨w.heap.size + 1, 0, none⟩)]) := (cell_of_heap HVs.out.cV).trans rfl
 have e7 : w5.cell? ⟨N, 0, none⟩ = some (.pointer (some ⟨N + 1, 0, none⟩)) := (cell_block (HVs.out.below.block N hNl)).trans e6
 clear e6
 go_region_with (first | (go_at_call 70; refine (HC.out _ (HVs.out.drew)).mono ?_; rintro e w6 ⟨rfl, hV6, hb6⟩; have HV6 : Hid _ := hV6; have HB6 : Hid _ := hb6; clear hV6 hb6) | (go_at_call 70; refine (HC.out _ (HVs.out)).mono ?_; rintro e w6 ⟨rfl, hV6, hb6⟩; have HV6 : Hid _ := hV6; have HB6 : Hid _ := hb6; clear hV6 hb6))
 all_goals
  obtain ⟨tv, t1, t2⟩ := HV6.out.cT
  obtain ⟨ta, tc, htv, hta⟩ := own_read t2
  subst htv
  have e7 : w6.cell? ⟨w.heap.size + 1, 0, none⟩ = some (.slice ta (dfs S wo (n + 1) 0 ([], [])).2.length tc) := (cell_of_heap t1).trans rfl
  have HTA : Hid _ := hta
  clear t1 t2 hta
  go_wp2_with fail
  go_ret
  refine ⟨ta, tc, rfl, ?_, HV6.out.below⟩
  rcases HTA.out with h | ⟨g, q1, q2, q3⟩
  ·exact .inl h
  ·exact .inr ⟨g, q1, by omega, q3⟩
end Go.Proofs.YtgojlnclpebdcaaGreatDoor
namespace Go.Proofs.YtgojlnclpebdcaaGreatDoor
open Go.RowKit
def dm (S : Nat → List Nat) (n : Nat) (l : List Nat) (k j a b : Nat) : Bool :=
 decide ((a ∈ l.take k ∧ b ∈ l ∧ b ∉ post S (some a) n) ∨ (k < l.length ∧ a = l.getD k 0 ∧ b ∈ l.take j ∧ b ∉ post S (some a) n))
theorem take_more (l : List Nat) (k : Nat) (h : k < l.length) (a : Nat) : a ∈ l.take (k + 1) ↔ a ∈ l.take k ∨ a = l.getD k 0 := by
 have e : l.getD k 0 = l[k] := by simp [List.getD, h]
 rw [List.take_succ_eq_append_getElem h, List.mem_append, List.mem_singleton, e]
theorem dm_start (S : Nat → List Nat) (n : Nat) (l : List Nat) (a b : Nat) : dm S n l 0 0 a b = false := by simp [dm]
theorem dm_next (S : Nat → List Nat) (n : Nat) (l : List Nat) (k a b : Nat) (h : k < l.length) : dm S n l k l.length a b = dm S n l (k + 1) 0 a b := by
 unfold dm
 apply decide_eq_decide.2
 rw [take_more l k h]
 simp only [List.take_length, List.take_zero, List.not_mem_nil, false_and, and_false, or_false]
 constructor
 ·rintro (⟨h1, h2⟩ | ⟨_, h1, h2⟩)
  ·exact ⟨.inl h1, h2⟩
  ·exact ⟨.inr h1, h2⟩
 ·rintro ⟨h1 | h1, h2⟩
  ·exact .inl ⟨h1, h2⟩
  ·exact .inr ⟨h, h1, h2⟩
theorem dm_same (S : Nat → List Nat) (n : Nat) (l : List Nat) (k j : Nat) (hk : k < l.length) (hj : j < l.length) : dm S n l k (j + 1) (l.getD k 0) (l.getD j 0) = !decide (l.getD j 0 ∈ post S (some (l.getD k 0)) n) := by
 unfold dm
 by_cases h : l.getD j 0 ∈ post S (some (l.getD k 0)) n
 ·rw [decide_eq_true h]; simp only [h, not_true, and_false, or_false, decide_false, Bool.not_true]
 ·rw [decide_eq_false h]
  exact decide_eq_true (.inr ⟨hk, rfl, (take_more l j hj _).2 (.inr rfl), h⟩)
theorem dm_other (S : Nat → List Nat) (n : Nat) (l : List Nat) (k j a b : Nat) (hj : j < l.length) (h : ¬ (a = l.getD k 0 ∧ b = l.getD j 0)) : dm S n l k (j + 1) a b = dm S n l k j a b := by
 unfold dm
 apply decide_eq_decide.2
 rw [take_more l j hj]
 constructor
 ·rintro (h1 | ⟨h1, h2, h3 | h3, h4⟩)
  ·exact .inl h1
  ·exact .inr ⟨h1, h2, h3, h4⟩
  ·exact absurd ⟨h2, h3⟩ h
 ·rintro (h1 | ⟨h1, h2, h3, h4⟩)
  ·exact .inl h1
  ·exact .inr ⟨h1, h2, .inl h3, h4⟩
def DomAt (w : World) (D : Nat) (F : Nat → Nat → Bool) : Prop := ∃ arr : Array Value, w.heap[D]? = some (.cells arr 85 (0, 0)) ∧ arr.size = 100 ∧ ∀ a b, a < 10 → b < 10 → arr[a * 10 + b]? = some (.bool (F a b))
theorem DomAt.keep {w w' : World} {D : Nat} {F : Nat → Nat → Bool} (h : DomAt w D F) (k : w'.heap[D]? = w.heap[D]?) : DomAt w' D F := by
 obtain ⟨arr, h1, h2⟩ := h
 exact ⟨arr, k.trans h1, h2⟩
theorem DomAt.put {w : World} {D a b : Nat} {F F' : Nat → Nat → Bool} {v : Bool} (h : DomAt w D F) (ha : a < 10) (hb : b < 10) (h1 : F' a b = v) (h2 : ∀ x y, ¬ (x = a ∧ y = b) → F' x y = F x y) : DomAt (w.setCell ⟨D, a * 10 + b, none⟩ (.bool v)) D F' := by
 obtain ⟨arr, g1, g2, g3⟩ := h
 refine ⟨_, heap_set g1, by simpa using g2, fun x y hx hy => ?_⟩
 by_cases e : x = a ∧ y = b
 ·obtain ⟨rfl, rfl⟩ := e
  rw [h1, Array.getElem?_setIfInBounds_self_of_lt (by omega)]
 ·rw [Array.getElem?_setIfInBounds_ne (by omega), g3 x y hx hy, h2 x y e]
theorem infoD : (Tryz.prog.info? 85).map (·.size) = some 100 := by kernel_rfl
theorem heap_first (w : World) (o1 o2 : Obj) : ((w.alloc o1).alloc o2).heap[w.heap.size]? = some o1 := (Below.heap_alloc _ _ _ (by simp)).trans (heap_alloc_last _ _)
set_option maxRecDepth 100000 in
theorem hundred (i : Nat) (hi : i < 100) : (#[.bool false, .bool false, .bool false, .bool false, .bool false, .bool false, .bool false, .bool false, .bool false, .bool false, .bool false, .bool false, .bool false, .bool false, .bool false, .bool false, .bool false, .bool false, .bool false, .bool false, .bool false, .bool false, .bool false, .bool false, .bool false, .bool false, .bool false, .bool false, .bool false, .bool false, .bool false, .bool false, .bool false, .bool false, .bool false, .bool false, .bool false, .bool false, .bool false, .bool false, .bool false, .bool false, .bool false, .bool false, .bool false, .bool false, .bool false, .bool false, .bool false, .bool false, .bool false, .bool false, .bool false, .bool false, .bool false, .bool false, .bool false, .bool false, .bool false, .bool false, .bool false, .bool false, .bool false, .bool false, .bool false, .bool false, .bool false, .bool false, .bool false, .bool false, .bool false, .bool false, .bool false, .bool false, .bool false, .bool false, .bool false, .bool false, .bool false, .bool false, .bool false, .bool false, .bool false, .bool false, .bool false, .bool false, .bool false, .bool false, .bool false, .bool false, .bool false, .bool false, .bool false, .bool false, .bool false, .bool false, .bool false, .bool false, .bool false, .bool false] : Array Value)[i]? = some (.bool false) := by
 show (Array.replicate 100 (Value.bool false))[i]? = _
 simp [hi]
set_option maxRecDepth 100000 in
set_option maxHeartbeats 4000000 in
theorem domsI (N n : Nat) (S : Nat → List Nat) (w : World) (hG : Graph w N n S) (h1 : 0 < n) (hn : n ≤ 10) (hS : ∀ a, ∀ s ∈ S a, s < n) (hS2 : ∀ a, (S a).length ≤ 1000) :
  Calls Tryz.prog 42 #[.slice (some ⟨N, 0, none⟩) n n] w fun e w' => (∃ arr : Array Value, e = .returned (.agg arr) ∧ arr.size = 100 ∧ ∀ a b, a < 10 → b < 10 → arr[a * 10 + b]? = some (.bool (dm S n (post S none n) (post S none n).length 0 a b))) ∧ Below w.heap.size w w' := by
 have HG : Hid (Graph w N n S) := hG
 have HS : Hid (∀ a, ∀ s ∈ S a, s < n) := hS
 have HS2 : Hid (∀ a, (S a).length ≤ 1000) := hS2
 have hsz := hG.size
 clear hG hS hS2
 go_enter Tryz.func42, Tryz.ntmps42
 go_wp2_with (go_at_call 39; refine (toldI N n S none _ (HG.out.keep ((agree_alloc _ _ _).trans (agree_alloc _ _ _))) h1 hn HS.out HS2.out (by simp)).mono ?_; rintro e w1 ⟨u, c, rfl, hp, hb⟩; have HD : Hid (DomAt w1 (w.heap.size + 1) (fun _ _ => false)) := ⟨_, (hb.block _ (by simp)).trans (heap_two _ _ _), rfl, fun a b ha hb => hundred _ (by omega)⟩; have HR : Hid (DomAt w1 w.heap.size (fun _ _ => false)) := ⟨_, (hb.block _ (by simp; omega)).trans (heap_first _ _ _), rfl, fun a b ha hb => hundred _ (by omega)⟩; have HP : Hid (PtrsAt w1 (w.heap.size + 2) N u (post S none n)) := hp.low (by simp); have HB : Hid (Below w.heap.size w w1) := (((Below.refl _ _).alloc (Nat.le_refl _) _).alloc (by simp) _).trans (hb.mono (by simp; omega)); clear hp hb)
 have hpt := post_told S none n h1 HS.out
 have HT : Hid (Told S none n (post S none n)) := hpt
 have hlen : (post S none n).length ≤ 1000 := by
  have h := dfs_count S none n HS.out (n + 1) 0 ([], []) 0 h1 (by show 0 + un n [] + 0 ≤ n; rw [un_nil]; omega)
  show (dfs S none (n + 1) 0 ([], [])).2.length ≤ 1000
  omega
 have HLA : Hid (∀ a, a < n → (post S (some a) n).length ≤ 1000) := fun a _ => by
  have h := dfs_count S (some a) n HS.out (n + 1) 0 ([], []) 0 h1 (by show 0 + un n [] + 0 ≤ n; rw [un_nil]; omega)
  show (dfs S (some a) (n + 1) 0 ([], [])).2.length ≤ 1000
  omega
 clear hpt
 generalize hl0 : post S none n = l at HP HT hlen ⊢
 have HL0 : Hid (post S none n = l) := hl0
 clear hl0
 go_loopw [14] (fun i wr => ∃ k : Nat, k ≤ l.length ∧ i = .int .i64 k ∧ DomAt wr (w.heap.size + 1) (dm S n l k 0) ∧ DomAt wr w.heap.size (fun _ _ => false) ∧ PtrsAt wr (w.heap.size + 2) N u l ∧ Below w.heap.size w wr ∧ w.heap.size + 2 ≤ wr.heap.size) (fun i _ => l.length - (intOf i).toNat)
 case atStart =>
  refine ⟨0, by omega, rfl, ?_, HR.out, HP.out, HB.out, ?_⟩
  ·have e : dm S n l 0 0 = fun _ _ => false := by funext a b; exact dm_start S n l a b
   rw [e]; exact HD.out
  ·obtain ⟨_, h, _⟩ := HD.out
   have := (Array.getElem?_eq_some_iff.1 h).1
   omega
 case round =>
  obtain ⟨k, hk, rfl, hD, hR, hP, hB, hz⟩ := hrel
  clear HD HR HP HB
  have HD : Hid (DomAt wr (w.heap.size + 1) (dm S n l k 0)) := hD
  have HR : Hid (DomAt wr w.heap.size (fun _ _ => false)) := hR
  have HP : Hid (PtrsAt wr (w.heap.size + 2) N u l) := hP
  have HB : Hid (Below w.heap.size w wr) := hB
  by_cases hlt : k < l.length
  ·rcases hP with hn0 | ⟨g, rfl, hg1, hg2, hgc⟩
   ·simp [hn0] at hlt
   have e1 : wr.cell? ⟨g, k, none⟩ = some (.pointer (some ⟨N + 1 + l.getD k 0, 0, none⟩)) := hgc k hlt
   have HA : Hid (l.getD k 0 < n) := HT.out.low _ (getD_mem 0 l k hlt)
   generalize hae : l.getD k 0 = a at e1 HA
   have HAE : Hid (l.getD k 0 = a) := hae
   clear hgc hD hR hB hae
   go_wp2_with (go_at_call 39; refine (toldI N n S (some a) _ (HG.out.keep (agree_of_below HB.out _)) h1 hn HS.out HS2.out (fun x hx => by cases hx; exact HA.out)).mono ?_; rintro e w3 ⟨u3, c3, rfl, hp3, hb3⟩; have HP3 : Hid (PtrsAt w3 (w.heap.size + 2) N u3 (post S (some a) n)) := hp3.low hz; have HB3 : Hid (Below w.heap.size w w3) := HB.out.trans (hb3.mono (by omega)); have HD3 : Hid (DomAt w3 (w.heap.size + 1) (dm S n l k 0)) := HD.out.keep (hb3.block _ (by omega)); have HR3 : Hid (DomAt w3 w.heap.size (fun _ _ => false)) := HR.out.keep (hb3.block _ (by omega)); have HL3 : Hid (PtrsAt w3 (w.heap.size + 2) N (some ⟨g, 0, none⟩) l) := HP.out.keep (agree_of_below hb3 _); have hz3 : w.heap.size + 2 ≤ w3.heap.size := (by have := hb3.size; omega); clear hp3 hb3)
   have hla := HLA.out a HA.out
   have HT2 : Hid (Told S (some a) n (post S (some a) n)) := post_told S (some a) n h1 HS.out
   generalize hl2 : post S (some a) n = l2 at HP3 hla HT2 ⊢
   have HL2 : Hid (post S (some a) n = l2) := hl2
   clear hl2 HD HR HP HB
   go_loopw [23] (fun i wr => ∃ j : Nat, j ≤ l.length ∧ i = .int .i64 j ∧ DomAt wr (w.heap.size + 1) (dm S n l k j) ∧ DomAt wr w.heap.size (fun _ _ => false) ∧ PtrsAt wr (w.heap.size + 2) N (some ⟨g, 0, none⟩) l ∧ PtrsAt wr (w.heap.size + 2) N u3 l2 ∧ Below w.heap.size w wr ∧ w.heap.size + 2 ≤ wr.heap.size) (fun i _ => l.length - (intOf i).toNat)
   case atStart => exact ⟨0, by omega, rfl, HD3.out, HR3.out, HL3.out, HP3.out, HB3.out, hz3⟩
   case round =>
    obtain ⟨j, hj, rfl, hD, hR, hP, hP2, hB, hz⟩ := hrel
    clear HD3 HR3 HL3 HP3 HB3
    have HD : Hid (DomAt wr (w.heap.size + 1) (dm S n l k j)) := hD
    have HR : Hid (DomAt wr w.heap.size (fun _ _ => false)) := hR
    have HP : Hid (PtrsAt wr (w.heap.size + 2) N (some ⟨g, 0, none⟩) l) := hP
    have HP2 : Hid (PtrsAt wr (w.heap.size + 2) N u3 l2) := hP2
    have HB : Hid (Below w.heap.size w wr) := hB
    by_cases hjt : j < l.length
    ·have e2 : wr.cell? ⟨g, j, none⟩ = some (.pointer (some ⟨N + 1 + l.getD j 0, 0, none⟩)) := by
      rcases hP with hn0 | ⟨g', q1, _, _, q2⟩
      ·simp [hn0] at hjt
      ·cases q1; exact q2 j hjt
     have HBb : Hid (l.getD j 0 < n) := HT.out.low _ (getD_mem 0 l j hjt)
     generalize hbe : l.getD j 0 = b at e2 HBb
     have HBE : Hid (l.getD j 0 = b) := hbe
     have hGr := HG.out.keep (agree_of_below hB N)
     obtain ⟨a1, c1, a2, c2, hna, _⟩ := hGr.node a HA.out
     obtain ⟨b1, d1, b2, d2, hnb, _⟩ := hGr.node b HBb.out
     have e3 : wr.cell? ⟨N + 1 + a, 0, none⟩ = some (.int .i64 a) := (cell_of_heap hna).trans rfl
     have e4 : wr.cell? ⟨N + 1 + b, 0, none⟩ = some (.int .i64 b) := (cell_of_heap hnb).trans rfl
     have HN : Hid (Nodes wr N n) := hGr.nodes
     obtain ⟨arr, ha1, ha2, ha3⟩ := hD
     have ha10 : a < 10 := Nat.lt_of_lt_of_le HA.out hn
     have hb10 : b < 10 := Nat.lt_of_lt_of_le HBb.out hn
     have e5 : wr.cell? ⟨w.heap.size + 1, a * 10 + b, none⟩ = some (.bool (dm S n l k j a b)) := (cell_of_heap ha1).trans (ha3 a b ha10 hb10)
     have f5 : wr.frozen? ⟨w.heap.size + 1, a * 10 + b, none⟩ = false := froz_of_heap ha1
     generalize dm S n l k j a b = old at e5
     have HL : Hid (∀ x ∈ l2, x < n) := HT2.out.low
     clear hGr hna hnb ha1 ha2 ha3 hbe hR hP hP2 hB
     go_wp2_with fail
     go_region_with (first | (go_at_call 74; refine (containsI (w.heap.size + 2) N n u3 c3 l2 b _ (by exact HP2.out) (by exact HN.out) HL.out HBb.out hla).mono ?_; rintro e w4 ⟨rfl, rfl⟩))
     all_goals
      go_wp2_with fail
      go_roundw
      case rel =>
       have q1 : dm S n l k (j + 1) a b = !decide (b ∈ l2) := by
        have h := dm_same S n l k j hlt hjt
        rw [HAE.out, HBE.out, HL2.out] at h; exact h
       have q2 : ∀ x y, ¬ (x = a ∧ y = b) → dm S n l k (j + 1) x y = dm S n l k j x y := fun x y h => dm_other S n l k j x y hjt (by rw [HAE.out, HBE.out]; exact h)
       have q3 := HD.out.put ha10 hb10 q1 q2
       refine ⟨j + 1, by omega, by go_num, by exact q3, HR.out.keep (heap_other (by show w.heap.size ≠ w.heap.size + 1; omega) rfl), HP.out.keep (by exact agree_setCell _ _ _ _ _ (by omega)), HP2.out.keep (by exact agree_setCell _ _ _ _ _ (by omega)), ?_, by simp [World.setCell]; exact hz⟩
       first | exact HB.out.setCell (by show w.heap.size ≤ w.heap.size + 1; omega) _ | exact HB.out.drew.setCell (by show w.heap.size ≤ w.heap.size + 1; omega) _
      case measure => simp [intOf]; omega
    ·have hje : j = l.length := by omega
     subst hje
     clear hD hR hP hP2 hB
     go_wp2_with fail
     go_roundw
     case rel =>
      have e : dm S n l k l.length = dm S n l (k + 1) 0 := by funext x y; exact dm_next S n l k x y hlt
      exact ⟨k + 1, by omega, by go_num, e ▸ HD.out, HR.out, HP.out, HB.out, hz⟩
     case measure => simp [intOf]; omega
  ·have hke : k = l.length := by omega
   subst hke
   obtain ⟨arr, ha1, ha2, ha3⟩ := HD.out
   obtain ⟨old, ho1, ho2, ho3⟩ := HR.out
   clear hD hR hP hB
   have HA1 : Hid (wr.heap[w.heap.size + 1]? = some (.cells arr 85 (0, 0))) := ha1
   have HO1 : Hid (wr.heap[w.heap.size]? = some (.cells old 85 (0, 0))) := ho1
   have HA3 : Hid (∀ a b, a < 10 → b < 10 → arr[a * 10 + b]? = some (.bool (dm S n l l.length 0 a b))) := ha3
   have hall : arr.all (·.oneCell') = true := by
    rw [Array.all_eq_true]
    intro i hi
    have h := ha3 (i / 10) (i % 10) (by omega) (by omega)
    have e : i / 10 * 10 + i % 10 = i := by omega
    rw [e, Array.getElem?_eq_getElem hi] at h
    simp at h; rw [h]; rfl
   have HALL : Hid (arr.all (·.oneCell') = true) := hall
   clear ha1 ho1 ha3 ho3 hall
   go_wp2_with (first | (refine wpList_load_row rfl 85 _ rfl (w.heap.size + 1) rfl 85 arr (0, 0) _ HA1.out Tryz.underlying85 rfl (by rw [infoD, ha2]) ?_) | (refine wpList_store_row rfl 85 _ _ rfl w.heap.size arr rfl rfl 85 old HO1.out (by rw [infoD, ha2]) (by omega) HALL.out ?_))
   have hr := setRow_heap wr w.heap.size old arr 85 (0, 0) HO1.out
   refine bodyPost_ret (v := .agg arr) ((results_cell_row Tryz.results42 _ _ w.heap.size 85 arr (0, 0) _ rfl hr Tryz.underlying85 rfl (by rw [infoD, ha2])).trans (by rfl)) rfl ?_
   refine ⟨⟨arr, rfl, ha2, by rw [HL0.out]; exact HA3.out⟩, ?_⟩
   refine HB.out.trans ⟨rfl, rfl, rfl, by simp, fun b hb => setRow_other _ _ _ _ (by omega)⟩
end Go.Proofs.YtgojlnclpebdcaaGreatDoor
