import Derived.Test.YtkpmiikafconmaaGreatDoorSzV
import Derived.Laws.OwnMore
import Derived.Test.YtkpmiikafconmaaGreatDoorReHV
namespace Go.Proofs.YtkpmiikafconmaaGreatDoor
open Go.RowKit
set_option linter.unusedVariables false
def OI (w : World) (lo : Nat) (a : Option Addr) (l : List Int) : Prop :=
 l.length ≤ 9223372036854775807 ∧ (l = [] ∨ ∃ g cur, a = some ⟨g, 0, none⟩ ∧ lo ≤ g ∧ w.heap[g]? = some (.cells cur 2 (0, 0)) ∧ ∀ i, i < l.length → cur[i]? = some (.int .i64 (l.getD i 0)))
theorem OI.keep {w w' : World} {lo : Nat} {a : Option Addr} {l : List Int} (h : OI w lo a l) (k : Agree lo w w') : OI w' lo a l := by
 obtain ⟨hm, h⟩ := h
 refine ⟨hm, ?_⟩
 rcases h with h | ⟨g, cur, ha, hl, hb, hc⟩
 ·exact .inl h
 ·exact .inr ⟨g, cur, ha, hl, (k.2 g hl (Array.getElem?_eq_some_iff.1 hb).1).trans hb, hc⟩
theorem OI.low {w : World} {lo lo' : Nat} {a : Option Addr} {l : List Int} (h : OI w lo a l) (k : lo' ≤ lo) : OI w lo' a l := by
 obtain ⟨hm, h⟩ := h
 refine ⟨hm, ?_⟩
 rcases h with h | ⟨g, cur, ha, hl, hb, hc⟩
 ·exact .inl h
 ·exact .inr ⟨g, cur, ha, Nat.le_trans k hl, hb, hc⟩
theorem OI.at {w : World} {lo : Nat} {a : Option Addr} {l : List Int} (h : OI w lo a l) : IntsAt w lo a l := by
 obtain ⟨hm, h⟩ := h
 refine ⟨hm, ?_⟩
 rcases h with h | ⟨g, cur, ha, hl, hb, hc⟩
 ·exact .inl h
 ·exact .inr ⟨g, 0, ha, hl, (Array.getElem?_eq_some_iff.1 hb).1, fun i hi => (cell_of_heap hb).trans (by simpa using hc i hi)⟩
def isI : Value → Bool | .int .i64 _ => true | _ => false
theorem isI_yes {v : Value} (h : isI v = true) : ∃ z, v = .int .i64 z := by
 unfold isI at h
 split at h
 ·exact ⟨_, rfl⟩
 ·cases h
def Cur (cur cur' : Array Value) : Prop := ∀ (j : Nat) (v : Value), cur[j]? = some v → ∃ v', cur'[j]? = some v' ∧ (isI v = true → isI v' = true) ∧ (isI v = false → v' = v)
theorem Cur.int {cur cur' : Array Value} (h : Cur cur cur') {j : Nat} {z : Int} (hj : cur[j]? = some (.int .i64 z)) : ∃ z : Int, cur'[j]? = some (.int .i64 z) := by
 obtain ⟨v', h1, h2, _⟩ := h j _ hj
 obtain ⟨y, rfl⟩ := isI_yes (h2 rfl)
 exact ⟨y, h1⟩
theorem Cur.slice {cur cur' : Array Value} (h : Cur cur cur') {j : Nat} {u : Option Addr} {n c : Nat} (hj : cur[j]? = some (.slice u n c)) : cur'[j]? = some (.slice u n c) := by
 obtain ⟨v', h1, _, h3⟩ := h j _ hj
 rw [h1, h3 rfl]
theorem Cur.refl (cur : Array Value) : Cur cur cur := fun _ v h => ⟨v, h, fun h => h, fun _ => rfl⟩
theorem Cur.trans {a b c : Array Value} (h : Cur a b) (k : Cur b c) : Cur a c := fun j v hv => by
 obtain ⟨v1, h1, h2, h3⟩ := h j v hv
 obtain ⟨v2, k1, k2, k3⟩ := k j v1 h1
 refine ⟨v2, k1, fun e => k2 (h2 e), fun e => ?_⟩
 have e1 := h3 e
 subst e1
 exact k3 e
theorem Cur.set {cur : Array Value} {o : Nat} {z : Int} (h : cur[o]? = some (.int .i64 z)) (y : Int) : Cur cur (cur.setIfInBounds o (.int .i64 y)) := fun j v hv => by
 by_cases e : o = j
 ·subst e
  rw [h] at hv
  cases hv
  have hlt := (Array.getElem?_eq_some_iff.1 h).1
  exact ⟨.int .i64 y, by simp [hlt], fun _ => rfl, fun e => by cases e⟩
 ·exact ⟨v, by rw [Array.getElem?_setIfInBounds_ne e]; exact hv, fun h => h, fun _ => rfl⟩
structure Hdr (lo hi : Nat) (w w' : World) : Prop where
 os : w'.os = w.os
 tape : w'.tape = w.tape
 output : w'.output = w.output
 size : w.heap.size ≤ w'.heap.size
 out : ∀ g : Nat, g < lo ∨ hi ≤ g → g < w.heap.size → w'.heap[g]? = w.heap[g]?
 cells : ∀ (g : Nat) (cur : Array Value) (T : TypeId), w.heap[g]? = some (.cells cur T (0, 0)) → ∃ cur', w'.heap[g]? = some (.cells cur' T (0, 0)) ∧ Cur cur cur'
theorem Hdr.refl (lo hi : Nat) (w : World) : Hdr lo hi w w := ⟨rfl, rfl, rfl, Nat.le_refl _, fun _ _ _ => rfl, fun _ cur _ h => ⟨cur, h, Cur.refl _⟩⟩
theorem Hdr.trans {lo hi : Nat} {a b c : World} (h : Hdr lo hi a b) (k : Hdr lo hi b c) : Hdr lo hi a c :=
 ⟨k.os.trans h.os, k.tape.trans h.tape, k.output.trans h.output, Nat.le_trans h.size k.size, fun g hg hl => (k.out g hg (Nat.lt_of_lt_of_le hl h.size)).trans (h.out g hg hl), fun g cur T hc => by
  obtain ⟨c1, h1, h2⟩ := h.cells g cur T hc
  obtain ⟨c2, k1, k2⟩ := k.cells g c1 T h1
  exact ⟨c2, k1, h2.trans k2⟩⟩
theorem Hdr.alloc (lo hi : Nat) (w : World) (o : Obj) : Hdr lo hi w (w.alloc o) :=
 ⟨rfl, rfl, rfl, by simp, fun g _ hl => Below.heap_alloc w o g hl, fun g cur T hc => ⟨cur, (Below.heap_alloc w o g (Array.getElem?_eq_some_iff.1 hc).1).trans hc, Cur.refl _⟩⟩
theorem Hdr.store {lo hi : Nat} {w w1 : World} (h : Hdr lo hi w w1) {g o : Nat} {cur : Array Value} {T : TypeId} {z : Int} (hc : w.heap[g]? = some (.cells cur T (0, 0))) (ho : cur[o]? = some (.int .i64 z)) (hl : lo ≤ g) (hh : g < hi) (y : Int) :
  Hdr lo hi w (w1.setCell ⟨g, o, none⟩ (.int .i64 y)) := by
 refine h.trans ⟨rfl, rfl, rfl, by simp [World.setCell], fun k hk _ => Below.heap_setCell _ _ _ _ (by show k ≠ g; omega), fun k c1 T1 h1 => ?_⟩
 by_cases e : k = g
 ·subst e
  obtain ⟨c2, h2, h3⟩ := h.cells k cur T hc
  rw [h2] at h1
  cases h1
  obtain ⟨z1, hz1⟩ := h3.int ho
  exact ⟨_, heap_set h2, Cur.set hz1 y⟩
 ·exact ⟨c1, (Below.heap_setCell _ _ _ _ (by show k ≠ g; omega)).trans h1, Cur.refl _⟩
theorem Hdr.cell {lo hi : Nat} {w w1 : World} (h : Hdr lo hi w w1) {g o : Nat} {cur : Array Value} {T : TypeId} {z : Int} (hc : w.heap[g]? = some (.cells cur T (0, 0))) (ho : cur[o]? = some (.int .i64 z)) :
  (∃ y : Int, w1.cell? ⟨g, o, none⟩ = some (.int .i64 y)) ∧ w1.frozen? ⟨g, o, none⟩ = false := by
 obtain ⟨c2, h2, h3⟩ := h.cells g cur T hc
 obtain ⟨z1, hz1⟩ := h3.int ho
 exact ⟨⟨z1, (cell_of_heap h2).trans hz1⟩, froz_of_heap h2⟩
theorem Hdr.head {lo hi : Nat} {w w1 : World} (h : Hdr lo hi w w1) {g o : Nat} {cur : Array Value} {T : TypeId} {u : Option Addr} {n c : Nat} (hc : w.heap[g]? = some (.cells cur T (0, 0))) (ho : cur[o]? = some (.slice u n c)) :
  w1.cell? ⟨g, o, none⟩ = some (.slice u n c) := by
 obtain ⟨c2, h2, h3⟩ := h.cells g cur T hc
 exact (cell_of_heap h2).trans (h3.slice ho)
def SI (w : World) (lo hi : Nat) (a : Option Addr) (n : Nat) : Prop :=
 n = 0 ∨ ∃ g cur, a = some ⟨g, 0, none⟩ ∧ lo ≤ g ∧ g < hi ∧ w.heap[g]? = some (.cells cur 2 (0, 0)) ∧ ∀ i, i < n → ∃ z : Int, cur[i]? = some (.int .i64 z)
theorem SI.keep {w w' : World} {lo hi : Nat} {a : Option Addr} {n : Nat} (h : SI w lo hi a n) (k : Hdr lo hi w w') : SI w' lo hi a n := by
 rcases h with h | ⟨g, cur, ha, hl, hh, hb, hc⟩
 ·exact .inl h
 ·obtain ⟨cur', hb', hi⟩ := k.cells g cur _ hb
  exact .inr ⟨g, cur', ha, hl, hh, hb', fun i hi' => by obtain ⟨z, hz⟩ := hc i hi'; exact hi.int hz⟩
structure Only (g : Nat) (w w' : World) : Prop where
 os : w'.os = w.os
 tape : w'.tape = w.tape
 output : w'.output = w.output
 size : w'.heap.size = w.heap.size
 other : ∀ k : Nat, k ≠ g → w'.heap[k]? = w.heap[k]?
theorem Only.refl (g : Nat) (w : World) : Only g w w := ⟨rfl, rfl, rfl, rfl, fun _ _ => rfl⟩
theorem Only.set {g : Nat} {w w1 : World} (h : Only g w w1) (o : Nat) (v : Value) : Only g w (w1.setCell ⟨g, o, none⟩ v) :=
 ⟨h.os, h.tape, h.output, by simp [World.setCell]; exact h.size, fun k hk => (Below.heap_setCell _ _ _ _ hk).trans (h.other k hk)⟩
def marks (k : Int) (n : Nat) : List Int := (List.range n).map fun i : Nat => k + (i : Int)
theorem agree_below {lo' : Nat} {a b c : World} (h : Agree lo' a b) (k : Below b.heap.size b c) : Agree lo' a c := h.trans (agree_of_below k _)
end Go.Proofs.YtkpmiikafconmaaGreatDoor
namespace Go.Proofs.YtkpmiikafconmaaGreatDoor
open Go.RowKit
set_option linter.unusedVariables false
set_option maxHeartbeats 1000000 in
theorem markW (g o c n : Nat) (k : Int) (w : World) (hn : n ≤ 1048576) (hk0 : 0 ≤ k) (hk : k ≤ 4611686018427387904) (hc : ∀ i, i < n → ∃ z : Int, w.cell? ⟨g, o + i, none⟩ = some (.int .i64 z)) (hf : ∀ i, i < n → w.frozen? ⟨g, o + i, none⟩ = false) :
  Calls Tryz.prog 65 #[.slice (some ⟨g, o, none⟩) n c, .int .i64 k] w fun e w' => e = .returned (.int .i64 (k + n)) ∧ w' = mkw w (rowA g o n 1) k := by
 have HC : Hid (∀ i, i < n → ∃ z : Int, w.cell? ⟨g, o + i, none⟩ = some (.int .i64 z)) := hc
 have HF : Hid (∀ i, i < n → w.frozen? ⟨g, o + i, none⟩ = false) := hf
 clear hc hf
 go_enter Tryz.func65, Tryz.ntmps65
 go_wp2_with fail
 go_loopw [1, 5] (fun q i wr => ∃ (j : Nat), j ≤ n ∧ i = .int .i64 j ∧ q = .int .i64 (k + j) ∧ Hid (wr = mkw w (rowA g o j 1) k)) (fun _ i _ => n - (intOf i).toNat)
 case atStart => exact ⟨0, by omega, rfl, by simp, rfl⟩
 case round =>
  obtain ⟨j, hj, rfl, rfl, HE⟩ := hrel
  by_cases hlt : j < n
  ·obtain ⟨z, hz⟩ := HC.out j hlt
   have e0 : (⟨g, o + j, none⟩ : Addr) = ⟨g, o + j * 1, none⟩ := by simp
   have e1 : wr.cell? ⟨g, o + j, none⟩ = some (.int .i64 z) := by
    rw [HE.out, mkw_out _ _ _ _ (by rw [e0]; exact rowA_out g o j 1 (by omega))]
    exact hz
   have e2 : wr.frozen? ⟨g, o + j, none⟩ = false := by
    rw [HE.out, mkw_froz]
    exact HF.out j hlt
   have HE2 : Hid (wr.setCell ⟨g, o + j, none⟩ (.int .i64 (k + j)) = mkw w (rowA g o (j + 1) 1) k) := by
    show _ = _
    rw [rowA_succ, mkw_append, ← HE.out, rowA_len, e0]
    rfl
   clear hz e0
   go_wp2_with fail
   go_roundw
   case rel => exact ⟨j + 1, by omega, by go_num, by refine congrArg (Value.int .i64) ?_; first | omega | (unfold wrap64; omega), HE2.out⟩
   case measure => simp [intOf]; omega
  ·have hke : j = n := by omega
   subst hke
   go_wp2_with fail
   go_ret
   exact ⟨rfl, HE.out⟩
end Go.Proofs.YtkpmiikafconmaaGreatDoor
namespace Go.Proofs.YtkpmiikafconmaaGreatDoor
open Go.RowKit
set_option linter.unusedVariables false
def strA (g s : Nat) (F : List Nat) : Nat → List (List Addr × List Addr) → List Addr
 | _, [] => []
 | o, (P, Q) :: l => P ++ (F.map (fun f => (⟨g, o + f, none⟩ : Addr)) ++ (Q ++ strA g s F (o + s) l))
def subA : List (List Addr × List Addr) → List Addr
 | [] => []
 | (P, Q) :: l => P ++ (Q ++ subA l)
theorem strA_mem {g s : Nat} {F : List Nat} {a : Addr} : ∀ (l : List (List Addr × List Addr)) (o : Nat), a ∈ strA g s F o l → a ∈ subA l ∨ (a.block = g ∧ o ≤ a.off)
 | [], _, h => by simp [strA] at h
 | (P, Q) :: l, o, h => by
  simp only [strA, subA, List.mem_append, List.mem_map] at h ⊢
  rcases h with h | ⟨f, _, rfl⟩ | h | h
  ·exact .inl (.inl h)
  ·exact .inr ⟨rfl, Nat.le_add_right _ _⟩
  ·exact .inl (.inr (.inl h))
  ·rcases strA_mem l (o + s) h with h | ⟨h1, h2⟩
   ·exact .inl (.inr (.inr h))
   ·exact .inr ⟨h1, by omega⟩
theorem own_nodup (g o : Nat) : ∀ {F : List Nat}, F.Nodup → (F.map (fun f => (⟨g, o + f, none⟩ : Addr))).Nodup := by
 intro F h
 rw [List.nodup_iff_pairwise_ne, List.pairwise_map]
 refine List.Pairwise.imp ?_ (List.nodup_iff_pairwise_ne.1 h)
 intro i j hij e
 injection e with _ e2 _
 omega
theorem strA_nodup {g s : Nat} {F : List Nat} (hF : F.Nodup) (hs : ∀ f ∈ F, f < s) : ∀ (l : List (List Addr × List Addr)) (o : Nat), (subA l).Nodup → (∀ a ∈ subA l, a.block ≠ g) → (strA g s F o l).Nodup
 | [], _, _, _ => by simp [strA]
 | (P, Q) :: l, o, hn, hg => by
  simp only [subA] at hn hg
  rw [List.nodup_append] at hn
  obtain ⟨nP, nQl, dP⟩ := hn
  rw [List.nodup_append] at nQl
  obtain ⟨nQ, nl, dQ⟩ := nQl
  have gP : ∀ a ∈ P, a.block ≠ g := fun a ha => hg a (List.mem_append_left _ ha)
  have gQ : ∀ a ∈ Q, a.block ≠ g := fun a ha => hg a (List.mem_append_right _ (List.mem_append_left _ ha))
  have gl : ∀ a ∈ subA l, a.block ≠ g := fun a ha => hg a (List.mem_append_right _ (List.mem_append_right _ ha))
  have ih := strA_nodup hF hs l (o + s) nl gl
  rw [strA, List.nodup_append, List.nodup_append, List.nodup_append]
  refine ⟨nP, ⟨own_nodup g o hF, ⟨nQ, ih, ?_⟩, ?_⟩, ?_⟩
  ·intro a ha b hb e
   subst e
   rcases strA_mem l (o + s) hb with h | ⟨h, _⟩
   ·exact dQ a ha a h rfl
   ·exact gQ a ha h
  ·intro a ha b hb e
   subst e
   obtain ⟨f, hf, rfl⟩ := List.mem_map.1 ha
   rcases List.mem_append.1 hb with h | h
   ·exact gQ _ h rfl
   ·rcases strA_mem l (o + s) h with h | ⟨_, h⟩
    ·exact gl _ h rfl
    ·have h' : o + s ≤ o + f := h
     have := hs f hf
     omega
  ·intro a ha b hb e
   subst e
   rcases List.mem_append.1 hb with h | h
   ·obtain ⟨f, _, rfl⟩ := List.mem_map.1 h
    exact gP _ ha rfl
   ·rcases List.mem_append.1 h with h | h
    ·exact dP a ha a (List.mem_append_left _ h) rfl
    ·rcases strA_mem l (o + s) h with h | ⟨h, _⟩
     ·exact dP a ha a (List.mem_append_right _ h) rfl
     ·exact gP a ha h
def rowH (a : Option Addr) (n : Nat) : List Addr := match a with
 | some p => rowA p.block p.off n 1
 | none => []
theorem rowH_nodup (a : Option Addr) (n : Nat) : (rowH a n).Nodup := by
 cases a with
 | none => simp [rowH]
 | some p => exact rowA_nodup _ _ _ _ (by omega)
end Go.Proofs.YtkpmiikafconmaaGreatDoor
namespace Go.Proofs.YtkpmiikafconmaaGreatDoor
open Go.RowKit
set_option linter.unusedVariables false
set_option linter.unusedSimpArgs false
theorem strA_snoc (g s : Nat) (F : List Nat) (x : List Addr × List Addr) : ∀ (l : List (List Addr × List Addr)) (o : Nat), strA g s F o (l ++ [x]) = strA g s F o l ++ (x.1 ++ (F.map (fun f => (⟨g, o + l.length * s + f, none⟩ : Addr)) ++ x.2))
 | [], o => by obtain ⟨P, Q⟩ := x; simp [strA]
 | (P, Q) :: l, o => by
  simp only [List.cons_append, strA, strA_snoc g s F x l (o + s), List.append_assoc, List.length_cons, Nat.succ_mul]
  rw [show o + s + l.length * s = o + (l.length * s + s) by omega]
theorem mkw_int : ∀ (A : List Addr) (k : Int) (w : World) (a : Addr), (∃ z : Int, w.cell? a = some (.int .i64 z)) → ∃ z : Int, (mkw w A k).cell? a = some (.int .i64 z)
 | [], k, w, a, h => h
 | b :: A, k, w, a, h => by
  refine mkw_int A (k + 1) _ a ?_
  obtain ⟨z, hz⟩ := h
  by_cases e : a = b
  ·subst e
   exact ⟨k, by rw [World.cell?_setCell_same _ _ _ hz]⟩
  ·exact ⟨z, by rw [World.cell?_setCell_other _ _ _ _ (fun h => e h.symm)]; exact hz⟩
def IntR (w : World) (u : Option Addr) (n : Nat) : Prop := n ≤ 1048576 ∧ (n = 0 ∨ ∃ g o, u = some ⟨g, o, none⟩ ∧ ∀ i, i < n → (∃ z : Int, w.cell? ⟨g, o + i, none⟩ = some (.int .i64 z)) ∧ w.frozen? ⟨g, o + i, none⟩ = false)
theorem IntR.mk {w : World} {u : Option Addr} {n : Nat} (h : IntR w u n) (A : List Addr) (k : Int) : IntR (mkw w A k) u n := by
 refine ⟨h.1, ?_⟩
 rcases h.2 with h | ⟨g, o, e, h⟩
 ·exact .inl h
 ·exact .inr ⟨g, o, e, fun i hi => ⟨mkw_int A k w _ (h i hi).1, by rw [mkw_froz]; exact (h i hi).2⟩⟩
theorem rowH_zero (u : Option Addr) : rowH u 0 = [] := by
 cases u with
 | none => rfl
 | some p => simp [rowH, rowA]
theorem IntR.len {w : World} {u : Option Addr} {n : Nat} (h : IntR w u n) : (rowH u n).length = n := by
 rcases h.2 with h | ⟨g, o, rfl, h⟩
 ·subst h; rw [rowH_zero]; rfl
 ·simp [rowH, rowA_len]
set_option maxHeartbeats 1000000 in
theorem markIR (u : Option Addr) (c n : Nat) (k : Int) (w : World) (h : IntR w u n) (hk0 : 0 ≤ k) (hk : k ≤ 4611686018427387904) :
  Calls Tryz.prog 65 #[.slice u n c, .int .i64 k] w fun e w' => e = .returned (.int .i64 (k + n)) ∧ w' = mkw w (rowH u n) k := by
 rcases h.2 with e | ⟨g, o, rfl, hh⟩
 ·subst e
  rw [rowH_zero]
  go_enter Tryz.func65, Tryz.ntmps65
  go_wp2_with fail
  go_loopw [1, 5] (fun q i wr => i = .int .i64 0 ∧ q = .int .i64 k ∧ Hid (wr = w)) (fun _ _ _ => 0)
  case atStart => exact ⟨rfl, rfl, rfl⟩
  case round =>
   obtain ⟨rfl, rfl, HE⟩ := hrel
   go_wp2_with fail
   go_ret
   exact ⟨by simp, HE.out⟩
 ·exact markW g o c n k w h.1 hk0 hk (fun i hi => (hh i hi).1) (fun i hi => (hh i hi).2)
def OwnR (w : World) (g o s : Nat) (F : List Nat) (n : Nat) : Prop := ∀ i, i < n → ∀ f ∈ F, (∃ z : Int, w.cell? ⟨g, o + i * s + f, none⟩ = some (.int .i64 z)) ∧ w.frozen? ⟨g, o + i * s + f, none⟩ = false
theorem OwnR.mk {w : World} {g o s n : Nat} {F : List Nat} (h : OwnR w g o s F n) (A : List Addr) (k : Int) : OwnR (mkw w A k) g o s F n :=
 fun i hi f hf => ⟨mkw_int A k w _ (h i hi f hf).1, by rw [mkw_froz]; exact (h i hi f hf).2⟩
def HdrR (K : List Addr) (w : World) (g o s f : Nat) (hs : List (Option Addr × Nat)) : Prop := ∀ i, i < hs.length → (∃ c, w.cell? ⟨g, o + i * s + f, none⟩ = some (.slice (hs.getD i (none, 0)).1 (hs.getD i (none, 0)).2 c)) ∧ (⟨g, o + i * s + f, none⟩ : Addr) ∉ K ∧ IntR w (hs.getD i (none, 0)).1 (hs.getD i (none, 0)).2
theorem HdrR.mk {K : List Addr} {w : World} {g o s f : Nat} {hs : List (Option Addr × Nat)} (h : HdrR K w g o s f hs) {A : List Addr} (hA : ∀ a ∈ A, a ∈ K) (k : Int) : HdrR K (mkw w A k) g o s f hs := fun i hi => by
 obtain ⟨⟨c, h1⟩, h2, h3⟩ := h i hi
 exact ⟨⟨c, by rw [mkw_out _ _ _ _ (fun e => h2 (hA _ e))]; exact h1⟩, h2, h3.mk A k⟩
def rowsQ (hs : List (Option Addr × Nat)) : List (List Addr × List Addr) := hs.map fun h => ([], rowH h.1 h.2)
theorem take_snocK {α : Type} (z : α) {l : List α} {j : Nat} (h : j < l.length) : l.take (j + 1) = l.take j ++ [l.getD j z] := by
 rw [List.take_add_one, List.getElem?_eq_getElem h, List.getD, List.getElem?_eq_getElem h]
 rfl
theorem strA_next (g s : Nat) (F : List Nat) (o : Nat) (hs : List (Option Addr × Nat)) {j : Nat} (h : j < hs.length) : strA g s F o (rowsQ (hs.take (j + 1))) = strA g s F o (rowsQ (hs.take j)) ++ (F.map (fun f => (⟨g, o + j * s + f, none⟩ : Addr)) ++ rowH (hs.getD j (none, 0)).1 (hs.getD j (none, 0)).2) := by
 rw [take_snocK (none, 0) h]
 unfold rowsQ
 rw [List.map_append, List.map_singleton, strA_snoc]
 simp only [List.nil_append, List.length_map, List.length_take, Nat.min_eq_left (Nat.le_of_lt h)]
theorem strA_le (g s : Nat) (F : List Nat) (o : Nat) (hs : List (Option Addr × Nat)) : ∀ j, j ≤ hs.length → ∃ R, strA g s F o (rowsQ hs) = strA g s F o (rowsQ (hs.take j)) ++ R := by
 intro j hj
 suffices H : ∀ d j, j + d = hs.length → ∃ R, strA g s F o (rowsQ hs) = strA g s F o (rowsQ (hs.take j)) ++ R from H (hs.length - j) j (by omega)
 intro d
 induction d with
 | zero => intro j h; exact ⟨[], by rw [List.take_of_length_le (by omega), List.append_nil]⟩
 | succ d ih =>
  intro j h
  obtain ⟨R, hR⟩ := ih (j + 1) (by omega)
  rw [strA_next g s F o hs (by omega), List.append_assoc] at hR
  exact ⟨_, hR⟩
set_option maxHeartbeats 2000000 in
set_option maxRecDepth 100000 in
theorem markPhR (K : List Addr) (g o c : Nat) (hs : List (Option Addr × Nat)) (k : Int) (w : World) (hn : hs.length ≤ 1048576) (ho : OwnR w g o 2 [0] hs.length) (hh : HdrR K w g o 2 1 hs) (hA : ∀ a ∈ strA g 2 [0] o (rowsQ hs), a ∈ K) (hk0 : 0 ≤ k) (hk : k + (strA g 2 [0] o (rowsQ hs)).length ≤ 4611686018427387904) :
  Calls Tryz.prog 103 #[.slice (some ⟨g, o, none⟩) hs.length c, .int .i64 k] w fun e w' => e = .returned (.int .i64 (k + (strA g 2 [0] o (rowsQ hs)).length)) ∧ w' = mkw w (strA g 2 [0] o (rowsQ hs)) k := by
 have HO : Hid (OwnR w g o 2 [0] hs.length) := ho
 have HH : Hid (HdrR K w g o 2 1 hs) := hh
 have HA : Hid (∀ a ∈ strA g 2 [0] o (rowsQ hs), a ∈ K) := hA
 have HK : Hid (k + (strA g 2 [0] o (rowsQ hs)).length ≤ 4611686018427387904) := hk
 clear ho hh hA hk
 go_enter Tryz.func103, Tryz.ntmps103
 go_wp2_with fail
 go_loopw [1, 5] (fun q i wr => ∃ (j m : Nat), j ≤ hs.length ∧ i = .int .i64 j ∧ q = .int .i64 (k + m) ∧ Hid (m = (strA g 2 [0] o (rowsQ (hs.take j))).length) ∧ Hid (wr = mkw w (strA g 2 [0] o (rowsQ (hs.take j))) k)) (fun _ i _ => hs.length - (intOf i).toNat)
 case atStart => exact ⟨0, 0, by omega, rfl, by simp, rfl, rfl⟩
 case round =>
  obtain ⟨j, m, hj, rfl, rfl, HM, HE⟩ := hrel
  by_cases hlt : j < hs.length
  ·have hjI : (j : Int) < (hs.length : Int) := by omega
   obtain ⟨R, hR⟩ := strA_le g 2 [0] o hs j hj
   have hsub : ∀ a ∈ strA g 2 [0] o (rowsQ (hs.take j)), a ∈ K := fun a ha => HA.out a (by rw [hR]; exact List.mem_append_left _ ha)
   have hnx := strA_next g 2 [0] o hs hlt
   obtain ⟨R2, hR2⟩ := strA_le g 2 [0] o hs (j + 1) (by omega)
   have hbd := HK.out
   rw [hR2, hnx] at hbd
   simp only [List.length_append, List.length_map, List.length_cons, List.length_nil] at hbd
   rw [← HM.out] at hbd
   have hown := (HO.out.mk (strA g 2 [0] o (rowsQ (hs.take j))) k) j hlt 0 (by simp)
   rw [← HE.out] at hown
   obtain ⟨⟨z, hz⟩, hzf⟩ := hown
   have hhd := (HH.out.mk hsub k) j hlt
   rw [← HE.out] at hhd
   obtain ⟨⟨cq, hq⟩, hqK, hqI⟩ := hhd
   obtain ⟨u, n, hun⟩ : ∃ u n, hs.getD j (none, 0) = (u, n) := ⟨_, _, rfl⟩
   rw [hun] at hq hqI hnx hbd
   dsimp only at hq hqI hnx hbd
   have hln := hqI.len
   rw [hln] at hbd
   have hn0 : n ≤ 1048576 := hqI.1
   have e1 : wr.cell? ⟨g, o + j * 2, none⟩ = some (.int .i64 z) := hz
   have e2 : wr.frozen? ⟨g, o + j * 2, none⟩ = false := hzf
   have e3 : (wr.setCell ⟨g, o + j * 2, none⟩ (.int .i64 (k + m))).cell? ⟨g, o + j * 2 + 1, none⟩ = some (.slice u n cq) := by
    rw [World.cell?_setCell_other _ _ _ _ (by intro e; have h9 := congrArg Addr.off e; dsimp only at h9; omega)]
    exact hq
   have MI := markIR u cq n (k + m + 1) (wr.setCell ⟨g, o + j * 2, none⟩ (.int .i64 (k + m))) (by have := hqI.mk [⟨g, o + j * 2, none⟩] (k + m); exact this) (by omega) (by omega)
   have HE2 : Hid (mkw (wr.setCell ⟨g, o + j * 2, none⟩ (.int .i64 (k + m))) (rowH u n) (k + m + 1) = mkw w (strA g 2 [0] o (rowsQ (hs.take (j + 1)))) k) := by
    show _ = _
    rw [hnx, mkw_append, ← HE.out, ← HM.out]
    rfl
   have HM2 : Hid (m + 1 + n = (strA g 2 [0] o (rowsQ (hs.take (j + 1)))).length) := by
    show _ = _
    rw [hnx]
    simp only [List.length_append, List.length_map, List.length_cons, List.length_nil, hln, ← HM.out]
    omega
   clear hR hR2 hnx hz hzf hq hqI hqK hun hsub
   go_wp2_with (first | (go_at_call 65; refine MI.mono ?_; rintro e w5 ⟨rfl, h9⟩; have h8 := h9.symm; clear h9))
   go_roundw
   case rel => exact ⟨j + 1, m + 1 + n, by omega, by go_num, by refine congrArg (Value.int .i64) ?_; first | omega | (push_cast; omega), HM2.out, h8.symm.trans HE2.out⟩
   case measure => simp [intOf]; omega
  ·have hke : j = hs.length := by omega
   subst hke
   have hm : m = (strA g 2 [0] o (rowsQ hs)).length := by rw [HM.out, List.take_of_length_le (Nat.le_refl _)]
   have he : wr = mkw w (strA g 2 [0] o (rowsQ hs)) k := by rw [HE.out, List.take_of_length_le (Nat.le_refl _)]
   go_wp2_with fail
   go_ret
   exact ⟨by rw [← hm]; rfl, rfl⟩
end Go.Proofs.YtkpmiikafconmaaGreatDoor
