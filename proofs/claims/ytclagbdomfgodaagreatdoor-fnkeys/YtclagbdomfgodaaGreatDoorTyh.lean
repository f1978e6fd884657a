/- Memory by its types: what a drawn function stands in while it grows. -/
import Derived.Test.YtclagbdomfgodaaGreatDoorLawA
import Derived.Deep.AppendLies
import Derived.Deep.DeepAppendRoom
import Derived.ArgAppend
import Derived.Deep.RegionHeld2
namespace Go.Proofs.YtclagbdomfgodaaGreatDoor
open Go.RowKit
set_option linter.unusedVariables false

/-- Which blocks hold elements of which type, and how many of each. -/
abbrev Tmap := Nat → Option (TypeId × Nat)
def szT (T : TypeId) : Nat := if T = 2 then 1 else if T = 24 then 1 else if T = 70 then 2 else if T = 33 then 7 else 6
/-- A slice of n elements of a type that are there. -/
def SlN (M : Tmap) (T : TypeId) (v : Value) (n : Nat) : Prop := ∃ u c, v = .slice u n c ∧ (n = 0 ∨ ∃ g m, u = some ⟨g, 0, none⟩ ∧ M g = some (T, m) ∧ n ≤ m)
def SlV (M : Tmap) (N : Nat) (T : TypeId) (v : Value) : Prop := ∃ n, n ≤ N ∧ SlN M T v n
/-- An element of its type. -/
def ElOk (M : Tmap) (N : Nat) (T : TypeId) (c : Nat → Option Value) : Prop :=
  (T = 2 → ∃ z : Int, c 0 = some (.int .i64 z)) ∧ (T = 24 → ∃ v, c 0 = some v ∧ SlV M N 2 v) ∧
  (T = 70 → (∃ z : Int, c 0 = some (.int .i64 z)) ∧ ∃ v, c 1 = some v ∧ SlV M N 2 v) ∧
  (T = 33 → (∀ j, j < 6 → ∃ z : Int, c j = some (.int .i64 z)) ∧ ∃ v, c 6 = some v ∧ SlV M N 2 v) ∧
  (T = 43 → (∃ v, c 0 = some v ∧ SlV M N 70 v) ∧ (∃ v, c 1 = some v ∧ SlV M N 33 v) ∧ ∀ j, 2 ≤ j → j < 6 → ∃ z : Int, c j = some (.int .i64 z))
def TH (base : Nat) (M : Tmap) (N : Nat) (v : World) : Prop := ∀ b T m, M b = some (T, m) → base ≤ b ∧ ∃ cur, v.heap[b]? = some (.cells cur T (0, 0)) ∧ ∀ i, i < m → ElOk M N T (fun j => cur[i * szT T + j]?)
/-- More is there than was. -/
def Ext (M M' : Tmap) : Prop := ∀ b T m, M b = some (T, m) → ∃ m', m ≤ m' ∧ M' b = some (T, m')
theorem Ext.refl (M : Tmap) : Ext M M := fun _ _ m h => ⟨m, Nat.le_refl _, h⟩
theorem Ext.trans {A B C : Tmap} (h : Ext A B) (k : Ext B C) : Ext A C := fun b T m hb => by
  obtain ⟨m1, h1, h2⟩ := h b T m hb
  obtain ⟨m2, k1, k2⟩ := k b T m1 h2
  exact ⟨m2, Nat.le_trans h1 k1, k2⟩
theorem SlN.ext {M M' : Tmap} {T : TypeId} {v : Value} {n : Nat} (h : SlN M T v n) (k : Ext M M') : SlN M' T v n := by
  obtain ⟨u, c, hv, h⟩ := h
  refine ⟨u, c, hv, ?_⟩
  rcases h with h | ⟨g, m, hu, hg, hm⟩
  · exact .inl h
  · obtain ⟨m', h1, h2⟩ := k g T m hg
    exact .inr ⟨g, m', hu, h2, Nat.le_trans hm h1⟩
theorem SlV.ext {M M' : Tmap} {N N' : Nat} {T : TypeId} {v : Value} (h : SlV M N T v) (k : Ext M M') (hn : N ≤ N') : SlV M' N' T v := by
  obtain ⟨n, h1, h2⟩ := h
  exact ⟨n, Nat.le_trans h1 hn, h2.ext k⟩
theorem ElOk.ext {M M' : Tmap} {N N' : Nat} {T : TypeId} {c : Nat → Option Value} (h : ElOk M N T c) (k : Ext M M') (hn : N ≤ N') : ElOk M' N' T c := by
  obtain ⟨h1, h2, h3, h4, h5⟩ := h
  refine ⟨h1, fun e => ?_, fun e => ?_, fun e => ?_, fun e => ?_⟩
  · obtain ⟨v, a, b⟩ := h2 e; exact ⟨v, a, b.ext k hn⟩
  · obtain ⟨z, v, a, b⟩ := h3 e; exact ⟨z, v, a, b.ext k hn⟩
  · obtain ⟨z, v, a, b⟩ := h4 e; exact ⟨z, v, a, b.ext k hn⟩
  · obtain ⟨⟨v, a, b⟩, ⟨v', a', b'⟩, z⟩ := h5 e; exact ⟨⟨v, a, b.ext k hn⟩, ⟨v', a', b'.ext k hn⟩, z⟩
/-- One block more, or one with more in it. -/
def put (M : Tmap) (g : Nat) (T : TypeId) (m : Nat) : Tmap := fun b => if b = g then some (T, m) else M b
theorem put_ext {M : Tmap} {g : Nat} {T : TypeId} {m : Nat} (h : M g = none ∨ ∃ m0, m0 ≤ m ∧ M g = some (T, m0)) : Ext M (put M g T m) := fun b T' m' hb => by
  unfold put
  by_cases e : b = g
  · subst e
    rcases h with h | ⟨m0, h1, h2⟩
    · rw [h] at hb; cases hb
    · rw [h2] at hb
      cases hb
      exact ⟨m, h1, by rw [if_pos rfl]⟩
  · exact ⟨m', Nat.le_refl _, by rw [if_neg e]; exact hb⟩
theorem TH.put {base g m N N' : Nat} {M : Tmap} {T : TypeId} {v v' : World} {cur : Array Value} (h : TH base M N v) (hn : N ≤ N') (hg : base ≤ g) (hM : M g = none ∨ ∃ m0, m0 ≤ m ∧ M g = some (T, m0)) (hc : v'.heap[g]? = some (.cells cur T (0, 0)))
    (ho : ∀ b, b ≠ g → (∃ p, M b = some p) → v'.heap[b]? = v.heap[b]?) (he : ∀ i, i < m → ElOk (put M g T m) N' T (fun j => cur[i * szT T + j]?)) : TH base (put M g T m) N' v' := fun b T' m' hb => by
  unfold Proofs.YtclagbdomfgodaaGreatDoor.put at hb
  by_cases e : b = g
  · subst e
    rw [if_pos rfl] at hb
    cases hb
    exact ⟨hg, cur, hc, he⟩
  · rw [if_neg e] at hb
    obtain ⟨h1, cur', h2, h3⟩ := h b T' m' hb
    exact ⟨h1, cur', (ho b e ⟨_, hb⟩).trans h2, fun i hi => (h3 i hi).ext (put_ext hM) hn⟩
theorem TH.keep {base N N' : Nat} {M : Tmap} {v v' : World} (h : TH base M N v) (hn : N ≤ N') (ho : ∀ b, (∃ p, M b = some p) → v'.heap[b]? = v.heap[b]?) : TH base M N' v' := fun b T m hb => by
  obtain ⟨h1, cur, h2, h3⟩ := h b T m hb
  exact ⟨h1, cur, (ho b ⟨_, hb⟩).trans h2, fun i hi => (h3 i hi).ext (Ext.refl _) hn⟩
theorem TH.lt {base N b : Nat} {M : Tmap} {v : World} (h : TH base M N v) (hb : ∃ p, M b = some p) : base ≤ b ∧ b < v.heap.size := by
  obtain ⟨⟨T, m⟩, hb⟩ := hb
  obtain ⟨h1, cur, h2, _⟩ := h b T m hb
  exact ⟨h1, (Array.getElem?_eq_some_iff.1 h2).1⟩
theorem TH.none {base N b : Nat} {M : Tmap} {v : World} (h : TH base M N v) (hb : v.heap.size ≤ b) : M b = none := by
  cases e : M b with
  | none => rfl
  | some p => have := (h.lt ⟨p, e⟩).2; omega
theorem TH.alloc {base N : Nat} {M : Tmap} {v : World} (h : TH base M N v) (o : Obj) : TH base M N (v.alloc o) :=
  h.keep (Nat.le_refl _) fun b hb => Below.heap_alloc v o b (h.lt hb).2
/-- A slice that is appended to: nil, or just all that is there in its block. -/
def RowT (base : Nat) (M : Tmap) (T : TypeId) (s : Value) (n : Nat) (v : World) : Prop :=
  (s = .slice none 0 0 ∧ n = 0) ∨ ∃ g cap cur, s = .slice (some ⟨g, 0, none⟩) n cap ∧ base ≤ g ∧ M g = some (T, n) ∧ v.heap[g]? = some (.cells cur T (0, 0)) ∧ n ≤ cap ∧ cap ≤ maxLen ∧ cur.size = cap * szT T
theorem RowT.own {base n : Nat} {M : Tmap} {T : TypeId} {s : Value} {v : World} (h : RowT base M T s n v) : ∃ xs, v.ownsRow base T (szT T) s n xs := by
  rcases h with ⟨rfl, rfl⟩ | ⟨g, cap, cur, rfl, hg, _, hc, hn, hm, hs⟩
  · exact ⟨[], by simp, .inl ⟨rfl, rfl⟩⟩
  · refine ⟨cur.toList.take (n * szT T), ?_, .inr ⟨g, cap, cur, rfl, hg, hc, hn, hm, hs, rfl⟩⟩
    have h9 := Nat.mul_le_mul_right (szT T) hn
    rw [List.length_take, Array.length_toList, hs]
    exact Nat.min_eq_left h9
theorem RowT.sl {base n : Nat} {M : Tmap} {T : TypeId} {s : Value} {v : World} (h : RowT base M T s n v) : SlN M T s n := by
  rcases h with ⟨rfl, rfl⟩ | ⟨g, cap, cur, rfl, hg, hM, hc, hn, hm, hs⟩
  · exact ⟨none, 0, rfl, .inl rfl⟩
  · exact ⟨_, cap, rfl, .inr ⟨g, n, rfl, hM, Nat.le_refl _⟩⟩
theorem RowT.keep {base n : Nat} {M : Tmap} {T : TypeId} {s : Value} {v v' : World} (h : RowT base M T s n v) (ho : ∀ b, (∃ p, M b = some p) → v'.heap[b]? = v.heap[b]?) : RowT base M T s n v' := by
  rcases h with h | ⟨g, cap, cur, hv, hg, hM, hc, hn, hm, hs⟩
  · exact .inl h
  · exact .inr ⟨g, cap, cur, hv, hg, hM, (ho g ⟨_, hM⟩).trans hc, hn, hm, hs⟩
theorem ElOk.congr {M : Tmap} {N : Nat} {T : TypeId} {c d : Nat → Option Value} (hT : T = 2 ∨ T = 24 ∨ T = 70 ∨ T = 33 ∨ T = 43) (h : ElOk M N T c) (e : ∀ j, j < szT T → d j = c j) : ElOk M N T d := by
  obtain ⟨h1, h2, h3, h4, h5⟩ := h
  refine ⟨fun q => ?_, fun q => ?_, fun q => ?_, fun q => ?_, fun q => ?_⟩
  · rw [e 0 (by rw [q]; decide)]; exact h1 q
  · rw [e 0 (by rw [q]; decide)]; exact h2 q
  · rw [e 0 (by rw [q]; decide), e 1 (by rw [q]; decide)]; exact h3 q
  · rw [e 6 (by rw [q]; decide)]
    exact ⟨fun j hj => by rw [e j (by rw [q, show szT 33 = 7 by decide]; omega)]; exact (h4 q).1 j hj, (h4 q).2⟩
  · rw [e 0 (by rw [q]; decide), e 1 (by rw [q]; decide)]
    exact ⟨(h5 q).1, (h5 q).2.1, fun j h2 hj => by rw [e j (by rw [q, show szT 43 = 6 by decide]; omega)]; exact (h5 q).2.2 j h2 hj⟩
theorem szT_pos (T : TypeId) : 0 < szT T := by unfold szT; split <;> (try split) <;> (try split) <;> (try split) <;> omega
theorem own_low {w : World} {b b' : Nat} {e : TypeId} {s : Nat} {v : Value} {n : Nat} {xs : List Value} (h : w.ownsRow b e s v n xs) (k : b' ≤ b) : w.ownsRow b' e s v n xs := by
  obtain ⟨h1, h2⟩ := h
  refine ⟨h1, ?_⟩
  rcases h2 with h2 | ⟨g, cap, cur, hv, hb, r⟩
  · exact .inl h2
  · exact .inr ⟨g, cap, cur, hv, Nat.le_trans k hb, r⟩
/-- What an append of one element leaves: all as it was, and one element more. -/
theorem RowT.push {base n N N' g' cap' : Nat} {M : Tmap} {T : TypeId} {s : Value} {v w' : World} {xs news : List Value} (h : RowT base M T s n v) (th : TH base M N v) (hN : N ≤ N') (hT : T = 2 ∨ T = 24 ∨ T = 70 ∨ T = 33 ∨ T = 43)
    (hx : v.ownsRow base T (szT T) s n xs) (hb : base ≤ v.heap.size) (ho : w'.ownsRow base T (szT T) (.slice (some ⟨g', 0, none⟩) (n + 1) cap') (n + 1) (xs ++ news)) (hg : (s.ownBlock = some g' ∧ v.grownBy w' (some g')) ∨ (v.heap.size ≤ g' ∧ v.grownBy w' none))
    (hl : news.length = szT T) (he : ElOk (put M g' T (n + 1)) N' T (fun j => news[j]?)) :
    TH base (put M g' T (n + 1)) N' w' ∧ RowT base (put M g' T (n + 1)) T (.slice (some ⟨g', 0, none⟩) (n + 1) cap') (n + 1) w' ∧ Ext M (put M g' T (n + 1)) ∧ (∀ b, b < v.heap.size → M b = none → w'.heap[b]? = v.heap[b]? ∧ put M g' T (n + 1) b = none) ∧ (∀ b, b ≠ g' → (∃ p, M b = some p) → w'.heap[b]? = v.heap[b]?) := by
  obtain ⟨hlen, ho2⟩ := ho
  rcases ho2 with ⟨hbad, _⟩ | ⟨g1, cap1, cur1, hv1, hb1, hc1, hn1, hm1, hs1, ht1⟩
  · cases hbad
  cases hv1
  have hM : M g' = none ∨ ∃ m0, m0 ≤ n + 1 ∧ M g' = some (T, m0) := by
    rcases hg with ⟨hl, _⟩ | ⟨hl, _⟩
    · rcases h with ⟨rfl, _⟩ | ⟨g, cap, cur, rfl, hg0, hM, hc, hn0, hm0, hs0⟩
      · simp [Value.ownBlock] at hl
      · simp [Value.ownBlock] at hl
        subst hl
        exact .inr ⟨n, by omega, hM⟩
    · exact .inl (th.none hl)
  have hother : ∀ b, b ≠ g' → b < v.heap.size → w'.heap[b]? = v.heap[b]? := fun b hbg hbl => by
    rcases hg with ⟨_, hg⟩ | ⟨_, hg⟩
    · exact hg.block b hbl (by simp; omega)
    · exact hg.block b hbl (by simp)
  have hel : ∀ i, i < n + 1 → ElOk (put M g' T (n + 1)) N' T (fun j => cur1[i * szT T + j]?) := fun i hi => by
    have hrow : ∀ k, k < (n + 1) * szT T → cur1[k]? = (xs ++ news)[k]? := fun k hk => by
      rw [← ht1, List.getElem?_take, if_pos hk]; simp
    have hxl := hx.1
    by_cases e : i = n
    · subst e
      refine he.congr hT fun j hj => ?_
      rw [hrow _ (by rw [Nat.add_mul]; omega), List.getElem?_append_right (by omega), hxl, Nat.add_sub_cancel_left]
    · have hin : i < n := by omega
      have hmul := Nat.mul_le_mul_right (szT T) (show i + 1 ≤ n by omega)
      rw [Nat.add_mul] at hmul
      rcases h with ⟨_, h0⟩ | ⟨g, cap, cur, rfl, hg0, hM0, hc, hn0, hm0, hs0⟩
      · omega
      obtain ⟨_, cur2, hc2, h3⟩ := th g T n hM0
      rw [hc] at hc2
      cases hc2
      refine ((h3 i hin).ext (put_ext hM) hN).congr hT fun j hj => ?_
      have hlt : i * szT T + j < n * szT T := by omega
      rw [hrow _ (by rw [Nat.add_mul]; omega), List.getElem?_append_left (by omega)]
      rcases hx.2 with ⟨hbad, _⟩ | ⟨g3, cap3, cur3, hv3, _, hc3, _, _, _, ht3⟩
      · cases hbad
      · cases hv3
        rw [hc] at hc3
        cases hc3
        rw [← ht3, List.getElem?_take, if_pos hlt]
        simp
  refine ⟨th.put hN hb1 hM hc1 (fun b hbg hp => hother b hbg (th.lt hp).2) hel, .inr ⟨g', cap', cur1, rfl, hb1, by simp [put], hc1, hn1, hm1, hs1⟩, put_ext hM, fun b hbl hbn => ?_, fun b hbg hp => hother b hbg (th.lt hp).2⟩
  have hbg : b ≠ g' := fun e => by
    subst e
    rcases hM with hM | ⟨m0, _, hM⟩
    · rcases hg with ⟨hl, _⟩ | ⟨hl, _⟩
      · rcases h with ⟨rfl, _⟩ | ⟨g, cap, cur, rfl, hg0, hM0, _⟩
        · simp [Value.ownBlock] at hl
        · simp [Value.ownBlock] at hl
          subst hl
          rw [hM0] at hbn; cases hbn
      · omega
    · rw [hM] at hbn; cases hbn
  exact ⟨hother b hbg hbl, by simp [put, hbg, hbn]⟩
/-- What an append of one element leaves, whole. -/
structure Pushed (base : Nat) (M M' : Tmap) (N' : Nat) (T : TypeId) (n : Nat) (v w' : World) (s' : Value) : Prop where
  th : TH base M' N' w'
  row : RowT base M' T s' (n + 1) w'
  ext : Ext M M'
  out : ∀ b, b < v.heap.size → M b = none → w'.heap[b]? = v.heap[b]? ∧ M' b = none
  other : ∀ b T' m', M b = some (T', m') → T' ≠ T → w'.heap[b]? = v.heap[b]? ∧ M' b = some (T', m')
  os : w'.os = v.os
  tape : w'.tape = v.tape
  output : w'.output = v.output
  size : v.heap.size ≤ w'.heap.size
theorem RowT.pushed {base n N N' g' cap' : Nat} {M : Tmap} {T : TypeId} {s : Value} {v w' : World} {xs news : List Value} (h : RowT base M T s n v) (th : TH base M N v) (hN : N ≤ N') (hT : T = 2 ∨ T = 24 ∨ T = 70 ∨ T = 33 ∨ T = 43)
    (hx : v.ownsRow base T (szT T) s n xs) (hb : base ≤ v.heap.size) (ho : w'.ownsRow base T (szT T) (.slice (some ⟨g', 0, none⟩) (n + 1) cap') (n + 1) (xs ++ news)) (hg : (s.ownBlock = some g' ∧ v.grownBy w' (some g')) ∨ (v.heap.size ≤ g' ∧ v.grownBy w' none))
    (hl : news.length = szT T) (he : ∀ M', Ext M M' → ElOk M' N' T (fun j => news[j]?)) : Pushed base M (put M g' T (n + 1)) N' T n v w' (.slice (some ⟨g', 0, none⟩) (n + 1) cap') := by
  have hM : M g' = none ∨ ∃ m0, m0 ≤ n + 1 ∧ M g' = some (T, m0) := by
    rcases hg with ⟨hl, _⟩ | ⟨hl, _⟩
    · rcases h with ⟨rfl, _⟩ | ⟨g, cap, cur, rfl, hg0, hM, _⟩
      · simp [Value.ownBlock] at hl
      · simp [Value.ownBlock] at hl
        subst hl
        exact .inr ⟨n, by omega, hM⟩
    · exact .inl (th.none hl)
  obtain ⟨h1, h2, h3, h4, h5⟩ := h.push th hN hT hx hb ho hg hl (he _ (put_ext hM))
  have hne : ∀ b T' m', M b = some (T', m') → T' ≠ T → b ≠ g' := fun b T' m' hb hT e => by
    subst e
    rcases hM with hM | ⟨m0, _, hM⟩
    · rw [hM] at hb; cases hb
    · rw [hM] at hb
      cases hb
      exact hT rfl
  refine ⟨h1, h2, h3, h4, fun b T' m' hb hT => ⟨h5 b (hne b T' m' hb hT) ⟨_, hb⟩, by unfold put; rw [if_neg (hne b T' m' hb hT)]; exact hb⟩, ?_, ?_, ?_, ?_⟩
  all_goals rcases hg with ⟨_, hg⟩ | ⟨_, hg⟩
  · exact hg.os
  · exact hg.os
  · exact hg.tape
  · exact hg.tape
  · exact hg.output
  · exact hg.output
  · exact hg.size
  · exact hg.size
theorem Pushed.row2 {base N' n n2 : Nat} {M M' : Tmap} {T T2 : TypeId} {v w' : World} {s' s2 : Value} (h : Pushed base M M' N' T n v w' s') (k : RowT base M T2 s2 n2 v) (hT : T2 ≠ T) : RowT base M' T2 s2 n2 w' := by
  rcases k with k | ⟨g, cap, cur, hv, hg, hM, hc, hn, hm, hs⟩
  · exact .inl k
  · obtain ⟨e1, e2⟩ := h.other g T2 n2 hM hT
    exact .inr ⟨g, cap, cur, hv, hg, e2, e1.trans hc, hn, hm, hs⟩
/-- The law: one element appended to a row. -/
theorem run_row {base n N N' : Nat} {M : Tmap} {T t ty : TypeId} {s : Value} {v : World} (i : TypeInfo) (z : Value) (bytes : Nat) (ht : Tryz.prog.underlying t = some (.slice T)) (hi : Tryz.prog.info? T = some i) (hz : i.zero = some z) (hsz : i.size = szT T) (hby : i.bytes = bytes) (hzs : z.cells.size = szT T) (hbm : bytes ≤ 1000)
    (h : RowT base M T s n v) (th : TH base M N v) (hN : N ≤ N') (hT : T = 2 ∨ T = 24 ∨ T = 70 ∨ T = 33 ∨ T = 43) (hb : base ≤ v.heap.size) (hn : n ≤ 100000)
    (ad : Addr) (c : Nat) (news : List Value) (hl : news.length = szT T) (hnews : ∀ j u, news[j]? = some u → v.cell? (ad.add j) = some u) (h1 : ∀ u ∈ news, u.oneCell' = true) (he : ∀ M', Ext M M' → ElOk M' N' T (fun j => news[j]?)) :
    ∃ s' w' M', (Builtin.append_ #[t, t] ty #[s, .slice (some ad) 1 c]).run Tryz.prog v = .ok s' w' ∧ Pushed base M M' N' T n v w' s' := by
  have hmul : (n + 1) * bytes ≤ 140737488355328 := Nat.le_trans (Nat.mul_le_mul (show n + 1 ≤ 100001 by omega) hbm) (by decide)
  obtain ⟨xs, hx⟩ := h.own
  rcases h with ⟨rfl, rfl⟩ | ⟨g, cap, cur, rfl, hg, hM, hc, hnc, hm, hs⟩
  · have hx0 : xs = [] := by have := hx.1; simpa using this
    subst hx0
    obtain ⟨v', w', hr, h2, h3, _, _⟩ := run_append_own_at (P := Tryz.prog) v v.heap.size t ty T i z (szT T) bytes ht hi hz hsz hby hzs (szT_pos T) (.slice none 0 0) 0 [] ⟨by simp, .inl ⟨rfl, rfl⟩⟩ ad 1 c news (by omega) hnews h1 (by unfold maxLen; omega) (by simpa using hmul) (Nat.le_refl _)
    obtain ⟨g', cap', rfl, hg', _⟩ := h2.form (by omega)
    refine ⟨_, w', _, hr, RowT.pushed (xs := []) (news := news) (.inl ⟨rfl, rfl⟩) th hN hT hx hb ?_ (.inr ⟨hg', h3⟩) hl he⟩
    exact own_low (by simpa using h2) hb
  · by_cases hroom : n + 1 ≤ cap
    · obtain ⟨w', hr, h2, h3⟩ := run_append_own_spare (P := Tryz.prog) v base t ty T i (szT T) ht hi hsz g n cap xs hx ad 1 c news (by omega) hnews h1 hroom
      exact ⟨_, w', _, hr, RowT.pushed (.inr ⟨g, cap, cur, rfl, hg, hM, hc, hnc, hm, hs⟩) th hN hT hx hb h2 (.inl ⟨rfl, h3⟩) hl he⟩
    · have hxl := hx.1
      obtain ⟨v', w', hr, h2, h3⟩ := run_append_arg_grows (P := Tryz.prog) v t ty T i z (szT T) bytes ht hi hz hsz hby hzs (szT_pos T) ⟨g, 0, none⟩ n cap xs hxl (hx.cells rfl) ad 1 c news (by omega) hnews (by omega) (by unfold maxLen; omega) hmul
      obtain ⟨g', cap', rfl, hg', _⟩ := h2.form (by omega)
      exact ⟨_, w', _, hr, RowT.pushed (.inr ⟨g, cap, cur, rfl, hg, hM, hc, hnc, hm, hs⟩) th hN hT hx hb (own_low h2 hb) (.inr ⟨hg', h3⟩) hl he⟩
end Go.Proofs.YtclagbdomfgodaaGreatDoor
