/- A number put where it rises: the contract of the model's l1Put; l1Copy with what it owns. -/
import Derived.Test.YtiflkkkggidhbaaOwn
import Derived.Test.YtiflkkkggidhbaaGra
import Derived.Test.YtiflkkkggidhbaaGrb
import Derived.Test.YtiflkkkggidhbaaGrf
namespace Go.Proofs.Ytiflkkkggidhbaa
open Go.RowKit

def ins : List Int → Int → List Int
  | [], n => [n]
  | x :: r, n => if x < n then x :: ins r n else if x = n then x :: r else n :: x :: r
theorem ins_at (n : Int) : ∀ (l : List Int) (k : Nat), k ≤ l.length → (∀ j, j < k → l.getD j 0 < n) → ins l n = l.take k ++ ins (l.drop k) n := by
  intro l
  induction l with
  | nil => intro k hk _; have : k = 0 := by simpa using hk
           subst this; rfl
  | cons x r ih =>
    intro k hk h
    cases k with
    | zero => rfl
    | succ k =>
      have h0 := h 0 (by omega)
      simp [List.getD] at h0
      have := ih k (by simpa using hk) (fun j hj => by have := h (j + 1) (by omega); simpa [List.getD] using this)
      rw [ins, if_pos h0, this]; rfl
theorem ins_same {l : List Int} {n : Int} {k : Nat} (hk : k < l.length) (h : ∀ j, j < k → l.getD j 0 < n) (he : l.getD k 0 = n) : ins l n = l := by
  rw [ins_at n l k (by omega) h, drop_get 0 l k hk, he, ins, if_neg (by omega), if_pos rfl, ← he, ← drop_get 0 l k hk, List.take_append_drop]
theorem ins_new {l : List Int} {n : Int} {k : Nat} (hk : k ≤ l.length) (h : ∀ j, j < k → l.getD j 0 < n) (he : k < l.length → n < l.getD k 0) : ins l n = l.take k ++ n :: l.drop k := by
  rw [ins_at n l k hk h]
  by_cases hk' : k < l.length
  · have := he hk'
    rw [drop_get 0 l k hk', ins, if_neg (by omega), if_neg (by omega)]
  · rw [List.drop_eq_nil_of_le (by omega)]; rfl
theorem ins_len (l : List Int) (n : Int) : (ins l n).length ≤ l.length + 1 := by
  induction l with
  | nil => simp [ins]
  | cons x r ih =>
    unfold ins
    split
    · simp; exact ih
    · split <;> simp
theorem ints_cells {w : World} {lo b off : Nat} {l : List Int} (h : IntsAt w lo (some ⟨b, off, none⟩) l) : ∀ i, i < l.length → w.cell? ⟨b, off + i, none⟩ = some (.int .i64 (l.getD i 0)) := by
  rcases h.2 with h | ⟨b', off', e, _, _, hc⟩
  · intro i hi; rw [h] at hi; simp at hi
  · cases e; exact hc
theorem map_cell {l : List Int} {j : Nat} {u : Value} (h : (l.map (Value.int .i64))[j]? = some u) : j < l.length ∧ u = .int .i64 (l.getD j 0) := by
  have hj : j < l.length := by have := (List.getElem?_eq_some_iff.1 h).1; simpa using this
  refine ⟨hj, ?_⟩
  simp [hj] at h
  rw [← h]; simp [List.getD, hj]
theorem src_cells {w w' : World} {lo b off : Nat} {l : List Int} (h : IntsAt w lo (some ⟨b, off, none⟩) l) (hk : ∀ g, g < w.heap.size → w'.heap[g]? = w.heap[g]?) (k m : Nat) : ∀ j u, (((l.drop k).take m).map (Value.int .i64))[j]? = some u → w'.cell? ((⟨b, off + k, none⟩ : Addr).add j) = some u := by
  intro j u hj
  rcases h.2 with h | ⟨b', off', e, _, hb, hc⟩
  · simp [h] at hj
  · cases e
    obtain ⟨h1, rfl⟩ := map_cell hj
    have h2 : k + j < l.length := by simp at h1; omega
    rw [Addr.add_lit, Nat.add_assoc, cell_block (hk b hb), hc _ h2]
    congr 2
    have h3 : j < m := by simp at h1; omega
    simp [List.getD, h3]
theorem ints_one (l : List Int) : ∀ u ∈ l.map (Value.int .i64), u.oneCell' = true := by
  intro u hu
  obtain ⟨x, _, rfl⟩ := List.mem_map.1 hu
  rfl
theorem own_fin {w : World} {base : Nat} {v : Value} {l : List Int} (hm : l.length ≤ 1048576) (h0 : 0 < l.length) (h : w.ownsRow base 2 1 v l.length (l.map (Value.int .i64))) : ∃ g c, v = .slice (some ⟨g, 0, none⟩) l.length c ∧ l.length ≤ c ∧ base ≤ g ∧ IntsAt w base (some ⟨g, 0, none⟩) l := by
  obtain ⟨u, c, hv, ho⟩ := own_of_row hm h
  rcases h.2 with ⟨_, h2⟩ | ⟨g, cap, cur, hv2, hbg, _, hc, _⟩
  · omega
  · rw [hv] at hv2
    cases hv2
    exact ⟨g, c, hv, hc, hbg, ho.ints⟩
theorem take_drop_all (l : List Int) (k : Nat) : (l.drop k).take (l.length - k) = l.drop k := List.take_of_length_le (by simp)
set_option maxHeartbeats 1000000 in
theorem copyR (lo : Nat) (a : Option Addr) (cap : Nat) (l : List Int) (w : World) (hl : l.length ≤ 1048576) (hv : IntsAt w lo a l) (ha : a ≠ none) :
    Calls Try.prog 58 #[.slice a l.length cap] w fun e w' => ∃ v, e = .returned v ∧ w'.ownsRow w.heap.size 2 1 v l.length (l.map (Value.int .i64)) ∧ Below w.heap.size w w' := by
  obtain ⟨i0, hi, hz0, hz1, hz2⟩ := info_parts infoI
  rcases a with _ | ad
  · exact absurd rfl ha
  · have hcell : ∀ j u, (l.map (Value.int .i64))[j]? = some u → (w.alloc (.cells #[] 2)).cell? (ad.add j) = some u := by
      intro j u hj
      rcases hv.2 with h | ⟨b, off, h, _, hb, hc⟩
      · simp [h] at hj
      · simp at h
        subst h
        obtain ⟨hjl, rfl⟩ := map_cell hj
        rw [Addr.add_lit, cell_block (Below.heap_alloc w _ b hb), hc j hjl]
    go_enter Try.func58, Try.ntmps58
    go_wp2_with (at_builtin; refine wpList_append_own _ rfl _ _ 24 rfl w.heap.size 2 i0 (.int .i64 0) 1 8 Try.underlying24 hi hz0 hz1 hz2 rfl (by decide) _ 0 [] rfl (World.ownsRow_lit w #[] 0 (Nat.le_refl _) (by decide) (by simp)) ad l.length cap (l.map (Value.int .i64)) rfl (by simp) hcell (by simp [Value.oneCell']) (by unfold maxLen; omega) (by omega) (by simp) ?_; intro v' w1 hown hgrow _)
    simp only [Nat.zero_add, List.nil_append] at hown
    go_ret
    exact ⟨_, rfl, hown, ((Below.refl _ _).alloc (Nat.le_refl _) _).grown hgrow (by simp) (fun k hk => by have hk' : some w.heap.size = some k := hk; simp at hk'; omega)⟩
end Go.Proofs.Ytiflkkkggidhbaa
namespace Go.Proofs.Ytiflkkkggidhbaa
open Go.RowKit

def insN : List Nat → Nat → List Nat
  | [], n => [n]
  | x :: r, n => if x < n then x :: insN r n else if x = n then x :: r else n :: x :: r
def ints (l : List Nat) : List Int := l.map (fun x : Nat => (x : Int))
theorem ints_len (l : List Nat) : (ints l).length = l.length := by simp [ints]
theorem ints_getD (l : List Nat) (i : Nat) : (ints l).getD i 0 = ((l.getD i 0 : Nat) : Int) := by
  unfold ints
  by_cases h : i < l.length
  · simp [List.getD, h]
  · simp [List.getD, h]
theorem mem_ints (l : List Nat) (x : Nat) : (x : Int) ∈ ints l ↔ x ∈ l := by
  unfold ints
  rw [List.mem_map]
  constructor
  · rintro ⟨y, hy, e⟩
    have : y = x := by omega
    exact this ▸ hy
  · intro h; exact ⟨x, h, rfl⟩
theorem ins_ints (l : List Nat) (n : Nat) : ins (ints l) n = ints (insN l n) := by
  induction l with
  | nil => rfl
  | cons x r ih =>
    show ins ((x : Int) :: ints r) n = _
    unfold ins insN
    by_cases h : x < n
    · rw [if_pos (by omega), if_pos h, ih]; rfl
    · rw [if_neg (by omega), if_neg h]
      by_cases h2 : x = n
      · rw [if_pos (by omega), if_pos h2]; rfl
      · rw [if_neg (by omega), if_neg h2]; rfl
theorem mem_insN (l : List Nat) (n x : Nat) : x ∈ insN l n ↔ x = n ∨ x ∈ l := by
  induction l with
  | nil => simp [insN]
  | cons y r ih =>
    unfold insN
    by_cases h : y < n
    · rw [if_pos h, List.mem_cons, ih, List.mem_cons]
      constructor
      · rintro (h | h | h) <;> simp [h]
      · rintro (h | h | h) <;> simp [h]
    · rw [if_neg h]
      by_cases h2 : y = n
      · rw [if_pos h2, h2, List.mem_cons]
        constructor
        · rintro (h | h) <;> simp [h]
        · rintro (h | h | h) <;> simp [h]
      · rw [if_neg h2, List.mem_cons]
theorem len_insN (l : List Nat) (n : Nat) (h : n ∉ l) : (insN l n).length = l.length + 1 := by
  induction l with
  | nil => rfl
  | cons y r ih =>
    simp at h
    have ih := ih h.2
    unfold insN
    split
    · simp [ih]
    · rw [if_neg (fun e => h.1 e.symm)]; simp
theorem rise_insN (l : List Nat) (n : Nat) (h : l.Pairwise (· < ·)) : (insN l n).Pairwise (· < ·) := by
  induction l with
  | nil => simp [insN]
  | cons y r ih =>
    rw [List.pairwise_cons] at h
    have ih := ih h.2
    unfold insN
    split
    · rw [List.pairwise_cons]
      refine ⟨fun a ha => ?_, ih⟩
      rcases (mem_insN r n a).1 ha with rfl | ha
      · assumption
      · exact h.1 a ha
    · split
      · rw [List.pairwise_cons]; exact h
      · rw [List.pairwise_cons]
        refine ⟨fun a ha => ?_, List.pairwise_cons.2 h⟩
        rcases List.mem_cons.1 ha with rfl | ha
        · omega
        · have := h.1 a ha; omega
structure Bfs (S : Nat → List Nat) (wo : Option Nat) (n : Nat) (W O : List Nat) : Prop where
  low : ∀ x ∈ W, x < n
  olow : ∀ x ∈ O, x < n
  snd : ∀ x ∈ O, Rch S wo x
  wsnd : ∀ x ∈ W, wo ≠ some x → Rch S wo x
  shut : ∀ a ∈ O, ∀ s ∈ S a, wo ≠ some s → s ∈ O ∨ s ∈ W
  first : wo ≠ some 0 → 0 ∈ O ∨ 0 ∈ W
  cnt : O.length + un n O ≤ n
  rise : O.Pairwise (· < ·)
theorem Bfs.start {S : Nat → List Nat} {wo : Option Nat} {n : Nat} (h : 0 < n) : Bfs S wo n [0] [] :=
  ⟨by simpa using h, by simp, by simp, fun x hx hw => by simp at hx; subst hx; exact Rch.zero hw, by simp, by simp, by simp [un_nil], by simp⟩
theorem Bfs.skip {S : Nat → List Nat} {wo : Option Nat} {n b : Nat} {W O : List Nat} (h : Bfs S wo n (b :: W) O) (hb : wo = some b ∨ b ∈ O) : Bfs S wo n W O := by
  refine ⟨fun x hx => h.low x (List.mem_cons_of_mem _ hx), h.olow, h.snd, fun x hx => h.wsnd x (List.mem_cons_of_mem _ hx), fun a ha s hs hw => ?_, fun hw => ?_, h.cnt, h.rise⟩
  · rcases h.shut a ha s hs hw with h1 | h1
    · exact .inl h1
    · rcases List.mem_cons.1 h1 with rfl | h1
      · exact .inl (hb.resolve_left hw)
      · exact .inr h1
  · rcases h.first hw with h1 | h1
    · exact .inl h1
    · rcases List.mem_cons.1 h1 with rfl | h1
      · exact .inl (hb.resolve_left hw)
      · exact .inr h1
theorem Bfs.go {S : Nat → List Nat} {wo : Option Nat} {n b : Nat} {W O : List Nat} (hS : ∀ a, ∀ s ∈ S a, s < n) (h : Bfs S wo n (b :: W) O) (hw : wo ≠ some b) (hb : b ∉ O) : Bfs S wo n (W ++ S b) (insN O b) := by
  have hr := h.wsnd b (List.mem_cons_self ..) hw
  refine ⟨fun x hx => ?_, fun x hx => ?_, fun x hx => ?_, fun x hx hx' => ?_, fun a ha s hs hs' => ?_, fun h0 => ?_, ?_, rise_insN O b h.rise⟩
  · rcases List.mem_append.1 hx with hx | hx
    · exact h.low x (List.mem_cons_of_mem _ hx)
    · exact hS b x hx
  · rcases (mem_insN O b x).1 hx with rfl | hx
    · exact h.low x (List.mem_cons_self ..)
    · exact h.olow x hx
  · rcases (mem_insN O b x).1 hx with rfl | hx
    · exact hr
    · exact h.snd x hx
  · rcases List.mem_append.1 hx with hx | hx
    · exact h.wsnd x (List.mem_cons_of_mem _ hx) hx'
    · exact hr.step hx hx'
  · rcases (mem_insN O b a).1 ha with rfl | ha
    · exact .inr (List.mem_append_right _ hs)
    · rcases h.shut a ha s hs hs' with h1 | h1
      · exact .inl ((mem_insN O b s).2 (.inr h1))
      · rcases List.mem_cons.1 h1 with rfl | h1
        · exact .inl ((mem_insN O s s).2 (.inl rfl))
        · exact .inr (List.mem_append_left _ h1)
  · rcases h.first h0 with h1 | h1
    · exact .inl ((mem_insN O b 0).2 (.inr h1))
    · rcases List.mem_cons.1 h1 with rfl | h1
      · exact .inl ((mem_insN O 0 0).2 (.inl rfl))
      · exact .inr (List.mem_append_left _ h1)
  · have h1 := un_cons (h.low b (List.mem_cons_self ..)) hb
    have h2 : un n (insN O b) ≤ un n (b :: O) := un_mono fun x hx => (mem_insN O b x).2 (by simpa using hx)
    have h3 := h.cnt
    rw [len_insN O b hb]; omega
theorem Bfs.un_less {S : Nat → List Nat} {wo : Option Nat} {n b : Nat} {W O : List Nat} (h : Bfs S wo n (b :: W) O) (hb : b ∉ O) : un n (insN O b) < un n O := by
  have h1 := un_cons (h.low b (List.mem_cons_self ..)) hb
  have h2 : un n (insN O b) ≤ un n (b :: O) := un_mono fun x hx => (mem_insN O b x).2 (by simpa using hx)
  omega
theorem Bfs.done {S : Nat → List Nat} {wo : Option Nat} {n : Nat} {O : List Nat} (h : Bfs S wo n [] O) (x : Nat) : x ∈ O ↔ Rch S wo x := by
  refine ⟨h.snd x, fun hx => hx (fun x => x ∈ O) (fun h0 => ?_) fun a ha s hs hw => ?_⟩
  · exact (h.first h0).resolve_right (by simp)
  · exact (h.shut a ha s hs hw).resolve_right (by simp)
end Go.Proofs.Ytiflkkkggidhbaa
