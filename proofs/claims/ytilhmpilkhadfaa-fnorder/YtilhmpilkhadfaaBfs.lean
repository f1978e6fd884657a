/- The model's way through a graph, by itself. No function of the program is named here. -/
import Derived.Test.YtilhmpilkhadfaaGrf
import Derived.Test.YtilhmpilkhadfaaPut
namespace Go.Proofs.Ytilhmpilkhadfaa
open Go.RowKit

def insN : List Nat → Nat → List Nat
  | [], n => [n]
  | x :: r, n => if x < n then x :: insN r n else if x = n then x :: r else n :: x :: r
def ints (l : List Nat) : List Int := l.map (fun x : Nat => (x : Int))
theorem ints_len (l : List Nat) : (ints l).length = l.length := by simp [ints]
theorem ints_getD (l : List Nat) (i : Nat) : (ints l).getD i 0 = ((l.getD i 0 : Nat) : Int) := by
  unfold ints
  by_cases h : i < l.length
  · simp [List.getD, h]
  · simp [List.getD, h]
theorem mem_ints (l : List Nat) (x : Nat) : (x : Int) ∈ ints l ↔ x ∈ l := by
  unfold ints
  rw [List.mem_map]
  constructor
  · rintro ⟨y, hy, e⟩
    have : y = x := by omega
    exact this ▸ hy
  · intro h; exact ⟨x, h, rfl⟩
theorem ins_ints (l : List Nat) (n : Nat) : ins (ints l) n = ints (insN l n) := by
  induction l with
  | nil => rfl
  | cons x r ih =>
    show ins ((x : Int) :: ints r) n = _
    unfold ins insN
    by_cases h : x < n
    · rw [if_pos (by omega), if_pos h, ih]; rfl
    · rw [if_neg (by omega), if_neg h]
      by_cases h2 : x = n
      · rw [if_pos (by omega), if_pos h2]; rfl
      · rw [if_neg (by omega), if_neg h2]; rfl
theorem mem_insN (l : List Nat) (n x : Nat) : x ∈ insN l n ↔ x = n ∨ x ∈ l := by
  induction l with
  | nil => simp [insN]
  | cons y r ih =>
    unfold insN
    by_cases h : y < n
    · rw [if_pos h, List.mem_cons, ih, List.mem_cons]
      constructor
      · rintro (h | h | h) <;> simp [h]
      · rintro (h | h | h) <;> simp [h]
    · rw [if_neg h]
      by_cases h2 : y = n
      · rw [if_pos h2, h2, List.mem_cons]
        constructor
        · rintro (h | h) <;> simp [h]
        · rintro (h | h | h) <;> simp [h]
      · rw [if_neg h2, List.mem_cons]
theorem len_insN (l : List Nat) (n : Nat) (h : n ∉ l) : (insN l n).length = l.length + 1 := by
  induction l with
  | nil => rfl
  | cons y r ih =>
    simp at h
    have ih := ih h.2
    unfold insN
    split
    · simp [ih]
    · rw [if_neg (fun e => h.1 e.symm)]; simp
theorem rise_insN (l : List Nat) (n : Nat) (h : l.Pairwise (· < ·)) : (insN l n).Pairwise (· < ·) := by
  induction l with
  | nil => simp [insN]
  | cons y r ih =>
    rw [List.pairwise_cons] at h
    have ih := ih h.2
    unfold insN
    split
    · rw [List.pairwise_cons]
      refine ⟨fun a ha => ?_, ih⟩
      rcases (mem_insN r n a).1 ha with rfl | ha
      · assumption
      · exact h.1 a ha
    · split
      · rw [List.pairwise_cons]; exact h
      · rw [List.pairwise_cons]
        refine ⟨fun a ha => ?_, List.pairwise_cons.2 h⟩
        rcases List.mem_cons.1 ha with rfl | ha
        · omega
        · have := h.1 a ha; omega
structure Bfs (S : Nat → List Nat) (wo : Option Nat) (n : Nat) (W O : List Nat) : Prop where
  low : ∀ x ∈ W, x < n
  olow : ∀ x ∈ O, x < n
  snd : ∀ x ∈ O, Rch S wo x
  wsnd : ∀ x ∈ W, wo ≠ some x → Rch S wo x
  shut : ∀ a ∈ O, ∀ s ∈ S a, wo ≠ some s → s ∈ O ∨ s ∈ W
  first : wo ≠ some 0 → 0 ∈ O ∨ 0 ∈ W
  cnt : O.length + un n O ≤ n
  rise : O.Pairwise (· < ·)
theorem Bfs.start {S : Nat → List Nat} {wo : Option Nat} {n : Nat} (h : 0 < n) : Bfs S wo n [0] [] :=
  ⟨by simpa using h, by simp, by simp, fun x hx hw => by simp at hx; subst hx; exact Rch.zero hw, by simp, by simp, by simp [un_nil], by simp⟩
theorem Bfs.skip {S : Nat → List Nat} {wo : Option Nat} {n b : Nat} {W O : List Nat} (h : Bfs S wo n (b :: W) O) (hb : wo = some b ∨ b ∈ O) : Bfs S wo n W O := by
  refine ⟨fun x hx => h.low x (List.mem_cons_of_mem _ hx), h.olow, h.snd, fun x hx => h.wsnd x (List.mem_cons_of_mem _ hx), fun a ha s hs hw => ?_, fun hw => ?_, h.cnt, h.rise⟩
  · rcases h.shut a ha s hs hw with h1 | h1
    · exact .inl h1
    · rcases List.mem_cons.1 h1 with rfl | h1
      · exact .inl (hb.resolve_left hw)
      · exact .inr h1
  · rcases h.first hw with h1 | h1
    · exact .inl h1
    · rcases List.mem_cons.1 h1 with rfl | h1
      · exact .inl (hb.resolve_left hw)
      · exact .inr h1
theorem Bfs.go {S : Nat → List Nat} {wo : Option Nat} {n b : Nat} {W O : List Nat} (hS : ∀ a, ∀ s ∈ S a, s < n) (h : Bfs S wo n (b :: W) O) (hw : wo ≠ some b) (hb : b ∉ O) : Bfs S wo n (W ++ S b) (insN O b) := by
  have hr := h.wsnd b (List.mem_cons_self ..) hw
  refine ⟨fun x hx => ?_, fun x hx => ?_, fun x hx => ?_, fun x hx hx' => ?_, fun a ha s hs hs' => ?_, fun h0 => ?_, ?_, rise_insN O b h.rise⟩
  · rcases List.mem_append.1 hx with hx | hx
    · exact h.low x (List.mem_cons_of_mem _ hx)
    · exact hS b x hx
  · rcases (mem_insN O b x).1 hx with rfl | hx
    · exact h.low x (List.mem_cons_self ..)
    · exact h.olow x hx
  · rcases (mem_insN O b x).1 hx with rfl | hx
    · exact hr
    · exact h.snd x hx
  · rcases List.mem_append.1 hx with hx | hx
    · exact h.wsnd x (List.mem_cons_of_mem _ hx) hx'
    · exact hr.step hx hx'
  · rcases (mem_insN O b a).1 ha with rfl | ha
    · exact .inr (List.mem_append_right _ hs)
    · rcases h.shut a ha s hs hs' with h1 | h1
      · exact .inl ((mem_insN O b s).2 (.inr h1))
      · rcases List.mem_cons.1 h1 with rfl | h1
        · exact .inl ((mem_insN O s s).2 (.inl rfl))
        · exact .inr (List.mem_append_left _ h1)
  · rcases h.first h0 with h1 | h1
    · exact .inl ((mem_insN O b 0).2 (.inr h1))
    · rcases List.mem_cons.1 h1 with rfl | h1
      · exact .inl ((mem_insN O 0 0).2 (.inl rfl))
      · exact .inr (List.mem_append_left _ h1)
  · have h1 := un_cons (h.low b (List.mem_cons_self ..)) hb
    have h2 : un n (insN O b) ≤ un n (b :: O) := un_mono fun x hx => (mem_insN O b x).2 (by simpa using hx)
    have h3 := h.cnt
    rw [len_insN O b hb]; omega
theorem Bfs.un_less {S : Nat → List Nat} {wo : Option Nat} {n b : Nat} {W O : List Nat} (h : Bfs S wo n (b :: W) O) (hb : b ∉ O) : un n (insN O b) < un n O := by
  have h1 := un_cons (h.low b (List.mem_cons_self ..)) hb
  have h2 : un n (insN O b) ≤ un n (b :: O) := un_mono fun x hx => (mem_insN O b x).2 (by simpa using hx)
  omega
theorem Bfs.done {S : Nat → List Nat} {wo : Option Nat} {n : Nat} {O : List Nat} (h : Bfs S wo n [] O) (x : Nat) : x ∈ O ↔ Rch S wo x := by
  refine ⟨h.snd x, fun hx => hx (fun x => x ∈ O) (fun h0 => ?_) fun a ha s hs hw => ?_⟩
  · exact (h.first h0).resolve_right (by simp)
  · exact (h.shut a ha s hs hw).resolve_right (by simp)
end Go.Proofs.Ytilhmpilkhadfaa
