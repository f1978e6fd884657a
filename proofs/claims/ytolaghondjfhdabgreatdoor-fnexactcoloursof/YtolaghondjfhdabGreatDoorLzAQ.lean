/- Colours told: without a program. -/
import Derived.Test.YtolaghondjfhdabGreatDoorLyHQ
namespace Go.Proofs.YtolaghondjfhdabGreatDoor
open Go.RowKit
set_option linter.unusedVariables false

theorem srt_sub_len : ∀ {a c : List Int}, Srt a → Srt c → (∀ x ∈ a, x ∈ c) → a.length ≤ c.length
  | [], c, _, _, _ => by simp
  | x :: r, c, ha, hc, hs => by
    have ha1 := List.pairwise_cons.1 ha
    have h3 := srt_sub_len ha1.2 (srt_lessL x hc) (fun y hy => (mem_lessL c x y).2 ⟨hs y (by simp [hy]), by have := ha1.1 y hy; omega⟩)
    have h4 : (lessL c x).length < c.length := by
      unfold lessL
      exact List.length_filter_lt_length_iff_exists.2 ⟨x, hs x (by simp), by simp⟩
    simp only [List.length_cons]
    omega
theorem srt_upto : ∀ c : Nat, Srt ((List.range c).map Int.ofNat)
  | 0 => List.Pairwise.nil
  | c + 1 => by
    rw [List.range_succ, List.map_append]
    refine List.pairwise_append.2 ⟨srt_upto c, by simp, fun x hx y hy => ?_⟩
    obtain ⟨i, hi, rfl⟩ := List.mem_map.1 hx
    simp at hy hi
    subst hy
    show (i : Int) < (c : Int)
    omega
/-- The colours that lesser ones have that meet n, of the first k. -/
def heldL (d : FuncD) (I : Alive) (l : List Int) (n : Nat) : Nat → List Int
  | 0 => []
  | k + 1 => if meetB d I n k = true then ins (heldL d I l n k) (l.getD k 0) else heldL d I l n k
theorem ins_lenC (l : List Int) (n : Int) : (ins l n).length ≤ l.length + 1 := by
  induction l with
  | nil => simp [ins]
  | cons y r ih =>
    unfold ins
    split
    · simp only [List.length_cons]; omega
    · split
      · simp only [List.length_cons]; omega
      · simp only [List.length_cons]; omega
theorem held_len (d : FuncD) (I : Alive) (l : List Int) (n : Nat) : ∀ k, (heldL d I l n k).length ≤ k
  | 0 => Nat.le_refl _
  | k + 1 => by
    have h := held_len d I l n k
    unfold heldL
    split
    · have := ins_lenC (heldL d I l n k) (l.getD k 0); omega
    · omega
theorem held_srt (d : FuncD) (I : Alive) (l : List Int) (n : Nat) : ∀ k, Srt (heldL d I l n k)
  | 0 => List.Pairwise.nil
  | k + 1 => by
    have h := held_srt d I l n k
    unfold heldL
    split
    · exact srt_ins _ h
    · exact h
theorem held_mem (d : FuncD) (I : Alive) (l : List Int) (n c : Nat) : ∀ k, (c : Int) ∈ heldL d I l n k ↔ takB d I l n k c = true
  | 0 => by simp [heldL, takB]
  | k + 1 => by
    have h := held_mem d I l n c k
    rw [tak_step]
    unfold heldL
    cases hm : meetB d I n k with
    | true =>
      rw [if_pos rfl, mem_ins, h, Bool.true_and, Bool.or_eq_true, decide_eq_true_iff]
      constructor
      · rintro (e | e)
        · exact .inr e.symm
        · exact .inl e
      · rintro (e | e)
        · exact .inr e
        · exact .inl e.symm
    | false =>
      rw [if_neg (by simp), h]
      simp
/-- The least colour that is not taken. -/
def LeastC (d : FuncD) (I : Alive) (l : List Int) (n c : Nat) : Prop := (∀ x, x < c → takB d I l n n x = true) ∧ takB d I l n n c = false
theorem upto_le {d : FuncD} {I : Alive} {l : List Int} {n c : Nat} (h : ∀ x, x < c → takB d I l n n x = true) : c ≤ n := by
  have h1 := srt_sub_len (srt_upto c) (held_srt d I l n n) (fun x hx => by
    obtain ⟨i, hi, rfl⟩ := List.mem_map.1 hx
    exact (held_mem d I l n i n).2 (h i (List.mem_range.1 hi)))
  have h2 := held_len d I l n n
  simp at h1
  omega
theorem LeastC.le {d : FuncD} {I : Alive} {l : List Int} {n c : Nat} (h : LeastC d I l n c) : c ≤ n := upto_le h.1
theorem LeastC.one {d : FuncD} {I : Alive} {l : List Int} {n c c' : Nat} (h : LeastC d I l n c) (k : LeastC d I l n c') : c = c' := by
  rcases Nat.lt_trichotomy c c' with e | e | e
  · have := k.1 c e; rw [h.2] at this; cases this
  · exact e
  · have := h.1 c' e; rw [k.2] at this; cases this
/-- The colour of an id, those of lesser ones known. -/
def OneC (d : FuncD) (I : Alive) (l : List Int) (n : Nat) (x : Int) : Prop := (typeF d n = 0 ∧ x = -1) ∨ (¬ typeF d n = 0 ∧ ∃ c : Nat, x = (c : Int) ∧ LeastC d I l n c)
theorem OneC.one {d : FuncD} {I : Alive} {l : List Int} {n : Nat} {x y : Int} (h : OneC d I l n x) (k : OneC d I l n y) : x = y := by
  rcases h with ⟨h1, h2⟩ | ⟨h1, c, h2, h3⟩ <;> rcases k with ⟨k1, k2⟩ | ⟨k1, c', k2, k3⟩
  · rw [h2, k2]
  · exact absurd h1 k1
  · exact absurd k1 h1
  · rw [h2, k2, h3.one k3]
theorem tak_ext {d : FuncD} {I : Alive} {l m : List Int} {n : Nat} (h : ∀ b, b < n → l.getD b 0 = m.getD b 0) (c : Nat) : ∀ k, k ≤ n → takB d I l n k c = takB d I m n k c
  | 0, _ => rfl
  | k + 1, hk => by rw [tak_step, tak_step, tak_ext h c k (by omega), h k (by omega)]
theorem LeastC.ext {d : FuncD} {I : Alive} {l m : List Int} {n c : Nat} (e : ∀ b, b < n → l.getD b 0 = m.getD b 0) (h : LeastC d I l n c) : LeastC d I m n c :=
  ⟨fun x hx => by rw [← tak_ext e x n (Nat.le_refl _)]; exact h.1 x hx, by rw [← tak_ext e c n (Nat.le_refl _)]; exact h.2⟩
theorem OneC.ext {d : FuncD} {I : Alive} {l m : List Int} {n : Nat} {x : Int} (e : ∀ b, b < n → l.getD b 0 = m.getD b 0) (h : OneC d I l n x) : OneC d I m n x := by
  rcases h with h | ⟨h1, c, h2, h3⟩
  · exact .inl h
  · exact .inr ⟨h1, c, h2, h3.ext e⟩
/-- The colours of the first k. -/
def Cols (d : FuncD) (I : Alive) (l : List Int) (k : Nat) : Prop := l.length = k ∧ ∀ n, n < k → OneC d I l n (l.getD n 0)
theorem Cols.start (d : FuncD) (I : Alive) : Cols d I [] 0 := ⟨rfl, fun n hn => by omega⟩
theorem Cols.next {d : FuncD} {I : Alive} {l : List Int} {k : Nat} {x : Int} (h : Cols d I l k) (hx : OneC d I l k x) : Cols d I (l ++ [x]) (k + 1) := by
  have hl := h.1
  have hg : ∀ b, b < k → l.getD b 0 = (l ++ [x]).getD b 0 := fun b hb => by
    simp only [List.getD_eq_getElem?_getD]
    rw [List.getElem?_append_left (by omega)]
  refine ⟨by simp [hl], fun n hn => ?_⟩
  by_cases e : n = k
  · subst e
    have e2 : (l ++ [x]).getD n 0 = x := by
      simp only [List.getD_eq_getElem?_getD]
      rw [List.getElem?_append_right (by omega), hl]
      simp
    rw [e2]
    exact hx.ext hg
  · rw [← hg n (by omega)]
    exact (h.2 n (by omega)).ext (fun b hb => hg b (by omega))
theorem Cols.rng {d : FuncD} {I : Alive} {l : List Int} {k n : Nat} (h : Cols d I l k) (hk : k ≤ 60) (hn : n < k) (ht : ¬ typeF d n = 0) : 0 ≤ l.getD n 0 ∧ l.getD n 0 < 60 := by
  rcases h.2 n hn with ⟨h1, _⟩ | ⟨_, c, h2, h3⟩
  · exact absurd h1 ht
  · have := h3.le
    omega
theorem Cols.one {d : FuncD} {I : Alive} {l m : List Int} {k : Nat} (h : Cols d I l k) (q : Cols d I m k) : l = m := by
  have e : ∀ n, n ≤ k → ∀ b, b < n → l.getD b 0 = m.getD b 0 := by
    intro n
    induction n with
    | zero => intro _ b hb; omega
    | succ n ih =>
      intro hn b hb
      have h1 := ih (by omega)
      by_cases eb : b = n
      · subst eb
        exact ((h.2 b (by omega)).ext h1).one (q.2 b (by omega))
      · exact h1 b (by omega)
  refine List.ext_getElem? fun i => ?_
  by_cases hi : i < k
  · have := e k (Nat.le_refl _) i hi
    simp only [List.getD_eq_getElem?_getD] at this
    have h1 : i < l.length := by rw [h.1]; exact hi
    have h2 : i < m.length := by rw [q.1]; exact hi
    rw [List.getElem?_eq_getElem h1, List.getElem?_eq_getElem h2] at this ⊢
    simpa using this
  · rw [List.getElem?_eq_none (by rw [h.1]; omega), List.getElem?_eq_none (by rw [q.1]; omega)]
def ColsR (d : FuncD) (l : List Int) : Prop := (okB d = false ∧ l = []) ∨ (okB d = true ∧ ∃ I, Fix d I ∧ Cols d I l (cntF d))
theorem ColsR.one {d : FuncD} {l m : List Int} (h : ColsR d l) (k : ColsR d m) : l = m := by
  rcases h with ⟨h1, rfl⟩ | ⟨h1, I, h2, h3⟩ <;> rcases k with ⟨k1, rfl⟩ | ⟨k1, J, k2, k3⟩
  · rfl
  · rw [h1] at k1; cases k1
  · rw [h1] at k1; cases k1
  · have e := h2.one k2
    subst e
    exact h3.one k3
theorem ColsR.len {d : FuncD} {l : List Int} (h : ColsR d l) : l.length ≤ 60 := by
  rcases h with ⟨_, rfl⟩ | ⟨h1, I, h2, h3⟩
  · simp
  · rw [h3.1]; exact (ok_lvf h1).cnt
end Go.Proofs.YtolaghondjfhdabGreatDoor
