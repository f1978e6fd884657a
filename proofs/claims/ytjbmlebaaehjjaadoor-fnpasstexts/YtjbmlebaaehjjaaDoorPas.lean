/- Lists of passes: which are right; their words; the program's PassText. -/
import Derived.Test.YtjbmlebaaehjjaaDoorRow
import Derived.Test.YtjbmlebaaehjjaaDoorShelf
import Derived.Lib.SmallJoins
namespace Go.Proofs.YtjbmlebaaehjjaaDoor
open Go.RowKit
set_option linter.unusedVariables false

def wordL : List ByteArray := [⟨#[]⟩, ⟨#[102, 111, 108, 100]⟩, ⟨#[99, 111, 112, 105, 101, 115]⟩, ⟨#[99, 108, 101, 97, 110]⟩, ⟨#[115, 104, 97, 114, 101]⟩, ⟨#[99, 104, 111, 111, 115, 101]⟩, ⟨#[112, 114, 117, 110, 101]⟩, ⟨#[106, 111, 105, 110]⟩, ⟨#[102, 97, 99, 116, 115]⟩, ⟨#[115, 112, 108, 105, 116]⟩]
def word (p : Int) : ByteArray := wordL.getD p.toNat ⟨#[]⟩
def passB (p : Int) : Bool := decide (1 ≤ p) && decide (p ≤ 9)
def okL (l : List Int) : Bool := decide (l.length ≤ 12) && l.all passB
theorem passB_nat {p : Int} (h : passB p = true) : ∃ n : Nat, p = n ∧ 1 ≤ n ∧ n ≤ 9 := by
  simp [passB] at h
  exact ⟨p.toNat, by omega, by omega, by omega⟩
theorem word_len (p : Int) : (word p).data.toList.length ≤ 6 := by
  unfold word
  rcases Nat.lt_or_ge p.toNat 10 with h | h
  · generalize p.toNat = n at h
    match n, h with
    | 0, _ => decide
    | 1, _ => decide
    | 2, _ => decide
    | 3, _ => decide
    | 4, _ => decide
    | 5, _ => decide
    | 6, _ => decide
    | 7, _ => decide
    | 8, _ => decide
    | 9, _ => decide
  · rw [List.getD, List.getElem?_eq_none (by simpa [wordL] using h)]
    decide
/-- The words as they lie in the program's table. -/
def WordsAt (w : World) : Prop := 0 < w.heap.size ∧ ∀ j, j < 10 → w.cell? ⟨0, j, none⟩ = some (.string (wordL.getD j ⟨#[]⟩))
theorem WordsAt.keep {w w' : World} (h : WordsAt w) (k : Below w.heap.size w w') : WordsAt w' :=
  ⟨Nat.lt_of_lt_of_le h.1 k.size, fun j hj => (cell_block (k.block _ h.1)).trans (h.2 j hj)⟩
def textOf (l : List Int) : ByteArray := if okL l = true then ⟨(Lib.join ((l.map word).map (·.data.toList)) [44]).toArray⟩ else ⟨#[]⟩
theorem join_len : ∀ xs : List (List UInt8), (∀ x ∈ xs, x.length ≤ 6) → (Lib.join xs [44]).length ≤ xs.length * 7
  | [], _ => by simp [Lib.join_nil]
  | x :: r, h => by
    rw [Lib.join_cons, List.length_append]
    have hx := h x (by simp)
    have hr : (Lib.joinTail [44] r).length ≤ r.length * 7 := by
      have hr' : ∀ y ∈ r, y.length ≤ 6 := fun y hy => h y (by simp [hy])
      clear h hx
      induction r with
      | nil => simp [Lib.joinTail]
      | cons y s ih =>
        have h1 := hr' y (by simp)
        have h2 := ih fun z hz => hr' z (by simp [hz])
        simp [Lib.joinTail] at h2 ⊢
        omega
    simp
    omega
theorem texts_len (l : List Int) (h : l.length ≤ 12) : (Lib.join ((l.map word).map (·.data.toList)) [44]).length ≤ 140737488355328 := by
  have h1 := join_len ((l.map word).map (·.data.toList)) (by simp only [List.map_map, List.mem_map]; rintro x ⟨p, _, rfl⟩; exact word_len p)
  simp at h1
  simp
  omega
/-- A list of texts of the call's own. -/
def RowS (w : World) (base : Nat) (v : Value) (l : List ByteArray) : Prop := w.ownsRow base 9 1 v l.length (l.map Value.string)
theorem RowS.slice {w : World} {base : Nat} {v : Value} {l : List ByteArray} (h : RowS w base v l) : ∃ a c, v = .slice a l.length c := by
  rcases h.2 with ⟨rfl, hn⟩ | ⟨g, cap, cur, rfl, _⟩
  · exact ⟨none, 0, by rw [hn]⟩
  · exact ⟨_, _, rfl⟩
theorem RowS.ge {w : World} {base : Nat} {v : Value} {l : List ByteArray} (h : RowS w base v l) {g : Nat} (hv : v.ownBlock = some g) : base ≤ g ∧ g < w.heap.size := by
  rcases h.2 with ⟨rfl, _⟩ | ⟨g', cap, cur, rfl, hb, hg, r⟩
  · cases hv
  · cases hv; exact ⟨hb, (Array.getElem?_eq_some_iff.1 hg).1⟩
theorem RowS.alloc {w : World} {base : Nat} {v : Value} {l : List ByteArray} (h : RowS w base v l) (o : Obj) : RowS (w.alloc o) base v l := World.ownsRow.alloc h o
theorem RowS.cells {w : World} {base : Nat} {v : Value} {l : List ByteArray} (h : RowS w base v l) : (v = .slice none 0 0 ∧ l = []) ∨ ∃ g c, v = .slice (some ⟨g, 0, none⟩) l.length c ∧ g < w.heap.size ∧ l.length ≤ c ∧ ∀ (j : Nat) x, l[j]? = some x → w.cell? ⟨g, 0 + j, none⟩ = some (.string x) := by
  rcases h.2 with ⟨hv, hn⟩ | ⟨g, cap, cur, hv, hb, hg, hnc, _, hcs, htk⟩
  · exact .inl ⟨hv, List.length_eq_zero_iff.1 hn⟩
  · refine .inr ⟨g, cap, hv, (Array.getElem?_eq_some_iff.1 hg).1, hnc, fun j x hj => ?_⟩
    have hjl := (List.getElem?_eq_some_iff.1 hj).1
    have e : (cur.toList.take (l.length * 1))[j]? = (l.map Value.string)[j]? := by rw [htk]
    rw [List.getElem?_take, if_pos (by omega), List.getElem?_map, hj] at e
    rw [Nat.zero_add, cell_of_heap hg]
    simpa using e
theorem infoS : (Tryd.prog.info? 9).map (fun i => (i.zero, i.size, i.bytes)) = some (some (.string ByteArray.empty), 1, 16) := by kernel_rfl
theorem push_str {ops : Array Oper} {rest : List Oper} {o : Oper} {a : Act} {Q : Exit → Act → World → Prop} {w : World} (hgd : o.guard = none) (s x : Operand)
    (ho : o.op = .call { callee := .builtin .append, args := #[s, x], argTypes := #[38, 38] })
    (base : Nat) (v : Value) (l : List ByteArray) (hs : a.eval s = v) (hown : RowS w base v l) (n : ByteArray) (b c : Nat) (hx : a.eval x = .slice (some ⟨b, 0, none⟩) 1 c) (hc : w.cell? ⟨b, 0, none⟩ = some (.string n)) (hl : l.length ≤ 1048576) (hbase : base ≤ w.heap.size)
    (h : ∀ v' w', RowS w' base v' (l ++ [n]) → w.grownBy w' v.ownBlock → wpList Tryd.prog ops Q rest (a.put o.dst v') w') : wpList Tryd.prog ops Q (o :: rest) a w := by
  obtain ⟨i0, hi, hz0, hz1, hz2⟩ := info_parts infoS
  refine wpList_append_own w hgd s x 38 ho base 9 i0 (.string ByteArray.empty) 1 16 Tryd.underlying38 hi hz0 hz1 hz2 rfl (by decide) v l.length (l.map Value.string) hs hown ⟨b, 0, none⟩ 1 c [.string n] hx (by simp) ?_ (by simp [Value.oneCell']) (by unfold maxLen; omega) (by omega) hbase ?_
  · intro j u hj
    match j, hj with
    | 0, hj => rw [Addr.add_lit]; simp at hj; rw [← hj]; exact hc
  · intro v' w' h1 h2 _
    refine h v' w' ?_ h2
    unfold RowS
    rw [List.length_append, List.map_append]
    exact h1
theorem isPassI (p : Int) (w : World) : Calls Tryd.prog 32 #[.int .i64 p] w fun e w' => e = .returned (.bool (passB p)) ∧ w' = w := by
  by_cases h1 : 1 ≤ p
  · by_cases h2 : p ≤ 9
    · have E : Hid (passB p = true) := by show _ = _; simp [passB, h1, h2]
      go_enter Tryd.func32, Tryd.ntmps32
      go_wp2_with fail
      go_ret
      exact ⟨by rw [E.out]; rfl, rfl⟩
    · have E : Hid (passB p = false) := by show _ = _; simp [passB, h2]
      go_enter Tryd.func32, Tryd.ntmps32
      go_wp2_with fail
      go_ret
      exact ⟨by rw [E.out]; rfl, rfl⟩
  · have E : Hid (passB p = false) := by show _ = _; simp [passB, h1]
    go_enter Tryd.func32, Tryd.ntmps32
    go_wp2_with fail
    go_ret
    exact ⟨by rw [E.out]; rfl, rfl⟩
theorem notPassI (p : Int) (w : World) : Calls Tryd.prog 31 #[.int .i64 p] w fun e w' => e = .returned (.bool (!passB p)) ∧ w' = w := by
  go_enter Tryd.func31, Tryd.ntmps31
  go_wp2_with (go_at_call 32; refine (isPassI _ _).mono ?_; rintro e w' ⟨rfl, rfl⟩)
  go_ret
  exact ⟨rfl, rfl⟩
end Go.Proofs.YtjbmlebaaehjjaaDoor
