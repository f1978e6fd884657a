/- Modules as texts: lines in memory. -/
import Derived.Test.YtjpiiemhklphlaaGreatDoorTxJ
import Derived.Test.YtjpiiemhklphlaaGreatDoorMtA
import Derived.Test.YtjpiiemhklphlaaGreatDoorAtt
import Derived.Deep.AppendLies
namespace Go.Proofs.YtjpiiemhklphlaaGreatDoor
open Go.RowKit
set_option linter.unusedVariables false

/-- Numbers that stand elsewhere than in a row's own block. -/
structure NumsAt (w : World) (base : Nat) (own : Option Nat) (a : Option Addr) (l : List Int) : Prop where
  ints : IntsAt w base a l
  off : l ≠ [] → ∀ ad, a = some ad → some ad.block ≠ own
theorem NumsAt.moved {w w' : World} {base : Nat} {own own' : Option Nat} {a : Option Addr} {l : List Int} (h : NumsAt w base own a l) (hz : w.heap.size ≤ w'.heap.size) (hb : ∀ k, k < w.heap.size → base ≤ k → some k ≠ own → w'.heap[k]? = w.heap[k]?) (hs : own' = own ∨ ∃ g, own' = some g ∧ w.heap.size ≤ g) : NumsAt w' base own' a l := by
  by_cases hl : l = []
  · exact ⟨⟨h.ints.1, .inl hl⟩, fun k => absurd hl k⟩
  · rcases h.ints.2 with he | ⟨b, off, ha, hlo, hlt, hc⟩
    · exact absurd he hl
    · have ho := h.off hl _ ha
      refine ⟨⟨h.ints.1, .inr ⟨b, off, ha, hlo, by omega, fun i hi => (cell_block (hb b hlt hlo ho)).trans (hc i hi)⟩⟩, fun _ ad e => ?_⟩
      rw [ha] at e
      cases e
      rcases hs with rfl | ⟨g, rfl, hg⟩
      · exact ho
      · intro e; have e3 : b = g := Option.some.inj e; omega
theorem At.below' {w w' : World} {g n : Nat} {cs : Array Value} {T : TypeId} (h : At w g cs T) (k : Below n w w') (hg : g < n) : At w' g cs T := (k.block g hg).trans h
def ln0 : Ln := ([], [])
/-- The cells of the j-th line of a row. -/
def LnCell (w : World) (base : Nat) (own : Option Nat) (xs : List Value) (j : Nat) (x : Ln) : Prop :=
  ∃ a c, xs[j * 2]? = some (.string (bs x.1)) ∧ xs[j * 2 + 1]? = some (.slice a x.2.length c) ∧ NumsAt w base own a x.2
structure Lns (w : World) (base : Nat) (v : Value) (l : List Ln) (xs : List Value) : Prop where
  row : w.ownsRow base 44 2 v l.length xs
  cells : ∀ j, j < l.length → LnCell w base v.ownBlock xs j (l.getD j ln0)
theorem Lns.len {w : World} {base : Nat} {v : Value} {l : List Ln} {xs : List Value} (h : Lns w base v l xs) : xs.length = l.length * 2 := h.row.1
theorem Lns.nil (w : World) (base : Nat) : Lns w base (.slice none 0 0) [] [] := ⟨World.ownsRow_nil _ _ _ _, fun j hj => by simp at hj⟩
/-- Under what leaves the row's blocks. -/
theorem Lns.keep {w w' : World} {base : Nat} {v : Value} {l : List Ln} {xs : List Value} (h : Lns w base v l xs) (k : Below w.heap.size w w') : Lns w' base v l xs := by
  refine ⟨h.row.kept (row := none) ⟨k.os, k.tape, k.output, k.size, fun i hi _ => k.block i hi⟩ (by cases e : v.ownBlock <;> simp), fun j hj => ?_⟩
  obtain ⟨a, c, h1, h2, h3⟩ := h.cells j hj
  exact ⟨a, c, h1, h2, h3.moved k.size (fun i hi _ _ => k.block i hi) (.inl rfl)⟩
/-- Some lines more, that stand in cells of their own. -/
theorem Lns.push {w w' : World} {base g cap : Nat} {v : Value} {l news : List Ln} {xs ns : List Value} (h : Lns w base v l xs) (hn : ns.length = news.length * 2) (hc : ∀ j, j < news.length → LnCell w base v.ownBlock ns j (news.getD j ln0))
    (ho : w'.ownsRow base 44 2 (.slice (some ⟨g, 0, none⟩) (l.length + news.length) cap) (l.length + news.length) (xs ++ ns)) (hg : w.grownBy w' v.ownBlock) (hs : v.ownBlock = some g ∨ g = w.heap.size) :
    Lns w' base (.slice (some ⟨g, 0, none⟩) (l.length + news.length) cap) (l ++ news) (xs ++ ns) := by
  have hxl := h.len
  have hs' : (Value.slice (some ⟨g, 0, none⟩) (l.length + news.length) cap).ownBlock = v.ownBlock ∨ ∃ k, (Value.slice (some ⟨g, 0, none⟩) (l.length + news.length) cap).ownBlock = some k ∧ w.heap.size ≤ k := by
    rcases hs with hs | hs
    · exact .inl hs.symm
    · exact .inr ⟨g, rfl, by omega⟩
  have mv : ∀ {a : Option Addr} {r : List Int}, NumsAt w base v.ownBlock a r → NumsAt w' base (Value.slice (some ⟨g, 0, none⟩) (l.length + news.length) cap).ownBlock a r := fun k => k.moved hg.size (fun i hi _ hne => hg.block i hi hne) hs'
  refine ⟨by rw [List.length_append]; exact ho, fun j hj => ?_⟩
  rw [List.length_append] at hj
  by_cases hjl : j < l.length
  · obtain ⟨a, c, h1, h2, h3⟩ := h.cells j hjl
    have e : (l ++ news).getD j ln0 = l.getD j ln0 := by simp [List.getD, List.getElem?_append_left hjl]
    rw [e]
    exact ⟨a, c, by rw [List.getElem?_append_left (by omega)]; exact h1, by rw [List.getElem?_append_left (by omega)]; exact h2, mv h3⟩
  · obtain ⟨a, c, h1, h2, h3⟩ := hc (j - l.length) (by omega)
    have e : (l ++ news).getD j ln0 = news.getD (j - l.length) ln0 := by simp [List.getD, List.getElem?_append_right (Nat.le_of_not_lt hjl)]
    rw [e]
    refine ⟨a, c, ?_, ?_, mv h3⟩
    · rw [List.getElem?_append_right (by omega), hxl, show j * 2 - l.length * 2 = (j - l.length) * 2 by omega]; exact h1
    · rw [List.getElem?_append_right (by omega), hxl, show j * 2 + 1 - l.length * 2 = (j - l.length) * 2 + 1 by omega]; exact h2
theorem infoLn : (Tryz.prog.info? 44).map (fun i => (i.zero, i.size, i.bytes)) = some (some (.agg #[.string ⟨#[]⟩, .slice none 0 0]), 2, 40) := by kernel_rfl
theorem lit_two {w : World} {x y : Value} {t : TypeId} {s : Nat} (h : w.heap.size = s) : ∀ j u, [x, y][j]? = some u → (w.alloc (.cells #[x, y] t)).cell? ((⟨s, 0, none⟩ : Addr).add j) = some u := by
  subst h
  intro j u hj
  have hb := heap_alloc_last w (.cells #[x, y] t)
  match j, hj with
  | 0, hj => rw [Addr.add_lit]; simp at hj; rw [← hj]; exact (cell_of_heap hb).trans rfl
  | 1, hj => rw [Addr.add_lit]; simp at hj; rw [← hj]; exact (cell_of_heap hb).trans rfl
/-- A list of one line. -/
theorem Lns.one {W : World} {x : Ln} {a : Option Addr} {c s base : Nat} (hs : W.heap.size = s) (hb : base ≤ s) (hk : IntsAt W base a x.2) :
    Lns (W.alloc (.cells #[.string (bs x.1), .slice a x.2.length c] 44)) base (.slice (some ⟨s, 0, none⟩) 1 1) [x] [.string (bs x.1), .slice a x.2.length c] := by
  subst hs
  refine ⟨World.ownsRow_lit W #[.string (bs x.1), .slice a x.2.length c] 1 hb (by decide) (by simp), fun j hj => ?_⟩
  have hj0 : j = 0 := by simp at hj; omega
  subst hj0
  refine ⟨a, c, rfl, rfl, ⟨hk.keep (agree_alloc _ _ _), fun hne ad e => ?_⟩⟩
  show some ad.block ≠ some W.heap.size
  rcases hk.2 with h | ⟨b, off, ha, _, hlt, _⟩
  · exact absurd h hne
  · rw [ha] at e; cases e; intro e2; have e3 : b = W.heap.size := Option.some.inj e2; omega
/-- One line more: the append, at a literal of one line. -/
theorem push_line2 {ops : Array Oper} {rest : List Oper} {o : Oper} {a : Act} {Q : Exit → Act → World → Prop} {w : World} (hgd : o.guard = none) (s x : Operand)
    (ho : o.op = .call { callee := .builtin .append, args := #[s, x], argTypes := #[40, 40] })
    (base : Nat) (v : Value) (l : List Ln) (xs : List Value) (hs : a.eval s = v) (hown : Lns w base v l xs) (y : Ln) (u : Option Addr) (c H : Nat) (hH : w.heap.size = H)
    (hx : a.eval x = .slice (some ⟨H, 0, none⟩) 1 1) (hu : IntsAt w base u y.2) (hu2 : y.2 ≠ [] → ∀ ad, u = some ad → some ad.block ≠ v.ownBlock) (hl : l.length ≤ 4194304) (hbase : base ≤ w.heap.size)
    (h : ∀ g cap w', Lns w' base (.slice (some ⟨g, 0, none⟩) (l.length + 1) cap) (l ++ [y]) (xs ++ [.string (bs y.1), .slice u y.2.length c]) → Below base w w' → (∀ k, k < w.heap.size → some k ≠ v.ownBlock → w'.heap[k]? = w.heap[k]?) → wpList Tryz.prog ops Q rest (a.put o.dst (.slice (some ⟨g, 0, none⟩) (l.length + 1) cap)) w') :
    wpList Tryz.prog ops Q (o :: rest) a (w.alloc (.cells #[.string (bs y.1), .slice u y.2.length c] 44)) := by
  subst hH
  obtain ⟨i0, hi, hz0, hz1, hz2⟩ := info_parts infoLn
  have k1 : Below w.heap.size w (w.alloc (.cells #[.string (bs y.1), .slice u y.2.length c] 44)) := (Below.refl _ _).alloc (Nat.le_refl _) _
  have hown1 := hown.keep k1
  refine wpList_append_lies (w.alloc (.cells #[.string (bs y.1), .slice u y.2.length c] 44)) hgd s x 40 ho base 44 i0 (.agg #[.string ⟨#[]⟩, .slice none 0 0]) 2 40 Tryz.underlying40 hi hz0 hz1 hz2 rfl (by decide) v l.length xs hs hown1.row ⟨w.heap.size, 0, none⟩ 1 1 [.string (bs y.1), .slice u y.2.length c] hx (by simp) (lit_two rfl) (by simp [Value.oneCell']) (by decide) (by unfold maxLen; omega) (by omega) (by have := k1.size; omega) _ rfl ?_
  intro g cap w' h1 h2 h3 h4
  refine h g cap w' (hown1.push (news := [y]) (by simp) (fun j hj => ?_) h1 h2 h3) ?_ (fun k hk hne => (h2.block k (by have := k1.size; omega) hne).trans (k1.block k hk))
  · have hj0 : j = 0 := by simp at hj; omega
    subst hj0
    exact ⟨u, c, rfl, rfl, ⟨hu.keep (agree_of_below k1 _), hu2⟩⟩
  · exact ((Below.refl base w).alloc hbase _).grown h2 (by have := k1.size; omega) (fun k hk => (hown1.row.lt k hk).1)
/-- One line more: the append, at a literal of one line. -/
theorem push_line {ops : Array Oper} {rest : List Oper} {o : Oper} {a : Act} {Q : Exit → Act → World → Prop} {w : World} (hgd : o.guard = none) (s x : Operand)
    (ho : o.op = .call { callee := .builtin .append, args := #[s, x], argTypes := #[40, 40] })
    (base : Nat) (v : Value) (l : List Ln) (xs : List Value) (hs : a.eval s = v) (hown : Lns w base v l xs) (y : Ln) (u : Option Addr) (c H : Nat) (hH : w.heap.size = H)
    (hx : a.eval x = .slice (some ⟨H, 0, none⟩) 1 1) (hu : IntsAt w base u y.2) (hu2 : y.2 ≠ [] → ∀ ad, u = some ad → some ad.block ≠ v.ownBlock) (hl : l.length ≤ 4194304) (hbase : base ≤ w.heap.size)
    (h : ∀ g cap w', Lns w' base (.slice (some ⟨g, 0, none⟩) (l.length + 1) cap) (l ++ [y]) (xs ++ [.string (bs y.1), .slice u y.2.length c]) → Below base w w' → wpList Tryz.prog ops Q rest (a.put o.dst (.slice (some ⟨g, 0, none⟩) (l.length + 1) cap)) w') :
    wpList Tryz.prog ops Q (o :: rest) a (w.alloc (.cells #[.string (bs y.1), .slice u y.2.length c] 44)) :=
  push_line2 hgd s x ho base v l xs hs hown y u c H hH hx hu hu2 hl hbase (fun g cap w' a1 a2 _ => h g cap w' a1 a2)
/-- The same in a region that draws its order. -/
theorem step_line {ops : Array Oper} {o : Oper} {a : Act} {K : Act → World → Prop} {E : Prop} {Q : Exit → Act → World → Prop} {w : World} (hgd : o.guard = none) (s x : Operand)
    (ho : o.op = .call { callee := .builtin .append, args := #[s, x], argTypes := #[40, 40] })
    (base : Nat) (v : Value) (l : List Ln) (xs : List Value) (hs : a.eval s = v) (hown : Lns w base v l xs) (y : Ln) (u : Option Addr) (c H : Nat) (hH : w.heap.size = H)
    (hx : a.eval x = .slice (some ⟨H, 0, none⟩) 1 1) (hu : IntsAt w base u y.2) (hu2 : y.2 ≠ [] → ∀ ad, u = some ad → some ad.block ≠ v.ownBlock) (hl : l.length ≤ 4194304) (hbase : base ≤ w.heap.size)
    (h : ∀ g cap w', Lns w' base (.slice (some ⟨g, 0, none⟩) (l.length + 1) cap) (l ++ [y]) (xs ++ [.string (bs y.1), .slice u y.2.length c]) → Below base w w' → K (a.put o.dst (.slice (some ⟨g, 0, none⟩) (l.length + 1) cap)) w') :
    if Region.wanted o (yielded ops a.tmps) = true then Oper.wp Tryz.prog o a (w.alloc (.cells #[.string (bs y.1), .slice u y.2.length c] 44)) K Q else E := by
  subst hH
  obtain ⟨i0, hi, hz0, hz1, hz2⟩ := info_parts infoLn
  have k1 : Below w.heap.size w (w.alloc (.cells #[.string (bs y.1), .slice u y.2.length c] 44)) := (Below.refl _ _).alloc (Nat.le_refl _) _
  have hown1 := hown.keep k1
  refine step_append_lies (w.alloc (.cells #[.string (bs y.1), .slice u y.2.length c] 44)) hgd s x 40 ho base 44 i0 (.agg #[.string ⟨#[]⟩, .slice none 0 0]) 2 40 Tryz.underlying40 hi hz0 hz1 hz2 rfl (by decide) v l.length xs hs hown1.row ⟨w.heap.size, 0, none⟩ 1 1 [.string (bs y.1), .slice u y.2.length c] hx (by simp) (lit_two rfl) (by simp [Value.oneCell']) (by decide) (by unfold maxLen; omega) (by omega) (by have := k1.size; omega) _ rfl ?_
  intro g cap w' h1 h2 h3 h4
  refine h g cap w' (hown1.push (news := [y]) (by simp) (fun j hj => ?_) h1 h2 h3) ?_
  · have hj0 : j = 0 := by simp at hj; omega
    subst hj0
    exact ⟨u, c, rfl, rfl, ⟨hu.keep (agree_of_below k1 _), hu2⟩⟩
  · exact ((Below.refl base w).alloc hbase _).grown h2 (by have := k1.size; omega) (fun k hk => (hown1.row.lt k hk).1)
theorem Lns.low {w : World} {base base' : Nat} {v : Value} {l : List Ln} {xs : List Value} (h : Lns w base v l xs) (hb : base' ≤ base) : Lns w base' v l xs := by
  refine ⟨⟨h.row.1, ?_⟩, fun j hj => ?_⟩
  · rcases h.row.2 with k | ⟨g, cap, cur, h1, h2, r⟩
    · exact .inl k
    · exact .inr ⟨g, cap, cur, h1, by omega, r⟩
  · obtain ⟨a, c, h1, h2, h3⟩ := h.cells j hj
    exact ⟨a, c, h1, h2, ⟨h3.ints.low hb, h3.off⟩⟩
/-- Lines that were told. -/
def LinesTold (w : World) (base : Nat) (l : List Ln) (e : Ending) : Prop := ∃ g c xs, e = .returned (.slice (some ⟨g, 0, none⟩) l.length c) ∧ Lns w base (.slice (some ⟨g, 0, none⟩) l.length c) l xs
end Go.Proofs.YtjpiiemhklphlaaGreatDoor
