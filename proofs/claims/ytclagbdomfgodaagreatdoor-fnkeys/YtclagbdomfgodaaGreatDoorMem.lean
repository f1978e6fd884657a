/- Lists of numbers and of records in memory: what a slice holds, and that it stays where memory stays. No function of the program is named here. -/
import Derived.Test.YtclagbdomfgodaaGreatDoorRows
import Derived.WalkKit
import Derived.WalkSpells
namespace Go.Proofs.YtclagbdomfgodaaGreatDoor
open Go.RowKit

structure PhiD where
  w : Int
  ins : List Int
structure InstD where
  op : Int
  w : Int
  a : Int
  b : Int
  c : Int
  imm : Int
  args : List Int
structure TermD where
  kind : Int
  a : Int
  x : Int
  y : Int
structure BlockD where
  phis : List PhiD
  insts : List InstD
  term : TermD
structure FuncD where
  params : List Int
  ret : Int
  blocks : List BlockD
def phi0 : PhiD := ⟨0, []⟩
def inst0 : InstD := ⟨0, 0, 0, 0, 0, 0, []⟩
def term0 : TermD := ⟨0, 0, 0, 0⟩
def block0 : BlockD := ⟨[], [], term0⟩
def func0 : FuncD := ⟨[], 0, []⟩

/-- From block lo on all that was there is as it was. -/
def Agree (lo : Nat) (w w' : World) : Prop := w.heap.size ≤ w'.heap.size ∧ ∀ b, lo ≤ b → b < w.heap.size → w'.heap[b]? = w.heap[b]?
theorem Agree.refl (lo : Nat) (w : World) : Agree lo w w := ⟨Nat.le_refl _, fun _ _ _ => rfl⟩
theorem Agree.trans {lo : Nat} {a b c : World} (h : Agree lo a b) (k : Agree lo b c) : Agree lo a c :=
  ⟨Nat.le_trans h.1 k.1, fun i hi hl => (k.2 i hi (Nat.lt_of_lt_of_le hl h.1)).trans (h.2 i hi hl)⟩
theorem Agree.mono {lo lo' : Nat} {a b : World} (h : Agree lo a b) (hl : lo ≤ lo') : Agree lo' a b := ⟨h.1, fun i hi hb => h.2 i (Nat.le_trans hl hi) hb⟩
theorem agree_of_below {w w' : World} (h : Below w.heap.size w w') (lo : Nat) : Agree lo w w' := ⟨h.size, fun b _ hb => h.block b hb⟩
theorem agree_alloc (w : World) (o : Obj) (lo : Nat) : Agree lo w (w.alloc o) := ⟨by simp, fun b _ hb => Below.heap_alloc w o b hb⟩
theorem agree_setCell (w : World) (g o lo : Nat) (v : Value) (h : g < lo) : Agree lo w (w.setCell ⟨g, o, none⟩ v) :=
  ⟨by simp [World.setCell], fun b hb _ => Below.heap_setCell _ _ _ _ (by show b ≠ g; omega)⟩
theorem cell_block {w w' : World} {b o : Nat} (h : w'.heap[b]? = w.heap[b]?) : w'.cell? ⟨b, o, none⟩ = w.cell? ⟨b, o, none⟩ := by
  unfold World.cell?; rw [h]
theorem cell_agree {lo : Nat} {w w' : World} (h : Agree lo w w') {b o : Nat} (hl : lo ≤ b) (hb : b < w.heap.size) : w'.cell? ⟨b, o, none⟩ = w.cell? ⟨b, o, none⟩ := by
  unfold World.cell?; rw [h.2 b hl hb]
theorem bcell {W w1 : World} (hb : Below W.heap.size W w1) : ∀ b o, b < W.heap.size → w1.cell? ⟨b, o, none⟩ = W.cell? ⟨b, o, none⟩ := fun b o h => hb.cell (p := ⟨b, o, none⟩) h
theorem bfroz {W w1 : World} (hb : Below W.heap.size W w1) : ∀ b o, b < W.heap.size → w1.frozen? ⟨b, o, none⟩ = W.frozen? ⟨b, o, none⟩ := fun b o h => hb.frozen (p := ⟨b, o, none⟩) h
theorem drop_get {α : Type} (z : α) (l : List α) (k : Nat) (h : k < l.length) : l.drop k = l.getD k z :: l.drop (k + 1) := by
  rw [List.drop_eq_getElem_cons h]; simp [List.getD, h]
theorem getD_mem {α : Type} (z : α) (l : List α) (k : Nat) (h : k < l.length) : l.getD k z ∈ l := by simp [List.getD, h]

/-- A slice of numbers, in a block from lo on. -/
def IntsAt (w : World) (lo : Nat) (a : Option Addr) (l : List Int) : Prop :=
  l.length ≤ 9223372036854775807 ∧ (l = [] ∨ ∃ b off, a = some ⟨b, off, none⟩ ∧ lo ≤ b ∧ b < w.heap.size ∧ ∀ i, i < l.length → w.cell? ⟨b, off + i, none⟩ = some (.int .i64 (l.getD i 0)))
def PhisAt (w : World) (lo : Nat) (a : Option Addr) (l : List PhiD) : Prop :=
  l.length ≤ 9223372036854775807 ∧ (l = [] ∨ ∃ b off, a = some ⟨b, off, none⟩ ∧ lo ≤ b ∧ b < w.heap.size ∧ ∀ i, i < l.length →
    w.cell? ⟨b, off + i * 2, none⟩ = some (.int .i64 (l.getD i phi0).w) ∧
    (∃ u c, w.cell? ⟨b, off + i * 2 + 1, none⟩ = some (.slice u (l.getD i phi0).ins.length c) ∧ IntsAt w lo u (l.getD i phi0).ins))
def InstsAt (w : World) (lo : Nat) (a : Option Addr) (l : List InstD) : Prop :=
  l.length ≤ 9223372036854775807 ∧ (l = [] ∨ ∃ b off, a = some ⟨b, off, none⟩ ∧ lo ≤ b ∧ b < w.heap.size ∧ ∀ i, i < l.length →
    w.cell? ⟨b, off + i * 7, none⟩ = some (.int .i64 (l.getD i inst0).op) ∧
    w.cell? ⟨b, off + i * 7 + 1, none⟩ = some (.int .i64 (l.getD i inst0).w) ∧
    w.cell? ⟨b, off + i * 7 + 2, none⟩ = some (.int .i64 (l.getD i inst0).a) ∧
    w.cell? ⟨b, off + i * 7 + 3, none⟩ = some (.int .i64 (l.getD i inst0).b) ∧
    w.cell? ⟨b, off + i * 7 + 4, none⟩ = some (.int .i64 (l.getD i inst0).c) ∧
    w.cell? ⟨b, off + i * 7 + 5, none⟩ = some (.int .i64 (l.getD i inst0).imm) ∧
    (∃ u c, w.cell? ⟨b, off + i * 7 + 6, none⟩ = some (.slice u (l.getD i inst0).args.length c) ∧ IntsAt w lo u (l.getD i inst0).args))
def BlocksAt (w : World) (lo : Nat) (a : Option Addr) (l : List BlockD) : Prop :=
  l.length ≤ 9223372036854775807 ∧ (l = [] ∨ ∃ b off, a = some ⟨b, off, none⟩ ∧ lo ≤ b ∧ b < w.heap.size ∧ ∀ i, i < l.length →
    (∃ u c, w.cell? ⟨b, off + i * 6, none⟩ = some (.slice u (l.getD i block0).phis.length c) ∧ PhisAt w lo u (l.getD i block0).phis) ∧
    (∃ u c, w.cell? ⟨b, off + i * 6 + 1, none⟩ = some (.slice u (l.getD i block0).insts.length c) ∧ InstsAt w lo u (l.getD i block0).insts) ∧
    w.cell? ⟨b, off + i * 6 + 2, none⟩ = some (.int .i64 (l.getD i block0).term.kind) ∧
    w.cell? ⟨b, off + i * 6 + 3, none⟩ = some (.int .i64 (l.getD i block0).term.a) ∧
    w.cell? ⟨b, off + i * 6 + 4, none⟩ = some (.int .i64 (l.getD i block0).term.x) ∧
    w.cell? ⟨b, off + i * 6 + 5, none⟩ = some (.int .i64 (l.getD i block0).term.y))
def FuncsAt (w : World) (lo : Nat) (a : Option Addr) (l : List FuncD) : Prop :=
  l.length ≤ 9223372036854775807 ∧ (l = [] ∨ ∃ b off, a = some ⟨b, off, none⟩ ∧ lo ≤ b ∧ b < w.heap.size ∧ ∀ i, i < l.length →
    (∃ u c, w.cell? ⟨b, off + i * 3, none⟩ = some (.slice u (l.getD i func0).params.length c) ∧ IntsAt w lo u (l.getD i func0).params) ∧
    w.cell? ⟨b, off + i * 3 + 1, none⟩ = some (.int .i64 (l.getD i func0).ret) ∧
    (∃ u c, w.cell? ⟨b, off + i * 3 + 2, none⟩ = some (.slice u (l.getD i func0).blocks.length c) ∧ BlocksAt w lo u (l.getD i func0).blocks))
theorem IntsAt.keep {w w' : World} {lo : Nat} {a : Option Addr} {l : List Int} (h : IntsAt w lo a l) (k : Agree lo w w') : IntsAt w' lo a l := by
  obtain ⟨hm, h⟩ := h
  refine ⟨hm, ?_⟩
  rcases h with h | ⟨b, off, ha, hl, hb, hc⟩
  · exact .inl h
  · exact .inr ⟨b, off, ha, hl, Nat.lt_of_lt_of_le hb k.1, fun i hi => (cell_agree k hl hb).trans (hc i hi)⟩
theorem IntsAt.low {w : World} {lo lo' : Nat} {a : Option Addr} {l : List Int} (h : IntsAt w lo a l) (k : lo' ≤ lo) : IntsAt w lo' a l := by
  obtain ⟨hm, h⟩ := h
  refine ⟨hm, ?_⟩
  rcases h with h | ⟨b, off, ha, hl, hb, hc⟩
  · exact .inl h
  · exact .inr ⟨b, off, ha, Nat.le_trans k hl, hb, hc⟩
theorem PhisAt.keep {w w' : World} {lo : Nat} {a : Option Addr} {l : List PhiD} (h : PhisAt w lo a l) (k : Agree lo w w') : PhisAt w' lo a l := by
  obtain ⟨hm, h⟩ := h
  refine ⟨hm, ?_⟩
  rcases h with h | ⟨b, off, ha, hl, hb, hc⟩
  · exact .inl h
  · refine .inr ⟨b, off, ha, hl, Nat.lt_of_lt_of_le hb k.1, fun i hi => ?_⟩
    obtain ⟨h0, ⟨u1, c1, h1, k1⟩⟩ := hc i hi
    exact ⟨(cell_agree k hl hb).trans h0, ⟨u1, c1, (cell_agree k hl hb).trans h1, k1.keep k⟩⟩
theorem PhisAt.low {w : World} {lo lo' : Nat} {a : Option Addr} {l : List PhiD} (h : PhisAt w lo a l) (k : lo' ≤ lo) : PhisAt w lo' a l := by
  obtain ⟨hm, h⟩ := h
  refine ⟨hm, ?_⟩
  rcases h with h | ⟨b, off, ha, hl, hb, hc⟩
  · exact .inl h
  · refine .inr ⟨b, off, ha, Nat.le_trans k hl, hb, fun i hi => ?_⟩
    obtain ⟨h0, ⟨u1, c1, h1, k1⟩⟩ := hc i hi
    exact ⟨h0, ⟨u1, c1, h1, k1.low k⟩⟩
theorem InstsAt.keep {w w' : World} {lo : Nat} {a : Option Addr} {l : List InstD} (h : InstsAt w lo a l) (k : Agree lo w w') : InstsAt w' lo a l := by
  obtain ⟨hm, h⟩ := h
  refine ⟨hm, ?_⟩
  rcases h with h | ⟨b, off, ha, hl, hb, hc⟩
  · exact .inl h
  · refine .inr ⟨b, off, ha, hl, Nat.lt_of_lt_of_le hb k.1, fun i hi => ?_⟩
    obtain ⟨h0, h1, h2, h3, h4, h5, ⟨u6, c6, h6, k6⟩⟩ := hc i hi
    exact ⟨(cell_agree k hl hb).trans h0, (cell_agree k hl hb).trans h1, (cell_agree k hl hb).trans h2, (cell_agree k hl hb).trans h3, (cell_agree k hl hb).trans h4, (cell_agree k hl hb).trans h5, ⟨u6, c6, (cell_agree k hl hb).trans h6, k6.keep k⟩⟩
theorem InstsAt.low {w : World} {lo lo' : Nat} {a : Option Addr} {l : List InstD} (h : InstsAt w lo a l) (k : lo' ≤ lo) : InstsAt w lo' a l := by
  obtain ⟨hm, h⟩ := h
  refine ⟨hm, ?_⟩
  rcases h with h | ⟨b, off, ha, hl, hb, hc⟩
  · exact .inl h
  · refine .inr ⟨b, off, ha, Nat.le_trans k hl, hb, fun i hi => ?_⟩
    obtain ⟨h0, h1, h2, h3, h4, h5, ⟨u6, c6, h6, k6⟩⟩ := hc i hi
    exact ⟨h0, h1, h2, h3, h4, h5, ⟨u6, c6, h6, k6.low k⟩⟩
theorem BlocksAt.keep {w w' : World} {lo : Nat} {a : Option Addr} {l : List BlockD} (h : BlocksAt w lo a l) (k : Agree lo w w') : BlocksAt w' lo a l := by
  obtain ⟨hm, h⟩ := h
  refine ⟨hm, ?_⟩
  rcases h with h | ⟨b, off, ha, hl, hb, hc⟩
  · exact .inl h
  · refine .inr ⟨b, off, ha, hl, Nat.lt_of_lt_of_le hb k.1, fun i hi => ?_⟩
    obtain ⟨⟨u0, c0, h0, k0⟩, ⟨u1, c1, h1, k1⟩, h2, h3, h4, h5⟩ := hc i hi
    exact ⟨⟨u0, c0, (cell_agree k hl hb).trans h0, k0.keep k⟩, ⟨u1, c1, (cell_agree k hl hb).trans h1, k1.keep k⟩, (cell_agree k hl hb).trans h2, (cell_agree k hl hb).trans h3, (cell_agree k hl hb).trans h4, (cell_agree k hl hb).trans h5⟩
theorem BlocksAt.low {w : World} {lo lo' : Nat} {a : Option Addr} {l : List BlockD} (h : BlocksAt w lo a l) (k : lo' ≤ lo) : BlocksAt w lo' a l := by
  obtain ⟨hm, h⟩ := h
  refine ⟨hm, ?_⟩
  rcases h with h | ⟨b, off, ha, hl, hb, hc⟩
  · exact .inl h
  · refine .inr ⟨b, off, ha, Nat.le_trans k hl, hb, fun i hi => ?_⟩
    obtain ⟨⟨u0, c0, h0, k0⟩, ⟨u1, c1, h1, k1⟩, h2, h3, h4, h5⟩ := hc i hi
    exact ⟨⟨u0, c0, h0, k0.low k⟩, ⟨u1, c1, h1, k1.low k⟩, h2, h3, h4, h5⟩
theorem FuncsAt.keep {w w' : World} {lo : Nat} {a : Option Addr} {l : List FuncD} (h : FuncsAt w lo a l) (k : Agree lo w w') : FuncsAt w' lo a l := by
  obtain ⟨hm, h⟩ := h
  refine ⟨hm, ?_⟩
  rcases h with h | ⟨b, off, ha, hl, hb, hc⟩
  · exact .inl h
  · refine .inr ⟨b, off, ha, hl, Nat.lt_of_lt_of_le hb k.1, fun i hi => ?_⟩
    obtain ⟨⟨u0, c0, h0, k0⟩, h1, ⟨u2, c2, h2, k2⟩⟩ := hc i hi
    exact ⟨⟨u0, c0, (cell_agree k hl hb).trans h0, k0.keep k⟩, (cell_agree k hl hb).trans h1, ⟨u2, c2, (cell_agree k hl hb).trans h2, k2.keep k⟩⟩
theorem FuncsAt.low {w : World} {lo lo' : Nat} {a : Option Addr} {l : List FuncD} (h : FuncsAt w lo a l) (k : lo' ≤ lo) : FuncsAt w lo' a l := by
  obtain ⟨hm, h⟩ := h
  refine ⟨hm, ?_⟩
  rcases h with h | ⟨b, off, ha, hl, hb, hc⟩
  · exact .inl h
  · refine .inr ⟨b, off, ha, Nat.le_trans k hl, hb, fun i hi => ?_⟩
    obtain ⟨⟨u0, c0, h0, k0⟩, h1, ⟨u2, c2, h2, k2⟩⟩ := hc i hi
    exact ⟨⟨u0, c0, h0, k0.low k⟩, h1, ⟨u2, c2, h2, k2.low k⟩⟩
end Go.Proofs.YtclagbdomfgodaaGreatDoor
