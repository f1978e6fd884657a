/- Lists of numbers and of records in memory: what a slice holds, and that it stays where memory stays. No function of the program is named here. -/
import Derived.Test.YtoknhppjdmoblaaGreatDoorRows
import Derived.WalkKit
import Derived.WalkSpells
import Derived.Deep.QuietTactic
import Derived.BigQuiet
import Derived.Deep.RegionWith
import Derived.WalkSmall
namespace Go.Proofs.YtoknhppjdmoblaaGreatDoor
open Go.RowKit

structure PhiD where
  w : Int
  ins : List Int
structure InstD where
  op : Int
  w : Int
  a : Int
  b : Int
  c : Int
  imm : Int
  args : List Int
structure TermD where
  kind : Int
  a : Int
  x : Int
  y : Int
structure BlockD where
  phis : List PhiD
  insts : List InstD
  term : TermD
structure FuncD where
  params : List Int
  ret : Int
  blocks : List BlockD
def phi0 : PhiD := ⟨0, []⟩
def inst0 : InstD := ⟨0, 0, 0, 0, 0, 0, []⟩
def term0 : TermD := ⟨0, 0, 0, 0⟩
def block0 : BlockD := ⟨[], [], term0⟩
def func0 : FuncD := ⟨[], 0, []⟩

/-- From block lo on all that was there is as it was. -/
def Agree (lo : Nat) (w w' : World) : Prop := w.heap.size ≤ w'.heap.size ∧ ∀ b, lo ≤ b → b < w.heap.size → w'.heap[b]? = w.heap[b]?
theorem Agree.refl (lo : Nat) (w : World) : Agree lo w w := ⟨Nat.le_refl _, fun _ _ _ => rfl⟩
theorem Agree.trans {lo : Nat} {a b c : World} (h : Agree lo a b) (k : Agree lo b c) : Agree lo a c :=
  ⟨Nat.le_trans h.1 k.1, fun i hi hl => (k.2 i hi (Nat.lt_of_lt_of_le hl h.1)).trans (h.2 i hi hl)⟩
theorem Agree.mono {lo lo' : Nat} {a b : World} (h : Agree lo a b) (hl : lo ≤ lo') : Agree lo' a b := ⟨h.1, fun i hi hb => h.2 i (Nat.le_trans hl hi) hb⟩
theorem agree_of_below {w w' : World} (h : Below w.heap.size w w') (lo : Nat) : Agree lo w w' := ⟨h.size, fun b _ hb => h.block b hb⟩
theorem agree_alloc (w : World) (o : Obj) (lo : Nat) : Agree lo w (w.alloc o) := ⟨by simp, fun b _ hb => Below.heap_alloc w o b hb⟩
theorem agree_setCell (w : World) (g o lo : Nat) (v : Value) (h : g < lo) : Agree lo w (w.setCell ⟨g, o, none⟩ v) :=
  ⟨by simp [World.setCell], fun b hb _ => Below.heap_setCell _ _ _ _ (by show b ≠ g; omega)⟩
theorem cell_block {w w' : World} {b o : Nat} (h : w'.heap[b]? = w.heap[b]?) : w'.cell? ⟨b, o, none⟩ = w.cell? ⟨b, o, none⟩ := by
  unfold World.cell?; rw [h]
theorem cell_agree {lo : Nat} {w w' : World} (h : Agree lo w w') {b o : Nat} (hl : lo ≤ b) (hb : b < w.heap.size) : w'.cell? ⟨b, o, none⟩ = w.cell? ⟨b, o, none⟩ := by
  unfold World.cell?; rw [h.2 b hl hb]
theorem bcell {W w1 : World} (hb : Below W.heap.size W w1) : ∀ b o, b < W.heap.size → w1.cell? ⟨b, o, none⟩ = W.cell? ⟨b, o, none⟩ := fun b o h => hb.cell (p := ⟨b, o, none⟩) h
theorem bfroz {W w1 : World} (hb : Below W.heap.size W w1) : ∀ b o, b < W.heap.size → w1.frozen? ⟨b, o, none⟩ = W.frozen? ⟨b, o, none⟩ := fun b o h => hb.frozen (p := ⟨b, o, none⟩) h
theorem drop_get {α : Type} (z : α) (l : List α) (k : Nat) (h : k < l.length) : l.drop k = l.getD k z :: l.drop (k + 1) := by
  rw [List.drop_eq_getElem_cons h]; simp [List.getD, h]
theorem getD_mem {α : Type} (z : α) (l : List α) (k : Nat) (h : k < l.length) : l.getD k z ∈ l := by simp [List.getD, h]

/-- A slice of numbers, in a block from lo on. -/
def IntsAt (w : World) (lo : Nat) (a : Option Addr) (l : List Int) : Prop :=
  l.length ≤ 9223372036854775807 ∧ (l = [] ∨ ∃ b off, a = some ⟨b, off, none⟩ ∧ lo ≤ b ∧ b < w.heap.size ∧ ∀ i, i < l.length → w.cell? ⟨b, off + i, none⟩ = some (.int .i64 (l.getD i 0)))
def PhisAt (w : World) (lo : Nat) (a : Option Addr) (l : List PhiD) : Prop :=
  l.length ≤ 9223372036854775807 ∧ (l = [] ∨ ∃ b off, a = some ⟨b, off, none⟩ ∧ lo ≤ b ∧ b < w.heap.size ∧ ∀ i, i < l.length →
    w.cell? ⟨b, off + i * 2, none⟩ = some (.int .i64 (l.getD i phi0).w) ∧
    (∃ u c, w.cell? ⟨b, off + i * 2 + 1, none⟩ = some (.slice u (l.getD i phi0).ins.length c) ∧ IntsAt w lo u (l.getD i phi0).ins))
def InstsAt (w : World) (lo : Nat) (a : Option Addr) (l : List InstD) : Prop :=
  l.length ≤ 9223372036854775807 ∧ (l = [] ∨ ∃ b off, a = some ⟨b, off, none⟩ ∧ lo ≤ b ∧ b < w.heap.size ∧ ∀ i, i < l.length →
    w.cell? ⟨b, off + i * 7, none⟩ = some (.int .i64 (l.getD i inst0).op) ∧
    w.cell? ⟨b, off + i * 7 + 1, none⟩ = some (.int .i64 (l.getD i inst0).w) ∧
    w.cell? ⟨b, off + i * 7 + 2, none⟩ = some (.int .i64 (l.getD i inst0).a) ∧
    w.cell? ⟨b, off + i * 7 + 3, none⟩ = some (.int .i64 (l.getD i inst0).b) ∧
    w.cell? ⟨b, off + i * 7 + 4, none⟩ = some (.int .i64 (l.getD i inst0).c) ∧
    w.cell? ⟨b, off + i * 7 + 5, none⟩ = some (.int .i64 (l.getD i inst0).imm) ∧
    (∃ u c, w.cell? ⟨b, off + i * 7 + 6, none⟩ = some (.slice u (l.getD i inst0).args.length c) ∧ IntsAt w lo u (l.getD i inst0).args))
def BlocksAt (w : World) (lo : Nat) (a : Option Addr) (l : List BlockD) : Prop :=
  l.length ≤ 9223372036854775807 ∧ (l = [] ∨ ∃ b off, a = some ⟨b, off, none⟩ ∧ lo ≤ b ∧ b < w.heap.size ∧ ∀ i, i < l.length →
    (∃ u c, w.cell? ⟨b, off + i * 6, none⟩ = some (.slice u (l.getD i block0).phis.length c) ∧ PhisAt w lo u (l.getD i block0).phis) ∧
    (∃ u c, w.cell? ⟨b, off + i * 6 + 1, none⟩ = some (.slice u (l.getD i block0).insts.length c) ∧ InstsAt w lo u (l.getD i block0).insts) ∧
    w.cell? ⟨b, off + i * 6 + 2, none⟩ = some (.int .i64 (l.getD i block0).term.kind) ∧
    w.cell? ⟨b, off + i * 6 + 3, none⟩ = some (.int .i64 (l.getD i block0).term.a) ∧
    w.cell? ⟨b, off + i * 6 + 4, none⟩ = some (.int .i64 (l.getD i block0).term.x) ∧
    w.cell? ⟨b, off + i * 6 + 5, none⟩ = some (.int .i64 (l.getD i block0).term.y))
def FuncsAt (w : World) (lo : Nat) (a : Option Addr) (l : List FuncD) : Prop :=
  l.length ≤ 9223372036854775807 ∧ (l = [] ∨ ∃ b off, a = some ⟨b, off, none⟩ ∧ lo ≤ b ∧ b < w.heap.size ∧ ∀ i, i < l.length →
    (∃ u c, w.cell? ⟨b, off + i * 3, none⟩ = some (.slice u (l.getD i func0).params.length c) ∧ IntsAt w lo u (l.getD i func0).params) ∧
    w.cell? ⟨b, off + i * 3 + 1, none⟩ = some (.int .i64 (l.getD i func0).ret) ∧
    (∃ u c, w.cell? ⟨b, off + i * 3 + 2, none⟩ = some (.slice u (l.getD i func0).blocks.length c) ∧ BlocksAt w lo u (l.getD i func0).blocks))
theorem IntsAt.keep {w w' : World} {lo : Nat} {a : Option Addr} {l : List Int} (h : IntsAt w lo a l) (k : Agree lo w w') : IntsAt w' lo a l := by
  obtain ⟨hm, h⟩ := h
  refine ⟨hm, ?_⟩
  rcases h with h | ⟨b, off, ha, hl, hb, hc⟩
  · exact .inl h
  · exact .inr ⟨b, off, ha, hl, Nat.lt_of_lt_of_le hb k.1, fun i hi => (cell_agree k hl hb).trans (hc i hi)⟩
theorem IntsAt.low {w : World} {lo lo' : Nat} {a : Option Addr} {l : List Int} (h : IntsAt w lo a l) (k : lo' ≤ lo) : IntsAt w lo' a l := by
  obtain ⟨hm, h⟩ := h
  refine ⟨hm, ?_⟩
  rcases h with h | ⟨b, off, ha, hl, hb, hc⟩
  · exact .inl h
  · exact .inr ⟨b, off, ha, Nat.le_trans k hl, hb, hc⟩
theorem PhisAt.keep {w w' : World} {lo : Nat} {a : Option Addr} {l : List PhiD} (h : PhisAt w lo a l) (k : Agree lo w w') : PhisAt w' lo a l := by
  obtain ⟨hm, h⟩ := h
  refine ⟨hm, ?_⟩
  rcases h with h | ⟨b, off, ha, hl, hb, hc⟩
  · exact .inl h
  · refine .inr ⟨b, off, ha, hl, Nat.lt_of_lt_of_le hb k.1, fun i hi => ?_⟩
    obtain ⟨h0, ⟨u1, c1, h1, k1⟩⟩ := hc i hi
    exact ⟨(cell_agree k hl hb).trans h0, ⟨u1, c1, (cell_agree k hl hb).trans h1, k1.keep k⟩⟩
theorem PhisAt.low {w : World} {lo lo' : Nat} {a : Option Addr} {l : List PhiD} (h : PhisAt w lo a l) (k : lo' ≤ lo) : PhisAt w lo' a l := by
  obtain ⟨hm, h⟩ := h
  refine ⟨hm, ?_⟩
  rcases h with h | ⟨b, off, ha, hl, hb, hc⟩
  · exact .inl h
  · refine .inr ⟨b, off, ha, Nat.le_trans k hl, hb, fun i hi => ?_⟩
    obtain ⟨h0, ⟨u1, c1, h1, k1⟩⟩ := hc i hi
    exact ⟨h0, ⟨u1, c1, h1, k1.low k⟩⟩
theorem InstsAt.keep {w w' : World} {lo : Nat} {a : Option Addr} {l : List InstD} (h : InstsAt w lo a l) (k : Agree lo w w') : InstsAt w' lo a l := by
  obtain ⟨hm, h⟩ := h
  refine ⟨hm, ?_⟩
  rcases h with h | ⟨b, off, ha, hl, hb, hc⟩
  · exact .inl h
  · refine .inr ⟨b, off, ha, hl, Nat.lt_of_lt_of_le hb k.1, fun i hi => ?_⟩
    obtain ⟨h0, h1, h2, h3, h4, h5, ⟨u6, c6, h6, k6⟩⟩ := hc i hi
    exact ⟨(cell_agree k hl hb).trans h0, (cell_agree k hl hb).trans h1, (cell_agree k hl hb).trans h2, (cell_agree k hl hb).trans h3, (cell_agree k hl hb).trans h4, (cell_agree k hl hb).trans h5, ⟨u6, c6, (cell_agree k hl hb).trans h6, k6.keep k⟩⟩
theorem InstsAt.low {w : World} {lo lo' : Nat} {a : Option Addr} {l : List InstD} (h : InstsAt w lo a l) (k : lo' ≤ lo) : InstsAt w lo' a l := by
  obtain ⟨hm, h⟩ := h
  refine ⟨hm, ?_⟩
  rcases h with h | ⟨b, off, ha, hl, hb, hc⟩
  · exact .inl h
  · refine .inr ⟨b, off, ha, Nat.le_trans k hl, hb, fun i hi => ?_⟩
    obtain ⟨h0, h1, h2, h3, h4, h5, ⟨u6, c6, h6, k6⟩⟩ := hc i hi
    exact ⟨h0, h1, h2, h3, h4, h5, ⟨u6, c6, h6, k6.low k⟩⟩
theorem BlocksAt.keep {w w' : World} {lo : Nat} {a : Option Addr} {l : List BlockD} (h : BlocksAt w lo a l) (k : Agree lo w w') : BlocksAt w' lo a l := by
  obtain ⟨hm, h⟩ := h
  refine ⟨hm, ?_⟩
  rcases h with h | ⟨b, off, ha, hl, hb, hc⟩
  · exact .inl h
  · refine .inr ⟨b, off, ha, hl, Nat.lt_of_lt_of_le hb k.1, fun i hi => ?_⟩
    obtain ⟨⟨u0, c0, h0, k0⟩, ⟨u1, c1, h1, k1⟩, h2, h3, h4, h5⟩ := hc i hi
    exact ⟨⟨u0, c0, (cell_agree k hl hb).trans h0, k0.keep k⟩, ⟨u1, c1, (cell_agree k hl hb).trans h1, k1.keep k⟩, (cell_agree k hl hb).trans h2, (cell_agree k hl hb).trans h3, (cell_agree k hl hb).trans h4, (cell_agree k hl hb).trans h5⟩
theorem BlocksAt.low {w : World} {lo lo' : Nat} {a : Option Addr} {l : List BlockD} (h : BlocksAt w lo a l) (k : lo' ≤ lo) : BlocksAt w lo' a l := by
  obtain ⟨hm, h⟩ := h
  refine ⟨hm, ?_⟩
  rcases h with h | ⟨b, off, ha, hl, hb, hc⟩
  · exact .inl h
  · refine .inr ⟨b, off, ha, Nat.le_trans k hl, hb, fun i hi => ?_⟩
    obtain ⟨⟨u0, c0, h0, k0⟩, ⟨u1, c1, h1, k1⟩, h2, h3, h4, h5⟩ := hc i hi
    exact ⟨⟨u0, c0, h0, k0.low k⟩, ⟨u1, c1, h1, k1.low k⟩, h2, h3, h4, h5⟩
theorem FuncsAt.keep {w w' : World} {lo : Nat} {a : Option Addr} {l : List FuncD} (h : FuncsAt w lo a l) (k : Agree lo w w') : FuncsAt w' lo a l := by
  obtain ⟨hm, h⟩ := h
  refine ⟨hm, ?_⟩
  rcases h with h | ⟨b, off, ha, hl, hb, hc⟩
  · exact .inl h
  · refine .inr ⟨b, off, ha, hl, Nat.lt_of_lt_of_le hb k.1, fun i hi => ?_⟩
    obtain ⟨⟨u0, c0, h0, k0⟩, h1, ⟨u2, c2, h2, k2⟩⟩ := hc i hi
    exact ⟨⟨u0, c0, (cell_agree k hl hb).trans h0, k0.keep k⟩, (cell_agree k hl hb).trans h1, ⟨u2, c2, (cell_agree k hl hb).trans h2, k2.keep k⟩⟩
theorem FuncsAt.low {w : World} {lo lo' : Nat} {a : Option Addr} {l : List FuncD} (h : FuncsAt w lo a l) (k : lo' ≤ lo) : FuncsAt w lo' a l := by
  obtain ⟨hm, h⟩ := h
  refine ⟨hm, ?_⟩
  rcases h with h | ⟨b, off, ha, hl, hb, hc⟩
  · exact .inl h
  · refine .inr ⟨b, off, ha, Nat.le_trans k hl, hb, fun i hi => ?_⟩
    obtain ⟨⟨u0, c0, h0, k0⟩, h1, ⟨u2, c2, h2, k2⟩⟩ := hc i hi
    exact ⟨⟨u0, c0, h0, k0.low k⟩, h1, ⟨u2, c2, h2, k2.low k⟩⟩
end Go.Proofs.YtoknhppjdmoblaaGreatDoor
namespace Go.Proofs.YtoknhppjdmoblaaGreatDoor
open Go.RowKit

def szI (n : Nat) (left : Int) : Int := if left - n < 0 then -1 else left - n
def szL {α : Type} (f : α → Int → Int) : List α → Int → Int
  | [], x => x
  | d :: r, x => if f d x < 0 then -1 else szL f r (f d x)
def szS {α : Type} (f : α → Int → Int) (l : List α) (x : Int) : Int := if x - l.length < 0 then -1 else szL f l (x - l.length)
/-- What is left is -1, or no more than was there. -/
def Falls {α : Type} (f : α → Int → Int) : Prop := ∀ d x, 0 ≤ x → f d x = -1 ∨ (0 ≤ f d x ∧ f d x ≤ x)
theorem szI_falls (n : Nat) (x : Int) : szI n x = -1 ∨ (0 ≤ szI n x ∧ szI n x ≤ x) := by unfold szI; split <;> omega
theorem szL_falls {α : Type} {f : α → Int → Int} (hf : Falls f) : ∀ (l : List α) (x : Int), 0 ≤ x → szL f l x = -1 ∨ (0 ≤ szL f l x ∧ szL f l x ≤ x)
  | [], x, hx => .inr ⟨hx, Int.le_refl _⟩
  | d :: r, x, hx => by
    unfold szL
    rcases hf d x hx with h | ⟨h, h'⟩
    · rw [if_pos (by omega)]; exact .inl rfl
    · rw [if_neg (by omega)]
      rcases szL_falls hf r (f d x) h with k | ⟨k, k'⟩
      · exact .inl k
      · exact .inr ⟨k, by omega⟩
theorem szS_falls {α : Type} {f : α → Int → Int} (hf : Falls f) (l : List α) (x : Int) : szS f l x = -1 ∨ (0 ≤ szS f l x ∧ szS f l x ≤ x) := by
  unfold szS; split
  · exact .inl rfl
  · rcases szL_falls hf l (x - l.length) (by omega) with h | h
    · exact .inl h
    · exact .inr ⟨h.1, by omega⟩
theorem szL_each {α : Type} {f : α → Int → Int} (hf : Falls f) : ∀ (l : List α) (x : Int), 0 ≤ x → 0 ≤ szL f l x → ∀ d ∈ l, ∃ y, 0 ≤ y ∧ y ≤ x ∧ 0 ≤ f d y
  | [], _, _, _, _, hd => by cases hd
  | c :: r, x, hx, h, d, hd => by
    unfold szL at h
    rcases hf c x hx with k | ⟨k, k'⟩
    · rw [if_pos (by omega)] at h; omega
    · rw [if_neg (by omega)] at h
      rcases List.mem_cons.1 hd with rfl | hd
      · exact ⟨x, hx, Int.le_refl _, k⟩
      · obtain ⟨y, y0, y1, y2⟩ := szL_each hf r (f c x) k h d hd
        exact ⟨y, y0, by omega, y2⟩
theorem szS_each {α : Type} {f : α → Int → Int} (hf : Falls f) {l : List α} {x : Int} (h : 0 ≤ szS f l x) : (l.length : Int) ≤ x ∧ ∀ d ∈ l, ∃ y, 0 ≤ y ∧ y ≤ x ∧ 0 ≤ f d y := by
  unfold szS at h
  split at h
  · omega
  · refine ⟨by omega, fun d hd => ?_⟩
    obtain ⟨y, y0, y1, y2⟩ := szL_each hf l (x - l.length) (by omega) h d hd
    exact ⟨y, y0, by omega, y2⟩
def szPhi (d : PhiD) (x : Int) : Int := szI d.ins.length x
def szInst (d : InstD) (x : Int) : Int := szI d.args.length x
def szBlock (d : BlockD) (x : Int) : Int := if szS szPhi d.phis x < 0 then -1 else szS szInst d.insts (szS szPhi d.phis x)
def szFunc (d : FuncD) (x : Int) : Int := if szI d.params.length x < 0 then -1 else szS szBlock d.blocks (szI d.params.length x)
theorem szPhi_falls : Falls szPhi := fun _ _ _ => szI_falls _ _
theorem szInst_falls : Falls szInst := fun _ _ _ => szI_falls _ _
theorem szBlock_falls : Falls szBlock := fun d x _ => by
  unfold szBlock
  rcases szS_falls szPhi_falls d.phis x with h | ⟨h, h'⟩
  · rw [if_pos (by omega)]; exact .inl rfl
  · rw [if_neg (by omega)]
    rcases szS_falls szInst_falls d.insts (szS szPhi d.phis x) with k | ⟨k, k'⟩
    · exact .inl k
    · exact .inr ⟨k, by omega⟩
theorem szFunc_falls : Falls szFunc := fun d x _ => by
  unfold szFunc
  rcases szI_falls d.params.length x with h | ⟨h, h'⟩
  · rw [if_pos (by omega)]; exact .inl rfl
  · rw [if_neg (by omega)]
    rcases szS_falls szBlock_falls d.blocks (szI d.params.length x) with k | ⟨k, k'⟩
    · exact .inl k
    · exact .inr ⟨k, by omega⟩
/-- Every list in it is of at most 1048576. -/
def SmI (l : List Int) : Prop := l.length ≤ 1048576
def SmPhi (d : PhiD) : Prop := d.ins.length ≤ 1048576
def SmInst (d : InstD) : Prop := d.args.length ≤ 1048576
def SmBlock (d : BlockD) : Prop := (d.phis.length ≤ 1048576 ∧ ∀ p ∈ d.phis, SmPhi p) ∧ (d.insts.length ≤ 1048576 ∧ ∀ p ∈ d.insts, SmInst p)
def SmFunc (d : FuncD) : Prop := d.params.length ≤ 1048576 ∧ (d.blocks.length ≤ 1048576 ∧ ∀ p ∈ d.blocks, SmBlock p)
theorem szI_small {n : Nat} {x : Int} (hx : x ≤ 1048576) (h : 0 ≤ szI n x) : n ≤ 1048576 := by unfold szI at h; split at h <;> omega
theorem szBlock_small {d : BlockD} {x : Int} (hx : x ≤ 1048576) (h : 0 ≤ szBlock d x) : SmBlock d := by
  unfold szBlock at h
  rcases szS_falls szPhi_falls d.phis x with k | ⟨k, k'⟩
  · rw [if_pos (by omega)] at h; omega
  · rw [if_neg (by omega)] at h
    obtain ⟨p1, p2⟩ := szS_each szPhi_falls k
    obtain ⟨i1, i2⟩ := szS_each szInst_falls h
    refine ⟨⟨by omega, fun p hp => ?_⟩, ⟨by omega, fun p hp => ?_⟩⟩
    · obtain ⟨y, _, y1, y2⟩ := p2 p hp
      exact szI_small (by omega) y2
    · obtain ⟨y, _, y1, y2⟩ := i2 p hp
      exact szI_small (by omega) y2
theorem szFunc_small {d : FuncD} {x : Int} (hx : x ≤ 1048576) (h : 0 ≤ szFunc d x) : SmFunc d := by
  unfold szFunc at h
  rcases szI_falls d.params.length x with k | ⟨k, k'⟩
  · rw [if_pos (by omega)] at h; omega
  · rw [if_neg (by omega)] at h
    obtain ⟨b1, b2⟩ := szS_each szBlock_falls h
    refine ⟨szI_small hx k, by omega, fun p hp => ?_⟩
    obtain ⟨y, _, y1, y2⟩ := b2 p hp
    exact szBlock_small (by omega) y2
theorem ret_i {a b : Int} (h : a = b) : Ending.returned (.int .i64 a) = .returned (.int .i64 b) := by rw [h]

theorem szInts_any (a : Option Addr) (n cap : Nat) (x : Int) (w : World) (h0 : 0 ≤ x) (h1 : x ≤ 1048576) (hn : n ≤ 9223372036854775807) :
    Calls Tryz.prog 40 #[.slice a n cap, .int .i64 x] w fun e w' => e = .returned (.int .i64 (szI n x)) ∧ w' = w := by
  by_cases hc : x - n < 0
  · have E : Hid (-1 = szI n x) := by show _ = _; rw [szI, if_pos hc]
    go_enter Tryz.func40, Tryz.ntmps40
    go_wp2_with fail
    go_ret
    exact ⟨ret_i E.out, rfl⟩
  · have E : Hid (x - n = szI n x) := by show _ = _; rw [szI, if_neg hc]
    go_enter Tryz.func40, Tryz.ntmps40
    go_wp2_with fail
    go_ret
    exact ⟨ret_i E.out, rfl⟩

theorem szPhi_any (lo : Nat) (d : PhiD) (u1 : Option Addr) (c1 : Nat) (x : Int) (w : World) (h0 : 0 ≤ x) (h1 : x ≤ 1048576) (k1 : IntsAt w lo u1 d.ins) :
    Calls Tryz.prog 141 #[.agg #[.int .i64 d.w, .slice u1 d.ins.length c1], .int .i64 x] w fun e w' => e = .returned (.int .i64 (szPhi d x)) ∧ Below w.heap.size w w' := by
  have hn := k1.1
  rcases szI_falls d.ins.length x with hc | ⟨hc, _⟩
  · have E : Hid (-1 = szPhi d x) := hc.symm
    have hq : szI d.ins.length x < 0 := by omega
    clear hc
    go_enter Tryz.func141, Tryz.ntmps141
    go_wp2_with (go_at_call 40; refine (szInts_any _ _ _ _ _ h0 h1 hn).mono ?_; rintro e w' ⟨rfl, rfl⟩)
    go_ret
    exact ⟨ret_i E.out, (Below.refl _ _).alloc (Nat.le_refl _) _⟩
  · go_enter Tryz.func141, Tryz.ntmps141
    go_wp2_with (go_at_call 40; refine (szInts_any _ _ _ _ _ h0 h1 hn).mono ?_; rintro e w' ⟨rfl, rfl⟩)
    go_ret
    exact ⟨ret_i (by rfl), (Below.refl _ _).alloc (Nat.le_refl _) _⟩

theorem szInst_any (lo : Nat) (d : InstD) (u6 : Option Addr) (c6 : Nat) (x : Int) (w : World) (h0 : 0 ≤ x) (h1 : x ≤ 1048576) (k6 : IntsAt w lo u6 d.args) :
    Calls Tryz.prog 14 #[.agg #[.int .i64 d.op, .int .i64 d.w, .int .i64 d.a, .int .i64 d.b, .int .i64 d.c, .int .i64 d.imm, .slice u6 d.args.length c6], .int .i64 x] w fun e w' => e = .returned (.int .i64 (szInst d x)) ∧ Below w.heap.size w w' := by
  have hn := k6.1
  rcases szI_falls d.args.length x with hc | ⟨hc, _⟩
  · have E : Hid (-1 = szInst d x) := hc.symm
    have hq : szI d.args.length x < 0 := by omega
    clear hc
    go_enter Tryz.func14, Tryz.ntmps14
    go_wp2_with (go_at_call 40; refine (szInts_any _ _ _ _ _ h0 h1 hn).mono ?_; rintro e w' ⟨rfl, rfl⟩)
    go_ret
    exact ⟨ret_i E.out, (Below.refl _ _).alloc (Nat.le_refl _) _⟩
  · go_enter Tryz.func14, Tryz.ntmps14
    go_wp2_with (go_at_call 40; refine (szInts_any _ _ _ _ _ h0 h1 hn).mono ?_; rintro e w' ⟨rfl, rfl⟩)
    go_ret
    exact ⟨ret_i (by rfl), (Below.refl _ _).alloc (Nat.le_refl _) _⟩

set_option maxHeartbeats 1000000 in
theorem szPhiS_any (lo : Nat) (a : Option Addr) (cap : Nat) (l : List PhiD) (x : Int) (w : World) (h0 : 0 ≤ x) (h1 : x ≤ 1048576) (hv : PhisAt w lo a l) :
    Calls Tryz.prog 116 #[.slice a l.length cap, .int .i64 x] w fun e w' => e = .returned (.int .i64 (szS szPhi l x)) ∧ Below w.heap.size w w' := by
  obtain ⟨hn, h⟩ := hv
  by_cases hc : x - l.length < 0
  · have E : Hid (-1 = szS szPhi l x) := by show _ = _; rw [szS, if_pos hc]
    go_enter Tryz.func116, Tryz.ntmps116
    go_wp2_with fail
    go_ret
    exact ⟨ret_i E.out, Below.refl _ _⟩
  · have E : Hid (szL szPhi l (x - l.length) = szS szPhi l x) := by show _ = _; rw [szS, if_neg hc]
    go_enter Tryz.func116, Tryz.ntmps116
    go_wp2_with fail
    go_loopw [1, 5] (fun y i wr => ∃ (k : Nat) (z : Int), k ≤ l.length ∧ y = .int .i64 z ∧ i = .int .i64 k ∧ 0 ≤ z ∧ z ≤ 1048576 ∧ szL szPhi (l.drop k) z = szL szPhi l (x - l.length) ∧ Below w.heap.size w wr) (fun _ i _ => l.length - (intOf i).toNat)
    case atStart => exact ⟨0, x - l.length, by omega, rfl, rfl, by omega, by omega, by simp, Below.refl _ _⟩
    case round =>
      obtain ⟨k, z, hk, rfl, rfl, hz0, hz1, hq, hB⟩ := hrel
      by_cases hlt : k < l.length
      · rcases h with rfl | ⟨b, off, rfl, hlo, hb, hcell⟩
        · simp at hlt
        obtain ⟨h0, ⟨u1, c1, h1, k1⟩⟩ := hcell k hlt
        have hd := drop_get phi0 l k hlt
        generalize l.getD k phi0 = d at *
        have e0 : wr.cell? ⟨b, off + k * 2, none⟩ = some (.int .i64 d.w) := (cell_block (hB.block b hb)).trans h0
        have e1 : wr.cell? ⟨b, off + k * 2 + 1, none⟩ = some (.slice u1 d.ins.length c1) := (cell_block (hB.block b hb)).trans h1
        have m1 := k1.keep (agree_of_below hB _)
        have HQ : Hid (szL szPhi (l.drop k) z = szL szPhi l (x - l.length)) := hq
        have HD : Hid (l.drop k = d :: l.drop (k + 1)) := hd
        have HB : Hid (Below w.heap.size w wr) := hB
        clear hcell h0 h1 k1 hd hq hB
        rcases szPhi_falls d z hz0 with hs | ⟨hs, hs'⟩
        · have hs2 : szPhi d z < 0 := by omega
          clear hs
          go_wp2_with (go_at_call 141; refine (szPhi_any lo d _ _ _ _ hz0 hz1 m1).mono ?_; rintro e w1 ⟨rfl, hb1⟩)
          go_ret
          have hq := HQ.out
          rw [HD.out, szL, if_pos hs2] at hq
          exact ⟨ret_i (hq.trans E.out), HB.out.trans (hb1.mono HB.out.size)⟩
        · go_wp2_with (go_at_call 141; refine (szPhi_any lo d _ _ _ _ hz0 hz1 m1).mono ?_; rintro e w1 ⟨rfl, hb1⟩)
          go_roundw
          case rel =>
            have hq := HQ.out
            rw [HD.out, szL, if_neg (by omega)] at hq
            exact ⟨k + 1, _, by omega, rfl, by go_num, hs, by omega, hq, HB.out.trans (hb1.mono HB.out.size)⟩
          case measure => simp [intOf]; omega
      · have hke : k = l.length := by omega
        have HQ : Hid (szL szPhi (l.drop k) z = szL szPhi l (x - l.length)) := hq
        clear hq
        go_wp2_with fail
        go_ret
        have hq := HQ.out
        rw [hke, List.drop_length, szL] at hq
        exact ⟨ret_i (hq.trans E.out), hB⟩

set_option maxHeartbeats 1000000 in
theorem szInstS_any (lo : Nat) (a : Option Addr) (cap : Nat) (l : List InstD) (x : Int) (w : World) (h0 : 0 ≤ x) (h1 : x ≤ 1048576) (hv : InstsAt w lo a l) :
    Calls Tryz.prog 117 #[.slice a l.length cap, .int .i64 x] w fun e w' => e = .returned (.int .i64 (szS szInst l x)) ∧ Below w.heap.size w w' := by
  obtain ⟨hn, h⟩ := hv
  by_cases hc : x - l.length < 0
  · have E : Hid (-1 = szS szInst l x) := by show _ = _; rw [szS, if_pos hc]
    go_enter Tryz.func117, Tryz.ntmps117
    go_wp2_with fail
    go_ret
    exact ⟨ret_i E.out, Below.refl _ _⟩
  · have E : Hid (szL szInst l (x - l.length) = szS szInst l x) := by show _ = _; rw [szS, if_neg hc]
    go_enter Tryz.func117, Tryz.ntmps117
    go_wp2_with fail
    go_loopw [1, 5] (fun y i wr => ∃ (k : Nat) (z : Int), k ≤ l.length ∧ y = .int .i64 z ∧ i = .int .i64 k ∧ 0 ≤ z ∧ z ≤ 1048576 ∧ szL szInst (l.drop k) z = szL szInst l (x - l.length) ∧ Below w.heap.size w wr) (fun _ i _ => l.length - (intOf i).toNat)
    case atStart => exact ⟨0, x - l.length, by omega, rfl, rfl, by omega, by omega, by simp, Below.refl _ _⟩
    case round =>
      obtain ⟨k, z, hk, rfl, rfl, hz0, hz1, hq, hB⟩ := hrel
      by_cases hlt : k < l.length
      · rcases h with rfl | ⟨b, off, rfl, hlo, hb, hcell⟩
        · simp at hlt
        obtain ⟨h0, h1, h2, h3, h4, h5, ⟨u6, c6, h6, k6⟩⟩ := hcell k hlt
        have hd := drop_get inst0 l k hlt
        generalize l.getD k inst0 = d at *
        have e0 : wr.cell? ⟨b, off + k * 7, none⟩ = some (.int .i64 d.op) := (cell_block (hB.block b hb)).trans h0
        have e1 : wr.cell? ⟨b, off + k * 7 + 1, none⟩ = some (.int .i64 d.w) := (cell_block (hB.block b hb)).trans h1
        have e2 : wr.cell? ⟨b, off + k * 7 + 2, none⟩ = some (.int .i64 d.a) := (cell_block (hB.block b hb)).trans h2
        have e3 : wr.cell? ⟨b, off + k * 7 + 3, none⟩ = some (.int .i64 d.b) := (cell_block (hB.block b hb)).trans h3
        have e4 : wr.cell? ⟨b, off + k * 7 + 4, none⟩ = some (.int .i64 d.c) := (cell_block (hB.block b hb)).trans h4
        have e5 : wr.cell? ⟨b, off + k * 7 + 5, none⟩ = some (.int .i64 d.imm) := (cell_block (hB.block b hb)).trans h5
        have e6 : wr.cell? ⟨b, off + k * 7 + 6, none⟩ = some (.slice u6 d.args.length c6) := (cell_block (hB.block b hb)).trans h6
        have m6 := k6.keep (agree_of_below hB _)
        have HQ : Hid (szL szInst (l.drop k) z = szL szInst l (x - l.length)) := hq
        have HD : Hid (l.drop k = d :: l.drop (k + 1)) := hd
        have HB : Hid (Below w.heap.size w wr) := hB
        clear hcell h0 h1 h2 h3 h4 h5 h6 k6 hd hq hB
        rcases szInst_falls d z hz0 with hs | ⟨hs, hs'⟩
        · have hs2 : szInst d z < 0 := by omega
          clear hs
          go_wp2_with (go_at_call 14; refine (szInst_any lo d _ _ _ _ hz0 hz1 m6).mono ?_; rintro e w1 ⟨rfl, hb1⟩)
          go_ret
          have hq := HQ.out
          rw [HD.out, szL, if_pos hs2] at hq
          exact ⟨ret_i (hq.trans E.out), HB.out.trans (hb1.mono HB.out.size)⟩
        · go_wp2_with (go_at_call 14; refine (szInst_any lo d _ _ _ _ hz0 hz1 m6).mono ?_; rintro e w1 ⟨rfl, hb1⟩)
          go_roundw
          case rel =>
            have hq := HQ.out
            rw [HD.out, szL, if_neg (by omega)] at hq
            exact ⟨k + 1, _, by omega, rfl, by go_num, hs, by omega, hq, HB.out.trans (hb1.mono HB.out.size)⟩
          case measure => simp [intOf]; omega
      · have hke : k = l.length := by omega
        have HQ : Hid (szL szInst (l.drop k) z = szL szInst l (x - l.length)) := hq
        clear hq
        go_wp2_with fail
        go_ret
        have hq := HQ.out
        rw [hke, List.drop_length, szL] at hq
        exact ⟨ret_i (hq.trans E.out), hB⟩

theorem szBlock_any (lo : Nat) (d : BlockD) (u0 : Option Addr) (c0 : Nat) (u1 : Option Addr) (c1 : Nat) (x : Int) (w : World) (h0 : 0 ≤ x) (h1 : x ≤ 1048576) (k0 : PhisAt w lo u0 d.phis) (k1 : InstsAt w lo u1 d.insts) :
    Calls Tryz.prog 81 #[.agg #[.slice u0 d.phis.length c0, .slice u1 d.insts.length c1, .int .i64 d.term.kind, .int .i64 d.term.a, .int .i64 d.term.x, .int .i64 d.term.y], .int .i64 x] w fun e w' => e = .returned (.int .i64 (szBlock d x)) ∧ Below w.heap.size w w' := by
  rcases szS_falls szPhi_falls d.phis x with hc | ⟨hc, hc'⟩
  · have E : Hid (-1 = szBlock d x) := by show _ = _; rw [szBlock, if_pos (by omega)]
    have hq : szS szPhi d.phis x < 0 := by omega
    clear hc
    go_enter Tryz.func81, Tryz.ntmps81
    go_wp2_with (go_at_call 116; refine (szPhiS_any lo _ _ _ _ _ h0 h1 (k0.keep (agree_alloc _ _ _))).mono ?_; rintro e w1 ⟨rfl, hb1⟩; have k1' := (k1.keep (agree_alloc w _ lo)).keep (agree_of_below hb1 lo); have hcc := bcell hb1)
    go_ret
    exact ⟨ret_i E.out, by first | exact (Below.refl _ _).alloc (Nat.le_refl _) _ | exact ((Below.refl _ _).alloc (Nat.le_refl _) _).trans (hb1.mono (by simp))⟩
  · rcases szS_falls szInst_falls d.insts (szS szPhi d.phis x) with hd | ⟨hd, hd'⟩
    · have E : Hid (-1 = szBlock d x) := by show _ = _; rw [szBlock, if_neg (by omega), hd]
      have hq : szS szInst d.insts (szS szPhi d.phis x) < 0 := by omega
      clear hd
      go_enter Tryz.func81, Tryz.ntmps81
      go_wp2_with (first | (go_at_call 116; refine (szPhiS_any lo _ _ _ _ _ h0 h1 (k0.keep (agree_alloc _ _ _))).mono ?_; rintro e w1 ⟨rfl, hb1⟩; have k1' := (k1.keep (agree_alloc w _ lo)).keep (agree_of_below hb1 lo); have hcc := bcell hb1) | (go_at_call 117; refine (szInstS_any lo _ _ _ _ _ hc (by omega) k1').mono ?_; rintro e w2 ⟨rfl, hb2⟩))
      go_ret
      exact ⟨ret_i E.out, by first | exact ((Below.refl _ _).alloc (Nat.le_refl _) _).trans (hb2.mono (by simp)) | exact (((Below.refl _ _).alloc (Nat.le_refl _) _).trans (hb1.mono (by simp))).trans (hb2.mono (by have := hb1.size; simp at this; omega))⟩
    · have E : Hid (szS szInst d.insts (szS szPhi d.phis x) = szBlock d x) := by show _ = _; rw [szBlock, if_neg (by omega)]
      go_enter Tryz.func81, Tryz.ntmps81
      go_wp2_with (first | (go_at_call 116; refine (szPhiS_any lo _ _ _ _ _ h0 h1 (k0.keep (agree_alloc _ _ _))).mono ?_; rintro e w1 ⟨rfl, hb1⟩; have k1' := (k1.keep (agree_alloc w _ lo)).keep (agree_of_below hb1 lo); have hcc := bcell hb1) | (go_at_call 117; refine (szInstS_any lo _ _ _ _ _ hc (by omega) k1').mono ?_; rintro e w2 ⟨rfl, hb2⟩))
      go_ret
      exact ⟨ret_i E.out, by first | exact ((Below.refl _ _).alloc (Nat.le_refl _) _).trans (hb2.mono (by simp)) | exact (((Below.refl _ _).alloc (Nat.le_refl _) _).trans (hb1.mono (by simp))).trans (hb2.mono (by have := hb1.size; simp at this; omega))⟩

set_option maxHeartbeats 1000000 in
theorem szBlockS_any (lo : Nat) (a : Option Addr) (cap : Nat) (l : List BlockD) (x : Int) (w : World) (h0 : 0 ≤ x) (h1 : x ≤ 1048576) (hv : BlocksAt w lo a l) :
    Calls Tryz.prog 41 #[.slice a l.length cap, .int .i64 x] w fun e w' => e = .returned (.int .i64 (szS szBlock l x)) ∧ Below w.heap.size w w' := by
  obtain ⟨hn, h⟩ := hv
  by_cases hc : x - l.length < 0
  · have E : Hid (-1 = szS szBlock l x) := by show _ = _; rw [szS, if_pos hc]
    go_enter Tryz.func41, Tryz.ntmps41
    go_wp2_with fail
    go_ret
    exact ⟨ret_i E.out, Below.refl _ _⟩
  · have E : Hid (szL szBlock l (x - l.length) = szS szBlock l x) := by show _ = _; rw [szS, if_neg hc]
    go_enter Tryz.func41, Tryz.ntmps41
    go_wp2_with fail
    go_loopw [1, 5] (fun y i wr => ∃ (k : Nat) (z : Int), k ≤ l.length ∧ y = .int .i64 z ∧ i = .int .i64 k ∧ 0 ≤ z ∧ z ≤ 1048576 ∧ szL szBlock (l.drop k) z = szL szBlock l (x - l.length) ∧ Below w.heap.size w wr) (fun _ i _ => l.length - (intOf i).toNat)
    case atStart => exact ⟨0, x - l.length, by omega, rfl, rfl, by omega, by omega, by simp, Below.refl _ _⟩
    case round =>
      obtain ⟨k, z, hk, rfl, rfl, hz0, hz1, hq, hB⟩ := hrel
      by_cases hlt : k < l.length
      · rcases h with rfl | ⟨b, off, rfl, hlo, hb, hcell⟩
        · simp at hlt
        obtain ⟨⟨u0, c0, h0, k0⟩, ⟨u1, c1, h1, k1⟩, h2, h3, h4, h5⟩ := hcell k hlt
        have hd := drop_get block0 l k hlt
        generalize l.getD k block0 = d at *
        have e0 : wr.cell? ⟨b, off + k * 6, none⟩ = some (.slice u0 d.phis.length c0) := (cell_block (hB.block b hb)).trans h0
        have m0 := k0.keep (agree_of_below hB _)
        have e1 : wr.cell? ⟨b, off + k * 6 + 1, none⟩ = some (.slice u1 d.insts.length c1) := (cell_block (hB.block b hb)).trans h1
        have m1 := k1.keep (agree_of_below hB _)
        have e2 : wr.cell? ⟨b, off + k * 6 + 2, none⟩ = some (.int .i64 d.term.kind) := (cell_block (hB.block b hb)).trans h2
        have e3 : wr.cell? ⟨b, off + k * 6 + 3, none⟩ = some (.int .i64 d.term.a) := (cell_block (hB.block b hb)).trans h3
        have e4 : wr.cell? ⟨b, off + k * 6 + 4, none⟩ = some (.int .i64 d.term.x) := (cell_block (hB.block b hb)).trans h4
        have e5 : wr.cell? ⟨b, off + k * 6 + 5, none⟩ = some (.int .i64 d.term.y) := (cell_block (hB.block b hb)).trans h5
        have HQ : Hid (szL szBlock (l.drop k) z = szL szBlock l (x - l.length)) := hq
        have HD : Hid (l.drop k = d :: l.drop (k + 1)) := hd
        have HB : Hid (Below w.heap.size w wr) := hB
        clear hcell h0 h1 h2 h3 h4 h5 k0 k1 hd hq hB
        rcases szBlock_falls d z hz0 with hs | ⟨hs, hs'⟩
        · have hs2 : szBlock d z < 0 := by omega
          clear hs
          go_wp2_with (go_at_call 81; refine (szBlock_any lo d _ _ _ _ _ _ hz0 hz1 m0 m1).mono ?_; rintro e w1 ⟨rfl, hb1⟩)
          go_ret
          have hq := HQ.out
          rw [HD.out, szL, if_pos hs2] at hq
          exact ⟨ret_i (hq.trans E.out), HB.out.trans (hb1.mono HB.out.size)⟩
        · go_wp2_with (go_at_call 81; refine (szBlock_any lo d _ _ _ _ _ _ hz0 hz1 m0 m1).mono ?_; rintro e w1 ⟨rfl, hb1⟩)
          go_roundw
          case rel =>
            have hq := HQ.out
            rw [HD.out, szL, if_neg (by omega)] at hq
            exact ⟨k + 1, _, by omega, rfl, by go_num, hs, by omega, hq, HB.out.trans (hb1.mono HB.out.size)⟩
          case measure => simp [intOf]; omega
      · have hke : k = l.length := by omega
        have HQ : Hid (szL szBlock (l.drop k) z = szL szBlock l (x - l.length)) := hq
        clear hq
        go_wp2_with fail
        go_ret
        have hq := HQ.out
        rw [hke, List.drop_length, szL] at hq
        exact ⟨ret_i (hq.trans E.out), hB⟩

theorem szFunc_any (lo : Nat) (d : FuncD) (u0 : Option Addr) (c0 : Nat) (u2 : Option Addr) (c2 : Nat) (x : Int) (w : World) (h0 : 0 ≤ x) (h1 : x ≤ 1048576) (k0 : IntsAt w lo u0 d.params) (k2 : BlocksAt w lo u2 d.blocks) :
    Calls Tryz.prog 13 #[.agg #[.slice u0 d.params.length c0, .int .i64 d.ret, .slice u2 d.blocks.length c2], .int .i64 x] w fun e w' => e = .returned (.int .i64 (szFunc d x)) ∧ Below w.heap.size w w' := by
  rcases szI_falls d.params.length x with hc | ⟨hc, hc'⟩
  · have E : Hid (-1 = szFunc d x) := by show _ = _; rw [szFunc, if_pos (by omega)]
    have hq : szI d.params.length x < 0 := by omega
    clear hc
    go_enter Tryz.func13, Tryz.ntmps13
    go_wp2_with (go_at_call 40; refine (szInts_any _ _ _ _ _ h0 h1 k0.1).mono ?_; rintro e w1 ⟨rfl, rfl⟩)
    go_ret
    exact ⟨ret_i E.out, by first | exact (Below.refl _ _).alloc (Nat.le_refl _) _ | exact ((Below.refl _ _).alloc (Nat.le_refl _) _).trans (hb1.mono (by simp))⟩
  · rcases szS_falls szBlock_falls d.blocks (szI d.params.length x) with hd | ⟨hd, hd'⟩
    · have E : Hid (-1 = szFunc d x) := by show _ = _; rw [szFunc, if_neg (by omega), hd]
      have hq : szS szBlock d.blocks (szI d.params.length x) < 0 := by omega
      clear hd
      go_enter Tryz.func13, Tryz.ntmps13
      go_wp2_with (first | (go_at_call 40; refine (szInts_any _ _ _ _ _ h0 h1 k0.1).mono ?_; rintro e w1 ⟨rfl, rfl⟩) | (go_at_call 41; refine (szBlockS_any lo _ _ _ _ _ hc (by omega) (k2.keep (agree_alloc _ _ _))).mono ?_; rintro e w2 ⟨rfl, hb2⟩))
      go_ret
      exact ⟨ret_i E.out, by first | exact ((Below.refl _ _).alloc (Nat.le_refl _) _).trans (hb2.mono (by simp)) | exact (((Below.refl _ _).alloc (Nat.le_refl _) _).trans (hb1.mono (by simp))).trans (hb2.mono (by have := hb1.size; simp at this; omega))⟩
    · have E : Hid (szS szBlock d.blocks (szI d.params.length x) = szFunc d x) := by show _ = _; rw [szFunc, if_neg (by omega)]
      go_enter Tryz.func13, Tryz.ntmps13
      go_wp2_with (first | (go_at_call 40; refine (szInts_any _ _ _ _ _ h0 h1 k0.1).mono ?_; rintro e w1 ⟨rfl, rfl⟩) | (go_at_call 41; refine (szBlockS_any lo _ _ _ _ _ hc (by omega) (k2.keep (agree_alloc _ _ _))).mono ?_; rintro e w2 ⟨rfl, hb2⟩))
      go_ret
      exact ⟨ret_i E.out, by first | exact ((Below.refl _ _).alloc (Nat.le_refl _) _).trans (hb2.mono (by simp)) | exact (((Below.refl _ _).alloc (Nat.le_refl _) _).trans (hb1.mono (by simp))).trans (hb2.mono (by have := hb1.size; simp at this; omega))⟩
end Go.Proofs.YtoknhppjdmoblaaGreatDoor
namespace Go.Proofs.YtoknhppjdmoblaaGreatDoor
open Go.RowKit

theorem heap_alloc_last (w : World) (o : Obj) : (w.alloc o).heap[w.heap.size]? = some o := by
  show (w.heap.push o)[w.heap.size]? = _
  simp
theorem cell_of_heap {w : World} {g o : Nat} {cur : Array Value} {t : TypeId} (h : w.heap[g]? = some (.cells cur t (0, 0))) : w.cell? ⟨g, o, none⟩ = cur[o]? := by
  unfold World.cell?; rw [h]; rfl
theorem froz_of_heap {w : World} {g o : Nat} {cur : Array Value} {t : TypeId} (h : w.heap[g]? = some (.cells cur t (0, 0))) : w.frozen? ⟨g, o, none⟩ = false := by
  unfold World.frozen?; rw [h]; rfl
theorem heap_set {w : World} {g o : Nat} {cur : Array Value} {t : TypeId} {v : Value} (h : w.heap[g]? = some (.cells cur t (0, 0))) : (w.setCell ⟨g, o, none⟩ v).heap[g]? = some (.cells (cur.setIfInBounds o v) t (0, 0)) := by
  show (w.heap.modify g _)[g]? = _
  rw [Array.getElem?_modify, if_pos rfl, h]
  rfl
theorem heap_other {w : World} {g : Nat} {p : Addr} {v : Value} {x : Option Obj} (hp : g ≠ p.block) (h : w.heap[g]? = x) : (w.setCell p v).heap[g]? = x := (Below.heap_setCell w p v g hp).trans h
theorem heap_mid (w : World) (o1 o2 o3 : Obj) : (((w.alloc o1).alloc o2).alloc o3).heap[w.heap.size + 1]? = some o2 := by
  rw [Below.heap_alloc _ _ _ (by simp)]
  have h := heap_alloc_last (w.alloc o1) o2
  have e : (w.alloc o1).heap.size = w.heap.size + 1 := by simp
  rw [e] at h
  exact h
theorem heap_alloc_at (w : World) (o : Obj) : (w.alloc o).heap[w.heap.size]? = some o := by
  show (w.heap.push o)[w.heap.size]? = _
  simp
theorem mk_any {t e : TypeId} {i : TypeInfo} {z : Value} {s by' : Nat} (n : Nat) (ht : Tryz.prog.underlying t = some (.slice e)) (hi : Tryz.prog.info? e = some i) (hz : i.zero = some z) (hs : i.size = s) (hb : i.bytes = by') (hm : by' ≤ 1000) (hn : n ≤ 1048576) (W : World) :
    (Instr.makeSlice t (.int .i64 (n : Int)) (.int .i64 (n : Int))).run Tryz.prog W = .ok (.slice (some ⟨W.heap.size, 0, none⟩) n n) (W.alloc (.cells (madeCells z.cells (n * s)) e)) := by
  subst hs hb
  have h := run_make (P := Tryz.prog) W t e i z ht hi hz .i64 .i64 n n (by omega) (Int.le_refl _) (by
    have : i.bytes * n ≤ 1000 * 1048576 := Nat.mul_le_mul hm hn
    have h2 : ((i.bytes * n : Nat) : Int) ≤ 1048576000 := by omega
    rw [Int.natCast_mul] at h2; omega) (by omega)
  simpa using h
theorem infoI : (Tryz.prog.info? 2).map (fun i => (i.zero, i.size, i.bytes)) = some (some (.int .i64 0), 1, 8) := by kernel_rfl

set_option maxHeartbeats 1000000 in
theorem toInts_any (lo : Nat) (a : Option Addr) (cap : Nat) (l : List Int) (w : World) (hl : l.length ≤ 1048576) (hv : IntsAt w lo a l) :
    Calls Tryz.prog 42 #[.slice a l.length cap] w fun e w' => ∃ u c, e = .returned (.slice u l.length c) ∧ IntsAt w' w.heap.size u l ∧ Below w.heap.size w w' := by
  obtain ⟨i0, hi, hz0, hz1, hz2⟩ := info_parts infoI
  have hmk := mk_any (t := 24) l.length Tryz.underlying24 hi hz0 hz1 hz2 (by omega) hl
  clear hi hz0 hz1 hz2
  have hm := hv.1
  go_enter Tryz.func42, Tryz.ntmps42
  go_wp2_with fail
  go_loopw [4] (fun i wr => ∃ (k : Nat) (cur : Array Value), k ≤ l.length ∧ i = .int .i64 k ∧ cur.size = l.length ∧ wr.heap[w.heap.size]? = some (.cells cur 2 (0, 0)) ∧ (∀ j, j < k → cur[j]? = some (.int .i64 (l.getD j 0))) ∧ Below w.heap.size w wr) (fun i _ => l.length - (intOf i).toNat)
  case atStart => exact ⟨0, _, by omega, rfl, by simp [size_madeCells], heap_alloc_at _ _, fun j hj => by omega, (Below.refl _ _).alloc (Nat.le_refl _) _⟩
  case round =>
    obtain ⟨k, cur, hk, rfl, hcs, hblk, hdone, hB⟩ := hrel
    by_cases hlt : k < l.length
    · rcases hv.2 with rfl | ⟨b, off, rfl, hlo, hb, hcell⟩
      · simp at hlt
      have e0 : wr.cell? ⟨b, off + k, none⟩ = some (.int .i64 (l.getD k 0)) := (cell_block (hB.block b hb)).trans (hcell k hlt)
      have e1 : wr.cell? ⟨w.heap.size, k, none⟩ = some (cur[k]'(by omega)) := by rw [cell_of_heap hblk]; simp [hcs, hlt]
      have e2 : wr.frozen? ⟨w.heap.size, k, none⟩ = false := froz_of_heap hblk
      have hdone2 : ∀ j, j < k + 1 → (cur.setIfInBounds k (.int .i64 (l.getD k 0)))[j]? = some (.int .i64 (l.getD j 0)) := fun j hj => by
        by_cases hjk : j = k
        · subst hjk; simp [hcs, hlt]
        · rw [Array.getElem?_setIfInBounds_ne (by omega)]; exact hdone j (by omega)
      have HD : Hid (∀ j, j < k + 1 → (cur.setIfInBounds k (.int .i64 (l.getD k 0)))[j]? = some (.int .i64 (l.getD j 0))) := hdone2
      have HH : Hid ((wr.setCell ⟨w.heap.size, k, none⟩ (.int .i64 (l.getD k 0))).heap[w.heap.size]? = some (.cells (cur.setIfInBounds k (.int .i64 (l.getD k 0))) 2 (0, 0))) := heap_set hblk
      generalize l.getD k 0 = d at e0 HD HH
      clear hmk hdone hdone2 hblk
      go_wp2_with fail
      go_roundw
      case rel => exact ⟨k + 1, _, by omega, by go_num, by simpa using hcs, HH.out, HD.out, hB.setCell (Nat.le_refl _) _⟩
      case measure => simp [intOf]; omega
    · have hke : k = l.length := by omega
      have HH : Hid (wr.heap[w.heap.size]? = some (.cells cur 2 (0, 0))) := hblk
      clear hmk hblk
      go_wp2_with fail
      go_ret
      refine ⟨_, _, rfl, ⟨hm, .inr ⟨w.heap.size, 0, rfl, Nat.le_refl _, ?_, fun i hi => ?_⟩⟩, hB⟩
      · exact (Array.getElem?_eq_some_iff.1 HH.out).1
      · rw [Nat.zero_add, cell_of_heap HH.out]; exact hdone i (by omega)

set_option maxHeartbeats 1000000 in
theorem toPhi_any (lo : Nat) (d : PhiD) (u1 : Option Addr) (c1 : Nat) (w : World) (hs : SmPhi d) (k1 : IntsAt w lo u1 d.ins) :
    Calls Tryz.prog 142 #[.agg #[.int .i64 d.w, .slice u1 d.ins.length c1]] w fun e w' => ∃ u c, e = .returned (.agg #[.int .i64 d.w, .slice u d.ins.length c]) ∧ IntsAt w' w.heap.size u d.ins ∧ Below w.heap.size w w' := by
  go_enter Tryz.func142, Tryz.ntmps142
  go_wp2_with (go_at_call 42; refine (toInts_any lo _ _ _ _ hs (k1.keep (((agree_alloc _ _ _).trans (agree_alloc _ _ _)).trans (agree_alloc _ _ _)))).mono ?_; rintro e w1 ⟨u, c, rfl, hu, hb1⟩; have hcc := bcell hb1; have hff := bfroz hb1)
  have hB : Below w.heap.size w w1 := ((((Below.refl w.heap.size w).alloc (Nat.le_refl _) _).alloc (by first | (simp; done) | (simp; omega)) _).alloc (by first | (simp; done) | (simp; omega)) _).trans (hb1.mono (by first | (simp; done) | (simp; omega)))
  have hu3 := hu.low (lo' := w.heap.size + 3) (by first | (simp; done) | (simp; omega))
  have hr := (heap_set (o := 1) (v := .slice u d.ins.length c) (heap_set (o := 0) (v := .int .i64 d.w) (heap_other (g := w.heap.size + 1) (p := ⟨w.heap.size + 1 + 1, 1, none⟩) (v := .slice u d.ins.length c) (by simp) ((hb1.block (w.heap.size + 1) (by simp)).trans (heap_mid _ _ _ _)))))
  refine bodyPost_ret (v := .agg #[.int .i64 d.w, .slice u d.ins.length c]) ((results_cell_row Tryz.results142 _ _ (w.heap.size + 1) 109 _ (0, 0) _ rfl hr Tryz.underlying109 rfl (by kernel_rfl)).trans (by rfl)) rfl ⟨u, c, rfl, ?_, ?_⟩
  · exact (hu3.keep (by repeat (first | refine Agree.trans ?_ (agree_setCell _ _ _ _ _ (by omega)) | exact Agree.refl _ _))).low (by omega)
  · exact (by repeat (first | refine Below.setCell ?_ (by dsimp only; omega) _ | exact hB))
set_option maxHeartbeats 1000000 in
theorem toInst_any (lo : Nat) (d : InstD) (u6 : Option Addr) (c6 : Nat) (w : World) (hs : SmInst d) (k6 : IntsAt w lo u6 d.args) :
    Calls Tryz.prog 16 #[.agg #[.int .i64 d.op, .int .i64 d.w, .int .i64 d.a, .int .i64 d.b, .int .i64 d.c, .int .i64 d.imm, .slice u6 d.args.length c6]] w fun e w' => ∃ u c, e = .returned (.agg #[.int .i64 d.op, .int .i64 d.w, .int .i64 d.a, .int .i64 d.b, .int .i64 d.c, .int .i64 d.imm, .slice u d.args.length c]) ∧ IntsAt w' w.heap.size u d.args ∧ Below w.heap.size w w' := by
  go_enter Tryz.func16, Tryz.ntmps16
  go_wp2_with (go_at_call 42; refine (toInts_any lo _ _ _ _ hs (k6.keep (((agree_alloc _ _ _).trans (agree_alloc _ _ _)).trans (agree_alloc _ _ _)))).mono ?_; rintro e w1 ⟨u, c, rfl, hu, hb1⟩; have hcc := bcell hb1; have hff := bfroz hb1)
  have hB : Below w.heap.size w w1 := ((((Below.refl w.heap.size w).alloc (Nat.le_refl _) _).alloc (by first | (simp; done) | (simp; omega)) _).alloc (by first | (simp; done) | (simp; omega)) _).trans (hb1.mono (by first | (simp; done) | (simp; omega)))
  have hu3 := hu.low (lo' := w.heap.size + 3) (by first | (simp; done) | (simp; omega))
  have hr := (heap_set (o := 6) (v := .slice u d.args.length c) (heap_set (o := 5) (v := .int .i64 d.imm) (heap_set (o := 4) (v := .int .i64 d.c) (heap_set (o := 3) (v := .int .i64 d.b) (heap_set (o := 2) (v := .int .i64 d.a) (heap_set (o := 1) (v := .int .i64 d.w) (heap_set (o := 0) (v := .int .i64 d.op) (heap_other (g := w.heap.size + 1) (p := ⟨w.heap.size + 1 + 1, 6, none⟩) (v := .slice u d.args.length c) (by simp) ((hb1.block (w.heap.size + 1) (by simp)).trans (heap_mid _ _ _ _))))))))))
  refine bodyPost_ret (v := .agg #[.int .i64 d.op, .int .i64 d.w, .int .i64 d.a, .int .i64 d.b, .int .i64 d.c, .int .i64 d.imm, .slice u d.args.length c]) ((results_cell_row Tryz.results16 _ _ (w.heap.size + 1) 29 _ (0, 0) _ rfl hr Tryz.underlying29 rfl (by kernel_rfl)).trans (by rfl)) rfl ⟨u, c, rfl, ?_, ?_⟩
  · exact (hu3.keep (by repeat (first | refine Agree.trans ?_ (agree_setCell _ _ _ _ _ (by omega)) | exact Agree.refl _ _))).low (by omega)
  · exact (by repeat (first | refine Below.setCell ?_ (by dsimp only; omega) _ | exact hB))
set_option maxHeartbeats 1000000 in
theorem toTerm_any (k a x y : Int) (w : World) :
    Calls Tryz.prog 120 #[.agg #[.int .i64 k, .int .i64 a, .int .i64 x, .int .i64 y]] w fun e w' => e = .returned (.agg #[.int .i64 k, .int .i64 a, .int .i64 x, .int .i64 y]) ∧ Below w.heap.size w w' := by
  go_enter Tryz.func120, Tryz.ntmps120
  go_wp2_with fail
  refine bodyPost_ret (v := .agg #[.int .i64 k, .int .i64 a, .int .i64 x, .int .i64 y]) (by simp [results, Tryz.results120, go_sem]) rfl ⟨rfl, ?_⟩
  exact (((Below.refl w.heap.size w).alloc (Nat.le_refl _) _).alloc (by first | (simp; done) | (simp; omega)) _).alloc (by first | (simp; done) | (simp; omega)) _
theorem infoPhi : (Tryz.prog.info? 109).map (fun i => (i.zero, i.size, i.bytes)) = some (some (.agg #[.int .i64 0, .slice none 0 0]), 2, 32) := by kernel_rfl
set_option maxHeartbeats 2000000 in
theorem toPhiS_any (lo : Nat) (a : Option Addr) (cap : Nat) (l : List PhiD) (w : World) (hl : l.length ≤ 1048576) (hs : ∀ d ∈ l, SmPhi d) (hv : PhisAt w lo a l) :
    Calls Tryz.prog 118 #[.slice a l.length cap] w fun e w' => ∃ u c, e = .returned (.slice u l.length c) ∧ PhisAt w' w.heap.size u l ∧ Below w.heap.size w w' := by
  obtain ⟨i0, hi, hz0, hz1, hz2⟩ := info_parts infoPhi
  have hmk := mk_any (t := 56) l.length Tryz.underlying56 hi hz0 hz1 hz2 (by omega) hl
  clear hi hz0 hz1 hz2
  have hm := hv.1
  go_enter Tryz.func118, Tryz.ntmps118
  go_wp2_with fail
  go_loopw [4] (fun i wr => ∃ (k : Nat) (cur : Array Value), k ≤ l.length ∧ i = .int .i64 k ∧ cur.size = l.length * 2 ∧ wr.heap[w.heap.size]? = some (.cells cur 109 (0, 0)) ∧ (∀ j, j < k → cur[j * 2]? = some (.int .i64 (l.getD j phi0).w) ∧ (∃ u c, cur[j * 2 + 1]? = some (.slice u (l.getD j phi0).ins.length c) ∧ IntsAt wr (w.heap.size + 1) u (l.getD j phi0).ins)) ∧ Below w.heap.size w wr) (fun i _ => l.length - (intOf i).toNat)
  case atStart => exact ⟨0, _, by omega, rfl, by simp [size_madeCells], heap_alloc_at _ _, fun j hj => by omega, (Below.refl _ _).alloc (Nat.le_refl _) _⟩
  case round =>
    obtain ⟨k, cur, hk, rfl, hcs, hblk, hdone, hB⟩ := hrel
    by_cases hlt : k < l.length
    · rcases hv.2 with rfl | ⟨b, off, rfl, hlo, hb, hcell⟩
      · simp at hlt
      obtain ⟨h0, ⟨u1, c1, h1, k1⟩⟩ := hcell k hlt
      have hsd := hs _ (getD_mem phi0 l k hlt)
      generalize hd : l.getD k phi0 = d at h0 h1 k1 hsd
      have e0 : wr.cell? ⟨b, off + k * 2, none⟩ = some (.int .i64 d.w) := (cell_block (hB.block b hb)).trans h0
      have e1 : wr.cell? ⟨b, off + k * 2 + 1, none⟩ = some (.slice u1 d.ins.length c1) := (cell_block (hB.block b hb)).trans h1
      have m1 := k1.keep (agree_of_below hB _)
      have HD : Hid (l.getD k phi0 = d) := hd
      have HDN : Hid (∀ j, j < k → cur[j * 2]? = some (.int .i64 (l.getD j phi0).w) ∧ (∃ u c, cur[j * 2 + 1]? = some (.slice u (l.getD j phi0).ins.length c) ∧ IntsAt wr (w.heap.size + 1) u (l.getD j phi0).ins)) := hdone
      have HBK : Hid (wr.heap[w.heap.size]? = some (.cells cur 109 (0, 0))) := hblk
      have HB : Hid (Below w.heap.size w wr) := hB
      have hgl : w.heap.size < wr.heap.size := (Array.getElem?_eq_some_iff.1 hblk).1
      clear hcell hmk hdone hblk hB hd h0 h1
      go_wp2_with (go_at_call 142; refine (toPhi_any lo d _ _ _ hsd m1).mono ?_; rintro e w1 ⟨v1, q1, rfl, n1, hb1⟩; have hblk1 := (hb1.block w.heap.size hgl).trans HBK.out; have g0 : w1.cell? ⟨w.heap.size, k * 2, none⟩ = some (cur[k * 2]'(by omega)) := (by rw [cell_of_heap hblk1]; simp [show k * 2 < cur.size by omega]); have f0 : w1.frozen? ⟨w.heap.size, k * 2, none⟩ = false := froz_of_heap hblk1; have g1 : w1.cell? ⟨w.heap.size, k * 2 + 1, none⟩ = some (cur[k * 2 + 1]'(by omega)) := (by rw [cell_of_heap hblk1]; simp [show k * 2 + 1 < cur.size by omega]); have f1 : w1.frozen? ⟨w.heap.size, k * 2 + 1, none⟩ = false := froz_of_heap hblk1; have HBK1 : Hid (w1.heap[w.heap.size]? = some (.cells cur 109 (0, 0))) := hblk1; clear hblk1)
      go_roundw
      case rel =>
        have hblk1 := HBK1.out
        have hB := HB.out
        have hd := HD.out
        have hag : Agree (w.heap.size + 1) wr ((w1.setCell ⟨w.heap.size, k * 2, none⟩ (.int .i64 d.w)).setCell ⟨w.heap.size, k * 2 + 1, none⟩ (.slice v1 d.ins.length q1)) := (agree_of_below hb1 _).trans (by repeat (first | refine Agree.trans ?_ (agree_setCell _ _ _ _ _ (by omega)) | exact Agree.refl _ _))
        have hag1 : Agree (w.heap.size + 1) w1 ((w1.setCell ⟨w.heap.size, k * 2, none⟩ (.int .i64 d.w)).setCell ⟨w.heap.size, k * 2 + 1, none⟩ (.slice v1 d.ins.length q1)) := (by repeat (first | refine Agree.trans ?_ (agree_setCell _ _ _ _ _ (by omega)) | exact Agree.refl _ _))
        refine ⟨k + 1, ((cur.setIfInBounds (k * 2) (.int .i64 d.w)).setIfInBounds (k * 2 + 1) (.slice v1 d.ins.length q1)), by omega, by go_num, by simpa using hcs, (heap_set (heap_set hblk1)), fun j hj => ?_, ?_⟩
        · by_cases hjk : j = k
          · subst hjk
            rw [hd]
            refine ⟨?_, ⟨v1, q1, ?_, (n1.low (by omega)).keep hag1⟩⟩
            all_goals (repeat rw [Array.getElem?_setIfInBounds_ne (by omega)])
            all_goals (rw [Array.getElem?_setIfInBounds_self]; simp; omega)
          · obtain ⟨p0, ⟨z1, y1, p1, x1⟩⟩ := HDN.out j (by omega)
            refine ⟨?_, ⟨z1, y1, ?_, x1.keep hag⟩⟩
            all_goals (repeat rw [Array.getElem?_setIfInBounds_ne (by omega)])
            all_goals assumption
        · have hB1 := hB.trans (hb1.mono hB.size)
          repeat (first | refine Below.setCell ?_ (by first | (dsimp only; omega) | exact Nat.le_refl _) _ | exact hB1)
      case measure => simp [intOf]; omega
    · have hke : k = l.length := by omega
      have HH : Hid (wr.heap[w.heap.size]? = some (.cells cur 109 (0, 0))) := hblk
      have HDN : Hid (∀ j, j < k → cur[j * 2]? = some (.int .i64 (l.getD j phi0).w) ∧ (∃ u c, cur[j * 2 + 1]? = some (.slice u (l.getD j phi0).ins.length c) ∧ IntsAt wr (w.heap.size + 1) u (l.getD j phi0).ins)) := hdone
      clear hmk hblk hdone
      go_wp2_with fail
      go_ret
      refine ⟨_, _, rfl, ⟨hm, .inr ⟨w.heap.size, 0, rfl, Nat.le_refl _, ?_, fun i hi => ?_⟩⟩, hB⟩
      · exact (Array.getElem?_eq_some_iff.1 HH.out).1
      · obtain ⟨p0, ⟨z1, y1, p1, x1⟩⟩ := HDN.out i (by omega)
        simp only [Nat.zero_add, cell_of_heap HH.out]
        exact ⟨p0, ⟨z1, y1, p1, x1.low (by omega)⟩⟩
theorem infoInst : (Tryz.prog.info? 29).map (fun i => (i.zero, i.size, i.bytes)) = some (some (.agg #[.int .i64 0, .int .i64 0, .int .i64 0, .int .i64 0, .int .i64 0, .int .i64 0, .slice none 0 0]), 7, 72) := by kernel_rfl
set_option maxHeartbeats 2000000 in
theorem toInstS_any (lo : Nat) (a : Option Addr) (cap : Nat) (l : List InstD) (w : World) (hl : l.length ≤ 1048576) (hs : ∀ d ∈ l, SmInst d) (hv : InstsAt w lo a l) :
    Calls Tryz.prog 119 #[.slice a l.length cap] w fun e w' => ∃ u c, e = .returned (.slice u l.length c) ∧ InstsAt w' w.heap.size u l ∧ Below w.heap.size w w' := by
  obtain ⟨i0, hi, hz0, hz1, hz2⟩ := info_parts infoInst
  have hmk := mk_any (t := 57) l.length Tryz.underlying57 hi hz0 hz1 hz2 (by omega) hl
  clear hi hz0 hz1 hz2
  have hm := hv.1
  go_enter Tryz.func119, Tryz.ntmps119
  go_wp2_with fail
  go_loopw [4] (fun i wr => ∃ (k : Nat) (cur : Array Value), k ≤ l.length ∧ i = .int .i64 k ∧ cur.size = l.length * 7 ∧ wr.heap[w.heap.size]? = some (.cells cur 29 (0, 0)) ∧ (∀ j, j < k → cur[j * 7]? = some (.int .i64 (l.getD j inst0).op) ∧ cur[j * 7 + 1]? = some (.int .i64 (l.getD j inst0).w) ∧ cur[j * 7 + 2]? = some (.int .i64 (l.getD j inst0).a) ∧ cur[j * 7 + 3]? = some (.int .i64 (l.getD j inst0).b) ∧ cur[j * 7 + 4]? = some (.int .i64 (l.getD j inst0).c) ∧ cur[j * 7 + 5]? = some (.int .i64 (l.getD j inst0).imm) ∧ (∃ u c, cur[j * 7 + 6]? = some (.slice u (l.getD j inst0).args.length c) ∧ IntsAt wr (w.heap.size + 1) u (l.getD j inst0).args)) ∧ Below w.heap.size w wr) (fun i _ => l.length - (intOf i).toNat)
  case atStart => exact ⟨0, _, by omega, rfl, by simp [size_madeCells], heap_alloc_at _ _, fun j hj => by omega, (Below.refl _ _).alloc (Nat.le_refl _) _⟩
  case round =>
    obtain ⟨k, cur, hk, rfl, hcs, hblk, hdone, hB⟩ := hrel
    by_cases hlt : k < l.length
    · rcases hv.2 with rfl | ⟨b, off, rfl, hlo, hb, hcell⟩
      · simp at hlt
      obtain ⟨h0, h1, h2, h3, h4, h5, ⟨u6, c6, h6, k6⟩⟩ := hcell k hlt
      have hsd := hs _ (getD_mem inst0 l k hlt)
      generalize hd : l.getD k inst0 = d at h0 h1 h2 h3 h4 h5 h6 k6 hsd
      have e0 : wr.cell? ⟨b, off + k * 7, none⟩ = some (.int .i64 d.op) := (cell_block (hB.block b hb)).trans h0
      have e1 : wr.cell? ⟨b, off + k * 7 + 1, none⟩ = some (.int .i64 d.w) := (cell_block (hB.block b hb)).trans h1
      have e2 : wr.cell? ⟨b, off + k * 7 + 2, none⟩ = some (.int .i64 d.a) := (cell_block (hB.block b hb)).trans h2
      have e3 : wr.cell? ⟨b, off + k * 7 + 3, none⟩ = some (.int .i64 d.b) := (cell_block (hB.block b hb)).trans h3
      have e4 : wr.cell? ⟨b, off + k * 7 + 4, none⟩ = some (.int .i64 d.c) := (cell_block (hB.block b hb)).trans h4
      have e5 : wr.cell? ⟨b, off + k * 7 + 5, none⟩ = some (.int .i64 d.imm) := (cell_block (hB.block b hb)).trans h5
      have e6 : wr.cell? ⟨b, off + k * 7 + 6, none⟩ = some (.slice u6 d.args.length c6) := (cell_block (hB.block b hb)).trans h6
      have m6 := k6.keep (agree_of_below hB _)
      have HD : Hid (l.getD k inst0 = d) := hd
      have HDN : Hid (∀ j, j < k → cur[j * 7]? = some (.int .i64 (l.getD j inst0).op) ∧ cur[j * 7 + 1]? = some (.int .i64 (l.getD j inst0).w) ∧ cur[j * 7 + 2]? = some (.int .i64 (l.getD j inst0).a) ∧ cur[j * 7 + 3]? = some (.int .i64 (l.getD j inst0).b) ∧ cur[j * 7 + 4]? = some (.int .i64 (l.getD j inst0).c) ∧ cur[j * 7 + 5]? = some (.int .i64 (l.getD j inst0).imm) ∧ (∃ u c, cur[j * 7 + 6]? = some (.slice u (l.getD j inst0).args.length c) ∧ IntsAt wr (w.heap.size + 1) u (l.getD j inst0).args)) := hdone
      have HBK : Hid (wr.heap[w.heap.size]? = some (.cells cur 29 (0, 0))) := hblk
      have HB : Hid (Below w.heap.size w wr) := hB
      have hgl : w.heap.size < wr.heap.size := (Array.getElem?_eq_some_iff.1 hblk).1
      clear hcell hmk hdone hblk hB hd h0 h1 h2 h3 h4 h5 h6
      go_wp2_with (go_at_call 16; refine (toInst_any lo d _ _ _ hsd m6).mono ?_; rintro e w1 ⟨v6, q6, rfl, n6, hb1⟩; have hblk1 := (hb1.block w.heap.size hgl).trans HBK.out; have g0 : w1.cell? ⟨w.heap.size, k * 7, none⟩ = some (cur[k * 7]'(by omega)) := (by rw [cell_of_heap hblk1]; simp [show k * 7 < cur.size by omega]); have f0 : w1.frozen? ⟨w.heap.size, k * 7, none⟩ = false := froz_of_heap hblk1; have g1 : w1.cell? ⟨w.heap.size, k * 7 + 1, none⟩ = some (cur[k * 7 + 1]'(by omega)) := (by rw [cell_of_heap hblk1]; simp [show k * 7 + 1 < cur.size by omega]); have f1 : w1.frozen? ⟨w.heap.size, k * 7 + 1, none⟩ = false := froz_of_heap hblk1; have g2 : w1.cell? ⟨w.heap.size, k * 7 + 2, none⟩ = some (cur[k * 7 + 2]'(by omega)) := (by rw [cell_of_heap hblk1]; simp [show k * 7 + 2 < cur.size by omega]); have f2 : w1.frozen? ⟨w.heap.size, k * 7 + 2, none⟩ = false := froz_of_heap hblk1; have g3 : w1.cell? ⟨w.heap.size, k * 7 + 3, none⟩ = some (cur[k * 7 + 3]'(by omega)) := (by rw [cell_of_heap hblk1]; simp [show k * 7 + 3 < cur.size by omega]); have f3 : w1.frozen? ⟨w.heap.size, k * 7 + 3, none⟩ = false := froz_of_heap hblk1; have g4 : w1.cell? ⟨w.heap.size, k * 7 + 4, none⟩ = some (cur[k * 7 + 4]'(by omega)) := (by rw [cell_of_heap hblk1]; simp [show k * 7 + 4 < cur.size by omega]); have f4 : w1.frozen? ⟨w.heap.size, k * 7 + 4, none⟩ = false := froz_of_heap hblk1; have g5 : w1.cell? ⟨w.heap.size, k * 7 + 5, none⟩ = some (cur[k * 7 + 5]'(by omega)) := (by rw [cell_of_heap hblk1]; simp [show k * 7 + 5 < cur.size by omega]); have f5 : w1.frozen? ⟨w.heap.size, k * 7 + 5, none⟩ = false := froz_of_heap hblk1; have g6 : w1.cell? ⟨w.heap.size, k * 7 + 6, none⟩ = some (cur[k * 7 + 6]'(by omega)) := (by rw [cell_of_heap hblk1]; simp [show k * 7 + 6 < cur.size by omega]); have f6 : w1.frozen? ⟨w.heap.size, k * 7 + 6, none⟩ = false := froz_of_heap hblk1; have HBK1 : Hid (w1.heap[w.heap.size]? = some (.cells cur 29 (0, 0))) := hblk1; clear hblk1)
      go_roundw
      case rel =>
        have hblk1 := HBK1.out
        have hB := HB.out
        have hd := HD.out
        have hag : Agree (w.heap.size + 1) wr (((((((w1.setCell ⟨w.heap.size, k * 7, none⟩ (.int .i64 d.op)).setCell ⟨w.heap.size, k * 7 + 1, none⟩ (.int .i64 d.w)).setCell ⟨w.heap.size, k * 7 + 2, none⟩ (.int .i64 d.a)).setCell ⟨w.heap.size, k * 7 + 3, none⟩ (.int .i64 d.b)).setCell ⟨w.heap.size, k * 7 + 4, none⟩ (.int .i64 d.c)).setCell ⟨w.heap.size, k * 7 + 5, none⟩ (.int .i64 d.imm)).setCell ⟨w.heap.size, k * 7 + 6, none⟩ (.slice v6 d.args.length q6)) := (agree_of_below hb1 _).trans (by repeat (first | refine Agree.trans ?_ (agree_setCell _ _ _ _ _ (by omega)) | exact Agree.refl _ _))
        have hag1 : Agree (w.heap.size + 1) w1 (((((((w1.setCell ⟨w.heap.size, k * 7, none⟩ (.int .i64 d.op)).setCell ⟨w.heap.size, k * 7 + 1, none⟩ (.int .i64 d.w)).setCell ⟨w.heap.size, k * 7 + 2, none⟩ (.int .i64 d.a)).setCell ⟨w.heap.size, k * 7 + 3, none⟩ (.int .i64 d.b)).setCell ⟨w.heap.size, k * 7 + 4, none⟩ (.int .i64 d.c)).setCell ⟨w.heap.size, k * 7 + 5, none⟩ (.int .i64 d.imm)).setCell ⟨w.heap.size, k * 7 + 6, none⟩ (.slice v6 d.args.length q6)) := (by repeat (first | refine Agree.trans ?_ (agree_setCell _ _ _ _ _ (by omega)) | exact Agree.refl _ _))
        refine ⟨k + 1, (((((((cur.setIfInBounds (k * 7) (.int .i64 d.op)).setIfInBounds (k * 7 + 1) (.int .i64 d.w)).setIfInBounds (k * 7 + 2) (.int .i64 d.a)).setIfInBounds (k * 7 + 3) (.int .i64 d.b)).setIfInBounds (k * 7 + 4) (.int .i64 d.c)).setIfInBounds (k * 7 + 5) (.int .i64 d.imm)).setIfInBounds (k * 7 + 6) (.slice v6 d.args.length q6)), by omega, by go_num, by simpa using hcs, (heap_set (heap_set (heap_set (heap_set (heap_set (heap_set (heap_set hblk1))))))), fun j hj => ?_, ?_⟩
        · by_cases hjk : j = k
          · subst hjk
            rw [hd]
            refine ⟨?_, ?_, ?_, ?_, ?_, ?_, ⟨v6, q6, ?_, (n6.low (by omega)).keep hag1⟩⟩
            all_goals (repeat rw [Array.getElem?_setIfInBounds_ne (by omega)])
            all_goals (rw [Array.getElem?_setIfInBounds_self]; simp; omega)
          · obtain ⟨p0, p1, p2, p3, p4, p5, ⟨z6, y6, p6, x6⟩⟩ := HDN.out j (by omega)
            refine ⟨?_, ?_, ?_, ?_, ?_, ?_, ⟨z6, y6, ?_, x6.keep hag⟩⟩
            all_goals (repeat rw [Array.getElem?_setIfInBounds_ne (by omega)])
            all_goals assumption
        · have hB1 := hB.trans (hb1.mono hB.size)
          repeat (first | refine Below.setCell ?_ (by first | (dsimp only; omega) | exact Nat.le_refl _) _ | exact hB1)
      case measure => simp [intOf]; omega
    · have hke : k = l.length := by omega
      have HH : Hid (wr.heap[w.heap.size]? = some (.cells cur 29 (0, 0))) := hblk
      have HDN : Hid (∀ j, j < k → cur[j * 7]? = some (.int .i64 (l.getD j inst0).op) ∧ cur[j * 7 + 1]? = some (.int .i64 (l.getD j inst0).w) ∧ cur[j * 7 + 2]? = some (.int .i64 (l.getD j inst0).a) ∧ cur[j * 7 + 3]? = some (.int .i64 (l.getD j inst0).b) ∧ cur[j * 7 + 4]? = some (.int .i64 (l.getD j inst0).c) ∧ cur[j * 7 + 5]? = some (.int .i64 (l.getD j inst0).imm) ∧ (∃ u c, cur[j * 7 + 6]? = some (.slice u (l.getD j inst0).args.length c) ∧ IntsAt wr (w.heap.size + 1) u (l.getD j inst0).args)) := hdone
      clear hmk hblk hdone
      go_wp2_with fail
      go_ret
      refine ⟨_, _, rfl, ⟨hm, .inr ⟨w.heap.size, 0, rfl, Nat.le_refl _, ?_, fun i hi => ?_⟩⟩, hB⟩
      · exact (Array.getElem?_eq_some_iff.1 HH.out).1
      · obtain ⟨p0, p1, p2, p3, p4, p5, ⟨z6, y6, p6, x6⟩⟩ := HDN.out i (by omega)
        simp only [Nat.zero_add, cell_of_heap HH.out]
        exact ⟨p0, p1, p2, p3, p4, p5, ⟨z6, y6, p6, x6.low (by omega)⟩⟩
end Go.Proofs.YtoknhppjdmoblaaGreatDoor
namespace Go.Proofs.YtoknhppjdmoblaaGreatDoor
open Go.RowKit

set_option maxHeartbeats 2000000 in
theorem toBlock_any (lo : Nat) (d : BlockD) (u0 : Option Addr) (c0 : Nat) (u1 : Option Addr) (c1 : Nat) (w : World) (hs : SmBlock d) (k0 : PhisAt w lo u0 d.phis) (k1 : InstsAt w lo u1 d.insts) :
    Calls Tryz.prog 82 #[.agg #[.slice u0 d.phis.length c0, .slice u1 d.insts.length c1, .int .i64 d.term.kind, .int .i64 d.term.a, .int .i64 d.term.x, .int .i64 d.term.y]] w fun e w' => ∃ v0 q0 v1 q1, e = .returned (.agg #[.slice v0 d.phis.length q0, .slice v1 d.insts.length q1, .int .i64 d.term.kind, .int .i64 d.term.a, .int .i64 d.term.x, .int .i64 d.term.y]) ∧ PhisAt w' w.heap.size v0 d.phis ∧ InstsAt w' w.heap.size v1 d.insts ∧ Below w.heap.size w w' := by
  go_enter Tryz.func82, Tryz.ntmps82
  go_wp2_with (first | (go_at_call 118; refine (toPhiS_any lo _ _ _ _ hs.1.1 hs.1.2 (k0.keep (((agree_alloc _ _ _).trans (agree_alloc _ _ _)).trans (agree_alloc _ _ _)))).mono ?_; rintro e w1 ⟨v0, q0, rfl, n0, hb1⟩; have hcc1 := bcell hb1; have hff1 := bfroz hb1; have z1a : w.heap.size < w1.heap.size := (by have := hb1.size; simp at this; omega); have z1b : w.heap.size + 1 < w1.heap.size := (by have := hb1.size; simp at this; omega); have z1c : w.heap.size + 1 + 1 < w1.heap.size := (by have := hb1.size; simp at this; omega); have hB1 : Below w.heap.size w w1 := ((((Below.refl w.heap.size w).alloc (Nat.le_refl _) _).alloc (by first | (simp; done) | (simp; omega)) _).alloc (by first | (simp; done) | (simp; omega)) _).trans (hb1.mono (by first | (simp; done) | (simp; omega)))) | (go_at_call 119; refine (toInstS_any lo _ _ _ _ hs.2.1 hs.2.2 (k1.keep (agree_of_below (by repeat (first | refine Below.setCell ?_ (by dsimp only; omega) _ | exact hB1)) lo))).mono ?_; rintro e w2 ⟨v1, q1, rfl, n1, hb2⟩; have hcc2 := bcell hb2; have hff2 := bfroz hb2; have z2a : w.heap.size < w2.heap.size := (by have := hb2.size; simp at this; omega); have z2b : w.heap.size + 1 < w2.heap.size := (by have := hb2.size; simp at this; omega); have z2c : w.heap.size + 1 + 1 < w2.heap.size := (by have := hb2.size; simp at this; omega); have hB2 : Below w.heap.size w w2 := Below.trans (b := _) (by repeat (first | refine Below.setCell ?_ (by dsimp only; omega) _ | exact hB1)) (hb2.mono (by first | (simp; omega) | (simp; done)))) | (go_at_call 120; refine (toTerm_any _ _ _ _ _).mono ?_; rintro e w3 ⟨rfl, hb3⟩; have hcc3 := bcell hb3; have hff3 := bfroz hb3; have z3a : w.heap.size < w3.heap.size := (by have := hb3.size; simp at this; omega); have z3b : w.heap.size + 1 < w3.heap.size := (by have := hb3.size; simp at this; omega); have z3c : w.heap.size + 1 + 1 < w3.heap.size := (by have := hb3.size; simp at this; omega); have hB3 : Below w.heap.size w w3 := Below.trans (b := _) (by repeat (first | refine Below.setCell ?_ (by dsimp only; omega) _ | exact hB2)) (hb3.mono (by first | (simp; omega) | (simp; done)))))
  have hr := (heap_set (o := 5) (v := .int .i64 d.term.y) (heap_set (o := 4) (v := .int .i64 d.term.x) (heap_set (o := 3) (v := .int .i64 d.term.a) (heap_set (o := 2) (v := .int .i64 d.term.kind) (heap_set (o := 1) (v := .slice v1 d.insts.length q1) (heap_set (o := 0) (v := .slice v0 d.phis.length q0) (heap_other (g := w.heap.size + 1) (p := ⟨w.heap.size + 1 + 1, 5, none⟩) (v := .int .i64 d.term.y) (by simp) (heap_other (g := w.heap.size + 1) (p := ⟨w.heap.size + 1 + 1, 4, none⟩) (v := .int .i64 d.term.x) (by simp) (heap_other (g := w.heap.size + 1) (p := ⟨w.heap.size + 1 + 1, 3, none⟩) (v := .int .i64 d.term.a) (by simp) (heap_other (g := w.heap.size + 1) (p := ⟨w.heap.size + 1 + 1, 2, none⟩) (v := .int .i64 d.term.kind) (by simp) ((hb3.block (w.heap.size + 1) (by first | (simp; done) | (simp; omega))).trans (heap_other (g := w.heap.size + 1) (p := ⟨w.heap.size + 1 + 1, 1, none⟩) (v := .slice v1 d.insts.length q1) (by simp) ((hb2.block (w.heap.size + 1) (by first | (simp; done) | (simp; omega))).trans (heap_other (g := w.heap.size + 1) (p := ⟨w.heap.size + 1 + 1, 0, none⟩) (v := .slice v0 d.phis.length q0) (by simp) ((hb1.block (w.heap.size + 1) (by first | (simp; done) | (simp; omega))).trans (heap_mid _ _ _ _))))))))))))))))
  refine bodyPost_ret (v := .agg #[.slice v0 d.phis.length q0, .slice v1 d.insts.length q1, .int .i64 d.term.kind, .int .i64 d.term.a, .int .i64 d.term.x, .int .i64 d.term.y]) ((results_cell_row Tryz.results82 _ _ (w.heap.size + 1) 61 _ (0, 0) _ rfl hr Tryz.underlying61 rfl (by kernel_rfl)).trans (by rfl)) rfl ⟨v0, q0, v1, q1, rfl, ?_, ?_, ?_⟩
  · exact ((n0.low (lo' := w.heap.size + 3) (by first | (simp; done) | (simp; omega))).keep (by repeat (first | refine Agree.trans ?_ (agree_setCell _ _ _ _ _ (by omega)) | refine Agree.trans ?_ (agree_of_below hb3 _) | refine Agree.trans ?_ (agree_of_below hb2 _) | exact Agree.refl _ _))).low (by omega)
  · exact ((n1.low (lo' := w.heap.size + 3) (by first | (simp; omega) | (simp; done))).keep (by repeat (first | refine Agree.trans ?_ (agree_setCell _ _ _ _ _ (by omega)) | refine Agree.trans ?_ (agree_of_below hb3 _) | exact Agree.refl _ _))).low (by omega)
  · repeat (first | refine Below.setCell ?_ (by dsimp only; omega) _ | exact hB3)
theorem infoBlock : (Tryz.prog.info? 61).map (fun i => (i.zero, i.size, i.bytes)) = some (some (.agg #[.slice none 0 0, .slice none 0 0, .int .i64 0, .int .i64 0, .int .i64 0, .int .i64 0]), 6, 80) := by kernel_rfl
set_option maxHeartbeats 2000000 in
theorem toBlockS_any (lo : Nat) (a : Option Addr) (cap : Nat) (l : List BlockD) (w : World) (hl : l.length ≤ 1048576) (hs : ∀ d ∈ l, SmBlock d) (hv : BlocksAt w lo a l) :
    Calls Tryz.prog 43 #[.slice a l.length cap] w fun e w' => ∃ u c, e = .returned (.slice u l.length c) ∧ BlocksAt w' w.heap.size u l ∧ Below w.heap.size w w' := by
  obtain ⟨i0, hi, hz0, hz1, hz2⟩ := info_parts infoBlock
  have hmk := mk_any (t := 25) l.length Tryz.underlying25 hi hz0 hz1 hz2 (by omega) hl
  clear hi hz0 hz1 hz2
  have hm := hv.1
  go_enter Tryz.func43, Tryz.ntmps43
  go_wp2_with fail
  go_loopw [4] (fun i wr => ∃ (k : Nat) (cur : Array Value), k ≤ l.length ∧ i = .int .i64 k ∧ cur.size = l.length * 6 ∧ wr.heap[w.heap.size]? = some (.cells cur 61 (0, 0)) ∧ (∀ j, j < k → (∃ u c, cur[j * 6]? = some (.slice u (l.getD j block0).phis.length c) ∧ PhisAt wr (w.heap.size + 1) u (l.getD j block0).phis) ∧ (∃ u c, cur[j * 6 + 1]? = some (.slice u (l.getD j block0).insts.length c) ∧ InstsAt wr (w.heap.size + 1) u (l.getD j block0).insts) ∧ cur[j * 6 + 2]? = some (.int .i64 (l.getD j block0).term.kind) ∧ cur[j * 6 + 3]? = some (.int .i64 (l.getD j block0).term.a) ∧ cur[j * 6 + 4]? = some (.int .i64 (l.getD j block0).term.x) ∧ cur[j * 6 + 5]? = some (.int .i64 (l.getD j block0).term.y)) ∧ Below w.heap.size w wr) (fun i _ => l.length - (intOf i).toNat)
  case atStart => exact ⟨0, _, by omega, rfl, by simp [size_madeCells], heap_alloc_at _ _, fun j hj => by omega, (Below.refl _ _).alloc (Nat.le_refl _) _⟩
  case round =>
    obtain ⟨k, cur, hk, rfl, hcs, hblk, hdone, hB⟩ := hrel
    by_cases hlt : k < l.length
    · rcases hv.2 with rfl | ⟨b, off, rfl, hlo, hb, hcell⟩
      · simp at hlt
      obtain ⟨⟨u0, c0, h0, k0⟩, ⟨u1, c1, h1, k1⟩, h2, h3, h4, h5⟩ := hcell k hlt
      have hsd := hs _ (getD_mem block0 l k hlt)
      generalize hd : l.getD k block0 = d at h0 h1 h2 h3 h4 h5 k0 k1 hsd
      have e0 : wr.cell? ⟨b, off + k * 6, none⟩ = some (.slice u0 d.phis.length c0) := (cell_block (hB.block b hb)).trans h0
      have m0 := k0.keep (agree_of_below hB _)
      have e1 : wr.cell? ⟨b, off + k * 6 + 1, none⟩ = some (.slice u1 d.insts.length c1) := (cell_block (hB.block b hb)).trans h1
      have m1 := k1.keep (agree_of_below hB _)
      have e2 : wr.cell? ⟨b, off + k * 6 + 2, none⟩ = some (.int .i64 d.term.kind) := (cell_block (hB.block b hb)).trans h2
      have e3 : wr.cell? ⟨b, off + k * 6 + 3, none⟩ = some (.int .i64 d.term.a) := (cell_block (hB.block b hb)).trans h3
      have e4 : wr.cell? ⟨b, off + k * 6 + 4, none⟩ = some (.int .i64 d.term.x) := (cell_block (hB.block b hb)).trans h4
      have e5 : wr.cell? ⟨b, off + k * 6 + 5, none⟩ = some (.int .i64 d.term.y) := (cell_block (hB.block b hb)).trans h5
      have HD : Hid (l.getD k block0 = d) := hd
      have HDN : Hid (∀ j, j < k → (∃ u c, cur[j * 6]? = some (.slice u (l.getD j block0).phis.length c) ∧ PhisAt wr (w.heap.size + 1) u (l.getD j block0).phis) ∧ (∃ u c, cur[j * 6 + 1]? = some (.slice u (l.getD j block0).insts.length c) ∧ InstsAt wr (w.heap.size + 1) u (l.getD j block0).insts) ∧ cur[j * 6 + 2]? = some (.int .i64 (l.getD j block0).term.kind) ∧ cur[j * 6 + 3]? = some (.int .i64 (l.getD j block0).term.a) ∧ cur[j * 6 + 4]? = some (.int .i64 (l.getD j block0).term.x) ∧ cur[j * 6 + 5]? = some (.int .i64 (l.getD j block0).term.y)) := hdone
      have HBK : Hid (wr.heap[w.heap.size]? = some (.cells cur 61 (0, 0))) := hblk
      have HB : Hid (Below w.heap.size w wr) := hB
      have hgl : w.heap.size < wr.heap.size := (Array.getElem?_eq_some_iff.1 hblk).1
      clear hcell hmk hdone hblk hB hd h0 h1 h2 h3 h4 h5
      go_wp2_with (go_at_call 82; refine (toBlock_any lo d _ _ _ _ _ hsd m0 m1).mono ?_; rintro e w1 ⟨v0, q0, v1, q1, rfl, n0, n1, hb1⟩; have hblk1 := (hb1.block w.heap.size hgl).trans HBK.out; have g0 : w1.cell? ⟨w.heap.size, k * 6, none⟩ = some (cur[k * 6]'(by omega)) := (by rw [cell_of_heap hblk1]; simp [show k * 6 < cur.size by omega]); have f0 : w1.frozen? ⟨w.heap.size, k * 6, none⟩ = false := froz_of_heap hblk1; have g1 : w1.cell? ⟨w.heap.size, k * 6 + 1, none⟩ = some (cur[k * 6 + 1]'(by omega)) := (by rw [cell_of_heap hblk1]; simp [show k * 6 + 1 < cur.size by omega]); have f1 : w1.frozen? ⟨w.heap.size, k * 6 + 1, none⟩ = false := froz_of_heap hblk1; have g2 : w1.cell? ⟨w.heap.size, k * 6 + 2, none⟩ = some (cur[k * 6 + 2]'(by omega)) := (by rw [cell_of_heap hblk1]; simp [show k * 6 + 2 < cur.size by omega]); have f2 : w1.frozen? ⟨w.heap.size, k * 6 + 2, none⟩ = false := froz_of_heap hblk1; have g3 : w1.cell? ⟨w.heap.size, k * 6 + 3, none⟩ = some (cur[k * 6 + 3]'(by omega)) := (by rw [cell_of_heap hblk1]; simp [show k * 6 + 3 < cur.size by omega]); have f3 : w1.frozen? ⟨w.heap.size, k * 6 + 3, none⟩ = false := froz_of_heap hblk1; have g4 : w1.cell? ⟨w.heap.size, k * 6 + 4, none⟩ = some (cur[k * 6 + 4]'(by omega)) := (by rw [cell_of_heap hblk1]; simp [show k * 6 + 4 < cur.size by omega]); have f4 : w1.frozen? ⟨w.heap.size, k * 6 + 4, none⟩ = false := froz_of_heap hblk1; have g5 : w1.cell? ⟨w.heap.size, k * 6 + 5, none⟩ = some (cur[k * 6 + 5]'(by omega)) := (by rw [cell_of_heap hblk1]; simp [show k * 6 + 5 < cur.size by omega]); have f5 : w1.frozen? ⟨w.heap.size, k * 6 + 5, none⟩ = false := froz_of_heap hblk1; have HBK1 : Hid (w1.heap[w.heap.size]? = some (.cells cur 61 (0, 0))) := hblk1; clear hblk1)
      go_roundw
      case rel =>
        have hblk1 := HBK1.out
        have hB := HB.out
        have hd := HD.out
        have hag : Agree (w.heap.size + 1) wr ((((((w1.setCell ⟨w.heap.size, k * 6, none⟩ (.slice v0 d.phis.length q0)).setCell ⟨w.heap.size, k * 6 + 1, none⟩ (.slice v1 d.insts.length q1)).setCell ⟨w.heap.size, k * 6 + 2, none⟩ (.int .i64 d.term.kind)).setCell ⟨w.heap.size, k * 6 + 3, none⟩ (.int .i64 d.term.a)).setCell ⟨w.heap.size, k * 6 + 4, none⟩ (.int .i64 d.term.x)).setCell ⟨w.heap.size, k * 6 + 5, none⟩ (.int .i64 d.term.y)) := (agree_of_below hb1 _).trans (by repeat (first | refine Agree.trans ?_ (agree_setCell _ _ _ _ _ (by omega)) | exact Agree.refl _ _))
        have hag1 : Agree (w.heap.size + 1) w1 ((((((w1.setCell ⟨w.heap.size, k * 6, none⟩ (.slice v0 d.phis.length q0)).setCell ⟨w.heap.size, k * 6 + 1, none⟩ (.slice v1 d.insts.length q1)).setCell ⟨w.heap.size, k * 6 + 2, none⟩ (.int .i64 d.term.kind)).setCell ⟨w.heap.size, k * 6 + 3, none⟩ (.int .i64 d.term.a)).setCell ⟨w.heap.size, k * 6 + 4, none⟩ (.int .i64 d.term.x)).setCell ⟨w.heap.size, k * 6 + 5, none⟩ (.int .i64 d.term.y)) := (by repeat (first | refine Agree.trans ?_ (agree_setCell _ _ _ _ _ (by omega)) | exact Agree.refl _ _))
        refine ⟨k + 1, ((((((cur.setIfInBounds (k * 6) (.slice v0 d.phis.length q0)).setIfInBounds (k * 6 + 1) (.slice v1 d.insts.length q1)).setIfInBounds (k * 6 + 2) (.int .i64 d.term.kind)).setIfInBounds (k * 6 + 3) (.int .i64 d.term.a)).setIfInBounds (k * 6 + 4) (.int .i64 d.term.x)).setIfInBounds (k * 6 + 5) (.int .i64 d.term.y)), by omega, by go_num, by simpa using hcs, (heap_set (heap_set (heap_set (heap_set (heap_set (heap_set hblk1)))))), fun j hj => ?_, ?_⟩
        · by_cases hjk : j = k
          · subst hjk
            rw [hd]
            refine ⟨⟨v0, q0, ?_, (n0.low (by omega)).keep hag1⟩, ⟨v1, q1, ?_, (n1.low (by omega)).keep hag1⟩, ?_, ?_, ?_, ?_⟩
            all_goals (repeat rw [Array.getElem?_setIfInBounds_ne (by omega)])
            all_goals (rw [Array.getElem?_setIfInBounds_self]; simp; omega)
          · obtain ⟨⟨z0, y0, p0, x0⟩, ⟨z1, y1, p1, x1⟩, p2, p3, p4, p5⟩ := HDN.out j (by omega)
            refine ⟨⟨z0, y0, ?_, x0.keep hag⟩, ⟨z1, y1, ?_, x1.keep hag⟩, ?_, ?_, ?_, ?_⟩
            all_goals (repeat rw [Array.getElem?_setIfInBounds_ne (by omega)])
            all_goals assumption
        · have hB1 := hB.trans (hb1.mono hB.size)
          repeat (first | refine Below.setCell ?_ (by first | (dsimp only; omega) | exact Nat.le_refl _) _ | exact hB1)
      case measure => simp [intOf]; omega
    · have hke : k = l.length := by omega
      have HH : Hid (wr.heap[w.heap.size]? = some (.cells cur 61 (0, 0))) := hblk
      have HDN : Hid (∀ j, j < k → (∃ u c, cur[j * 6]? = some (.slice u (l.getD j block0).phis.length c) ∧ PhisAt wr (w.heap.size + 1) u (l.getD j block0).phis) ∧ (∃ u c, cur[j * 6 + 1]? = some (.slice u (l.getD j block0).insts.length c) ∧ InstsAt wr (w.heap.size + 1) u (l.getD j block0).insts) ∧ cur[j * 6 + 2]? = some (.int .i64 (l.getD j block0).term.kind) ∧ cur[j * 6 + 3]? = some (.int .i64 (l.getD j block0).term.a) ∧ cur[j * 6 + 4]? = some (.int .i64 (l.getD j block0).term.x) ∧ cur[j * 6 + 5]? = some (.int .i64 (l.getD j block0).term.y)) := hdone
      clear hmk hblk hdone
      go_wp2_with fail
      go_ret
      refine ⟨_, _, rfl, ⟨hm, .inr ⟨w.heap.size, 0, rfl, Nat.le_refl _, ?_, fun i hi => ?_⟩⟩, hB⟩
      · exact (Array.getElem?_eq_some_iff.1 HH.out).1
      · obtain ⟨⟨z0, y0, p0, x0⟩, ⟨z1, y1, p1, x1⟩, p2, p3, p4, p5⟩ := HDN.out i (by omega)
        simp only [Nat.zero_add, cell_of_heap HH.out]
        exact ⟨⟨z0, y0, p0, x0.low (by omega)⟩, ⟨z1, y1, p1, x1.low (by omega)⟩, p2, p3, p4, p5⟩
set_option maxHeartbeats 2000000 in
theorem toFunc_any (lo : Nat) (d : FuncD) (u0 : Option Addr) (c0 : Nat) (u2 : Option Addr) (c2 : Nat) (w : World) (hs : SmFunc d) (k0 : IntsAt w lo u0 d.params) (k2 : BlocksAt w lo u2 d.blocks) :
    Calls Tryz.prog 15 #[.agg #[.slice u0 d.params.length c0, .int .i64 d.ret, .slice u2 d.blocks.length c2]] w fun e w' => ∃ v0 q0 v2 q2, e = .returned (.agg #[.slice v0 d.params.length q0, .int .i64 d.ret, .slice v2 d.blocks.length q2]) ∧ IntsAt w' w.heap.size v0 d.params ∧ BlocksAt w' w.heap.size v2 d.blocks ∧ Below w.heap.size w w' := by
  go_enter Tryz.func15, Tryz.ntmps15
  go_wp2_with (first | (go_at_call 42; refine (toInts_any lo _ _ _ _ hs.1 (k0.keep (((agree_alloc _ _ _).trans (agree_alloc _ _ _)).trans (agree_alloc _ _ _)))).mono ?_; rintro e w1 ⟨v0, q0, rfl, n0, hb1⟩; have hcc1 := bcell hb1; have hff1 := bfroz hb1; have z1a : w.heap.size < w1.heap.size := (by have := hb1.size; simp at this; omega); have z1b : w.heap.size + 1 < w1.heap.size := (by have := hb1.size; simp at this; omega); have z1c : w.heap.size + 1 + 1 < w1.heap.size := (by have := hb1.size; simp at this; omega); have hB1 : Below w.heap.size w w1 := ((((Below.refl w.heap.size w).alloc (Nat.le_refl _) _).alloc (by first | (simp; done) | (simp; omega)) _).alloc (by first | (simp; done) | (simp; omega)) _).trans (hb1.mono (by first | (simp; done) | (simp; omega)))) | (go_at_call 43; refine (toBlockS_any lo _ _ _ _ hs.2.1 hs.2.2 (k2.keep (agree_of_below (by repeat (first | refine Below.setCell ?_ (by dsimp only; omega) _ | exact hB1)) lo))).mono ?_; rintro e w2 ⟨v2, q2, rfl, n2, hb2⟩; have hcc2 := bcell hb2; have hff2 := bfroz hb2; have z2a : w.heap.size < w2.heap.size := (by have := hb2.size; simp at this; omega); have z2b : w.heap.size + 1 < w2.heap.size := (by have := hb2.size; simp at this; omega); have z2c : w.heap.size + 1 + 1 < w2.heap.size := (by have := hb2.size; simp at this; omega); have hB2 : Below w.heap.size w w2 := Below.trans (b := _) (by repeat (first | refine Below.setCell ?_ (by dsimp only; omega) _ | exact hB1)) (hb2.mono (by first | (simp; omega) | (simp; done)))))
  have hr := (heap_set (o := 2) (v := .slice v2 d.blocks.length q2) (heap_set (o := 1) (v := .int .i64 d.ret) (heap_set (o := 0) (v := .slice v0 d.params.length q0) (heap_other (g := w.heap.size + 1) (p := ⟨w.heap.size + 1 + 1, 2, none⟩) (v := .slice v2 d.blocks.length q2) (by simp) ((hb2.block (w.heap.size + 1) (by first | (simp; done) | (simp; omega))).trans (heap_other (g := w.heap.size + 1) (p := ⟨w.heap.size + 1 + 1, 1, none⟩) (v := .int .i64 d.ret) (by simp) (heap_other (g := w.heap.size + 1) (p := ⟨w.heap.size + 1 + 1, 0, none⟩) (v := .slice v0 d.params.length q0) (by simp) ((hb1.block (w.heap.size + 1) (by first | (simp; done) | (simp; omega))).trans (heap_mid _ _ _ _)))))))))
  refine bodyPost_ret (v := .agg #[.slice v0 d.params.length q0, .int .i64 d.ret, .slice v2 d.blocks.length q2]) ((results_cell_row Tryz.results15 _ _ (w.heap.size + 1) 27 _ (0, 0) _ rfl hr Tryz.underlying27 rfl (by kernel_rfl)).trans (by rfl)) rfl ⟨v0, q0, v2, q2, rfl, ?_, ?_, ?_⟩
  · exact ((n0.low (lo' := w.heap.size + 3) (by first | (simp; done) | (simp; omega))).keep (by repeat (first | refine Agree.trans ?_ (agree_setCell _ _ _ _ _ (by omega)) | refine Agree.trans ?_ (agree_of_below hb2 _) | exact Agree.refl _ _))).low (by omega)
  · exact ((n2.low (lo' := w.heap.size + 3) (by first | (simp; omega) | (simp; done))).keep (by repeat (first | refine Agree.trans ?_ (agree_setCell _ _ _ _ _ (by omega)) | exact Agree.refl _ _))).low (by omega)
  · repeat (first | refine Below.setCell ?_ (by dsimp only; omega) _ | exact hB2)
end Go.Proofs.YtoknhppjdmoblaaGreatDoor
namespace Go.Proofs.YtoknhppjdmoblaaGreatDoor
open Go.RowKit

set_option maxHeartbeats 1000000 in
theorem eqInts_any (lo lo' : Nat) (a b : Option Addr) (ca cb : Nat) (l : List Int) (w : World) (ha : IntsAt w lo a l) (hb : IntsAt w lo' b l) :
    Calls Tryz.prog 44 #[.slice a l.length ca, .slice b l.length cb] w fun e w' => e = .returned (.bool true) ∧ Below w.heap.size w w' := by
  have hm := ha.1
  go_enter Tryz.func44, Tryz.ntmps44
  go_wp2_with fail
  go_loopw [5] (fun i wr => ∃ (k : Nat), k ≤ l.length ∧ i = .int .i64 k ∧ Below w.heap.size w wr) (fun i _ => l.length - (intOf i).toNat)
  case atStart => exact ⟨0, by omega, rfl, Below.refl _ _⟩
  case round =>
    obtain ⟨k, hk, rfl, hB⟩ := hrel
    by_cases hlt : k < l.length
    · rcases ha.2 with rfl | ⟨ba, offa, rfl, hla, hba, hca⟩
      · simp at hlt
      rcases hb.2 with rfl | ⟨bb, offb, rfl, hlb, hbb, hcb⟩
      · simp at hlt
      have e0 : wr.cell? ⟨ba, offa + k, none⟩ = some (.int .i64 (l.getD k 0)) := (cell_block (hB.block ba hba)).trans (hca k hlt)
      have e1 : wr.cell? ⟨bb, offb + k, none⟩ = some (.int .i64 (l.getD k 0)) := (cell_block (hB.block bb hbb)).trans (hcb k hlt)
      generalize l.getD k 0 = d at e0 e1
      have HB : Hid (Below w.heap.size w wr) := hB
      clear hca hcb hB ha hb
      go_wp2_with fail
      go_quiet (fail)
      go_wp2_with fail
      go_roundw
      case rel => exact ⟨k + 1, by omega, by go_num, below_drewN HB.out _⟩
      case measure => simp [intOf]; omega
    · go_wp2_with fail
      go_ret
      exact ⟨rfl, hB⟩
set_option maxHeartbeats 2000000 in
theorem eqPhi_any (lo lo' : Nat) (d : PhiD) (u1 : Option Addr) (c1 : Nat) (v1 : Option Addr) (q1 : Nat) (w : World) (k1 : IntsAt w lo u1 d.ins) (n1 : IntsAt w lo' v1 d.ins) :
    Calls Tryz.prog 143 #[.agg #[.int .i64 d.w, .slice u1 d.ins.length c1], .agg #[.int .i64 d.w, .slice v1 d.ins.length q1]] w fun e w' => e = .returned (.bool true) ∧ Below w.heap.size w w' := by
  go_enter Tryz.func143, Tryz.ntmps143
  go_wp2_with (first | (go_at_call 44; refine (eqInts_any lo lo' _ _ _ _ _ _ (k1.keep (agree_of_below (((Below.refl w.heap.size w).alloc (Nat.le_refl _) _).alloc (by first | (simp; done) | (simp; omega)) _) _)) (n1.keep (agree_of_below (((Below.refl w.heap.size w).alloc (Nat.le_refl _) _).alloc (by first | (simp; done) | (simp; omega)) _) _))).mono ?_; rintro e w1 ⟨rfl, hb1⟩; have hcc1 := bcell hb1; have z1a : w.heap.size < w1.heap.size := (by have := hb1.size; (try simp at this); omega); have z1b : w.heap.size + 1 < w1.heap.size := (by have := hb1.size; (try simp at this); omega); have hB1 : Below w.heap.size w w1 := (((Below.refl w.heap.size w).alloc (Nat.le_refl _) _).alloc (by first | (simp; done) | (simp; omega)) _).trans (hb1.mono (by first | (simp; done) | (simp; omega)))))
  go_ret
  exact ⟨rfl, hB1⟩
set_option maxHeartbeats 2000000 in
theorem eqPhiS_any (lo lo' : Nat) (a b : Option Addr) (ca cb : Nat) (l : List PhiD) (w : World) (ha : PhisAt w lo a l) (hb : PhisAt w lo' b l) :
    Calls Tryz.prog 121 #[.slice a l.length ca, .slice b l.length cb] w fun e w' => e = .returned (.bool true) ∧ Below w.heap.size w w' := by
  have hm := ha.1
  go_enter Tryz.func121, Tryz.ntmps121
  go_wp2_with fail
  go_loopw [5] (fun i wr => ∃ (k : Nat), k ≤ l.length ∧ i = .int .i64 k ∧ Below w.heap.size w wr) (fun i _ => l.length - (intOf i).toNat)
  case atStart => exact ⟨0, by omega, rfl, Below.refl _ _⟩
  case round =>
    obtain ⟨k, hk, rfl, hB⟩ := hrel
    by_cases hlt : k < l.length
    · rcases ha.2 with rfl | ⟨ba, offa, rfl, hla, hba, hca⟩
      · simp at hlt
      rcases hb.2 with rfl | ⟨bb, offb, rfl, hlb, hbb, hcb⟩
      · simp at hlt
      obtain ⟨h0, ⟨u1, c1, h1, k1⟩⟩ := hca k hlt
      obtain ⟨g0, ⟨v1, q1, g1, n1⟩⟩ := hcb k hlt
      generalize l.getD k phi0 = d at h0 g0 h1 g1 k1 n1
      have e0 : wr.cell? ⟨ba, offa + k * 2, none⟩ = some (.int .i64 d.w) := (cell_block (hB.block ba hba)).trans h0
      have f0 : wr.cell? ⟨bb, offb + k * 2, none⟩ = some (.int .i64 d.w) := (cell_block (hB.block bb hbb)).trans g0
      have e1 : wr.cell? ⟨ba, offa + k * 2 + 1, none⟩ = some (.slice u1 d.ins.length c1) := (cell_block (hB.block ba hba)).trans h1
      have f1 : wr.cell? ⟨bb, offb + k * 2 + 1, none⟩ = some (.slice v1 d.ins.length q1) := (cell_block (hB.block bb hbb)).trans g1
      have m1 := k1.keep (agree_of_below hB _)
      have o1 := n1.keep (agree_of_below hB _)
      have HB : Hid (Below w.heap.size w wr) := hB
      clear hca hcb hB ha hb h0 g0 h1 g1 k1 n1
      go_wp2_with fail
      go_region_with (go_at_call 143; refine (eqPhi_any lo lo' d _ _ _ _ _ (by exact m1) (by exact o1)).mono ?_; rintro e w1 ⟨rfl, hb1⟩)
      all_goals
        go_wp2_with fail
        go_roundw
        case rel =>
          have hx := HB.out
          have hy := hb1.mono (B' := w.heap.size) hx.size
          exact ⟨k + 1, by omega, by go_num, ⟨hy.os.trans hx.os, hy.tape.trans hx.tape, hy.output.trans hx.output, Nat.le_trans hx.size hy.size, fun i hi => (hy.block i hi).trans (hx.block i hi)⟩⟩
        case measure => simp [intOf]; omega
    · go_wp2_with fail
      go_ret
      exact ⟨rfl, hB⟩
set_option maxHeartbeats 2000000 in
theorem eqInst_any (lo lo' : Nat) (d : InstD) (u6 : Option Addr) (c6 : Nat) (v6 : Option Addr) (q6 : Nat) (w : World) (k6 : IntsAt w lo u6 d.args) (n6 : IntsAt w lo' v6 d.args) :
    Calls Tryz.prog 17 #[.agg #[.int .i64 d.op, .int .i64 d.w, .int .i64 d.a, .int .i64 d.b, .int .i64 d.c, .int .i64 d.imm, .slice u6 d.args.length c6], .agg #[.int .i64 d.op, .int .i64 d.w, .int .i64 d.a, .int .i64 d.b, .int .i64 d.c, .int .i64 d.imm, .slice v6 d.args.length q6]] w fun e w' => e = .returned (.bool true) ∧ Below w.heap.size w w' := by
  go_enter Tryz.func17, Tryz.ntmps17
  go_wp2_with (first | (go_at_call 44; refine (eqInts_any lo lo' _ _ _ _ _ _ (k6.keep (agree_of_below (((Below.refl w.heap.size w).alloc (Nat.le_refl _) _).alloc (by first | (simp; done) | (simp; omega)) _) _)) (n6.keep (agree_of_below (((Below.refl w.heap.size w).alloc (Nat.le_refl _) _).alloc (by first | (simp; done) | (simp; omega)) _) _))).mono ?_; rintro e w1 ⟨rfl, hb1⟩; have hcc1 := bcell hb1; have z1a : w.heap.size < w1.heap.size := (by have := hb1.size; (try simp at this); omega); have z1b : w.heap.size + 1 < w1.heap.size := (by have := hb1.size; (try simp at this); omega); have hB1 : Below w.heap.size w w1 := (((Below.refl w.heap.size w).alloc (Nat.le_refl _) _).alloc (by first | (simp; done) | (simp; omega)) _).trans (hb1.mono (by first | (simp; done) | (simp; omega)))))
  go_ret
  exact ⟨rfl, hB1⟩
set_option maxHeartbeats 2000000 in
theorem eqInstS_any (lo lo' : Nat) (a b : Option Addr) (ca cb : Nat) (l : List InstD) (w : World) (ha : InstsAt w lo a l) (hb : InstsAt w lo' b l) :
    Calls Tryz.prog 122 #[.slice a l.length ca, .slice b l.length cb] w fun e w' => e = .returned (.bool true) ∧ Below w.heap.size w w' := by
  have hm := ha.1
  go_enter Tryz.func122, Tryz.ntmps122
  go_wp2_with fail
  go_loopw [5] (fun i wr => ∃ (k : Nat), k ≤ l.length ∧ i = .int .i64 k ∧ Below w.heap.size w wr) (fun i _ => l.length - (intOf i).toNat)
  case atStart => exact ⟨0, by omega, rfl, Below.refl _ _⟩
  case round =>
    obtain ⟨k, hk, rfl, hB⟩ := hrel
    by_cases hlt : k < l.length
    · rcases ha.2 with rfl | ⟨ba, offa, rfl, hla, hba, hca⟩
      · simp at hlt
      rcases hb.2 with rfl | ⟨bb, offb, rfl, hlb, hbb, hcb⟩
      · simp at hlt
      obtain ⟨h0, h1, h2, h3, h4, h5, ⟨u6, c6, h6, k6⟩⟩ := hca k hlt
      obtain ⟨g0, g1, g2, g3, g4, g5, ⟨v6, q6, g6, n6⟩⟩ := hcb k hlt
      generalize l.getD k inst0 = d at h0 g0 h1 g1 h2 g2 h3 g3 h4 g4 h5 g5 h6 g6 k6 n6
      have e0 : wr.cell? ⟨ba, offa + k * 7, none⟩ = some (.int .i64 d.op) := (cell_block (hB.block ba hba)).trans h0
      have f0 : wr.cell? ⟨bb, offb + k * 7, none⟩ = some (.int .i64 d.op) := (cell_block (hB.block bb hbb)).trans g0
      have e1 : wr.cell? ⟨ba, offa + k * 7 + 1, none⟩ = some (.int .i64 d.w) := (cell_block (hB.block ba hba)).trans h1
      have f1 : wr.cell? ⟨bb, offb + k * 7 + 1, none⟩ = some (.int .i64 d.w) := (cell_block (hB.block bb hbb)).trans g1
      have e2 : wr.cell? ⟨ba, offa + k * 7 + 2, none⟩ = some (.int .i64 d.a) := (cell_block (hB.block ba hba)).trans h2
      have f2 : wr.cell? ⟨bb, offb + k * 7 + 2, none⟩ = some (.int .i64 d.a) := (cell_block (hB.block bb hbb)).trans g2
      have e3 : wr.cell? ⟨ba, offa + k * 7 + 3, none⟩ = some (.int .i64 d.b) := (cell_block (hB.block ba hba)).trans h3
      have f3 : wr.cell? ⟨bb, offb + k * 7 + 3, none⟩ = some (.int .i64 d.b) := (cell_block (hB.block bb hbb)).trans g3
      have e4 : wr.cell? ⟨ba, offa + k * 7 + 4, none⟩ = some (.int .i64 d.c) := (cell_block (hB.block ba hba)).trans h4
      have f4 : wr.cell? ⟨bb, offb + k * 7 + 4, none⟩ = some (.int .i64 d.c) := (cell_block (hB.block bb hbb)).trans g4
      have e5 : wr.cell? ⟨ba, offa + k * 7 + 5, none⟩ = some (.int .i64 d.imm) := (cell_block (hB.block ba hba)).trans h5
      have f5 : wr.cell? ⟨bb, offb + k * 7 + 5, none⟩ = some (.int .i64 d.imm) := (cell_block (hB.block bb hbb)).trans g5
      have e6 : wr.cell? ⟨ba, offa + k * 7 + 6, none⟩ = some (.slice u6 d.args.length c6) := (cell_block (hB.block ba hba)).trans h6
      have f6 : wr.cell? ⟨bb, offb + k * 7 + 6, none⟩ = some (.slice v6 d.args.length q6) := (cell_block (hB.block bb hbb)).trans g6
      have m6 := k6.keep (agree_of_below hB _)
      have o6 := n6.keep (agree_of_below hB _)
      have HB : Hid (Below w.heap.size w wr) := hB
      clear hca hcb hB ha hb h0 g0 h1 g1 h2 g2 h3 g3 h4 g4 h5 g5 h6 g6 k6 n6
      go_wp2_with fail
      go_region_with (go_at_call 17; refine (eqInst_any lo lo' d _ _ _ _ _ (by exact m6) (by exact o6)).mono ?_; rintro e w1 ⟨rfl, hb1⟩)
      all_goals
        go_wp2_with fail
        go_roundw
        case rel =>
          have hx := HB.out
          have hy := hb1.mono (B' := w.heap.size) hx.size
          exact ⟨k + 1, by omega, by go_num, ⟨hy.os.trans hx.os, hy.tape.trans hx.tape, hy.output.trans hx.output, Nat.le_trans hx.size hy.size, fun i hi => (hy.block i hi).trans (hx.block i hi)⟩⟩
        case measure => simp [intOf]; omega
    · go_wp2_with fail
      go_ret
      exact ⟨rfl, hB⟩
set_option maxHeartbeats 2000000 in
theorem eqTerm_any (k a x y : Int) (w : World) :
    Calls Tryz.prog 123 #[.agg #[.int .i64 k, .int .i64 a, .int .i64 x, .int .i64 y], .agg #[.int .i64 k, .int .i64 a, .int .i64 x, .int .i64 y]] w fun e w' => e = .returned (.bool true) ∧ Below w.heap.size w w' := by
  go_enter Tryz.func123, Tryz.ntmps123
  go_wp2_with fail
  go_ret
  exact ⟨rfl, ((Below.refl w.heap.size w).alloc (Nat.le_refl _) _).alloc (by first | (simp; done) | (simp; omega)) _⟩
end Go.Proofs.YtoknhppjdmoblaaGreatDoor
namespace Go.Proofs.YtoknhppjdmoblaaGreatDoor
open Go.RowKit

set_option maxHeartbeats 2000000 in
theorem eqBlock_any (lo lo' : Nat) (d : BlockD) (u0 : Option Addr) (c0 : Nat) (u1 : Option Addr) (c1 : Nat) (v0 : Option Addr) (q0 : Nat) (v1 : Option Addr) (q1 : Nat) (w : World) (k0 : PhisAt w lo u0 d.phis) (k1 : InstsAt w lo u1 d.insts) (n0 : PhisAt w lo' v0 d.phis) (n1 : InstsAt w lo' v1 d.insts) :
    Calls Tryz.prog 83 #[.agg #[.slice u0 d.phis.length c0, .slice u1 d.insts.length c1, .int .i64 d.term.kind, .int .i64 d.term.a, .int .i64 d.term.x, .int .i64 d.term.y], .agg #[.slice v0 d.phis.length q0, .slice v1 d.insts.length q1, .int .i64 d.term.kind, .int .i64 d.term.a, .int .i64 d.term.x, .int .i64 d.term.y]] w fun e w' => e = .returned (.bool true) ∧ Below w.heap.size w w' := by
  go_enter Tryz.func83, Tryz.ntmps83
  go_wp2_with (first | (go_at_call 121; refine (eqPhiS_any lo lo' _ _ _ _ _ _ (k0.keep (agree_of_below (((Below.refl w.heap.size w).alloc (Nat.le_refl _) _).alloc (by first | (simp; done) | (simp; omega)) _) _)) (n0.keep (agree_of_below (((Below.refl w.heap.size w).alloc (Nat.le_refl _) _).alloc (by first | (simp; done) | (simp; omega)) _) _))).mono ?_; rintro e w1 ⟨rfl, hb1⟩; have hcc1 := bcell hb1; have z1a : w.heap.size < w1.heap.size := (by have := hb1.size; (try simp at this); omega); have z1b : w.heap.size + 1 < w1.heap.size := (by have := hb1.size; (try simp at this); omega); have hB1 : Below w.heap.size w w1 := (((Below.refl w.heap.size w).alloc (Nat.le_refl _) _).alloc (by first | (simp; done) | (simp; omega)) _).trans (hb1.mono (by first | (simp; done) | (simp; omega)))) | (go_at_call 122; refine (eqInstS_any lo lo' _ _ _ _ _ _ (k1.keep (agree_of_below hB1 _)) (n1.keep (agree_of_below hB1 _))).mono ?_; rintro e w2 ⟨rfl, hb2⟩; have hcc2 := bcell hb2; have z2a : w.heap.size < w2.heap.size := (by have := hb2.size; (try simp at this); omega); have z2b : w.heap.size + 1 < w2.heap.size := (by have := hb2.size; (try simp at this); omega); have hB2 : Below w.heap.size w w2 := hB1.trans (hb2.mono hB1.size)) | (go_at_call 123; refine (eqTerm_any _ _ _ _ _).mono ?_; rintro e w3 ⟨rfl, hb3⟩; have hcc3 := bcell hb3; have z3a : w.heap.size < w3.heap.size := (by have := hb3.size; (try simp at this); omega); have z3b : w.heap.size + 1 < w3.heap.size := (by have := hb3.size; (try simp at this); omega); have hB3 : Below w.heap.size w w3 := hB2.trans (hb3.mono hB2.size)))
  go_ret
  exact ⟨rfl, hB3⟩
set_option maxHeartbeats 2000000 in
theorem eqBlockS_any (lo lo' : Nat) (a b : Option Addr) (ca cb : Nat) (l : List BlockD) (w : World) (ha : BlocksAt w lo a l) (hb : BlocksAt w lo' b l) :
    Calls Tryz.prog 45 #[.slice a l.length ca, .slice b l.length cb] w fun e w' => e = .returned (.bool true) ∧ Below w.heap.size w w' := by
  have hm := ha.1
  go_enter Tryz.func45, Tryz.ntmps45
  go_wp2_with fail
  go_loopw [5] (fun i wr => ∃ (k : Nat), k ≤ l.length ∧ i = .int .i64 k ∧ Below w.heap.size w wr) (fun i _ => l.length - (intOf i).toNat)
  case atStart => exact ⟨0, by omega, rfl, Below.refl _ _⟩
  case round =>
    obtain ⟨k, hk, rfl, hB⟩ := hrel
    by_cases hlt : k < l.length
    · rcases ha.2 with rfl | ⟨ba, offa, rfl, hla, hba, hca⟩
      · simp at hlt
      rcases hb.2 with rfl | ⟨bb, offb, rfl, hlb, hbb, hcb⟩
      · simp at hlt
      obtain ⟨⟨u0, c0, h0, k0⟩, ⟨u1, c1, h1, k1⟩, h2, h3, h4, h5⟩ := hca k hlt
      obtain ⟨⟨v0, q0, g0, n0⟩, ⟨v1, q1, g1, n1⟩, g2, g3, g4, g5⟩ := hcb k hlt
      generalize l.getD k block0 = d at h0 g0 h1 g1 h2 g2 h3 g3 h4 g4 h5 g5 k0 n0 k1 n1
      have e0 : wr.cell? ⟨ba, offa + k * 6, none⟩ = some (.slice u0 d.phis.length c0) := (cell_block (hB.block ba hba)).trans h0
      have f0 : wr.cell? ⟨bb, offb + k * 6, none⟩ = some (.slice v0 d.phis.length q0) := (cell_block (hB.block bb hbb)).trans g0
      have m0 := k0.keep (agree_of_below hB _)
      have o0 := n0.keep (agree_of_below hB _)
      have e1 : wr.cell? ⟨ba, offa + k * 6 + 1, none⟩ = some (.slice u1 d.insts.length c1) := (cell_block (hB.block ba hba)).trans h1
      have f1 : wr.cell? ⟨bb, offb + k * 6 + 1, none⟩ = some (.slice v1 d.insts.length q1) := (cell_block (hB.block bb hbb)).trans g1
      have m1 := k1.keep (agree_of_below hB _)
      have o1 := n1.keep (agree_of_below hB _)
      have e2 : wr.cell? ⟨ba, offa + k * 6 + 2, none⟩ = some (.int .i64 d.term.kind) := (cell_block (hB.block ba hba)).trans h2
      have f2 : wr.cell? ⟨bb, offb + k * 6 + 2, none⟩ = some (.int .i64 d.term.kind) := (cell_block (hB.block bb hbb)).trans g2
      have e3 : wr.cell? ⟨ba, offa + k * 6 + 3, none⟩ = some (.int .i64 d.term.a) := (cell_block (hB.block ba hba)).trans h3
      have f3 : wr.cell? ⟨bb, offb + k * 6 + 3, none⟩ = some (.int .i64 d.term.a) := (cell_block (hB.block bb hbb)).trans g3
      have e4 : wr.cell? ⟨ba, offa + k * 6 + 4, none⟩ = some (.int .i64 d.term.x) := (cell_block (hB.block ba hba)).trans h4
      have f4 : wr.cell? ⟨bb, offb + k * 6 + 4, none⟩ = some (.int .i64 d.term.x) := (cell_block (hB.block bb hbb)).trans g4
      have e5 : wr.cell? ⟨ba, offa + k * 6 + 5, none⟩ = some (.int .i64 d.term.y) := (cell_block (hB.block ba hba)).trans h5
      have f5 : wr.cell? ⟨bb, offb + k * 6 + 5, none⟩ = some (.int .i64 d.term.y) := (cell_block (hB.block bb hbb)).trans g5
      have HB : Hid (Below w.heap.size w wr) := hB
      clear hca hcb hB ha hb h0 g0 h1 g1 h2 g2 h3 g3 h4 g4 h5 g5 k0 n0 k1 n1
      go_wp2_with fail
      go_region_with (go_at_call 83; refine (eqBlock_any lo lo' d _ _ _ _ _ _ _ _ _ (by exact m0) (by exact m1) (by exact o0) (by exact o1)).mono ?_; rintro e w1 ⟨rfl, hb1⟩)
      all_goals
        go_wp2_with fail
        go_roundw
        case rel =>
          have hx := HB.out
          have hy := hb1.mono (B' := w.heap.size) hx.size
          exact ⟨k + 1, by omega, by go_num, ⟨hy.os.trans hx.os, hy.tape.trans hx.tape, hy.output.trans hx.output, Nat.le_trans hx.size hy.size, fun i hi => (hy.block i hi).trans (hx.block i hi)⟩⟩
        case measure => simp [intOf]; omega
    · go_wp2_with fail
      go_ret
      exact ⟨rfl, hB⟩
set_option maxHeartbeats 2000000 in
theorem eqFunc_any (lo lo' : Nat) (d : FuncD) (u0 : Option Addr) (c0 : Nat) (u2 : Option Addr) (c2 : Nat) (v0 : Option Addr) (q0 : Nat) (v2 : Option Addr) (q2 : Nat) (w : World) (k0 : IntsAt w lo u0 d.params) (k2 : BlocksAt w lo u2 d.blocks) (n0 : IntsAt w lo' v0 d.params) (n2 : BlocksAt w lo' v2 d.blocks) :
    Calls Tryz.prog 18 #[.agg #[.slice u0 d.params.length c0, .int .i64 d.ret, .slice u2 d.blocks.length c2], .agg #[.slice v0 d.params.length q0, .int .i64 d.ret, .slice v2 d.blocks.length q2]] w fun e w' => e = .returned (.bool true) ∧ Below w.heap.size w w' := by
  go_enter Tryz.func18, Tryz.ntmps18
  go_wp2_with (first | (go_at_call 44; refine (eqInts_any lo lo' _ _ _ _ _ _ (k0.keep (agree_of_below (((Below.refl w.heap.size w).alloc (Nat.le_refl _) _).alloc (by first | (simp; done) | (simp; omega)) _) _)) (n0.keep (agree_of_below (((Below.refl w.heap.size w).alloc (Nat.le_refl _) _).alloc (by first | (simp; done) | (simp; omega)) _) _))).mono ?_; rintro e w1 ⟨rfl, hb1⟩; have hcc1 := bcell hb1; have z1a : w.heap.size < w1.heap.size := (by have := hb1.size; (try simp at this); omega); have z1b : w.heap.size + 1 < w1.heap.size := (by have := hb1.size; (try simp at this); omega); have hB1 : Below w.heap.size w w1 := (((Below.refl w.heap.size w).alloc (Nat.le_refl _) _).alloc (by first | (simp; done) | (simp; omega)) _).trans (hb1.mono (by first | (simp; done) | (simp; omega)))) | (go_at_call 45; refine (eqBlockS_any lo lo' _ _ _ _ _ _ (k2.keep (agree_of_below hB1 _)) (n2.keep (agree_of_below hB1 _))).mono ?_; rintro e w2 ⟨rfl, hb2⟩; have hcc2 := bcell hb2; have z2a : w.heap.size < w2.heap.size := (by have := hb2.size; (try simp at this); omega); have z2b : w.heap.size + 1 < w2.heap.size := (by have := hb2.size; (try simp at this); omega); have hB2 : Below w.heap.size w w2 := hB1.trans (hb2.mono hB1.size)))
  go_ret
  exact ⟨rfl, hB2⟩
end Go.Proofs.YtoknhppjdmoblaaGreatDoor
