import Derived.Test.YtenbodghkpbghaaDoorRows
import Derived.WalkKit
import Derived.WalkSpells
namespace Go.Proofs.YtenbodghkpbghaaDoor
open Go.RowKit
structure PhiD where
 w : Int
 ins : List Int
structure InstD where
 op : Int
 w : Int
 a : Int
 b : Int
 c : Int
 imm : Int
 args : List Int
structure TermD where
 kind : Int
 a : Int
 x : Int
 y : Int
structure BlockD where
 phis : List PhiD
 insts : List InstD
 term : TermD
structure FuncD where
 params : List Int
 ret : Int
 blocks : List BlockD
def phi0 : PhiD := ⟨0, []⟩
def inst0 : InstD := ⟨0, 0, 0, 0, 0, 0, []⟩
def term0 : TermD := ⟨0, 0, 0, 0⟩
def block0 : BlockD := ⟨[], [], term0⟩
def func0 : FuncD := ⟨[], 0, []⟩
def Agree (lo : Nat) (w w' : World) : Prop := w.heap.size ≤ w'.heap.size ∧ ∀ b, lo ≤ b → b < w.heap.size → w'.heap[b]? = w.heap[b]?
theorem Agree.refl (lo : Nat) (w : World) : Agree lo w w := ⟨Nat.le_refl _, fun _ _ _ => rfl⟩
theorem Agree.trans {lo : Nat} {a b c : World} (h : Agree lo a b) (k : Agree lo b c) : Agree lo a c :=
 ⟨Nat.le_trans h.1 k.1, fun i hi hl => (k.2 i hi (Nat.lt_of_lt_of_le hl h.1)).trans (h.2 i hi hl)⟩
theorem Agree.mono {lo lo' : Nat} {a b : World} (h : Agree lo a b) (hl : lo ≤ lo') : Agree lo' a b := ⟨h.1, fun i hi hb => h.2 i (Nat.le_trans hl hi) hb⟩
theorem agree_of_below {w w' : World} (h : Below w.heap.size w w') (lo : Nat) : Agree lo w w' := ⟨h.size, fun b _ hb => h.block b hb⟩
theorem agree_alloc (w : World) (o : Obj) (lo : Nat) : Agree lo w (w.alloc o) := ⟨by simp, fun b _ hb => Below.heap_alloc w o b hb⟩
theorem agree_setCell (w : World) (g o lo : Nat) (v : Value) (h : g < lo) : Agree lo w (w.setCell ⟨g, o, none⟩ v) :=
 ⟨by simp [World.setCell], fun b hb _ => Below.heap_setCell _ _ _ _ (by show b ≠ g; omega)⟩
theorem cell_block {w w' : World} {b o : Nat} (h : w'.heap[b]? = w.heap[b]?) : w'.cell? ⟨b, o, none⟩ = w.cell? ⟨b, o, none⟩ := by
 unfold World.cell?; rw [h]
theorem cell_agree {lo : Nat} {w w' : World} (h : Agree lo w w') {b o : Nat} (hl : lo ≤ b) (hb : b < w.heap.size) : w'.cell? ⟨b, o, none⟩ = w.cell? ⟨b, o, none⟩ := by
 unfold World.cell?; rw [h.2 b hl hb]
theorem bcell {W w1 : World} (hb : Below W.heap.size W w1) : ∀ b o, b < W.heap.size → w1.cell? ⟨b, o, none⟩ = W.cell? ⟨b, o, none⟩ := fun b o h => hb.cell (p := ⟨b, o, none⟩) h
theorem bfroz {W w1 : World} (hb : Below W.heap.size W w1) : ∀ b o, b < W.heap.size → w1.frozen? ⟨b, o, none⟩ = W.frozen? ⟨b, o, none⟩ := fun b o h => hb.frozen (p := ⟨b, o, none⟩) h
theorem drop_get {α : Type} (z : α) (l : List α) (k : Nat) (h : k < l.length) : l.drop k = l.getD k z :: l.drop (k + 1) := by
 rw [List.drop_eq_getElem_cons h]; simp [List.getD, h]
theorem getD_mem {α : Type} (z : α) (l : List α) (k : Nat) (h : k < l.length) : l.getD k z ∈ l := by simp [List.getD, h]
def IntsAt (w : World) (lo : Nat) (a : Option Addr) (l : List Int) : Prop :=
 l.length ≤ 9223372036854775807 ∧ (l = [] ∨ ∃ b off, a = some ⟨b, off, none⟩ ∧ lo ≤ b ∧ b < w.heap.size ∧ ∀ i, i < l.length → w.cell? ⟨b, off + i, none⟩ = some (.int .i64 (l.getD i 0)))
def PhisAt (w : World) (lo : Nat) (a : Option Addr) (l : List PhiD) : Prop :=
 l.length ≤ 9223372036854775807 ∧ (l = [] ∨ ∃ b off, a = some ⟨b, off, none⟩ ∧ lo ≤ b ∧ b < w.heap.size ∧ ∀ i, i < l.length →
  w.cell? ⟨b, off + i * 2, none⟩ = some (.int .i64 (l.getD i phi0).w) ∧
  (∃ u c, w.cell? ⟨b, off + i * 2 + 1, none⟩ = some (.slice u (l.getD i phi0).ins.length c) ∧ IntsAt w lo u (l.getD i phi0).ins))
def InstsAt (w : World) (lo : Nat) (a : Option Addr) (l : List InstD) : Prop :=
 l.length ≤ 9223372036854775807 ∧ (l = [] ∨ ∃ b off, a = some ⟨b, off, none⟩ ∧ lo ≤ b ∧ b < w.heap.size ∧ ∀ i, i < l.length →
  w.cell? ⟨b, off + i * 7, none⟩ = some (.int .i64 (l.getD i inst0).op) ∧
  w.cell? ⟨b, off + i * 7 + 1, none⟩ = some (.int .i64 (l.getD i inst0).w) ∧
  w.cell? ⟨b, off + i * 7 + 2, none⟩ = some (.int .i64 (l.getD i inst0).a) ∧
  w.cell? ⟨b, off + i * 7 + 3, none⟩ = some (.int .i64 (l.getD i inst0).b) ∧
  w.cell? ⟨b, off + i * 7 + 4, none⟩ = some (.int .i64 (l.getD i inst0).c) ∧
  w.cell? ⟨b, off + i * 7 + 5, none⟩ = some (.int .i64 (l.getD i inst0).imm) ∧
  (∃ u c, w.cell? ⟨b, off + i * 7 + 6, none⟩ = some (.slice u (l.getD i inst0).args.length c) ∧ IntsAt w lo u (l.getD i inst0).args))
def BlocksAt (w : World) (lo : Nat) (a : Option Addr) (l : List BlockD) : Prop :=
 l.length ≤ 9223372036854775807 ∧ (l = [] ∨ ∃ b off, a = some ⟨b, off, none⟩ ∧ lo ≤ b ∧ b < w.heap.size ∧ ∀ i, i < l.length →
  (∃ u c, w.cell? ⟨b, off + i * 6, none⟩ = some (.slice u (l.getD i block0).phis.length c) ∧ PhisAt w lo u (l.getD i block0).phis) ∧
  (∃ u c, w.cell? ⟨b, off + i * 6 + 1, none⟩ = some (.slice u (l.getD i block0).insts.length c) ∧ InstsAt w lo u (l.getD i block0).insts) ∧
  w.cell? ⟨b, off + i * 6 + 2, none⟩ = some (.int .i64 (l.getD i block0).term.kind) ∧
  w.cell? ⟨b, off + i * 6 + 3, none⟩ = some (.int .i64 (l.getD i block0).term.a) ∧
  w.cell? ⟨b, off + i * 6 + 4, none⟩ = some (.int .i64 (l.getD i block0).term.x) ∧
  w.cell? ⟨b, off + i * 6 + 5, none⟩ = some (.int .i64 (l.getD i block0).term.y))
def FuncsAt (w : World) (lo : Nat) (a : Option Addr) (l : List FuncD) : Prop :=
 l.length ≤ 9223372036854775807 ∧ (l = [] ∨ ∃ b off, a = some ⟨b, off, none⟩ ∧ lo ≤ b ∧ b < w.heap.size ∧ ∀ i, i < l.length →
  (∃ u c, w.cell? ⟨b, off + i * 3, none⟩ = some (.slice u (l.getD i func0).params.length c) ∧ IntsAt w lo u (l.getD i func0).params) ∧
  w.cell? ⟨b, off + i * 3 + 1, none⟩ = some (.int .i64 (l.getD i func0).ret) ∧
  (∃ u c, w.cell? ⟨b, off + i * 3 + 2, none⟩ = some (.slice u (l.getD i func0).blocks.length c) ∧ BlocksAt w lo u (l.getD i func0).blocks))
theorem IntsAt.keep {w w' : World} {lo : Nat} {a : Option Addr} {l : List Int} (h : IntsAt w lo a l) (k : Agree lo w w') : IntsAt w' lo a l := by
 obtain ⟨hm, h⟩ := h
 refine ⟨hm, ?_⟩
 rcases h with h | ⟨b, off, ha, hl, hb, hc⟩
 ·exact .inl h
 ·exact .inr ⟨b, off, ha, hl, Nat.lt_of_lt_of_le hb k.1, fun i hi => (cell_agree k hl hb).trans (hc i hi)⟩
theorem IntsAt.low {w : World} {lo lo' : Nat} {a : Option Addr} {l : List Int} (h : IntsAt w lo a l) (k : lo' ≤ lo) : IntsAt w lo' a l := by
 obtain ⟨hm, h⟩ := h
 refine ⟨hm, ?_⟩
 rcases h with h | ⟨b, off, ha, hl, hb, hc⟩
 ·exact .inl h
 ·exact .inr ⟨b, off, ha, Nat.le_trans k hl, hb, hc⟩
theorem PhisAt.keep {w w' : World} {lo : Nat} {a : Option Addr} {l : List PhiD} (h : PhisAt w lo a l) (k : Agree lo w w') : PhisAt w' lo a l := by
 obtain ⟨hm, h⟩ := h
 refine ⟨hm, ?_⟩
 rcases h with h | ⟨b, off, ha, hl, hb, hc⟩
 ·exact .inl h
 ·refine .inr ⟨b, off, ha, hl, Nat.lt_of_lt_of_le hb k.1, fun i hi => ?_⟩
  obtain ⟨h0, ⟨u1, c1, h1, k1⟩⟩ := hc i hi
  exact ⟨(cell_agree k hl hb).trans h0, ⟨u1, c1, (cell_agree k hl hb).trans h1, k1.keep k⟩⟩
theorem PhisAt.low {w : World} {lo lo' : Nat} {a : Option Addr} {l : List PhiD} (h : PhisAt w lo a l) (k : lo' ≤ lo) : PhisAt w lo' a l := by
 obtain ⟨hm, h⟩ := h
 refine ⟨hm, ?_⟩
 rcases h with h | ⟨b, off, ha, hl, hb, hc⟩
 ·exact .inl h
 ·refine .inr ⟨b, off, ha, Nat.le_trans k hl, hb, fun i hi => ?_⟩
  obtain ⟨h0, ⟨u1, c1, h1, k1⟩⟩ := hc i hi
  exact ⟨h0, ⟨u1, c1, h1, k1.low k⟩⟩
theorem InstsAt.keep {w w' : World} {lo : Nat} {a : Option Addr} {l : List InstD} (h : InstsAt w lo a l) (k : Agree lo w w') : InstsAt w' lo a l := by
 obtain ⟨hm, h⟩ := h
 refine ⟨hm, ?_⟩
 rcases h with h | ⟨b, off, ha, hl, hb, hc⟩
 ·exact .inl h
 ·refine .inr ⟨b, off, ha, hl, Nat.lt_of_lt_of_le hb k.1, fun i hi => ?_⟩
  obtain ⟨h0, h1, h2, h3, h4, h5, ⟨u6, c6, h6, k6⟩⟩ := hc i hi
  exact ⟨(cell_agree k hl hb).trans h0, (cell_agree k hl hb).trans h1, (cell_agree k hl hb).trans h2, (cell_agree k hl hb).trans h3, (cell_agree k hl hb).trans h4, (cell_agree k hl hb).trans h5, ⟨u6, c6, (cell_agree k hl hb).trans h6, k6.keep k⟩⟩
theorem InstsAt.low {w : World} {lo lo' : Nat} {a : Option Addr} {l : List InstD} (h : InstsAt w lo a l) (k : lo' ≤ lo) : InstsAt w lo' a l := by
 obtain ⟨hm, h⟩ := h
 refine ⟨hm, ?_⟩
 rcases h with h | ⟨b, off, ha, hl, hb, hc⟩
 ·exact .inl h
 ·refine .inr ⟨b, off, ha, Nat.le_trans k hl, hb, fun i hi => ?_⟩
  obtain ⟨h0, h1, h2, h3, h4, h5, ⟨u6, c6, h6, k6⟩⟩ := hc i hi
  exact ⟨h0, h1, h2, h3, h4, h5, ⟨u6, c6, h6, k6.low k⟩⟩
theorem BlocksAt.keep {w w' : World} {lo : Nat} {a : Option Addr} {l : List BlockD} (h : BlocksAt w lo a l) (k : Agree lo w w') : BlocksAt w' lo a l := by
 obtain ⟨hm, h⟩ := h
 refine ⟨hm, ?_⟩
 rcases h with h | ⟨b, off, ha, hl, hb, hc⟩
 ·exact .inl h
 ·refine .inr ⟨b, off, ha, hl, Nat.lt_of_lt_of_le hb k.1, fun i hi => ?_⟩
  obtain ⟨⟨u0, c0, h0, k0⟩, ⟨u1, c1, h1, k1⟩, h2, h3, h4, h5⟩ := hc i hi
  exact ⟨⟨u0, c0, (cell_agree k hl hb).trans h0, k0.keep k⟩, ⟨u1, c1, (cell_agree k hl hb).trans h1, k1.keep k⟩, (cell_agree k hl hb).trans h2, (cell_agree k hl hb).trans h3, (cell_agree k hl hb).trans h4, (cell_agree k hl hb).trans h5⟩
theorem BlocksAt.low {w : World} {lo lo' : Nat} {a : Option Addr} {l : List BlockD} (h : BlocksAt w lo a l) (k : lo' ≤ lo) : BlocksAt w lo' a l := by
 obtain ⟨hm, h⟩ := h
 refine ⟨hm, ?_⟩
 rcases h with h | ⟨b, off, ha, hl, hb, hc⟩
 ·exact .inl h
 ·refine .inr ⟨b, off, ha, Nat.le_trans k hl, hb, fun i hi => ?_⟩
  obtain ⟨⟨u0, c0, h0, k0⟩, ⟨u1, c1, h1, k1⟩, h2, h3, h4, h5⟩ := hc i hi
  exact ⟨⟨u0, c0, h0, k0.low k⟩, ⟨u1, c1, h1, k1.low k⟩, h2, h3, h4, h5⟩
theorem FuncsAt.keep {w w' : World} {lo : Nat} {a : Option Addr} {l : List FuncD} (h : FuncsAt w lo a l) (k : Agree lo w w') : FuncsAt w' lo a l := by
 obtain ⟨hm, h⟩ := h
 refine ⟨hm, ?_⟩
 rcases h with h | ⟨b, off, ha, hl, hb, hc⟩
 ·exact .inl h
 ·refine .inr ⟨b, off, ha, hl, Nat.lt_of_lt_of_le hb k.1, fun i hi => ?_⟩
  obtain ⟨⟨u0, c0, h0, k0⟩, h1, ⟨u2, c2, h2, k2⟩⟩ := hc i hi
  exact ⟨⟨u0, c0, (cell_agree k hl hb).trans h0, k0.keep k⟩, (cell_agree k hl hb).trans h1, ⟨u2, c2, (cell_agree k hl hb).trans h2, k2.keep k⟩⟩
theorem FuncsAt.low {w : World} {lo lo' : Nat} {a : Option Addr} {l : List FuncD} (h : FuncsAt w lo a l) (k : lo' ≤ lo) : FuncsAt w lo' a l := by
 obtain ⟨hm, h⟩ := h
 refine ⟨hm, ?_⟩
 rcases h with h | ⟨b, off, ha, hl, hb, hc⟩
 ·exact .inl h
 ·refine .inr ⟨b, off, ha, Nat.le_trans k hl, hb, fun i hi => ?_⟩
  obtain ⟨⟨u0, c0, h0, k0⟩, h1, ⟨u2, c2, h2, k2⟩⟩ := hc i hi
  exact ⟨⟨u0, c0, h0, k0.low k⟩, h1, ⟨u2, c2, h2, k2.low k⟩⟩
end Go.Proofs.YtenbodghkpbghaaDoor
namespace Go.Proofs.YtenbodghkpbghaaDoor
open Go.RowKit
def widthB (w : Int) : Bool := w == 1 || w == 8 || w == 16 || w == 32
def topZ (w : Int) : Int := if w = 1 then 2 else if w = 8 then 256 else if w = 16 then 65536 else 4294967296
def valueB (w v : Int) : Bool := widthB w && (decide (0 ≤ v) && decide (v < topZ w))
theorem width_yes {w : Int} (h : widthB w = true) : w = 1 ∨ w = 8 ∨ w = 16 ∨ w = 32 := by
 simp [widthB] at h; omega
theorem width_no {w : Int} (h : widthB w = false) : (w == 1) = false ∧ (w == 8) = false ∧ (w == 16) = false ∧ (w == 32) = false := by
 simp [widthB] at h; simp; omega
theorem top_pos (w : Int) : 2 ≤ topZ w ∧ topZ w ≤ 4294967296 := by
 unfold topZ; repeat' split
 all_goals omega
end Go.Proofs.YtenbodghkpbghaaDoor
namespace Go.Proofs.YtenbodghkpbghaaDoor
open Go.RowKit
theorem widthS (a : Int) (w : World) : Calls Tryd.prog 48 #[.int .i64 a] w fun e w' => e = .returned (.bool (widthB a)) ∧ w' = w := by
 by_cases h : widthB a = true
 ·rw [h]
  rcases width_yes h with rfl | rfl | rfl | rfl
  all_goals
   clear h
   go_enter Tryd.func48, Tryd.ntmps48
   go_wp2
   go_ret
   exact ⟨rfl, rfl⟩
 ·have h : widthB a = false := by simpa using h
  rw [h]
  obtain ⟨d1, d2, d3, d4⟩ := width_no h
  clear h
  go_enter Tryd.func48, Tryd.ntmps48
  go_wp2
  go_ret
  exact ⟨rfl, rfl⟩
theorem widthI (a : Int) (w : World) : Calls Tryd.prog 72 #[.int .i64 a] w fun e w' => e = .returned (.bool (widthB a)) ∧ w' = w := by
 by_cases h : widthB a = true
 ·rw [h]
  rcases width_yes h with rfl | rfl | rfl | rfl
  all_goals
   clear h
   go_enter Tryd.func72, Tryd.ntmps72
   go_wp2
   go_ret
   exact ⟨rfl, rfl⟩
 ·have h : widthB a = false := by simpa using h
  rw [h]
  obtain ⟨d1, d2, d3, d4⟩ := width_no h
  clear h
  go_enter Tryd.func72, Tryd.ntmps72
  go_wp2
  go_ret
  exact ⟨rfl, rfl⟩
theorem topS (a : Int) (w : World) (h : widthB a = true) : Calls Tryd.prog 101 #[.int .i64 a] w fun e w' => e = .returned (.int .i64 (topZ a)) ∧ w' = w := by
 rcases width_yes h with rfl | rfl | rfl | rfl
 all_goals
  clear h
  go_enter Tryd.func101, Tryd.ntmps101
  go_wp2
  go_ret
  exact ⟨rfl, rfl⟩
theorem topI (a : Int) (w : World) (h : widthB a = true) : Calls Tryd.prog 116 #[.int .i64 a] w fun e w' => e = .returned (.int .i64 (topZ a)) ∧ w' = w := by
 rcases width_yes h with rfl | rfl | rfl | rfl
 all_goals
  clear h
  go_enter Tryd.func116, Tryd.ntmps116
  go_wp2
  go_ret
  exact ⟨rfl, rfl⟩
theorem ret_bool {a b : Bool} (h : a = b) : Ending.returned (.bool a) = .returned (.bool b) := by rw [h]
theorem ret_int {k : IntKind} {a b : Int} (h : a = b) : Ending.returned (.int k a) = .returned (.int k b) := by rw [h]
theorem inS (n lo hi : Int) (w : World) : Calls Tryd.prog 30 #[.int .i64 n, .int .i64 lo, .int .i64 hi] w fun e w' => e = .returned (.bool (decide (lo ≤ n) && decide (n ≤ hi))) ∧ w' = w := by
 by_cases h1 : lo ≤ n
 ·by_cases h2 : n ≤ hi
  ·have d1 : decide (lo ≤ n) = true := by simpa using h1
   have d2 : decide (n ≤ hi) = true := by simpa using h2
   go_enter Tryd.func30, Tryd.ntmps30
   go_wp2
   go_ret
   exact ⟨ret_bool (by simp [h1, h2]), rfl⟩
  ·have d1 : decide (lo ≤ n) = true := by simpa using h1
   have d2 : decide (n ≤ hi) = false := by simpa using h2
   go_enter Tryd.func30, Tryd.ntmps30
   go_wp2
   go_ret
   exact ⟨ret_bool (by simp), rfl⟩
 ·have d1 : decide (lo ≤ n) = false := by simpa using h1
  go_enter Tryd.func30, Tryd.ntmps30
  go_wp2
  go_ret
  exact ⟨ret_bool (by simp), rfl⟩
theorem valueS_eq {a v : Int} (h : widthB a = true) : (decide (0 ≤ v) && decide (v ≤ topZ a - 1)) = valueB a v := by
 rw [valueB, h, Bool.true_and, Bool.eq_iff_iff]; simp; omega
theorem valueS (a v : Int) (w : World) : Calls Tryd.prog 78 #[.int .i64 a, .int .i64 v] w fun e w' => e = .returned (.bool (valueB a v)) ∧ w' = w := by
 by_cases h : widthB a = true
 ·have tp := top_pos a
  have HE : Hid ((decide (0 ≤ v) && decide (v ≤ topZ a - 1)) = valueB a v) := valueS_eq h
  go_enter Tryd.func78, Tryd.ntmps78
  go_wp2_with (first | (go_at_call 48; refine (widthS _ _).mono ?_; rintro e w' ⟨rfl, rfl⟩) | (go_at_call 101; refine (topS _ _ h).mono ?_; rintro e w' ⟨rfl, rfl⟩) | (go_at_call 30; refine (inS _ _ _ _).mono ?_; rintro e w' ⟨rfl, rfl⟩))
  go_ret
  exact ⟨ret_bool HE.out, rfl⟩
 ·have h : widthB a = false := by simpa using h
  have HE : Hid (false = valueB a v) := by simp [valueB, h, Hid]
  go_enter Tryd.func78, Tryd.ntmps78
  go_wp2_with (first | (go_at_call 48; refine (widthS _ _).mono ?_; rintro e w' ⟨rfl, rfl⟩))
  go_ret
  exact ⟨ret_bool HE.out, rfl⟩
theorem valueI (a v : Int) (w : World) : Calls Tryd.prog 115 #[.int .i64 a, .int .i64 v] w fun e w' => e = .returned (.bool (valueB a v)) ∧ w' = w := by
 by_cases h : widthB a = true
 ·have tp := top_pos a
  by_cases h1 : 0 ≤ v
  ·have HE : Hid (decide (v < topZ a) = valueB a v) := by show _ = _; rw [valueB, h]; simp [h1]
   go_enter Tryd.func115, Tryd.ntmps115
   go_wp2_with (first | (go_at_call 72; refine (widthI _ _).mono ?_; rintro e w' ⟨rfl, rfl⟩) | (go_at_call 116; refine (topI _ _ h).mono ?_; rintro e w' ⟨rfl, rfl⟩))
   go_ret
   exact ⟨ret_bool HE.out, rfl⟩
  ·have HE : Hid (false = valueB a v) := by show _ = _; rw [valueB, h]; simp [h1]
   have d1 : decide (0 ≤ v) = false := by simpa using h1
   go_enter Tryd.func115, Tryd.ntmps115
   go_wp2_with (first | (go_at_call 72; refine (widthI _ _).mono ?_; rintro e w' ⟨rfl, rfl⟩))
   go_ret
   exact ⟨ret_bool HE.out, rfl⟩
 ·have h : widthB a = false := by simpa using h
  have HE : Hid (false = valueB a v) := by simp [valueB, h, Hid]
  go_enter Tryd.func115, Tryd.ntmps115
  go_wp2_with (first | (go_at_call 72; refine (widthI _ _).mono ?_; rintro e w' ⟨rfl, rfl⟩))
  go_ret
  exact ⟨ret_bool HE.out, rfl⟩
end Go.Proofs.YtenbodghkpbghaaDoor
namespace Go.Proofs.YtenbodghkpbghaaDoor
open Go.RowKit
def opB (op : Int) : Bool := decide (1 ≤ op) && decide (op ≤ 17)
theorem opI (op : Int) (w : World) : Calls Tryd.prog 55 #[.int .i64 op] w fun e w' => e = .returned (.bool (opB op)) ∧ w' = w := by
 by_cases h1 : 1 ≤ op
 ·have E : Hid (decide (op ≤ 17) = opB op) := by show _ = _; simp [opB, h1]
  go_enter Tryd.func55, Tryd.ntmps55
  go_wp2
  go_ret
  exact ⟨ret_bool E.out, rfl⟩
 ·have E : Hid (false = opB op) := by show _ = _; simp [opB, h1]
  have d1 : decide (1 ≤ op) = false := by simpa using h1
  go_enter Tryd.func55, Tryd.ntmps55
  go_wp2
  go_ret
  exact ⟨ret_bool E.out, rfl⟩
end Go.Proofs.YtenbodghkpbghaaDoor
namespace Go.Proofs.YtenbodghkpbghaaDoor
open Go.RowKit
def kindV (d : InstD) (u : Option Addr) (q : Nat) : Value :=
 if opB d.op = true then .iface 96 (.agg #[.int .i64 d.a, .int .i64 d.b])
 else if d.op = 18 ∨ d.op = 19 ∨ d.op = 20 ∨ d.op = 27 then .iface 98 (.agg #[.int .i64 d.a])
 else if d.op = 21 then .iface 100 (.agg #[.int .i64 d.imm])
 else if d.op = 22 then .iface 102 (.agg #[.int .i64 d.a, .int .i64 d.b, .int .i64 d.c])
 else if d.op = 23 then .iface 103 (.agg #[.int .i64 d.a])
 else if d.op = 24 then .iface 104 (.agg #[.int .i64 d.a, .int .i64 d.b])
 else if d.op = 25 then .iface 105 (.agg #[.int .i64 d.a])
 else if d.op = 26 then .iface 107 (.agg #[.int .i64 d.imm, .slice u d.args.length q])
 else .iface 109 (.agg #[])
theorem kv_bin {d : InstD} {u : Option Addr} {q : Nat} (h : opB d.op = true) : kindV d u q = .iface 96 (.agg #[.int .i64 d.a, .int .i64 d.b]) := by rw [kindV, if_pos h]
theorem kv_18 {d : InstD} {u : Option Addr} {q : Nat} (h : d.op = 18) : kindV d u q = .iface 98 (.agg #[.int .i64 d.a]) := by
 have ho : opB 18 = false := by decide
 simp [kindV, h, ho]
theorem kv_19 {d : InstD} {u : Option Addr} {q : Nat} (h : d.op = 19) : kindV d u q = .iface 98 (.agg #[.int .i64 d.a]) := by
 have ho : opB 19 = false := by decide
 simp [kindV, h, ho]
theorem kv_20 {d : InstD} {u : Option Addr} {q : Nat} (h : d.op = 20) : kindV d u q = .iface 98 (.agg #[.int .i64 d.a]) := by
 have ho : opB 20 = false := by decide
 simp [kindV, h, ho]
theorem kv_27 {d : InstD} {u : Option Addr} {q : Nat} (h : d.op = 27) : kindV d u q = .iface 98 (.agg #[.int .i64 d.a]) := by
 have ho : opB 27 = false := by decide
 simp [kindV, h, ho]
theorem kv_21 {d : InstD} {u : Option Addr} {q : Nat} (h : d.op = 21) : kindV d u q = .iface 100 (.agg #[.int .i64 d.imm]) := by
 have ho : opB 21 = false := by decide
 simp [kindV, h, ho]
theorem kv_22 {d : InstD} {u : Option Addr} {q : Nat} (h : d.op = 22) : kindV d u q = .iface 102 (.agg #[.int .i64 d.a, .int .i64 d.b, .int .i64 d.c]) := by
 have ho : opB 22 = false := by decide
 simp [kindV, h, ho]
theorem kv_23 {d : InstD} {u : Option Addr} {q : Nat} (h : d.op = 23) : kindV d u q = .iface 103 (.agg #[.int .i64 d.a]) := by
 have ho : opB 23 = false := by decide
 simp [kindV, h, ho]
theorem kv_24 {d : InstD} {u : Option Addr} {q : Nat} (h : d.op = 24) : kindV d u q = .iface 104 (.agg #[.int .i64 d.a, .int .i64 d.b]) := by
 have ho : opB 24 = false := by decide
 simp [kindV, h, ho]
theorem kv_25 {d : InstD} {u : Option Addr} {q : Nat} (h : d.op = 25) : kindV d u q = .iface 105 (.agg #[.int .i64 d.a]) := by
 have ho : opB 25 = false := by decide
 simp [kindV, h, ho]
theorem kv_26 {d : InstD} {u : Option Addr} {q : Nat} (h : d.op = 26) : kindV d u q = .iface 107 (.agg #[.int .i64 d.imm, .slice u d.args.length q]) := by
 have ho : opB 26 = false := by decide
 simp [kindV, h, ho]
theorem kv_no {d : InstD} {u : Option Addr} {q : Nat} (h0 : opB d.op = false) (h : d.op < 1 ∨ 27 < d.op) : kindV d u q = .iface 109 (.agg #[]) := by
 rw [kindV, if_neg (by simp [h0]), if_neg (by omega), if_neg (by omega), if_neg (by omega), if_neg (by omega), if_neg (by omega), if_neg (by omega), if_neg (by omega)]
set_option maxHeartbeats 2000000 in
theorem kind_bin (d : InstD) (u : Option Addr) (q : Nat) (w : World) (h : opB d.op = true) :
  Calls Tryd.prog 34 #[.agg #[.int .i64 d.op, .int .i64 d.w, .int .i64 d.a, .int .i64 d.b, .int .i64 d.c, .int .i64 d.imm, .slice u d.args.length q]] w fun e w' => e = .returned (kindV d u q) ∧ Below w.heap.size w w' := by
 have E := kv_bin (u := u) (q := q) h
 generalize kindV d u q = V at E
 subst E
 go_enter Tryd.func34, Tryd.ntmps34
 go_wp2_with (go_at_call 55; refine (opI _ _).mono ?_; rintro e w' ⟨rfl, rfl⟩)
 go_ret
 exact ⟨rfl, (Below.refl _ _).alloc (Nat.le_refl _) _⟩
set_option maxHeartbeats 2000000 in
theorem kind_18 (d : InstD) (u : Option Addr) (q : Nat) (w : World) (h : d.op = 18) :
  Calls Tryd.prog 34 #[.agg #[.int .i64 d.op, .int .i64 d.w, .int .i64 d.a, .int .i64 d.b, .int .i64 d.c, .int .i64 d.imm, .slice u d.args.length q]] w fun e w' => e = .returned (kindV d u q) ∧ Below w.heap.size w w' := by
 have E := kv_18 (u := u) (q := q) h
 generalize kindV d u q = V at E
 subst E
 have ho : opB d.op = false := by rw [h]; decide
 have ho2 : opB 18 = false := by decide
 go_enter Tryd.func34, Tryd.ntmps34
 go_wp2_with (go_at_call 55; refine (opI _ _).mono ?_; rintro e w' ⟨rfl, rfl⟩)
 go_ret
 exact ⟨rfl, (Below.refl _ _).alloc (Nat.le_refl _) _⟩
set_option maxHeartbeats 2000000 in
theorem kind_19 (d : InstD) (u : Option Addr) (q : Nat) (w : World) (h : d.op = 19) :
  Calls Tryd.prog 34 #[.agg #[.int .i64 d.op, .int .i64 d.w, .int .i64 d.a, .int .i64 d.b, .int .i64 d.c, .int .i64 d.imm, .slice u d.args.length q]] w fun e w' => e = .returned (kindV d u q) ∧ Below w.heap.size w w' := by
 have E := kv_19 (u := u) (q := q) h
 generalize kindV d u q = V at E
 subst E
 have ho : opB d.op = false := by rw [h]; decide
 have ho2 : opB 19 = false := by decide
 go_enter Tryd.func34, Tryd.ntmps34
 go_wp2_with (go_at_call 55; refine (opI _ _).mono ?_; rintro e w' ⟨rfl, rfl⟩)
 go_ret
 exact ⟨rfl, (Below.refl _ _).alloc (Nat.le_refl _) _⟩
set_option maxHeartbeats 2000000 in
theorem kind_20 (d : InstD) (u : Option Addr) (q : Nat) (w : World) (h : d.op = 20) :
  Calls Tryd.prog 34 #[.agg #[.int .i64 d.op, .int .i64 d.w, .int .i64 d.a, .int .i64 d.b, .int .i64 d.c, .int .i64 d.imm, .slice u d.args.length q]] w fun e w' => e = .returned (kindV d u q) ∧ Below w.heap.size w w' := by
 have E := kv_20 (u := u) (q := q) h
 generalize kindV d u q = V at E
 subst E
 have ho : opB d.op = false := by rw [h]; decide
 have ho2 : opB 20 = false := by decide
 go_enter Tryd.func34, Tryd.ntmps34
 go_wp2_with (go_at_call 55; refine (opI _ _).mono ?_; rintro e w' ⟨rfl, rfl⟩)
 go_ret
 exact ⟨rfl, (Below.refl _ _).alloc (Nat.le_refl _) _⟩
set_option maxHeartbeats 2000000 in
theorem kind_27 (d : InstD) (u : Option Addr) (q : Nat) (w : World) (h : d.op = 27) :
  Calls Tryd.prog 34 #[.agg #[.int .i64 d.op, .int .i64 d.w, .int .i64 d.a, .int .i64 d.b, .int .i64 d.c, .int .i64 d.imm, .slice u d.args.length q]] w fun e w' => e = .returned (kindV d u q) ∧ Below w.heap.size w w' := by
 have E := kv_27 (u := u) (q := q) h
 generalize kindV d u q = V at E
 subst E
 have ho : opB d.op = false := by rw [h]; decide
 have ho2 : opB 27 = false := by decide
 go_enter Tryd.func34, Tryd.ntmps34
 go_wp2_with (go_at_call 55; refine (opI _ _).mono ?_; rintro e w' ⟨rfl, rfl⟩)
 go_ret
 exact ⟨rfl, (Below.refl _ _).alloc (Nat.le_refl _) _⟩
set_option maxHeartbeats 2000000 in
theorem kind_21 (d : InstD) (u : Option Addr) (q : Nat) (w : World) (h : d.op = 21) :
  Calls Tryd.prog 34 #[.agg #[.int .i64 d.op, .int .i64 d.w, .int .i64 d.a, .int .i64 d.b, .int .i64 d.c, .int .i64 d.imm, .slice u d.args.length q]] w fun e w' => e = .returned (kindV d u q) ∧ Below w.heap.size w w' := by
 have E := kv_21 (u := u) (q := q) h
 generalize kindV d u q = V at E
 subst E
 have ho : opB d.op = false := by rw [h]; decide
 have ho2 : opB 21 = false := by decide
 go_enter Tryd.func34, Tryd.ntmps34
 go_wp2_with (go_at_call 55; refine (opI _ _).mono ?_; rintro e w' ⟨rfl, rfl⟩)
 go_ret
 exact ⟨rfl, (Below.refl _ _).alloc (Nat.le_refl _) _⟩
set_option maxHeartbeats 2000000 in
theorem kind_22 (d : InstD) (u : Option Addr) (q : Nat) (w : World) (h : d.op = 22) :
  Calls Tryd.prog 34 #[.agg #[.int .i64 d.op, .int .i64 d.w, .int .i64 d.a, .int .i64 d.b, .int .i64 d.c, .int .i64 d.imm, .slice u d.args.length q]] w fun e w' => e = .returned (kindV d u q) ∧ Below w.heap.size w w' := by
 have E := kv_22 (u := u) (q := q) h
 generalize kindV d u q = V at E
 subst E
 have ho : opB d.op = false := by rw [h]; decide
 have ho2 : opB 22 = false := by decide
 go_enter Tryd.func34, Tryd.ntmps34
 go_wp2_with (go_at_call 55; refine (opI _ _).mono ?_; rintro e w' ⟨rfl, rfl⟩)
 go_ret
 exact ⟨rfl, (Below.refl _ _).alloc (Nat.le_refl _) _⟩
set_option maxHeartbeats 2000000 in
theorem kind_23 (d : InstD) (u : Option Addr) (q : Nat) (w : World) (h : d.op = 23) :
  Calls Tryd.prog 34 #[.agg #[.int .i64 d.op, .int .i64 d.w, .int .i64 d.a, .int .i64 d.b, .int .i64 d.c, .int .i64 d.imm, .slice u d.args.length q]] w fun e w' => e = .returned (kindV d u q) ∧ Below w.heap.size w w' := by
 have E := kv_23 (u := u) (q := q) h
 generalize kindV d u q = V at E
 subst E
 have ho : opB d.op = false := by rw [h]; decide
 have ho2 : opB 23 = false := by decide
 go_enter Tryd.func34, Tryd.ntmps34
 go_wp2_with (go_at_call 55; refine (opI _ _).mono ?_; rintro e w' ⟨rfl, rfl⟩)
 go_ret
 exact ⟨rfl, (Below.refl _ _).alloc (Nat.le_refl _) _⟩
set_option maxHeartbeats 2000000 in
theorem kind_24 (d : InstD) (u : Option Addr) (q : Nat) (w : World) (h : d.op = 24) :
  Calls Tryd.prog 34 #[.agg #[.int .i64 d.op, .int .i64 d.w, .int .i64 d.a, .int .i64 d.b, .int .i64 d.c, .int .i64 d.imm, .slice u d.args.length q]] w fun e w' => e = .returned (kindV d u q) ∧ Below w.heap.size w w' := by
 have E := kv_24 (u := u) (q := q) h
 generalize kindV d u q = V at E
 subst E
 have ho : opB d.op = false := by rw [h]; decide
 have ho2 : opB 24 = false := by decide
 go_enter Tryd.func34, Tryd.ntmps34
 go_wp2_with (go_at_call 55; refine (opI _ _).mono ?_; rintro e w' ⟨rfl, rfl⟩)
 go_ret
 exact ⟨rfl, (Below.refl _ _).alloc (Nat.le_refl _) _⟩
set_option maxHeartbeats 2000000 in
theorem kind_25 (d : InstD) (u : Option Addr) (q : Nat) (w : World) (h : d.op = 25) :
  Calls Tryd.prog 34 #[.agg #[.int .i64 d.op, .int .i64 d.w, .int .i64 d.a, .int .i64 d.b, .int .i64 d.c, .int .i64 d.imm, .slice u d.args.length q]] w fun e w' => e = .returned (kindV d u q) ∧ Below w.heap.size w w' := by
 have E := kv_25 (u := u) (q := q) h
 generalize kindV d u q = V at E
 subst E
 have ho : opB d.op = false := by rw [h]; decide
 have ho2 : opB 25 = false := by decide
 go_enter Tryd.func34, Tryd.ntmps34
 go_wp2_with (go_at_call 55; refine (opI _ _).mono ?_; rintro e w' ⟨rfl, rfl⟩)
 go_ret
 exact ⟨rfl, (Below.refl _ _).alloc (Nat.le_refl _) _⟩
set_option maxHeartbeats 2000000 in
theorem kind_26 (d : InstD) (u : Option Addr) (q : Nat) (w : World) (h : d.op = 26) :
  Calls Tryd.prog 34 #[.agg #[.int .i64 d.op, .int .i64 d.w, .int .i64 d.a, .int .i64 d.b, .int .i64 d.c, .int .i64 d.imm, .slice u d.args.length q]] w fun e w' => e = .returned (kindV d u q) ∧ Below w.heap.size w w' := by
 have E := kv_26 (u := u) (q := q) h
 generalize kindV d u q = V at E
 subst E
 have ho : opB d.op = false := by rw [h]; decide
 have ho2 : opB 26 = false := by decide
 go_enter Tryd.func34, Tryd.ntmps34
 go_wp2_with (go_at_call 55; refine (opI _ _).mono ?_; rintro e w' ⟨rfl, rfl⟩)
 go_ret
 exact ⟨rfl, (Below.refl _ _).alloc (Nat.le_refl _) _⟩
set_option maxHeartbeats 2000000 in
theorem kind_no (d : InstD) (u : Option Addr) (q : Nat) (w : World) (ho : opB d.op = false) (h : d.op < 1 ∨ 27 < d.op) :
  Calls Tryd.prog 34 #[.agg #[.int .i64 d.op, .int .i64 d.w, .int .i64 d.a, .int .i64 d.b, .int .i64 d.c, .int .i64 d.imm, .slice u d.args.length q]] w fun e w' => e = .returned (kindV d u q) ∧ Below w.heap.size w w' := by
 have E := kv_no (u := u) (q := q) ho h
 generalize kindV d u q = V at E
 subst E
 have n18 : (d.op == 18) = false := by simp; omega
 have n19 : (d.op == 19) = false := by simp; omega
 have n20 : (d.op == 20) = false := by simp; omega
 have n21 : (d.op == 21) = false := by simp; omega
 have n22 : (d.op == 22) = false := by simp; omega
 have n23 : (d.op == 23) = false := by simp; omega
 have n24 : (d.op == 24) = false := by simp; omega
 have n25 : (d.op == 25) = false := by simp; omega
 have n26 : (d.op == 26) = false := by simp; omega
 have n27 : (d.op == 27) = false := by simp; omega
 clear h
 go_enter Tryd.func34, Tryd.ntmps34
 go_wp2_with (go_at_call 55; refine (opI _ _).mono ?_; rintro e w' ⟨rfl, rfl⟩)
 go_ret
 exact ⟨rfl, (Below.refl _ _).alloc (Nat.le_refl _) _⟩
theorem op_split (n : Int) : opB n = true ∨ n = 18 ∨ n = 19 ∨ n = 20 ∨ n = 21 ∨ n = 22 ∨ n = 23 ∨ n = 24 ∨ n = 25 ∨ n = 26 ∨ n = 27 ∨ (opB n = false ∧ (n < 1 ∨ 27 < n)) := by
 by_cases h : opB n = true
 ·exact .inl h
 ·have h' : opB n = false := by simpa using h
  have h2 : n < 1 ∨ 17 < n := by simp [opB] at h; omega
  have h3 : n = 18 ∨ n = 19 ∨ n = 20 ∨ n = 21 ∨ n = 22 ∨ n = 23 ∨ n = 24 ∨ n = 25 ∨ n = 26 ∨ n = 27 ∨ (n < 1 ∨ 27 < n) := by omega
  rcases h3 with h3 | h3 | h3 | h3 | h3 | h3 | h3 | h3 | h3 | h3 | h3
  all_goals first | (simp [h3]; done) | exact .inr (.inr (.inr (.inr (.inr (.inr (.inr (.inr (.inr (.inr (.inr ⟨h', h3⟩))))))))))
theorem kind_any (d : InstD) (u : Option Addr) (q : Nat) (w : World) :
  Calls Tryd.prog 34 #[.agg #[.int .i64 d.op, .int .i64 d.w, .int .i64 d.a, .int .i64 d.b, .int .i64 d.c, .int .i64 d.imm, .slice u d.args.length q]] w fun e w' => e = .returned (kindV d u q) ∧ Below w.heap.size w w' := by
 rcases op_split d.op with h | h | h | h | h | h | h | h | h | h | h | ⟨ho, h⟩
 ·exact kind_bin d u q w h
 ·exact kind_18 d u q w h
 ·exact kind_19 d u q w h
 ·exact kind_20 d u q w h
 ·exact kind_21 d u q w h
 ·exact kind_22 d u q w h
 ·exact kind_23 d u q w h
 ·exact kind_24 d u q w h
 ·exact kind_25 d u q w h
 ·exact kind_26 d u q w h
 ·exact kind_27 d u q w h
 ·exact kind_no d u q w ho h
abbrev AsN (S B : TypeId) (z : Value) : Prop := ∀ (v : Value) (w : World), (Instr.typeAssert (.iface S v) 73 B true).run Tryd.prog w = .ok (.tuple #[z, .bool false]) w
abbrev AsY (S : TypeId) : Prop := ∀ (v : Value) (w : World), (Instr.typeAssert (.iface S v) 73 S true).run Tryd.prog w = .ok (.tuple #[v, .bool true]) w
theorem as_binaryKind_constKind : AsN 96 100 (.agg #[.int .i64 0]) := fun _ _ => by kernel_rfl
theorem as_binaryKind_loadKind : AsN 96 103 (.agg #[.int .i64 0]) := fun _ _ => by kernel_rfl
theorem as_binaryKind_storeKind : AsN 96 104 (.agg #[.int .i64 0, .int .i64 0]) := fun _ _ => by kernel_rfl
theorem as_binaryKind_printKind : AsN 96 105 (.agg #[.int .i64 0]) := fun _ _ => by kernel_rfl
theorem as_binaryKind_callKind : AsN 96 107 (.agg #[.int .i64 0, .slice none 0 0]) := fun _ _ => by kernel_rfl
theorem as_binaryKind_strangeKind : AsN 96 109 (.agg #[]) := fun _ _ => by kernel_rfl
theorem as_unaryKind_constKind : AsN 98 100 (.agg #[.int .i64 0]) := fun _ _ => by kernel_rfl
theorem as_unaryKind_loadKind : AsN 98 103 (.agg #[.int .i64 0]) := fun _ _ => by kernel_rfl
theorem as_unaryKind_storeKind : AsN 98 104 (.agg #[.int .i64 0, .int .i64 0]) := fun _ _ => by kernel_rfl
theorem as_unaryKind_printKind : AsN 98 105 (.agg #[.int .i64 0]) := fun _ _ => by kernel_rfl
theorem as_unaryKind_callKind : AsN 98 107 (.agg #[.int .i64 0, .slice none 0 0]) := fun _ _ => by kernel_rfl
theorem as_unaryKind_strangeKind : AsN 98 109 (.agg #[]) := fun _ _ => by kernel_rfl
theorem as_constKind_constKind : AsY 100 := fun _ _ => by kernel_rfl
theorem as_constKind_loadKind : AsN 100 103 (.agg #[.int .i64 0]) := fun _ _ => by kernel_rfl
theorem as_constKind_storeKind : AsN 100 104 (.agg #[.int .i64 0, .int .i64 0]) := fun _ _ => by kernel_rfl
theorem as_constKind_printKind : AsN 100 105 (.agg #[.int .i64 0]) := fun _ _ => by kernel_rfl
theorem as_constKind_callKind : AsN 100 107 (.agg #[.int .i64 0, .slice none 0 0]) := fun _ _ => by kernel_rfl
theorem as_constKind_strangeKind : AsN 100 109 (.agg #[]) := fun _ _ => by kernel_rfl
theorem as_selectKind_constKind : AsN 102 100 (.agg #[.int .i64 0]) := fun _ _ => by kernel_rfl
theorem as_selectKind_loadKind : AsN 102 103 (.agg #[.int .i64 0]) := fun _ _ => by kernel_rfl
theorem as_selectKind_storeKind : AsN 102 104 (.agg #[.int .i64 0, .int .i64 0]) := fun _ _ => by kernel_rfl
theorem as_selectKind_printKind : AsN 102 105 (.agg #[.int .i64 0]) := fun _ _ => by kernel_rfl
theorem as_selectKind_callKind : AsN 102 107 (.agg #[.int .i64 0, .slice none 0 0]) := fun _ _ => by kernel_rfl
theorem as_selectKind_strangeKind : AsN 102 109 (.agg #[]) := fun _ _ => by kernel_rfl
theorem as_loadKind_constKind : AsN 103 100 (.agg #[.int .i64 0]) := fun _ _ => by kernel_rfl
theorem as_loadKind_loadKind : AsY 103 := fun _ _ => by kernel_rfl
theorem as_loadKind_storeKind : AsN 103 104 (.agg #[.int .i64 0, .int .i64 0]) := fun _ _ => by kernel_rfl
theorem as_loadKind_printKind : AsN 103 105 (.agg #[.int .i64 0]) := fun _ _ => by kernel_rfl
theorem as_loadKind_callKind : AsN 103 107 (.agg #[.int .i64 0, .slice none 0 0]) := fun _ _ => by kernel_rfl
theorem as_loadKind_strangeKind : AsN 103 109 (.agg #[]) := fun _ _ => by kernel_rfl
theorem as_storeKind_constKind : AsN 104 100 (.agg #[.int .i64 0]) := fun _ _ => by kernel_rfl
theorem as_storeKind_loadKind : AsN 104 103 (.agg #[.int .i64 0]) := fun _ _ => by kernel_rfl
theorem as_storeKind_storeKind : AsY 104 := fun _ _ => by kernel_rfl
theorem as_storeKind_printKind : AsN 104 105 (.agg #[.int .i64 0]) := fun _ _ => by kernel_rfl
theorem as_storeKind_callKind : AsN 104 107 (.agg #[.int .i64 0, .slice none 0 0]) := fun _ _ => by kernel_rfl
theorem as_storeKind_strangeKind : AsN 104 109 (.agg #[]) := fun _ _ => by kernel_rfl
theorem as_printKind_constKind : AsN 105 100 (.agg #[.int .i64 0]) := fun _ _ => by kernel_rfl
theorem as_printKind_loadKind : AsN 105 103 (.agg #[.int .i64 0]) := fun _ _ => by kernel_rfl
theorem as_printKind_storeKind : AsN 105 104 (.agg #[.int .i64 0, .int .i64 0]) := fun _ _ => by kernel_rfl
theorem as_printKind_printKind : AsY 105 := fun _ _ => by kernel_rfl
theorem as_printKind_callKind : AsN 105 107 (.agg #[.int .i64 0, .slice none 0 0]) := fun _ _ => by kernel_rfl
theorem as_printKind_strangeKind : AsN 105 109 (.agg #[]) := fun _ _ => by kernel_rfl
theorem as_callKind_constKind : AsN 107 100 (.agg #[.int .i64 0]) := fun _ _ => by kernel_rfl
theorem as_callKind_loadKind : AsN 107 103 (.agg #[.int .i64 0]) := fun _ _ => by kernel_rfl
theorem as_callKind_storeKind : AsN 107 104 (.agg #[.int .i64 0, .int .i64 0]) := fun _ _ => by kernel_rfl
theorem as_callKind_printKind : AsN 107 105 (.agg #[.int .i64 0]) := fun _ _ => by kernel_rfl
theorem as_callKind_callKind : AsY 107 := fun _ _ => by kernel_rfl
theorem as_callKind_strangeKind : AsN 107 109 (.agg #[]) := fun _ _ => by kernel_rfl
theorem as_strangeKind_constKind : AsN 109 100 (.agg #[.int .i64 0]) := fun _ _ => by kernel_rfl
theorem as_strangeKind_loadKind : AsN 109 103 (.agg #[.int .i64 0]) := fun _ _ => by kernel_rfl
theorem as_strangeKind_storeKind : AsN 109 104 (.agg #[.int .i64 0, .int .i64 0]) := fun _ _ => by kernel_rfl
theorem as_strangeKind_printKind : AsN 109 105 (.agg #[.int .i64 0]) := fun _ _ => by kernel_rfl
theorem as_strangeKind_callKind : AsN 109 107 (.agg #[.int .i64 0, .slice none 0 0]) := fun _ _ => by kernel_rfl
theorem as_strangeKind_strangeKind : AsY 109 := fun _ _ => by kernel_rfl
end Go.Proofs.YtenbodghkpbghaaDoor
