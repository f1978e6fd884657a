/- Copies of the call's own: the copying functions' contracts, with what nobody has frozen. -/
import Derived.Test.YtjmoonbpfieifaaGreatDoorTo2
namespace Go.Proofs.YtjmoonbpfieifaaGreatDoor
open Go.RowKit

def OI (w : World) (lo : Nat) (a : Option Addr) (l : List Int) : Prop :=
  l.length ≤ 9223372036854775807 ∧ (l = [] ∨ ∃ g cur, a = some ⟨g, 0, none⟩ ∧ lo ≤ g ∧ w.heap[g]? = some (.cells cur 2 (0, 0)) ∧ ∀ i, i < l.length → cur[i]? = some (.int .i64 (l.getD i 0)))
theorem OI.keep {w w' : World} {lo : Nat} {a : Option Addr} {l : List Int} (h : OI w lo a l) (k : Agree lo w w') : OI w' lo a l := by
  obtain ⟨hm, h⟩ := h
  refine ⟨hm, ?_⟩
  rcases h with h | ⟨g, cur, ha, hl, hb, hc⟩
  · exact .inl h
  · exact .inr ⟨g, cur, ha, hl, (k.2 g hl (Array.getElem?_eq_some_iff.1 hb).1).trans hb, hc⟩
theorem OI.low {w : World} {lo lo' : Nat} {a : Option Addr} {l : List Int} (h : OI w lo a l) (k : lo' ≤ lo) : OI w lo' a l := by
  obtain ⟨hm, h⟩ := h
  refine ⟨hm, ?_⟩
  rcases h with h | ⟨g, cur, ha, hl, hb, hc⟩
  · exact .inl h
  · exact .inr ⟨g, cur, ha, Nat.le_trans k hl, hb, hc⟩
theorem OI.at {w : World} {lo : Nat} {a : Option Addr} {l : List Int} (h : OI w lo a l) : IntsAt w lo a l := by
  obtain ⟨hm, h⟩ := h
  refine ⟨hm, ?_⟩
  rcases h with h | ⟨g, cur, ha, hl, hb, hc⟩
  · exact .inl h
  · exact .inr ⟨g, 0, ha, hl, (Array.getElem?_eq_some_iff.1 hb).1, fun i hi => (cell_of_heap hb).trans (by simpa using hc i hi)⟩
def OP (w : World) (lo : Nat) (a : Option Addr) (l : List PhiD) : Prop :=
  l.length ≤ 9223372036854775807 ∧ (l = [] ∨ ∃ g cur, a = some ⟨g, 0, none⟩ ∧ lo ≤ g ∧ w.heap[g]? = some (.cells cur 151 (0, 0)) ∧ ∀ i, i < l.length → cur[i * 2]? = some (.int .i64 (l.getD i phi0).w) ∧ (∃ u c, cur[i * 2 + 1]? = some (.slice u (l.getD i phi0).ins.length c) ∧ OI w lo u (l.getD i phi0).ins))
theorem OP.keep {w w' : World} {lo : Nat} {a : Option Addr} {l : List PhiD} (h : OP w lo a l) (k : Agree lo w w') : OP w' lo a l := by
  obtain ⟨hm, h⟩ := h
  refine ⟨hm, ?_⟩
  rcases h with h | ⟨g, cur, ha, hl, hb, hc⟩
  · exact .inl h
  · refine .inr ⟨g, cur, ha, hl, (k.2 g hl (Array.getElem?_eq_some_iff.1 hb).1).trans hb, fun i hi => ?_⟩
    obtain ⟨h0, ⟨u1, c1, h1, k1⟩⟩ := hc i hi
    exact ⟨h0, ⟨u1, c1, h1, k1.keep k⟩⟩
theorem OP.low {w : World} {lo lo' : Nat} {a : Option Addr} {l : List PhiD} (h : OP w lo a l) (k : lo' ≤ lo) : OP w lo' a l := by
  obtain ⟨hm, h⟩ := h
  refine ⟨hm, ?_⟩
  rcases h with h | ⟨g, cur, ha, hl, hb, hc⟩
  · exact .inl h
  · refine .inr ⟨g, cur, ha, Nat.le_trans k hl, hb, fun i hi => ?_⟩
    obtain ⟨h0, ⟨u1, c1, h1, k1⟩⟩ := hc i hi
    exact ⟨h0, ⟨u1, c1, h1, k1.low k⟩⟩
theorem OP.at {w : World} {lo : Nat} {a : Option Addr} {l : List PhiD} (h : OP w lo a l) : PhisAt w lo a l := by
  obtain ⟨hm, h⟩ := h
  refine ⟨hm, ?_⟩
  rcases h with h | ⟨g, cur, ha, hl, hb, hc⟩
  · exact .inl h
  · refine .inr ⟨g, 0, ha, hl, (Array.getElem?_eq_some_iff.1 hb).1, fun i hi => ?_⟩
    obtain ⟨h0, ⟨u1, c1, h1, k1⟩⟩ := hc i hi
    exact ⟨(cell_of_heap hb).trans (by simpa using h0), ⟨u1, c1, (cell_of_heap hb).trans (by simpa using h1), k1.at⟩⟩
def ON (w : World) (lo : Nat) (a : Option Addr) (l : List InstD) : Prop :=
  l.length ≤ 9223372036854775807 ∧ (l = [] ∨ ∃ g cur, a = some ⟨g, 0, none⟩ ∧ lo ≤ g ∧ w.heap[g]? = some (.cells cur 26 (0, 0)) ∧ ∀ i, i < l.length → cur[i * 7]? = some (.int .i64 (l.getD i inst0).op) ∧ cur[i * 7 + 1]? = some (.int .i64 (l.getD i inst0).w) ∧ cur[i * 7 + 2]? = some (.int .i64 (l.getD i inst0).a) ∧ cur[i * 7 + 3]? = some (.int .i64 (l.getD i inst0).b) ∧ cur[i * 7 + 4]? = some (.int .i64 (l.getD i inst0).c) ∧ cur[i * 7 + 5]? = some (.int .i64 (l.getD i inst0).imm) ∧ (∃ u c, cur[i * 7 + 6]? = some (.slice u (l.getD i inst0).args.length c) ∧ OI w lo u (l.getD i inst0).args))
theorem ON.keep {w w' : World} {lo : Nat} {a : Option Addr} {l : List InstD} (h : ON w lo a l) (k : Agree lo w w') : ON w' lo a l := by
  obtain ⟨hm, h⟩ := h
  refine ⟨hm, ?_⟩
  rcases h with h | ⟨g, cur, ha, hl, hb, hc⟩
  · exact .inl h
  · refine .inr ⟨g, cur, ha, hl, (k.2 g hl (Array.getElem?_eq_some_iff.1 hb).1).trans hb, fun i hi => ?_⟩
    obtain ⟨h0, h1, h2, h3, h4, h5, ⟨u6, c6, h6, k6⟩⟩ := hc i hi
    exact ⟨h0, h1, h2, h3, h4, h5, ⟨u6, c6, h6, k6.keep k⟩⟩
theorem ON.low {w : World} {lo lo' : Nat} {a : Option Addr} {l : List InstD} (h : ON w lo a l) (k : lo' ≤ lo) : ON w lo' a l := by
  obtain ⟨hm, h⟩ := h
  refine ⟨hm, ?_⟩
  rcases h with h | ⟨g, cur, ha, hl, hb, hc⟩
  · exact .inl h
  · refine .inr ⟨g, cur, ha, Nat.le_trans k hl, hb, fun i hi => ?_⟩
    obtain ⟨h0, h1, h2, h3, h4, h5, ⟨u6, c6, h6, k6⟩⟩ := hc i hi
    exact ⟨h0, h1, h2, h3, h4, h5, ⟨u6, c6, h6, k6.low k⟩⟩
theorem ON.at {w : World} {lo : Nat} {a : Option Addr} {l : List InstD} (h : ON w lo a l) : InstsAt w lo a l := by
  obtain ⟨hm, h⟩ := h
  refine ⟨hm, ?_⟩
  rcases h with h | ⟨g, cur, ha, hl, hb, hc⟩
  · exact .inl h
  · refine .inr ⟨g, 0, ha, hl, (Array.getElem?_eq_some_iff.1 hb).1, fun i hi => ?_⟩
    obtain ⟨h0, h1, h2, h3, h4, h5, ⟨u6, c6, h6, k6⟩⟩ := hc i hi
    exact ⟨(cell_of_heap hb).trans (by simpa using h0), (cell_of_heap hb).trans (by simpa using h1), (cell_of_heap hb).trans (by simpa using h2), (cell_of_heap hb).trans (by simpa using h3), (cell_of_heap hb).trans (by simpa using h4), (cell_of_heap hb).trans (by simpa using h5), ⟨u6, c6, (cell_of_heap hb).trans (by simpa using h6), k6.at⟩⟩
def OB (w : World) (lo : Nat) (a : Option Addr) (l : List BlockD) : Prop :=
  l.length ≤ 9223372036854775807 ∧ (l = [] ∨ ∃ g cur, a = some ⟨g, 0, none⟩ ∧ lo ≤ g ∧ w.heap[g]? = some (.cells cur 69 (0, 0)) ∧ ∀ i, i < l.length → (∃ u c, cur[i * 6]? = some (.slice u (l.getD i block0).phis.length c) ∧ OP w lo u (l.getD i block0).phis) ∧ (∃ u c, cur[i * 6 + 1]? = some (.slice u (l.getD i block0).insts.length c) ∧ ON w lo u (l.getD i block0).insts) ∧ cur[i * 6 + 2]? = some (.int .i64 (l.getD i block0).term.kind) ∧ cur[i * 6 + 3]? = some (.int .i64 (l.getD i block0).term.a) ∧ cur[i * 6 + 4]? = some (.int .i64 (l.getD i block0).term.x) ∧ cur[i * 6 + 5]? = some (.int .i64 (l.getD i block0).term.y))
theorem OB.keep {w w' : World} {lo : Nat} {a : Option Addr} {l : List BlockD} (h : OB w lo a l) (k : Agree lo w w') : OB w' lo a l := by
  obtain ⟨hm, h⟩ := h
  refine ⟨hm, ?_⟩
  rcases h with h | ⟨g, cur, ha, hl, hb, hc⟩
  · exact .inl h
  · refine .inr ⟨g, cur, ha, hl, (k.2 g hl (Array.getElem?_eq_some_iff.1 hb).1).trans hb, fun i hi => ?_⟩
    obtain ⟨⟨u0, c0, h0, k0⟩, ⟨u1, c1, h1, k1⟩, h2, h3, h4, h5⟩ := hc i hi
    exact ⟨⟨u0, c0, h0, k0.keep k⟩, ⟨u1, c1, h1, k1.keep k⟩, h2, h3, h4, h5⟩
theorem OB.low {w : World} {lo lo' : Nat} {a : Option Addr} {l : List BlockD} (h : OB w lo a l) (k : lo' ≤ lo) : OB w lo' a l := by
  obtain ⟨hm, h⟩ := h
  refine ⟨hm, ?_⟩
  rcases h with h | ⟨g, cur, ha, hl, hb, hc⟩
  · exact .inl h
  · refine .inr ⟨g, cur, ha, Nat.le_trans k hl, hb, fun i hi => ?_⟩
    obtain ⟨⟨u0, c0, h0, k0⟩, ⟨u1, c1, h1, k1⟩, h2, h3, h4, h5⟩ := hc i hi
    exact ⟨⟨u0, c0, h0, k0.low k⟩, ⟨u1, c1, h1, k1.low k⟩, h2, h3, h4, h5⟩
theorem OB.at {w : World} {lo : Nat} {a : Option Addr} {l : List BlockD} (h : OB w lo a l) : BlocksAt w lo a l := by
  obtain ⟨hm, h⟩ := h
  refine ⟨hm, ?_⟩
  rcases h with h | ⟨g, cur, ha, hl, hb, hc⟩
  · exact .inl h
  · refine .inr ⟨g, 0, ha, hl, (Array.getElem?_eq_some_iff.1 hb).1, fun i hi => ?_⟩
    obtain ⟨⟨u0, c0, h0, k0⟩, ⟨u1, c1, h1, k1⟩, h2, h3, h4, h5⟩ := hc i hi
    exact ⟨⟨u0, c0, (cell_of_heap hb).trans (by simpa using h0), k0.at⟩, ⟨u1, c1, (cell_of_heap hb).trans (by simpa using h1), k1.at⟩, (cell_of_heap hb).trans (by simpa using h2), (cell_of_heap hb).trans (by simpa using h3), (cell_of_heap hb).trans (by simpa using h4), (cell_of_heap hb).trans (by simpa using h5)⟩
end Go.Proofs.YtjmoonbpfieifaaGreatDoor
