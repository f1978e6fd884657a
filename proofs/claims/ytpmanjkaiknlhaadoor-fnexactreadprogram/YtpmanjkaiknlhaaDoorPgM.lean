/- Programs in memory: lists of a machine's instructions; how much a program holds, as the laws reckon it. -/
import Derived.Test.YtpmanjkaiknlhaaDoorSz
namespace Go.Proofs.YtpmanjkaiknlhaaDoor
open Go.RowKit
set_option linter.unusedVariables false

structure MInsD where
  op : Int
  w : Int
  d : Int
  a : Int
  b : Int
  c : Int
  imm : Int
structure ProgD where
  regs : Int
  params : List Int
  widths : List Int
  code : List MInsD
def mins0 : MInsD := ⟨0, 0, 0, 0, 0, 0, 0⟩
def MinsAt (w : World) (lo : Nat) (a : Option Addr) (l : List MInsD) : Prop :=
  l.length ≤ 9223372036854775807 ∧ (l = [] ∨ ∃ b off, a = some ⟨b, off, none⟩ ∧ lo ≤ b ∧ b < w.heap.size ∧ ∀ i, i < l.length →
    w.cell? ⟨b, off + i * 7, none⟩ = some (.int .i64 (l.getD i mins0).op) ∧
    w.cell? ⟨b, off + i * 7 + 1, none⟩ = some (.int .i64 (l.getD i mins0).w) ∧
    w.cell? ⟨b, off + i * 7 + 2, none⟩ = some (.int .i64 (l.getD i mins0).d) ∧
    w.cell? ⟨b, off + i * 7 + 3, none⟩ = some (.int .i64 (l.getD i mins0).a) ∧
    w.cell? ⟨b, off + i * 7 + 4, none⟩ = some (.int .i64 (l.getD i mins0).b) ∧
    w.cell? ⟨b, off + i * 7 + 5, none⟩ = some (.int .i64 (l.getD i mins0).c) ∧
    w.cell? ⟨b, off + i * 7 + 6, none⟩ = some (.int .i64 (l.getD i mins0).imm))
theorem MinsAt.keep {w w' : World} {lo : Nat} {a : Option Addr} {l : List MInsD} (h : MinsAt w lo a l) (k : Agree lo w w') : MinsAt w' lo a l := by
  obtain ⟨hm, h⟩ := h
  refine ⟨hm, ?_⟩
  rcases h with h | ⟨b, off, ha, hl, hb, hc⟩
  · exact .inl h
  · refine .inr ⟨b, off, ha, hl, Nat.lt_of_lt_of_le hb k.1, fun i hi => ?_⟩
    obtain ⟨h0, h1, h2, h3, h4, h5, h6⟩ := hc i hi
    exact ⟨(cell_agree k hl hb).trans h0, (cell_agree k hl hb).trans h1, (cell_agree k hl hb).trans h2, (cell_agree k hl hb).trans h3, (cell_agree k hl hb).trans h4, (cell_agree k hl hb).trans h5, (cell_agree k hl hb).trans h6⟩
theorem MinsAt.low {w : World} {lo lo' : Nat} {a : Option Addr} {l : List MInsD} (h : MinsAt w lo a l) (k : lo' ≤ lo) : MinsAt w lo' a l := by
  obtain ⟨hm, h⟩ := h
  refine ⟨hm, ?_⟩
  rcases h with h | ⟨b, off, ha, hl, hb, hc⟩
  · exact .inl h
  · exact .inr ⟨b, off, ha, Nat.le_trans k hl, hb, hc⟩
def minsV (i : MInsD) : Array Value := #[.int .i64 i.op, .int .i64 i.w, .int .i64 i.d, .int .i64 i.a, .int .i64 i.b, .int .i64 i.c, .int .i64 i.imm]

def szProg (d : ProgD) (x : Int) : Int := if szI d.params.length x < 0 then -1 else if szI d.widths.length (szI d.params.length x) < 0 then -1 else szI d.code.length (szI d.widths.length (szI d.params.length x))
def SmProg (d : ProgD) : Prop := d.params.length ≤ 1048576 ∧ d.widths.length ≤ 1048576 ∧ d.code.length ≤ 1048576
theorem szProg_small {d : ProgD} {x : Int} (hx : x ≤ 1048576) (h : 0 ≤ szProg d x) : SmProg d := by
  unfold szProg at h
  rcases szI_falls d.params.length x with k | ⟨k, k'⟩
  · rw [if_pos (by omega)] at h; omega
  rw [if_neg (by omega)] at h
  rcases szI_falls d.widths.length (szI d.params.length x) with m | ⟨m, m'⟩
  · rw [if_pos (by omega)] at h; omega
  rw [if_neg (by omega)] at h
  exact ⟨szI_small hx k, szI_small (by omega) m, szI_small (by omega) h⟩
theorem szProg_falls (d : ProgD) (x : Int) : szProg d x < 0 ∨ 0 ≤ szProg d x := by omega
def szPn (n1 n2 n3 : Nat) (x : Int) : Int := if szI n1 x < 0 then -1 else if szI n2 (szI n1 x) < 0 then -1 else szI n3 (szI n2 (szI n1 x))
end Go.Proofs.YtpmanjkaiknlhaaDoor
