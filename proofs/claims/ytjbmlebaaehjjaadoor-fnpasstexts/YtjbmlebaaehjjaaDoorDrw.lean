/- Contracts of the reader's making, of the draw of a value, and of the four draws of numbers that the laws of widths take. -/
import Derived.Test.YtjbmlebaaehjjaaDoorRdr2
namespace Go.Proofs.YtjbmlebaaehjjaaDoor
open Go.RowKit

theorem open_any (a0 : Option Addr) (len cap : Nat) (w : World) :
    Calls Tryd.prog 18 #[.slice a0 len cap] w fun e w' => e = .returned (.pointer (some ⟨w.heap.size, 0, none⟩)) ∧ w' = w.alloc (.cells #[.slice a0 len cap, .int .i64 0] 49) := by
  go_enter Tryd.func18, Tryd.ntmps18
  go_wp2_with fail
  go_ret
  exact ⟨rfl, rfl⟩
theorem rd_open {a0 : Option Addr} {len cap : Nat} {w : World} (hl : len ≤ 1048576) (hc : Code a0 len w.heap.size w) : Rd w.heap.size a0 len cap (w.alloc (.cells #[.slice a0 len cap, .int .i64 0] 49)) := by
  refine ⟨by simp, hl, hc.alloc (Nat.le_refl _) _, 0, by omega, ?_⟩
  show (w.heap.push _)[w.heap.size]? = _
  simp
/-- What was there ahead of the reader is as it was. -/
theorem rd_below {w w' : World} {o : Obj} (k : (w.alloc o).grownBy w' (some w.heap.size)) : Below w.heap.size w w' :=
  ((Below.refl _ _).alloc (Nat.le_refl _) o).grown k (by simp) (by simp)

theorem results4 {fn : Func} {p q r s : Tmp} (h : fn.results = #[.tmp p, .tmp q, .tmp r, .tmp s]) (tmps : Array Value) (P : Program) (w : World) :
    (results fn tmps).run P w = .ok (.tuple #[tmps.getD p undef, tmps.getD q undef, tmps.getD r undef, tmps.getD s undef]) w := by
  simp only [results, h]
  simp

end Go.Proofs.YtjbmlebaaehjjaaDoor
