/- What an instruction names: lists of the call's own, and the copying append. -/
import Derived.Test.YtclagbdomfgodaaGreatDoorKnd
import Derived.Test.YtclagbdomfgodaaGreatDoorTo1
import Derived.Test.YtclagbdomfgodaaGreatDoorOwn
namespace Go.Proofs.YtclagbdomfgodaaGreatDoor
open Go.RowKit

def opsD (d : InstD) : List Int :=
  if opB d.op = true ∨ d.op = 24 then [d.a, d.b] else if d.op = 18 ∨ d.op = 19 ∨ d.op = 20 ∨ d.op = 23 ∨ d.op = 25 ∨ d.op = 27 then [d.a] else if d.op = 22 then [d.a, d.b, d.c] else if d.op = 26 then d.args else []
theorem own_mk {w : World} {l : List Int} {cs : Array Value} {v : List Int} (e : v = l) (hm : l.length ≤ 1000) (hc : ∀ i, i < l.length → cs[i]? = some (.int .i64 (l.getD i 0))) : OwnAt (w.alloc (.cells cs 2)) w.heap.size (some ⟨w.heap.size, 0, none⟩) v := by
  subst e; exact own_lit w _ hm cs hc
theorem own_mk2 {w : World} {o : Obj} {l : List Int} {cs : Array Value} {v : List Int} (e : v = l) (hm : l.length ≤ 1000) (hc : ∀ i, i < l.length → cs[i]? = some (.int .i64 (l.getD i 0))) : OwnAt ((w.alloc o).alloc (.cells cs 2)) w.heap.size (some ⟨w.heap.size + 1, 0, none⟩) v := by
  have h := own_mk (w := w.alloc o) e hm hc
  have hz : (w.alloc o).heap.size = w.heap.size + 1 := by simp
  rw [hz] at h
  exact h.low (by omega)
theorem two_cells (a b : Int) : ∀ i, i < [a, b].length → (#[Value.int .i64 a, Value.int .i64 b] : Array Value)[i]? = some (.int .i64 ([a, b].getD i 0)) := by
  intro i hi
  match i, hi with
  | 0, _ => rfl
  | 1, _ => rfl
theorem one_cells (a : Int) : ∀ i, i < [a].length → (#[Value.int .i64 a] : Array Value)[i]? = some (.int .i64 ([a].getD i 0)) := by
  intro i hi
  match i, hi with
  | 0, _ => rfl
theorem three_cells (a b c : Int) : ∀ i, i < [a, b, c].length → (#[Value.int .i64 a, Value.int .i64 b, Value.int .i64 c] : Array Value)[i]? = some (.int .i64 ([a, b, c].getD i 0)) := by
  intro i hi
  match i, hi with
  | 0, _ => rfl
  | 1, _ => rfl
  | 2, _ => rfl
set_option maxHeartbeats 1000000 in
theorem operS_bin (d : InstD) (u : Option Addr) (q : Nat) (w : World) (h : opB d.op = true) :
    Calls Tryz.prog 57 #[.agg #[.int .i64 d.op, .int .i64 d.w, .int .i64 d.a, .int .i64 d.b, .int .i64 d.c, .int .i64 d.imm, .slice u d.args.length q]] w fun e w' => ∃ u c, e = .returned (.slice u (opsD d).length c) ∧ OwnAt w' w.heap.size u (opsD d) ∧ Below w.heap.size w w' := by
  have E : opsD d = [d.a, d.b] := by simp [opsD, h]
  rw [E]; clear E
  have dd : (decide (1 ≤ d.op) && decide (d.op ≤ 17)) = true := h
  clear h
  go_enter Tryz.func57, Tryz.ntmps57
  go_wp2_with (go_at_call 30; refine (inS _ _ _ _).mono ?_; rintro e w' ⟨rfl, rfl⟩)
  go_ret
  refine ⟨_, _, rfl, own_mk2 rfl (by simp) (two_cells d.a d.b), ((Below.refl _ _).alloc (Nat.le_refl _) _).alloc (by simp) _⟩
set_option maxHeartbeats 1000000 in
theorem bk_oper (a b : Int) (w : World) : Calls Tryz.prog 154 #[.agg #[.int .i64 a, .int .i64 b]] w fun e w' => ∃ u c, e = .returned (.slice u 2 c) ∧ OwnAt w' w.heap.size u [a, b] ∧ Below w.heap.size w w' := by
  go_enter Tryz.func154, Tryz.ntmps154
  go_wp2_with fail
  go_ret
  refine ⟨_, _, rfl, own_mk2 rfl (by simp) (two_cells a b), ((Below.refl _ _).alloc (Nat.le_refl _) _).alloc (by simp) _⟩
end Go.Proofs.YtclagbdomfgodaaGreatDoor
