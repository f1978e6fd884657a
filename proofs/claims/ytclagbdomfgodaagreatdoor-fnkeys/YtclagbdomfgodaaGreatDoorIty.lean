/- The width that an instruction gives. -/
import Derived.Test.YtclagbdomfgodaaGreatDoorKnd
namespace Go.Proofs.YtclagbdomfgodaaGreatDoor
open Go.RowKit

def instW (d : InstD) : Int := if opB d.op = true then resZ d.op d.w else d.w
set_option maxHeartbeats 2000000 in
theorem instS_any (d : InstD) (u : Option Addr) (q : Nat) (w : World) :
    Calls Tryz.prog 106 #[.agg #[.int .i64 d.op, .int .i64 d.w, .int .i64 d.a, .int .i64 d.b, .int .i64 d.c, .int .i64 d.imm, .slice u d.args.length q]] w fun e w' => e = .returned (.int .i64 (instW d)) ∧ Below w.heap.size w w' := by
  by_cases h : opB d.op = true
  · have HR : Hid (resZ d.op d.w = instW d) := by show _ = _; rw [instW, if_pos h]
    have dd : (decide (1 ≤ d.op) && decide (d.op ≤ 17)) = true := h
    clear h
    go_enter Tryz.func106, Tryz.ntmps106
    go_wp2_with (first | (go_at_call 30; refine (inS _ _ _ _).mono ?_; rintro e w' ⟨rfl, rfl⟩) | (go_at_call 121; refine (resS _ _ _).mono ?_; rintro e w' ⟨rfl, rfl⟩))
    go_ret
    exact ⟨ret_int HR.out, (Below.refl _ _).alloc (Nat.le_refl _) _⟩
  · have h' : opB d.op = false := by simpa using h
    have HR : Hid (d.w = instW d) := by show _ = _; rw [instW, if_neg h]
    have dd : (decide (1 ≤ d.op) && decide (d.op ≤ 17)) = false := h'
    clear h h'
    go_enter Tryz.func106, Tryz.ntmps106
    go_wp2_with (first | (go_at_call 30; refine (inS _ _ _ _).mono ?_; rintro e w' ⟨rfl, rfl⟩))
    go_ret
    exact ⟨ret_int HR.out, (Below.refl _ _).alloc (Nat.le_refl _) _⟩
end Go.Proofs.YtclagbdomfgodaaGreatDoor
