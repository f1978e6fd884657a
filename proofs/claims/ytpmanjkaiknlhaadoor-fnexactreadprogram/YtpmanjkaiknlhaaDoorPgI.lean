/- Programs: the contract of the program's ProgramOk. -/
import Derived.Test.YtpmanjkaiknlhaaDoorPgH
namespace Go.Proofs.YtpmanjkaiknlhaaDoor
open Go.RowKit
set_option linter.unusedVariables false
set_option linter.unusedSimpArgs false

def progB (p : ProgD) : Bool :=
  (decide (1 ≤ p.regs) && decide (p.regs ≤ 130)) && (decide (p.params.length ≤ 4) && ((p.params.all fun n => belowB n p.regs) && (decide (p.widths.length = p.params.length) && ((p.widths.all fun n => widthB n) && codeB p.code p.regs))))
set_option maxHeartbeats 2000000 in
theorem progI (lo : Nat) (p : ProgD) (u1 : Option Addr) (c1 : Nat) (u2 : Option Addr) (c2 : Nat) (u3 : Option Addr) (c3 : Nat) (w : World) (k1 : IntsAt w lo u1 p.params) (k2 : IntsAt w lo u2 p.widths) (k3 : MinsAt w lo u3 p.code) :
    Calls Tryd.prog 33 #[.agg #[.int .i64 p.regs, .slice u1 p.params.length c1, .slice u2 p.widths.length c2, .slice u3 p.code.length c3]] w fun e w' => e = .returned (.bool (progB p)) ∧ Below w.heap.size w w' := by
  have g1 := k1.1
  have g2 := k2.1
  have g3 := k3.1
  have B1 : Below w.heap.size w (w.alloc (.cells #[.int .i64 p.regs, .slice u1 p.params.length c1, .slice u2 p.widths.length c2, .slice u3 p.code.length c3] 25)) := (Below.refl _ _).alloc (Nat.le_refl _) _
  have AB := allBelowI lo u1 c1 p.params p.regs _ (k1.keep (agree_alloc w (.cells #[.int .i64 p.regs, .slice u1 p.params.length c1, .slice u2 p.widths.length c2, .slice u3 p.code.length c3] 25) _))
  have AW := allWidthsI lo u2 c2 p.widths _ (k2.keep (agree_alloc w (.cells #[.int .i64 p.regs, .slice u1 p.params.length c1, .slice u2 p.widths.length c2, .slice u3 p.code.length c3] 25) _))
  by_cases r1 : p.regs < 1
  · have E : Hid (false = progB p) := by show _ = _; rw [progB, decide_eq_false (show ¬ 1 ≤ p.regs by omega)]; rfl
    clear AB AW
    go_enter Tryd.func33, Tryd.ntmps33
    go_wp2_with fail
    go_ret
    exact ⟨ret_bool E.out, B1⟩
  by_cases r2 : 130 < p.regs
  · have E : Hid (false = progB p) := by show _ = _; rw [progB, decide_eq_false (show ¬ p.regs ≤ 130 by omega)]; simp
    clear AB AW
    go_enter Tryd.func33, Tryd.ntmps33
    go_wp2_with fail
    go_ret
    exact ⟨ret_bool E.out, B1⟩
  have HE : Hid (progB p = (decide (p.params.length ≤ 4) && ((p.params.all fun n => belowB n p.regs) && (decide (p.widths.length = p.params.length) && ((p.widths.all fun n => widthB n) && codeB p.code p.regs))))) := by
    show _ = _
    rw [progB, decide_eq_true (show 1 ≤ p.regs by omega), decide_eq_true (show p.regs ≤ 130 by omega)]; rfl
  by_cases r3 : 4 < p.params.length
  · have E : Hid (false = progB p) := by show _ = _; rw [HE.out, decide_eq_false (show ¬ p.params.length ≤ 4 by omega)]; rfl
    have r3' : (4 : Int) < p.params.length := by omega
    clear AB AW
    go_enter Tryd.func33, Tryd.ntmps33
    go_wp2_with fail
    go_ret
    exact ⟨ret_bool E.out, B1⟩
  have r3' : ¬ (4 : Int) < p.params.length := by omega
  have HE : Hid (progB p = ((p.params.all fun n => belowB n p.regs) && (decide (p.widths.length = p.params.length) && ((p.widths.all fun n => widthB n) && codeB p.code p.regs)))) := by
    show _ = _
    rw [HE.out, decide_eq_true (show p.params.length ≤ 4 by omega)]; rfl
  cases hb : (p.params.all fun n => belowB n p.regs) with
  | false =>
    have E : Hid (false = progB p) := by show _ = _; rw [HE.out, hb]; rfl
    rw [hb] at AB
    clear AW
    go_enter Tryd.func33, Tryd.ntmps33
    go_wp2_with (go_at_call 41; refine AB.mono ?_; rintro e w' ⟨rfl, rfl⟩)
    go_ret
    exact ⟨ret_bool E.out, B1⟩
  | true =>
  rw [hb] at AB
  have HE : Hid (progB p = (decide (p.widths.length = p.params.length) && ((p.widths.all fun n => widthB n) && codeB p.code p.regs))) := by show _ = _; rw [HE.out, hb]; rfl
  by_cases r4 : p.widths.length = p.params.length
  case neg =>
    have E : Hid (false = progB p) := by show _ = _; rw [HE.out, decide_eq_false r4]; rfl
    have r4' : ¬ (p.widths.length : Int) = p.params.length := by omega
    clear AW
    go_enter Tryd.func33, Tryd.ntmps33
    go_wp2_with (go_at_call 41; refine AB.mono ?_; rintro e w' ⟨rfl, rfl⟩)
    go_ret
    exact ⟨ret_bool E.out, B1⟩
  have r4' : (p.widths.length : Int) = p.params.length := by omega
  have HE : Hid (progB p = ((p.widths.all fun n => widthB n) && codeB p.code p.regs)) := by show _ = _; rw [HE.out, decide_eq_true r4]; rfl
  clear r4
  cases hw : (p.widths.all fun n => widthB n) with
  | false =>
    have E : Hid (false = progB p) := by show _ = _; rw [HE.out, hw]; rfl
    rw [hw] at AW
    go_enter Tryd.func33, Tryd.ntmps33
    go_wp2_with (first | (go_at_call 41; refine AB.mono ?_; rintro e w' ⟨rfl, rfl⟩) | (go_at_call 42; refine AW.mono ?_; rintro e w' ⟨rfl, rfl⟩))
    go_ret
    exact ⟨ret_bool E.out, B1⟩
  | true =>
    rw [hw] at AW
    have E : Hid (codeB p.code p.regs = progB p) := by show _ = _; rw [HE.out, hw]; rfl
    have CI := codeI lo u3 c3 p.code p.regs _ (by omega) (k3.keep (agree_alloc w (.cells #[.int .i64 p.regs, .slice u1 p.params.length c1, .slice u2 p.widths.length c2, .slice u3 p.code.length c3] 25) _))
    go_enter Tryd.func33, Tryd.ntmps33
    go_wp2_with (first | (go_at_call 41; refine AB.mono ?_; rintro e w' ⟨rfl, rfl⟩) | (go_at_call 42; refine AW.mono ?_; rintro e w' ⟨rfl, rfl⟩) | (go_at_call 43; refine CI.mono ?_; rintro e w2 ⟨rfl, hb2⟩))
    go_ret
    exact ⟨ret_bool E.out, B1.trans (hb2.mono B1.size)⟩
end Go.Proofs.YtpmanjkaiknlhaaDoor
