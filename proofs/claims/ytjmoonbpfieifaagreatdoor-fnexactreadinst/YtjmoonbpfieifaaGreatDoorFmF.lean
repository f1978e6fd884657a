/- Forms: an instruction; the model's side, whole. -/
import Derived.Test.YtjmoonbpfieifaaGreatDoorFmE2
import Derived.Test.YtjmoonbpfieifaaGreatDoorFmE3
import Derived.Test.YtjmoonbpfieifaaGreatDoorFmE4
namespace Go.Proofs.YtjmoonbpfieifaaGreatDoor
open Go.RowKit
set_option linter.unusedVariables false

set_option maxHeartbeats 1000000 in
theorem instShS_no (d : InstD) (u : Option Addr) (q : Nat) (ids funcs : Int) (w : World) (h : d.op < 1 ∨ 27 < d.op) :
    Calls Tryz.prog 51 #[.agg #[.int .i64 d.op, .int .i64 d.w, .int .i64 d.a, .int .i64 d.b, .int .i64 d.c, .int .i64 d.imm, .slice u d.args.length q], .int .i64 ids, .int .i64 funcs] w fun e w' => e = .returned (.bool (instB d ids funcs)) ∧ Below w.heap.size w w' := by
  have HR : Hid (false = instB d ids funcs) := by show _ = _; simp [instB, wB, h]
  have d1 : (decide (1 ≤ d.op) && decide (d.op ≤ 27)) = false := by simp; omega
  clear h
  go_enter Tryz.func51, Tryz.ntmps51
  go_wp2_with fail
  refine (inS _ _ _ _).mono ?_
  rintro e w' ⟨rfl, rfl⟩
  rw [d1]
  go_wp2_with fail
  go_ret
  exact ⟨ret_bool HR.out, (Below.refl _ _).alloc (Nat.le_refl _) _⟩
set_option maxHeartbeats 1000000 in
theorem instShS_full (d : InstD) (u : Option Addr) (q : Nat) (ids funcs : Int) (w : World) (h : ¬ (d.op < 1 ∨ 27 < d.op)) (h6 : ¬ d.op = 26) (hz : ¬ d.args.length = 0) (hm : d.args.length ≤ 1048576) :
    Calls Tryz.prog 51 #[.agg #[.int .i64 d.op, .int .i64 d.w, .int .i64 d.a, .int .i64 d.b, .int .i64 d.c, .int .i64 d.imm, .slice u d.args.length q], .int .i64 ids, .int .i64 funcs] w fun e w' => e = .returned (.bool (instB d ids funcs)) ∧ Below w.heap.size w w' := by
  have HR : Hid (false = instB d ids funcs) := by show _ = _; simp [instB, fB, h6, hz]
  have d1 : (decide (1 ≤ d.op) && decide (d.op ≤ 27)) = true := by simp; omega
  have z1 : (0 : Int) < d.args.length := by omega
  have b26 : (d.op == 26) = false := by simpa using h6
  have c26 : (d.op != 26) = true := by simpa using h6
  have z2 : decide ((0 : Int) < d.args.length) = true := by simpa using z1
  clear h
  go_enter Tryz.func51, Tryz.ntmps51
  go_wp2_with fail
  refine (inS _ _ _ _).mono ?_
  rintro e w' ⟨rfl, rfl⟩
  rw [d1]
  go_wp2_with fail
  go_ret
  exact ⟨ret_bool HR.out, (Below.refl _ _).alloc (Nat.le_refl _) _⟩
theorem instShS (lo : Nat) (d : InstD) (u : Option Addr) (q : Nat) (ids funcs : Int) (w : World) (g0 : 0 ≤ ids) (g1 : ids ≤ 4611686018427387904) (g2 : 0 ≤ funcs) (g3 : funcs ≤ 4611686018427387904) (hm : d.args.length ≤ 1048576) (hk : IntsAt w lo u d.args) :
    Calls Tryz.prog 51 #[.agg #[.int .i64 d.op, .int .i64 d.w, .int .i64 d.a, .int .i64 d.b, .int .i64 d.c, .int .i64 d.imm, .slice u d.args.length q], .int .i64 ids, .int .i64 funcs] w fun e w' => e = .returned (.bool (instB d ids funcs)) ∧ Below w.heap.size w w' := by
  by_cases h : d.op < 1 ∨ 27 < d.op
  · exact instShS_no d u q ids funcs w h
  by_cases h6 : d.op = 26
  · obtain ⟨op, iw, a, b, c, imm, args⟩ := d
    dsimp only at h6 hm hk
    subst h6
    exact instShS_26 lo iw a b c imm args u q ids funcs w g0 g1 g2 g3 hm hk
  by_cases hz : d.args.length = 0
  · obtain ⟨op, iw, a, b, c, imm, args⟩ := d
    dsimp only at h h6 hz
    have e := List.length_eq_zero_iff.1 hz
    subst e
    rcases op_split op with o | o | o | o | o | o | o | o | o | o | o | ⟨_, o⟩
    · exact instShS_bin op iw a b c imm u q ids funcs w g0 g1 g2 g3 o
    · subst o; exact instShS_18 iw a b c imm u q ids funcs w g0 g1 g2 g3
    · subst o; exact instShS_19 iw a b c imm u q ids funcs w g0 g1 g2 g3
    · subst o; exact instShS_20 iw a b c imm u q ids funcs w g0 g1 g2 g3
    · subst o; exact instShS_21 iw a b c imm u q ids funcs w g0 g1 g2 g3
    · subst o; exact instShS_22 iw a b c imm u q ids funcs w g0 g1 g2 g3
    · subst o; exact instShS_23 iw a b c imm u q ids funcs w g0 g1 g2 g3
    · subst o; exact instShS_24 iw a b c imm u q ids funcs w g0 g1 g2 g3
    · subst o; exact instShS_25 iw a b c imm u q ids funcs w g0 g1 g2 g3
    · exact absurd o h6
    · subst o; exact instShS_27 iw a b c imm u q ids funcs w g0 g1 g2 g3
    · exact absurd o h
  exact instShS_full d u q ids funcs w h h6 hz hm
end Go.Proofs.YtjmoonbpfieifaaGreatDoor
