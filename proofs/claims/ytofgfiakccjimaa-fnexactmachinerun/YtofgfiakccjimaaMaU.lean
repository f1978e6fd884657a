/- A machine: one step of the model's, the rest. -/
import Derived.Test.YtofgfiakccjimaaMaT
namespace Go.Proofs.Ytofgfiakccjimaa
open Go.RowKit
set_option linter.unusedVariables false
set_option linter.unusedSimpArgs false

set_option maxHeartbeats 4000000 in
set_option maxRecDepth 100000 in
theorem stepS_35 (X G Y B R q : Nat) (s : MSt) (vl cd : Int) (dn : Bool) (w0 b c imm : Int) (a d : Nat) (w : World) (h : XAt w X G Y B R q s vl cd dn) (p0 : 0 ≤ s.pc) (p1 : s.pc ≤ 600) (ha : a < R) (hd : d < R) :
    Calls Try.prog 38 #[.pointer (some ⟨X, 0, none⟩), .agg #[.int .i64 35, .int .i64 w0, .int .i64 d, .int .i64 a, .int .i64 b, .int .i64 c, .int .i64 imm]] w fun e w' => (∃ v, e = .returned v) ∧ XAt w' X G Y B R q { s with pc := s.pc + 1, regs := upF s.regs d (maskZ w0 (s.regs a)) } vl cd dn ∧ Keep3 X G Y B w w' := by
  have B1 : Below w.heap.size w (w.alloc (.cells #[.int .i64 35, .int .i64 w0, .int .i64 d, .int .i64 a, .int .i64 b, .int .i64 c, .int .i64 imm] 50)) := (Below.refl _ _).alloc (Nat.le_refl _) _
  have X1 := BoxI.new w 35 w0 d a b c imm 50
  have A1 := h.below B1
  have K1 : Keep3 X G Y B w (w.alloc (.cells #[.int .i64 35, .int .i64 w0, .int .i64 d, .int .i64 a, .int .i64 b, .int .i64 c, .int .i64 imm] 50)) := Keep3.of_below B1 h.b
  have hN : B ≤ w.heap.size := h.b
  have hXB := h.x
  have hGB := h.g
  have hYB := h.y
  have hXG := h.xg
  have hXY := h.xy
  have hGY := h.gy
  have ha2 : (a : Int) < R := by omega
  have hd2 : (d : Int) < R := by omega
  clear h B1
  go_enter Try.func38, Try.ntmps38
  go_wp2_with fail
  generalize hW0 : w.alloc (.cells #[.int .i64 35, .int .i64 w0, .int .i64 d, .int .i64 a, .int .i64 b, .int .i64 c, .int .i64 imm] 50) = w1 at A1 X1 K1 ⊢
  have hz1 : w.heap.size < w1.heap.size := by rw [← hW0]; simp
  clear hW0
  have x4 := A1.cell4
  have x7 := A1.cell7
  have f7 := A1.froz 7
  have ra := A1.reg a ha
  have b3 := X1.2.2.2.2.1
  go_quiet (fail)
  go_upto_region 4 with fail
  have K2 := (K1.trans (Keep3.of_below (below_drewN (Below.refl _ _) nq) A1.b)).set X 7 (.int .i64 (s.pc + 1)) (.inl rfl)
  have A2 := (A1.below (below_drewN (Below.refl _ _) nq)).setPc (s.pc + 1)
  have X2 := box_set (X1.below (below_drewN (Below.refl _ _) nq)) X 7 (.int .i64 (s.pc + 1)) (by omega)
  clear x4 x7 f7 ra b3 A1 X1 K1 hz1
  generalize (w1.drewN nq).setCell ⟨X, 7, none⟩ (.int .i64 (s.pc + 1)) = w2 at A2 X2 K2 ⊢
  have b0 := X2.2.1
  have b1 := X2.2.2.1
  have b2 := X2.2.2.2.1
  have x4 := A2.cell4
  have rd := A2.reg d hd
  have fd := A2.frozG d
  have HA2 : Hid (XAt w2 X G Y B R q { s with pc := s.pc + 1 } vl cd dn) := A2
  have HX2 : Hid (BoxI w2 w.heap.size 35 w0 d a b c imm) := X2
  clear A2 X2
  go_wp2_with (go_at_call 24; refine (inS _ _ _ _).mono ?_; rintro e w9 ⟨rfl, h9⟩; have h8 := h9.symm; clear h9; subst h8)
  go_region_with (go_at_call 63; refine (maskS _ _ _).mono ?_; rintro e w9 ⟨rfl, h9⟩; have h8 := h9.symm; clear h9; subst h8)
  all_goals
    go_wp2_with fail
    exact bodyPost_end (results_none Try.results38 _ _ _) rfl ⟨⟨_, rfl⟩, (HA2.out.below (drew_below (Below.refl _ _))).setReg d _ hd, (K2.trans (Keep3.of_below (drew_below (Below.refl _ _)) HA2.out.b)).set G d _ (.inr (.inl rfl))⟩
set_option maxHeartbeats 4000000 in
set_option maxRecDepth 100000 in
theorem stepS_cast (X G Y B R q : Nat) (s : MSt) (vl cd : Int) (dn : Bool) (op w0 b c imm : Int) (a d : Nat) (w : World) (h : XAt w X G Y B R q s vl cd dn) (p0 : 0 ≤ s.pc) (p1 : s.pc ≤ 600) (ha : a < R) (hd : d < R) (o1 : 18 ≤ op) (o2 : op ≤ 20) :
    Calls Try.prog 38 #[.pointer (some ⟨X, 0, none⟩), .agg #[.int .i64 op, .int .i64 w0, .int .i64 d, .int .i64 a, .int .i64 b, .int .i64 c, .int .i64 imm]] w fun e w' => (∃ v, e = .returned v) ∧ XAt w' X G Y B R q { s with pc := s.pc + 1, regs := upF s.regs d (castZ op c w0 (maskZ c (s.regs a))) } vl cd dn ∧ Keep3 X G Y B w w' := by
  have B1 : Below w.heap.size w (w.alloc (.cells #[.int .i64 op, .int .i64 w0, .int .i64 d, .int .i64 a, .int .i64 b, .int .i64 c, .int .i64 imm] 50)) := (Below.refl _ _).alloc (Nat.le_refl _) _
  have X1 := BoxI.new w op w0 d a b c imm 50
  have A1 := h.below B1
  have K1 : Keep3 X G Y B w (w.alloc (.cells #[.int .i64 op, .int .i64 w0, .int .i64 d, .int .i64 a, .int .i64 b, .int .i64 c, .int .i64 imm] 50)) := Keep3.of_below B1 h.b
  have hN : B ≤ w.heap.size := h.b
  have hXB := h.x
  have hGB := h.g
  have hYB := h.y
  have hXG := h.xg
  have hXY := h.xy
  have hGY := h.gy
  have ha2 : (a : Int) < R := by omega
  have hd2 : (d : Int) < R := by omega
  clear h B1
  go_enter Try.func38, Try.ntmps38
  go_wp2_with fail
  generalize hW0 : w.alloc (.cells #[.int .i64 op, .int .i64 w0, .int .i64 d, .int .i64 a, .int .i64 b, .int .i64 c, .int .i64 imm] 50) = w1 at A1 X1 K1 ⊢
  have hz1 : w.heap.size < w1.heap.size := by rw [← hW0]; simp
  clear hW0
  have x4 := A1.cell4
  have x7 := A1.cell7
  have f7 := A1.froz 7
  have ra := A1.reg a ha
  have b3 := X1.2.2.2.2.1
  go_quiet (fail)
  go_upto_region 4 with fail
  have K2 := (K1.trans (Keep3.of_below (below_drewN (Below.refl _ _) nq) A1.b)).set X 7 (.int .i64 (s.pc + 1)) (.inl rfl)
  have A2 := (A1.below (below_drewN (Below.refl _ _) nq)).setPc (s.pc + 1)
  have X2 := box_set (X1.below (below_drewN (Below.refl _ _) nq)) X 7 (.int .i64 (s.pc + 1)) (by omega)
  clear x4 x7 f7 ra b3 A1 X1 K1 hz1
  generalize (w1.drewN nq).setCell ⟨X, 7, none⟩ (.int .i64 (s.pc + 1)) = w2 at A2 X2 K2 ⊢
  have b0 := X2.2.1
  have b1 := X2.2.2.1
  have b2 := X2.2.2.2.1
  have b5 := X2.2.2.2.2.2.2.1
  have x4 := A2.cell4
  have rd := A2.reg d hd
  have fd := A2.frozG d
  have HA2 : Hid (XAt w2 X G Y B R q { s with pc := s.pc + 1 } vl cd dn) := A2
  have HX2 : Hid (BoxI w2 w.heap.size op w0 d a b c imm) := X2
  clear A2 X2
  have d1 : (decide (1 ≤ op) && decide (op ≤ 17)) = false := by simp; omega
  have d2 : (decide (18 ≤ op) && decide (op ≤ 20)) = true := by simp; omega
  go_wp2_with (go_at_call 24; refine (inS _ _ _ _).mono ?_; rintro e w9 ⟨rfl, h9⟩; have h8 := h9.symm; clear h9; subst h8)
  go_quiet (first | (go_at_call 63; refine Calls.quiet_of_same (maskS _ _ _)) | (go_at_call 64; refine Calls.quiet_of_same (castS _ _ _ _ _)))
  go_wp2_with fail
  go_region
  go_wp2_with fail
  exact bodyPost_end (results_none Try.results38 _ _ _) rfl ⟨⟨_, rfl⟩, ((HA2.out.below (below_drewN (Below.refl _ _) nq)).below (drew_below (Below.refl _ _))).setReg d _ hd, ((K2.trans (Keep3.of_below (below_drewN (Below.refl _ _) nq) HA2.out.b)).trans (Keep3.of_below (drew_below (Below.refl _ _)) HA2.out.b)).set G d _ (.inr (.inl rfl))⟩
end Go.Proofs.Ytofgfiakccjimaa
