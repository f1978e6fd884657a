/- A machine: one step of the model's, the rest. -/
import Derived.Test.YtofgfiakccjimaaMaT
import Derived.Test.YtofgfiakccjimaaBinS
namespace Go.Proofs.Ytofgfiakccjimaa
open Go.RowKit
set_option linter.unusedVariables false
set_option linter.unusedSimpArgs false

set_option maxHeartbeats 4000000 in
set_option maxRecDepth 100000 in
theorem stepS_bin0 (X G Y B R q : Nat) (s : MSt) (vl cd : Int) (dn : Bool) (op w0 c imm : Int) (a b d : Nat) (w : World) (h : XAt w X G Y B R q s vl cd dn) (p0 : 0 ≤ s.pc) (p1 : s.pc ≤ 600) (ha : a < R) (hb : b < R) (hd : d < R) (o1 : 1 ≤ op) (o2 : op ≤ 17) (hc : binC op w0 (maskZ w0 (s.regs a)) (maskZ w0 (s.regs b)) = 0) :
    Calls Try.prog 38 #[.pointer (some ⟨X, 0, none⟩), .agg #[.int .i64 op, .int .i64 w0, .int .i64 d, .int .i64 a, .int .i64 b, .int .i64 c, .int .i64 imm]] w fun e w' => (∃ v, e = .returned v) ∧ XAt w' X G Y B R q { s with pc := s.pc + 1, regs := upF s.regs d (binZ op w0 (maskZ w0 (s.regs a)) (maskZ w0 (s.regs b))) } vl cd dn ∧ Keep3 X G Y B w w' := by
  have B1 : Below w.heap.size w (w.alloc (.cells #[.int .i64 op, .int .i64 w0, .int .i64 d, .int .i64 a, .int .i64 b, .int .i64 c, .int .i64 imm] 50)) := (Below.refl _ _).alloc (Nat.le_refl _) _
  have X1 := BoxI.new w op w0 d a b c imm 50
  have A1 := h.below B1
  have K1 : Keep3 X G Y B w (w.alloc (.cells #[.int .i64 op, .int .i64 w0, .int .i64 d, .int .i64 a, .int .i64 b, .int .i64 c, .int .i64 imm] 50)) := Keep3.of_below B1 h.b
  have hN : B ≤ w.heap.size := h.b
  have hXB := h.x
  have hGB := h.g
  have hYB := h.y
  have hXG := h.xg
  have hXY := h.xy
  have hGY := h.gy
  have ha2 : (a : Int) < R := by omega
  have hd2 : (d : Int) < R := by omega
  have hb2 : (b : Int) < R := by omega
  clear h B1
  go_enter Try.func38, Try.ntmps38
  go_wp2_with fail
  generalize hW0 : w.alloc (.cells #[.int .i64 op, .int .i64 w0, .int .i64 d, .int .i64 a, .int .i64 b, .int .i64 c, .int .i64 imm] 50) = w1 at A1 X1 K1 ⊢
  have hz1 : w.heap.size < w1.heap.size := by rw [← hW0]; simp
  clear hW0
  have x4 := A1.cell4
  have x7 := A1.cell7
  have f7 := A1.froz 7
  have ra := A1.reg a ha
  have b3 := X1.2.2.2.2.1
  go_quiet (fail)
  go_upto_region 4 with fail
  have K2 := (K1.trans (Keep3.of_below (below_drewN (Below.refl _ _) nq) A1.b)).set X 7 (.int .i64 (s.pc + 1)) (.inl rfl)
  have A2 := (A1.below (below_drewN (Below.refl _ _) nq)).setPc (s.pc + 1)
  have X2 := box_set (X1.below (below_drewN (Below.refl _ _) nq)) X 7 (.int .i64 (s.pc + 1)) (by omega)
  clear x4 x7 f7 ra b3 A1 X1 K1 hz1
  generalize (w1.drewN nq).setCell ⟨X, 7, none⟩ (.int .i64 (s.pc + 1)) = w2 at A2 X2 K2 ⊢
  have b0 := X2.2.1
  have b1 := X2.2.2.1
  have b2 := X2.2.2.2.1
  have b4 := X2.2.2.2.2.2.1
  have x4 := A2.cell4
  have rd := A2.reg d hd
  have fd := A2.frozG d
  have rb := A2.reg b hb
  have HA2 : Hid (XAt w2 X G Y B R q { s with pc := s.pc + 1 } vl cd dn) := A2
  have HX2 : Hid (BoxI w2 w.heap.size op w0 d a b c imm) := X2
  clear A2 X2
  have BS : ∀ v : World, Calls Try.prog 62 #[.int .i64 op, .int .i64 w0, .int .i64 (maskZ w0 (s.regs a)), .int .i64 (maskZ w0 (s.regs b))] v fun e w' => e = .returned (.tuple #[.int .i64 (binZ op w0 (maskZ w0 (s.regs a)) (maskZ w0 (s.regs b))), .int .i64 (binC op w0 (maskZ w0 (s.regs a)) (maskZ w0 (s.regs b)))]) ∧ w' = v := fun v => binS _ _ _ _ v
  have d1 : (decide (1 ≤ op) && decide (op ≤ 17)) = true := by simp; omega
  go_wp2_with (go_at_call 24; refine (inS _ _ _ _).mono ?_; rintro e w9 ⟨rfl, h9⟩; have h8 := h9.symm; clear h9; subst h8)
  go_quiet (first | (go_at_call 63; refine Calls.quiet_of_same (maskS _ _ _)) | (go_at_call 62; refine Calls.quiet_of_same (BS _)))
  go_wp2_with fail
  go_region
  go_wp2_with fail
  exact bodyPost_end (results_none Try.results38 _ _ _) rfl ⟨⟨_, rfl⟩, ((HA2.out.below (below_drewN (Below.refl _ _) nq)).below (drew_below (Below.refl _ _))).setReg d _ hd, ((K2.trans (Keep3.of_below (below_drewN (Below.refl _ _) nq) HA2.out.b)).trans (Keep3.of_below (drew_below (Below.refl _ _)) HA2.out.b)).set G d _ (.inr (.inl rfl))⟩
set_option maxHeartbeats 4000000 in
set_option maxRecDepth 100000 in
theorem stepS_bin1 (X G Y B R q : Nat) (s : MSt) (vl cd : Int) (dn : Bool) (op w0 c imm : Int) (a b d : Nat) (w : World) (h : XAt w X G Y B R q s vl cd dn) (p0 : 0 ≤ s.pc) (p1 : s.pc ≤ 600) (ha : a < R) (hb : b < R) (hd : d < R) (o1 : 1 ≤ op) (o2 : op ≤ 17) (hc : ¬ binC op w0 (maskZ w0 (s.regs a)) (maskZ w0 (s.regs b)) = 0) :
    Calls Try.prog 38 #[.pointer (some ⟨X, 0, none⟩), .agg #[.int .i64 op, .int .i64 w0, .int .i64 d, .int .i64 a, .int .i64 b, .int .i64 c, .int .i64 imm]] w fun e w' => (∃ v, e = .returned v) ∧ XAt w' X G Y B R q { s with pc := s.pc + 1 } vl 1 true ∧ Keep3 X G Y B w w' := by
  have B1 : Below w.heap.size w (w.alloc (.cells #[.int .i64 op, .int .i64 w0, .int .i64 d, .int .i64 a, .int .i64 b, .int .i64 c, .int .i64 imm] 50)) := (Below.refl _ _).alloc (Nat.le_refl _) _
  have X1 := BoxI.new w op w0 d a b c imm 50
  have A1 := h.below B1
  have K1 : Keep3 X G Y B w (w.alloc (.cells #[.int .i64 op, .int .i64 w0, .int .i64 d, .int .i64 a, .int .i64 b, .int .i64 c, .int .i64 imm] 50)) := Keep3.of_below B1 h.b
  have hN : B ≤ w.heap.size := h.b
  have hXB := h.x
  have hGB := h.g
  have hYB := h.y
  have hXG := h.xg
  have hXY := h.xy
  have hGY := h.gy
  have ha2 : (a : Int) < R := by omega
  have hd2 : (d : Int) < R := by omega
  have hb2 : (b : Int) < R := by omega
  clear h B1
  go_enter Try.func38, Try.ntmps38
  go_wp2_with fail
  generalize hW0 : w.alloc (.cells #[.int .i64 op, .int .i64 w0, .int .i64 d, .int .i64 a, .int .i64 b, .int .i64 c, .int .i64 imm] 50) = w1 at A1 X1 K1 ⊢
  have hz1 : w.heap.size < w1.heap.size := by rw [← hW0]; simp
  clear hW0
  have x4 := A1.cell4
  have x7 := A1.cell7
  have f7 := A1.froz 7
  have ra := A1.reg a ha
  have b3 := X1.2.2.2.2.1
  go_quiet (fail)
  go_upto_region 4 with fail
  have K2 := (K1.trans (Keep3.of_below (below_drewN (Below.refl _ _) nq) A1.b)).set X 7 (.int .i64 (s.pc + 1)) (.inl rfl)
  have A2 := (A1.below (below_drewN (Below.refl _ _) nq)).setPc (s.pc + 1)
  have X2 := box_set (X1.below (below_drewN (Below.refl _ _) nq)) X 7 (.int .i64 (s.pc + 1)) (by omega)
  clear x4 x7 f7 ra b3 A1 X1 K1 hz1
  generalize (w1.drewN nq).setCell ⟨X, 7, none⟩ (.int .i64 (s.pc + 1)) = w2 at A2 X2 K2 ⊢
  have b0 := X2.2.1
  have b1 := X2.2.2.1
  have b2 := X2.2.2.2.1
  have b4 := X2.2.2.2.2.2.1
  have x4 := A2.cell4
  have rd := A2.reg d hd
  have fd := A2.frozG d
  have rb := A2.reg b hb
  have HA2 : Hid (XAt w2 X G Y B R q { s with pc := s.pc + 1 } vl cd dn) := A2
  have HX2 : Hid (BoxI w2 w.heap.size op w0 d a b c imm) := X2
  clear A2 X2
  have BS : ∀ v : World, Calls Try.prog 62 #[.int .i64 op, .int .i64 w0, .int .i64 (maskZ w0 (s.regs a)), .int .i64 (maskZ w0 (s.regs b))] v fun e w' => e = .returned (.tuple #[.int .i64 (binZ op w0 (maskZ w0 (s.regs a)) (maskZ w0 (s.regs b))), .int .i64 (binC op w0 (maskZ w0 (s.regs a)) (maskZ w0 (s.regs b)))]) ∧ w' = v := fun v => binS _ _ _ _ v
  have d1 : (decide (1 ≤ op) && decide (op ≤ 17)) = true := by simp; omega
  go_wp2_with (go_at_call 24; refine (inS _ _ _ _).mono ?_; rintro e w9 ⟨rfl, h9⟩; have h8 := h9.symm; clear h9; subst h8)
  go_quiet (first | (go_at_call 63; refine Calls.quiet_of_same (maskS _ _ _)) | (go_at_call 62; refine Calls.quiet_of_same (BS _)))
  have HA2 : Hid _ := HA2.out.below (below_drewN (Below.refl _ _) nq)
  go_wp2_with (go_at_call 37; refine (failS _ X G Y B R q _ _ _ _ _ HA2.out).mono ?_; rintro e w3 ⟨⟨v3, rfl⟩, A3, K3⟩)
  exact bodyPost_ret (results_none Try.results38 _ _ _) rfl ⟨⟨_, rfl⟩, A3, (K2.trans (Keep3.of_below (below_drewN (Below.refl _ _) nq) HA2.out.b)).trans K3⟩
end Go.Proofs.Ytofgfiakccjimaa
namespace Go.Proofs.Ytofgfiakccjimaa
open Go.RowKit
set_option linter.unusedVariables false
set_option linter.unusedSimpArgs false

set_option maxHeartbeats 4000000 in
set_option maxRecDepth 100000 in
theorem stepS_23n (X G Y B R q : Nat) (s : MSt) (vl cd : Int) (dn : Bool) (w0 d b c imm : Int) (a : Nat) (w : World) (h : XAt w X G Y B R q s vl cd dn) (p0 : 0 ≤ s.pc) (p1 : s.pc ≤ 600) (ha : a < R) (h32 : 32 ≤ s.regs a) :
    Calls Try.prog 38 #[.pointer (some ⟨X, 0, none⟩), .agg #[.int .i64 23, .int .i64 w0, .int .i64 d, .int .i64 a, .int .i64 b, .int .i64 c, .int .i64 imm]] w fun e w' => (∃ v, e = .returned v) ∧ XAt w' X G Y B R q { s with pc := s.pc + 1 } vl 2 true ∧ Keep3 X G Y B w w' := by
  have B1 : Below w.heap.size w (w.alloc (.cells #[.int .i64 23, .int .i64 w0, .int .i64 d, .int .i64 a, .int .i64 b, .int .i64 c, .int .i64 imm] 50)) := (Below.refl _ _).alloc (Nat.le_refl _) _
  have X1 := BoxI.new w 23 w0 d a b c imm 50
  have A1 := h.below B1
  have K1 : Keep3 X G Y B w (w.alloc (.cells #[.int .i64 23, .int .i64 w0, .int .i64 d, .int .i64 a, .int .i64 b, .int .i64 c, .int .i64 imm] 50)) := Keep3.of_below B1 h.b
  have hN : B ≤ w.heap.size := h.b
  have hXB := h.x
  have hGB := h.g
  have hYB := h.y
  have hXG := h.xg
  have hXY := h.xy
  have hGY := h.gy
  have ha2 : (a : Int) < R := by omega
  clear h B1
  go_enter Try.func38, Try.ntmps38
  go_wp2_with fail
  generalize hW0 : w.alloc (.cells #[.int .i64 23, .int .i64 w0, .int .i64 d, .int .i64 a, .int .i64 b, .int .i64 c, .int .i64 imm] 50) = w1 at A1 X1 K1 ⊢
  have hz1 : w.heap.size < w1.heap.size := by rw [← hW0]; simp
  clear hW0
  have x4 := A1.cell4
  have x7 := A1.cell7
  have f7 := A1.froz 7
  have ra := A1.reg a ha
  have b3 := X1.2.2.2.2.1
  go_quiet (fail)
  go_upto_region 4 with fail
  have K2 := (K1.trans (Keep3.of_below (below_drewN (Below.refl _ _) nq) A1.b)).set X 7 (.int .i64 (s.pc + 1)) (.inl rfl)
  have A2 := (A1.below (below_drewN (Below.refl _ _) nq)).setPc (s.pc + 1)
  have X2 := box_set (X1.below (below_drewN (Below.refl _ _) nq)) X 7 (.int .i64 (s.pc + 1)) (by omega)
  clear x4 x7 f7 ra b3 A1 X1 K1 hz1
  generalize (w1.drewN nq).setCell ⟨X, 7, none⟩ (.int .i64 (s.pc + 1)) = w2 at A2 X2 K2 ⊢
  have b0 := X2.2.1
  have HA2 : Hid (XAt w2 X G Y B R q { s with pc := s.pc + 1 } vl cd dn) := A2
  have HX2 : Hid (BoxI w2 w.heap.size 23 w0 d a b c imm) := X2
  clear A2 X2
  go_wp2_with (first | (go_at_call 24; refine (inS _ _ _ _).mono ?_; rintro e w9 ⟨rfl, h9⟩; have h8 := h9.symm; clear h9; subst h8) | (go_at_call 37; refine (failS _ X G Y B R q _ _ _ _ _ HA2.out).mono ?_; rintro e w3 ⟨⟨v3, rfl⟩, A3, K3⟩))
  exact bodyPost_ret (results_none Try.results38 _ _ _) rfl ⟨⟨_, rfl⟩, A3, K2.trans K3⟩
set_option maxHeartbeats 4000000 in
set_option maxRecDepth 100000 in
theorem stepS_24n (X G Y B R q : Nat) (s : MSt) (vl cd : Int) (dn : Bool) (w0 d b c imm : Int) (a : Nat) (w : World) (h : XAt w X G Y B R q s vl cd dn) (p0 : 0 ≤ s.pc) (p1 : s.pc ≤ 600) (ha : a < R) (h32 : 32 ≤ s.regs a) :
    Calls Try.prog 38 #[.pointer (some ⟨X, 0, none⟩), .agg #[.int .i64 24, .int .i64 w0, .int .i64 d, .int .i64 a, .int .i64 b, .int .i64 c, .int .i64 imm]] w fun e w' => (∃ v, e = .returned v) ∧ XAt w' X G Y B R q { s with pc := s.pc + 1 } vl 2 true ∧ Keep3 X G Y B w w' := by
  have B1 : Below w.heap.size w (w.alloc (.cells #[.int .i64 24, .int .i64 w0, .int .i64 d, .int .i64 a, .int .i64 b, .int .i64 c, .int .i64 imm] 50)) := (Below.refl _ _).alloc (Nat.le_refl _) _
  have X1 := BoxI.new w 24 w0 d a b c imm 50
  have A1 := h.below B1
  have K1 : Keep3 X G Y B w (w.alloc (.cells #[.int .i64 24, .int .i64 w0, .int .i64 d, .int .i64 a, .int .i64 b, .int .i64 c, .int .i64 imm] 50)) := Keep3.of_below B1 h.b
  have hN : B ≤ w.heap.size := h.b
  have hXB := h.x
  have hGB := h.g
  have hYB := h.y
  have hXG := h.xg
  have hXY := h.xy
  have hGY := h.gy
  have ha2 : (a : Int) < R := by omega
  clear h B1
  go_enter Try.func38, Try.ntmps38
  go_wp2_with fail
  generalize hW0 : w.alloc (.cells #[.int .i64 24, .int .i64 w0, .int .i64 d, .int .i64 a, .int .i64 b, .int .i64 c, .int .i64 imm] 50) = w1 at A1 X1 K1 ⊢
  have hz1 : w.heap.size < w1.heap.size := by rw [← hW0]; simp
  clear hW0
  have x4 := A1.cell4
  have x7 := A1.cell7
  have f7 := A1.froz 7
  have ra := A1.reg a ha
  have b3 := X1.2.2.2.2.1
  go_quiet (fail)
  go_upto_region 4 with fail
  have K2 := (K1.trans (Keep3.of_below (below_drewN (Below.refl _ _) nq) A1.b)).set X 7 (.int .i64 (s.pc + 1)) (.inl rfl)
  have A2 := (A1.below (below_drewN (Below.refl _ _) nq)).setPc (s.pc + 1)
  have X2 := box_set (X1.below (below_drewN (Below.refl _ _) nq)) X 7 (.int .i64 (s.pc + 1)) (by omega)
  clear x4 x7 f7 ra b3 A1 X1 K1 hz1
  generalize (w1.drewN nq).setCell ⟨X, 7, none⟩ (.int .i64 (s.pc + 1)) = w2 at A2 X2 K2 ⊢
  have b0 := X2.2.1
  have HA2 : Hid (XAt w2 X G Y B R q { s with pc := s.pc + 1 } vl cd dn) := A2
  have HX2 : Hid (BoxI w2 w.heap.size 24 w0 d a b c imm) := X2
  clear A2 X2
  go_wp2_with (first | (go_at_call 24; refine (inS _ _ _ _).mono ?_; rintro e w9 ⟨rfl, h9⟩; have h8 := h9.symm; clear h9; subst h8) | (go_at_call 37; refine (failS _ X G Y B R q _ _ _ _ _ HA2.out).mono ?_; rintro e w3 ⟨⟨v3, rfl⟩, A3, K3⟩))
  exact bodyPost_ret (results_none Try.results38 _ _ _) rfl ⟨⟨_, rfl⟩, A3, K2.trans K3⟩
set_option maxHeartbeats 4000000 in
set_option maxRecDepth 100000 in
theorem stepS_23y (X G Y B R q : Nat) (s : MSt) (vl cd : Int) (dn : Bool) (w0 b c imm : Int) (a d x : Nat) (w : World) (h : XAt w X G Y B R q s vl cd dn) (p0 : 0 ≤ s.pc) (p1 : s.pc ≤ 600) (ha : a < R) (hd : d < R) (hx : s.regs a = x) (h32 : x < 32) (m0 : 0 ≤ s.mem x) (m1 : s.mem x ≤ 255) :
    Calls Try.prog 38 #[.pointer (some ⟨X, 0, none⟩), .agg #[.int .i64 23, .int .i64 w0, .int .i64 d, .int .i64 a, .int .i64 b, .int .i64 c, .int .i64 imm]] w fun e w' => (∃ v, e = .returned v) ∧ XAt w' X G Y B R q { s with pc := s.pc + 1, regs := upF s.regs d (s.mem x) } vl cd dn ∧ Keep3 X G Y B w w' := by
  have B1 : Below w.heap.size w (w.alloc (.cells #[.int .i64 23, .int .i64 w0, .int .i64 d, .int .i64 a, .int .i64 b, .int .i64 c, .int .i64 imm] 50)) := (Below.refl _ _).alloc (Nat.le_refl _) _
  have X1 := BoxI.new w 23 w0 d a b c imm 50
  have A1 := h.below B1
  have K1 : Keep3 X G Y B w (w.alloc (.cells #[.int .i64 23, .int .i64 w0, .int .i64 d, .int .i64 a, .int .i64 b, .int .i64 c, .int .i64 imm] 50)) := Keep3.of_below B1 h.b
  have hN : B ≤ w.heap.size := h.b
  have hXB := h.x
  have hGB := h.g
  have hYB := h.y
  have hXG := h.xg
  have hXY := h.xy
  have hGY := h.gy
  have ha2 : (a : Int) < R := by omega
  have hd2 : (d : Int) < R := by omega
  have h33 : ¬ (32 : Int) ≤ x := by omega
  have h34 : (x : Int) < 32 := by omega
  clear h B1
  go_enter Try.func38, Try.ntmps38
  go_wp2_with fail
  generalize hW0 : w.alloc (.cells #[.int .i64 23, .int .i64 w0, .int .i64 d, .int .i64 a, .int .i64 b, .int .i64 c, .int .i64 imm] 50) = w1 at A1 X1 K1 ⊢
  have hz1 : w.heap.size < w1.heap.size := by rw [← hW0]; simp
  clear hW0
  have x4 := A1.cell4
  have x7 := A1.cell7
  have f7 := A1.froz 7
  have ra := A1.reg a ha
  rw [hx] at ra
  have b3 := X1.2.2.2.2.1
  go_quiet (fail)
  go_upto_region 4 with fail
  have K2 := (K1.trans (Keep3.of_below (below_drewN (Below.refl _ _) nq) A1.b)).set X 7 (.int .i64 (s.pc + 1)) (.inl rfl)
  have A2 := (A1.below (below_drewN (Below.refl _ _) nq)).setPc (s.pc + 1)
  have X2 := box_set (X1.below (below_drewN (Below.refl _ _) nq)) X 7 (.int .i64 (s.pc + 1)) (by omega)
  clear x4 x7 f7 ra b3 A1 X1 K1 hz1
  generalize (w1.drewN nq).setCell ⟨X, 7, none⟩ (.int .i64 (s.pc + 1)) = w2 at A2 X2 K2 ⊢
  have ma := A2.mm x h32
  have b0 := X2.2.1
  have b2 := X2.2.2.2.1
  have x4 := A2.cell4
  have x5 := A2.cell5
  have rd := A2.reg d hd
  have fd := A2.frozG d
  have HA2 : Hid (XAt w2 X G Y B R q { s with pc := s.pc + 1 } vl cd dn) := A2
  have HX2 : Hid (BoxI w2 w.heap.size 23 w0 d a b c imm) := X2
  clear A2 X2
  go_wp2_with (go_at_call 24; refine (inS _ _ _ _).mono ?_; rintro e w9 ⟨rfl, h9⟩; have h8 := h9.symm; clear h9; subst h8)
  go_region
  go_wp2_with fail
  exact bodyPost_end (results_none Try.results38 _ _ _) rfl ⟨⟨_, rfl⟩, (HA2.out.below (drew_below (Below.refl _ _))).setReg d _ hd, (K2.trans (Keep3.of_below (drew_below (Below.refl _ _)) HA2.out.b)).set G d _ (.inr (.inl rfl))⟩
set_option maxHeartbeats 4000000 in
set_option maxRecDepth 100000 in
theorem stepS_24y (X G Y B R q : Nat) (s : MSt) (vl cd : Int) (dn : Bool) (w0 d c imm : Int) (a b x : Nat) (w : World) (h : XAt w X G Y B R q s vl cd dn) (p0 : 0 ≤ s.pc) (p1 : s.pc ≤ 600) (ha : a < R) (hb : b < R) (hx : s.regs a = x) (h32 : x < 32) :
    Calls Try.prog 38 #[.pointer (some ⟨X, 0, none⟩), .agg #[.int .i64 24, .int .i64 w0, .int .i64 d, .int .i64 a, .int .i64 b, .int .i64 c, .int .i64 imm]] w fun e w' => (∃ v, e = .returned v) ∧ XAt w' X G Y B R q { s with pc := s.pc + 1, mem := upF s.mem x (s.regs b % 256) } vl cd dn ∧ Keep3 X G Y B w w' := by
  have B1 : Below w.heap.size w (w.alloc (.cells #[.int .i64 24, .int .i64 w0, .int .i64 d, .int .i64 a, .int .i64 b, .int .i64 c, .int .i64 imm] 50)) := (Below.refl _ _).alloc (Nat.le_refl _) _
  have X1 := BoxI.new w 24 w0 d a b c imm 50
  have A1 := h.below B1
  have K1 : Keep3 X G Y B w (w.alloc (.cells #[.int .i64 24, .int .i64 w0, .int .i64 d, .int .i64 a, .int .i64 b, .int .i64 c, .int .i64 imm] 50)) := Keep3.of_below B1 h.b
  have hN : B ≤ w.heap.size := h.b
  have hXB := h.x
  have hGB := h.g
  have hYB := h.y
  have hXG := h.xg
  have hXY := h.xy
  have hGY := h.gy
  have ha2 : (a : Int) < R := by omega
  have hb2 : (b : Int) < R := by omega
  have h33 : ¬ (32 : Int) ≤ x := by omega
  have h34 : (x : Int) < 32 := by omega
  clear h B1
  go_enter Try.func38, Try.ntmps38
  go_wp2_with fail
  generalize hW0 : w.alloc (.cells #[.int .i64 24, .int .i64 w0, .int .i64 d, .int .i64 a, .int .i64 b, .int .i64 c, .int .i64 imm] 50) = w1 at A1 X1 K1 ⊢
  have hz1 : w.heap.size < w1.heap.size := by rw [← hW0]; simp
  clear hW0
  have x4 := A1.cell4
  have x7 := A1.cell7
  have f7 := A1.froz 7
  have ra := A1.reg a ha
  rw [hx] at ra
  have b3 := X1.2.2.2.2.1
  go_quiet (fail)
  go_upto_region 4 with fail
  have K2 := (K1.trans (Keep3.of_below (below_drewN (Below.refl _ _) nq) A1.b)).set X 7 (.int .i64 (s.pc + 1)) (.inl rfl)
  have A2 := (A1.below (below_drewN (Below.refl _ _) nq)).setPc (s.pc + 1)
  have X2 := box_set (X1.below (below_drewN (Below.refl _ _) nq)) X 7 (.int .i64 (s.pc + 1)) (by omega)
  clear x4 x7 f7 ra b3 A1 X1 K1 hz1
  generalize (w1.drewN nq).setCell ⟨X, 7, none⟩ (.int .i64 (s.pc + 1)) = w2 at A2 X2 K2 ⊢
  have ma := A2.mm x h32
  have fx := A2.frozY x h32
  have b0 := X2.2.1
  have b4 := X2.2.2.2.2.2.1
  have x4 := A2.cell4
  have x5 := A2.cell5
  have rb := A2.reg b hb
  have HA2 : Hid (XAt w2 X G Y B R q { s with pc := s.pc + 1 } vl cd dn) := A2
  have HX2 : Hid (BoxI w2 w.heap.size 24 w0 d a b c imm) := X2
  clear A2 X2
  go_wp2_with (go_at_call 24; refine (inS _ _ _ _).mono ?_; rintro e w9 ⟨rfl, h9⟩; have h8 := h9.symm; clear h9; subst h8)
  go_region
  go_wp2_with fail
  exact bodyPost_end (results_none Try.results38 _ _ _) rfl ⟨⟨_, rfl⟩, (HA2.out.below (drew_below (Below.refl _ _))).setMem x _ h32, (K2.trans (Keep3.of_below (drew_below (Below.refl _ _)) HA2.out.b)).set Y x _ (.inr (.inr rfl))⟩
end Go.Proofs.Ytofgfiakccjimaa
namespace Go.Proofs.Ytofgfiakccjimaa
open Go.RowKit
set_option linter.unusedVariables false
set_option linter.unusedSimpArgs false


theorem XAt.told {w : World} {X G Y B R q : Nat} {s : MSt} {vl cd : Int} {dn : Bool} (h : XAt w X G Y B R q s vl cd dn) : ∃ u c, w.cell? ⟨X, 6, none⟩ = some (.slice u s.out.length c) ∧ w.ownsRow B 2 1 (.slice u s.out.length c) s.out.length (s.out.map (Value.int .i64)) := by
  obtain ⟨p0, p1, p2, p3, ov, hx, ho⟩ := h.hx
  obtain ⟨u, c, rfl⟩ := ownsRow_slice ho
  exact ⟨u, c, (cell_of_heap (o := 6) hx).trans rfl, ho⟩
theorem froz_blockM {w w' : World} {b o : Nat} (h : w'.heap[b]? = w.heap[b]?) : w'.frozen? ⟨b, o, none⟩ = w.frozen? ⟨b, o, none⟩ := by unfold World.frozen?; rw [h]
theorem grown_block {w w3 : World} {B : Nat} {ov : Value} {n : Nat} {xs : List Value} (hb : B ≤ w.heap.size) (ho : w.ownsRow B 2 1 ov n xs) (hg : w.grownBy w3 ov.ownBlock) (k : Nat) (hk : k < B) : w3.heap[k]? = w.heap[k]? :=
  hg.block k (by omega) (fun e => by have := ownsRow_ge ho e.symm; omega)
theorem XAt.tell {w0 w w3 : World} {X G Y B R q : Nat} {s : MSt} {vl cd : Int} {dn : Bool} {ov v3 : Value} {n : Nat} {xs ys : List Value} (h : XAt w X G Y B R q s vl cd dn) (k : Keep3 X G Y B w0 w) (ho : w.ownsRow B 2 1 ov n xs) (hg : w.grownBy w3 ov.ownBlock) (l : List Int) (e : ys = l.map (Value.int .i64)) (m : Nat) (e2 : m = l.length) (ho3 : w3.ownsRow B 2 1 v3 m ys) :
    XAt (w3.setCell ⟨X, 6, none⟩ v3) X G Y B R q { s with out := l } vl cd dn ∧ Keep3 X G Y B w0 (w3.setCell ⟨X, 6, none⟩ v3) := by
  have gb := fun k hk => grown_block h.b ho hg k hk
  obtain ⟨p0, p1, p2, p3, ov2, hx, _⟩ := h.hx
  obtain ⟨cg, hgg, r⟩ := h.hg
  obtain ⟨cy, fz, hy, r2⟩ := h.hy
  subst e e2
  refine ⟨⟨h.x, h.g, h.y, h.xg, h.xy, h.gy, by simpa [World.setCell] using Nat.le_trans h.b hg.size, ⟨p0, p1, p2, p3, v3, heap_set ((gb X h.x).trans hx), own_apart3 (w' := w) ho3 h.x⟩, ⟨cg, heap_other (Ne.symm h.xg) ((gb G h.g).trans hgg), r⟩, ⟨cy, fz, heap_other (Ne.symm h.xy) ((gb Y h.y).trans hy), r2⟩⟩, ?_⟩
  refine Keep3.set ⟨hg.os.trans k.os, hg.tape.trans k.tape, hg.output.trans k.output, Nat.le_trans k.size hg.size, fun j hj n1 n2 n3 => (gb j hj).trans (k.block j hj n1 n2 n3)⟩ X 6 v3 (.inl rfl)
set_option maxHeartbeats 4000000 in
set_option maxRecDepth 100000 in
theorem stepS_25n (X G Y B R q : Nat) (s : MSt) (vl cd : Int) (dn : Bool) (w0 d b c imm : Int) (a : Nat) (w : World) (h : XAt w X G Y B R q s vl cd dn) (p0 : 0 ≤ s.pc) (p1 : s.pc ≤ 600) (ha : a < R) (h30 : s.out.length = 30) :
    Calls Try.prog 38 #[.pointer (some ⟨X, 0, none⟩), .agg #[.int .i64 25, .int .i64 w0, .int .i64 d, .int .i64 a, .int .i64 b, .int .i64 c, .int .i64 imm]] w fun e w' => (∃ v, e = .returned v) ∧ XAt w' X G Y B R q { s with pc := s.pc + 1 } vl 7 true ∧ Keep3 X G Y B w w' := by
  have B1 : Below w.heap.size w (w.alloc (.cells #[.int .i64 25, .int .i64 w0, .int .i64 d, .int .i64 a, .int .i64 b, .int .i64 c, .int .i64 imm] 50)) := (Below.refl _ _).alloc (Nat.le_refl _) _
  have X1 := BoxI.new w 25 w0 d a b c imm 50
  have A1 := h.below B1
  have K1 : Keep3 X G Y B w (w.alloc (.cells #[.int .i64 25, .int .i64 w0, .int .i64 d, .int .i64 a, .int .i64 b, .int .i64 c, .int .i64 imm] 50)) := Keep3.of_below B1 h.b
  have hN : B ≤ w.heap.size := h.b
  have hXB := h.x
  have hGB := h.g
  have hYB := h.y
  have hXG := h.xg
  have hXY := h.xy
  have hGY := h.gy
  have ha2 : (a : Int) < R := by omega
  clear h B1
  go_enter Try.func38, Try.ntmps38
  go_wp2_with fail
  generalize hW0 : w.alloc (.cells #[.int .i64 25, .int .i64 w0, .int .i64 d, .int .i64 a, .int .i64 b, .int .i64 c, .int .i64 imm] 50) = w1 at A1 X1 K1 ⊢
  have hz1 : w.heap.size < w1.heap.size := by rw [← hW0]; simp
  clear hW0
  have x4 := A1.cell4
  have x7 := A1.cell7
  have f7 := A1.froz 7
  have ra := A1.reg a ha
  have b3 := X1.2.2.2.2.1
  go_quiet (fail)
  go_upto_region 4 with fail
  have K2 := (K1.trans (Keep3.of_below (below_drewN (Below.refl _ _) nq) A1.b)).set X 7 (.int .i64 (s.pc + 1)) (.inl rfl)
  have A2 := (A1.below (below_drewN (Below.refl _ _) nq)).setPc (s.pc + 1)
  have X2 := box_set (X1.below (below_drewN (Below.refl _ _) nq)) X 7 (.int .i64 (s.pc + 1)) (by omega)
  clear x4 x7 f7 ra b3 A1 X1 K1 hz1
  generalize (w1.drewN nq).setCell ⟨X, 7, none⟩ (.int .i64 (s.pc + 1)) = w2 at A2 X2 K2 ⊢
  obtain ⟨u, cc, y6, hO⟩ := A2.told
  have x6 : w2.cell? ⟨X, 6, none⟩ = some (.slice u 30 cc) := by rw [y6]; show some (Value.slice u s.out.length cc) = _; rw [h30]
  clear hO y6
  have b0 := X2.2.1
  have HA2 : Hid (XAt w2 X G Y B R q { s with pc := s.pc + 1 } vl cd dn) := A2
  have HX2 : Hid (BoxI w2 w.heap.size 25 w0 d a b c imm) := X2
  clear A2 X2
  clear h30
  go_wp2_with (first | (go_at_call 24; refine (inS _ _ _ _).mono ?_; rintro e w9 ⟨rfl, h9⟩; have h8 := h9.symm; clear h9; subst h8) | (go_at_call 37; refine (failS _ X G Y B R q _ _ _ _ _ HA2.out).mono ?_; rintro e w3 ⟨⟨v3, rfl⟩, A3, K3⟩))
  exact bodyPost_ret (results_none Try.results38 _ _ _) rfl ⟨⟨_, rfl⟩, A3, K2.trans K3⟩
set_option maxHeartbeats 4000000 in
set_option maxRecDepth 100000 in
theorem stepS_25y (X G Y B R q : Nat) (s : MSt) (vl cd : Int) (dn : Bool) (w0 d b c imm : Int) (a : Nat) (w : World) (h : XAt w X G Y B R q s vl cd dn) (p0 : 0 ≤ s.pc) (p1 : s.pc ≤ 600) (ha : a < R) (h30 : s.out.length < 30) :
    Calls Try.prog 38 #[.pointer (some ⟨X, 0, none⟩), .agg #[.int .i64 25, .int .i64 w0, .int .i64 d, .int .i64 a, .int .i64 b, .int .i64 c, .int .i64 imm]] w fun e w' => (∃ v, e = .returned v) ∧ XAt w' X G Y B R q { s with pc := s.pc + 1, out := s.out ++ [s.regs a] } vl cd dn ∧ Keep3 X G Y B w w' := by
  have B1 : Below w.heap.size w (w.alloc (.cells #[.int .i64 25, .int .i64 w0, .int .i64 d, .int .i64 a, .int .i64 b, .int .i64 c, .int .i64 imm] 50)) := (Below.refl _ _).alloc (Nat.le_refl _) _
  have X1 := BoxI.new w 25 w0 d a b c imm 50
  have A1 := h.below B1
  have K1 : Keep3 X G Y B w (w.alloc (.cells #[.int .i64 25, .int .i64 w0, .int .i64 d, .int .i64 a, .int .i64 b, .int .i64 c, .int .i64 imm] 50)) := Keep3.of_below B1 h.b
  have hN : B ≤ w.heap.size := h.b
  have hXB := h.x
  have hGB := h.g
  have hYB := h.y
  have hXG := h.xg
  have hXY := h.xy
  have hGY := h.gy
  have ha2 : (a : Int) < R := by omega
  clear h B1
  go_enter Try.func38, Try.ntmps38
  go_wp2_with fail
  generalize hW0 : w.alloc (.cells #[.int .i64 25, .int .i64 w0, .int .i64 d, .int .i64 a, .int .i64 b, .int .i64 c, .int .i64 imm] 50) = w1 at A1 X1 K1 ⊢
  have hz1 : w.heap.size < w1.heap.size := by rw [← hW0]; simp
  clear hW0
  have x4 := A1.cell4
  have x7 := A1.cell7
  have f7 := A1.froz 7
  have ra := A1.reg a ha
  have b3 := X1.2.2.2.2.1
  go_quiet (fail)
  go_upto_region 4 with fail
  have K2 := (K1.trans (Keep3.of_below (below_drewN (Below.refl _ _) nq) A1.b)).set X 7 (.int .i64 (s.pc + 1)) (.inl rfl)
  have A2 := (A1.below (below_drewN (Below.refl _ _) nq)).setPc (s.pc + 1)
  have X2 := box_set (X1.below (below_drewN (Below.refl _ _) nq)) X 7 (.int .i64 (s.pc + 1)) (by omega)
  clear x4 x7 f7 ra b3 A1 X1 K1 hz1
  generalize (w1.drewN nq).setCell ⟨X, 7, none⟩ (.int .i64 (s.pc + 1)) = w2 at A2 X2 K2 ⊢
  obtain ⟨i0, hi, hz0, hz1, hz2⟩ := info_parts infoI
  obtain ⟨u, cc, y6, gO⟩ := A2.told
  have x6 : w2.cell? ⟨X, 6, none⟩ = some (.slice u s.out.length cc) := y6
  have hO : w2.ownsRow B 2 1 (.slice u s.out.length cc) s.out.length (s.out.map (Value.int .i64)) := gO
  clear y6 gO
  have hl2 : ((s.out.length : Int) == 30) = false := by simp; omega
  have HO : Hid ((w2.alloc (.cells #[.int .i64 (s.regs a)] 2)).ownsRow B 2 1 (.slice u s.out.length cc) s.out.length (s.out.map (Value.int .i64))) := ownsRow_at hO fun g _ hg => Below.heap_alloc _ _ _ hg
  have HI : Hid (Try.prog.info? 2 = some i0) := hi
  have HZ0 : Hid (i0.zero = some (Value.int .i64 0)) := hz0
  have HZ1 : Hid (i0.size = 1) := hz1
  have HZ2 : Hid (i0.bytes = 8) := hz2
  have HL : Hid (s.out.length < 30) := h30
  have HX6 : Hid ((w2.alloc (.cells #[.int .i64 (s.regs a)] 2)).cell? ⟨X, 6, none⟩ = some (.slice u s.out.length cc)) := (cell_block (Below.heap_alloc _ _ _ (Nat.lt_of_lt_of_le A2.x A2.b))).trans x6
  have HB2 : Hid (XAt (w2.alloc (.cells #[.int .i64 (s.regs a)] 2)) X G Y B R q { s with pc := s.pc + 1 } vl cd dn) := A2.below ((Below.refl _ _).alloc (Nat.le_refl _) _)
  have HK2 : Hid (Keep3 X G Y B w (w2.alloc (.cells #[.int .i64 (s.regs a)] 2))) := K2.trans (Keep3.of_below ((Below.refl _ _).alloc (Nat.le_refl _) _) A2.b)
  clear hO hi hz0 hz1 hz2 h30
  have b0 := X2.2.1
  have HA2 : Hid (XAt w2 X G Y B R q { s with pc := s.pc + 1 } vl cd dn) := A2
  have HX2 : Hid (BoxI w2 w.heap.size 25 w0 d a b c imm) := X2
  clear A2 X2
  go_wp2_with (first | (go_at_call 24; refine (inS _ _ _ _).mono ?_; rintro e w9 ⟨rfl, h9⟩; have h8 := h9.symm; clear h9; subst h8) | (at_builtin; (have hl := HL.out; have hBw := HA2.out.b; refine wpList_append_own _ rfl _ _ 22 rfl B 2 i0 (.int .i64 0) 1 8 Try.underlying22 HI.out HZ0.out HZ1.out HZ2.out rfl (by decide) (.slice u s.out.length cc) s.out.length (s.out.map (Value.int .i64)) rfl (by exact HO.out) ⟨w2.heap.size, 0, none⟩ 1 1 [.int .i64 (s.regs a)] rfl (by simp) (by exact lit_one) (by simp [Value.oneCell']) (by unfold maxLen; omega) (by omega) (by simp; omega) ?_; intro v3 w3 ho3 hg3 _; have gX := grown_block HB2.out.b HO.out hg3 X HB2.out.x; have z2 : w3.cell? ⟨X, 6, none⟩ = some (.slice u s.out.length cc) := (cell_block gX).trans (HX6.out); have f2 : w3.frozen? ⟨X, 6, none⟩ = false := (froz_blockM gX).trans (HB2.out.froz 6); have T3 : Hid _ := XAt.tell HB2.out HK2.out HO.out hg3 (s.out ++ [s.regs a]) (by simp) (s.out.length + 1) (by simp) ho3; obtain ⟨u3, c3, rfl⟩ := ownsRow_slice ho3; clear gX ho3 hg3 hl hBw)))
  exact bodyPost_end (results_none Try.results38 _ _ _) rfl ⟨⟨_, rfl⟩, T3.out.1, T3.out.2⟩
end Go.Proofs.Ytofgfiakccjimaa
