/- A machine: one step of the model's. -/
import Derived.Test.YtofgfiakccjimaaMaS
namespace Go.Proofs.Ytofgfiakccjimaa
open Go.RowKit
set_option linter.unusedVariables false
set_option linter.unusedSimpArgs false

theorem box_set {w : World} {N : Nat} {op w0 d a b c imm : Int} (h : BoxI w N op w0 d a b c imm) (g o : Nat) (v : Value) (hg : g ≠ N) : BoxI (w.setCell ⟨g, o, none⟩ v) N op w0 d a b c imm :=
  have k := Below.heap_setCell w ⟨g, o, none⟩ v N (show N ≠ g by omega)
  ⟨by simpa [World.setCell] using h.1, (cell_block k).trans h.2.1, (cell_block k).trans h.2.2.1, (cell_block k).trans h.2.2.2.1, (cell_block k).trans h.2.2.2.2.1, (cell_block k).trans h.2.2.2.2.2.1, (cell_block k).trans h.2.2.2.2.2.2.1, (cell_block k).trans h.2.2.2.2.2.2.2⟩
set_option maxHeartbeats 4000000 in
set_option maxRecDepth 100000 in
theorem stepS_31 (X G Y B R q : Nat) (s : MSt) (vl cd : Int) (dn : Bool) (w0 d b c imm : Int) (a : Nat) (w : World) (h : XAt w X G Y B R q s vl cd dn) (p0 : 0 ≤ s.pc) (p1 : s.pc ≤ 600) (ha : a < R) :
    Calls Try.prog 38 #[.pointer (some ⟨X, 0, none⟩), .agg #[.int .i64 31, .int .i64 w0, .int .i64 d, .int .i64 a, .int .i64 b, .int .i64 c, .int .i64 imm]] w fun e w' => (∃ v, e = .returned v) ∧ XAt w' X G Y B R q { s with pc := imm } vl cd dn ∧ Keep3 X G Y B w w' := by
  have B1 : Below w.heap.size w (w.alloc (.cells #[.int .i64 31, .int .i64 w0, .int .i64 d, .int .i64 a, .int .i64 b, .int .i64 c, .int .i64 imm] 50)) := (Below.refl _ _).alloc (Nat.le_refl _) _
  have X1 := BoxI.new w 31 w0 d a b c imm 50
  have A1 := h.below B1
  have K1 : Keep3 X G Y B w (w.alloc (.cells #[.int .i64 31, .int .i64 w0, .int .i64 d, .int .i64 a, .int .i64 b, .int .i64 c, .int .i64 imm] 50)) := Keep3.of_below B1 h.b
  have hN : B ≤ w.heap.size := h.b
  have hXB := h.x
  have hGB := h.g
  have hYB := h.y
  have hXG := h.xg
  have hXY := h.xy
  have hGY := h.gy
  have ha2 : (a : Int) < R := by omega
  clear h B1
  go_enter Try.func38, Try.ntmps38
  go_wp2_with fail
  generalize hW0 : w.alloc (.cells #[.int .i64 31, .int .i64 w0, .int .i64 d, .int .i64 a, .int .i64 b, .int .i64 c, .int .i64 imm] 50) = w1 at A1 X1 K1 ⊢
  have hz1 : w.heap.size < w1.heap.size := by rw [← hW0]; simp
  clear hW0
  have x4 := A1.cell4
  have x7 := A1.cell7
  have f7 := A1.froz 7
  have ra := A1.reg a ha
  have b3 := X1.2.2.2.2.1
  go_quiet (fail)
  go_upto_region 4 with fail
  have K2 := (K1.trans (Keep3.of_below (below_drewN (Below.refl _ _) nq) A1.b)).set X 7 (.int .i64 (s.pc + 1)) (.inl rfl)
  have A2 := (A1.below (below_drewN (Below.refl _ _) nq)).setPc (s.pc + 1)
  have X2 := box_set (X1.below (below_drewN (Below.refl _ _) nq)) X 7 (.int .i64 (s.pc + 1)) (by omega)
  clear x4 x7 f7 ra b3 A1 X1 K1 hz1
  generalize (w1.drewN nq).setCell ⟨X, 7, none⟩ (.int .i64 (s.pc + 1)) = w2 at A2 X2 K2 ⊢
  have b0 := X2.2.1
  have b6 := X2.2.2.2.2.2.2.2
  have x7 := A2.cell7
  have f7 := A2.froz 7
  have HA2 : Hid (XAt w2 X G Y B R q { s with pc := s.pc + 1 } vl cd dn) := A2
  have HX2 : Hid (BoxI w2 w.heap.size 31 w0 d a b c imm) := X2
  clear A2 X2
  go_wp2_with (go_at_call 24; refine (inS _ _ _ _).mono ?_; rintro e w9 ⟨rfl, h9⟩; have h8 := h9.symm; clear h9; subst h8)
  exact bodyPost_end (results_none Try.results38 _ _ _) rfl ⟨⟨_, rfl⟩, HA2.out.setPc imm, K2.set X 7 _ (.inl rfl)⟩
set_option maxHeartbeats 4000000 in
set_option maxRecDepth 100000 in
theorem stepS_32t (X G Y B R q : Nat) (s : MSt) (vl cd : Int) (dn : Bool) (w0 d b c imm : Int) (a : Nat) (w : World) (h : XAt w X G Y B R q s vl cd dn) (p0 : 0 ≤ s.pc) (p1 : s.pc ≤ 600) (ha : a < R) (x0 : 0 ≤ s.regs a) (ho : s.regs a % 2 = 1) :
    Calls Try.prog 38 #[.pointer (some ⟨X, 0, none⟩), .agg #[.int .i64 32, .int .i64 w0, .int .i64 d, .int .i64 a, .int .i64 b, .int .i64 c, .int .i64 imm]] w fun e w' => (∃ v, e = .returned v) ∧ XAt w' X G Y B R q { s with pc := imm } vl cd dn ∧ Keep3 X G Y B w w' := by
  have B1 : Below w.heap.size w (w.alloc (.cells #[.int .i64 32, .int .i64 w0, .int .i64 d, .int .i64 a, .int .i64 b, .int .i64 c, .int .i64 imm] 50)) := (Below.refl _ _).alloc (Nat.le_refl _) _
  have X1 := BoxI.new w 32 w0 d a b c imm 50
  have A1 := h.below B1
  have K1 : Keep3 X G Y B w (w.alloc (.cells #[.int .i64 32, .int .i64 w0, .int .i64 d, .int .i64 a, .int .i64 b, .int .i64 c, .int .i64 imm] 50)) := Keep3.of_below B1 h.b
  have hN : B ≤ w.heap.size := h.b
  have hXB := h.x
  have hGB := h.g
  have hYB := h.y
  have hXG := h.xg
  have hXY := h.xy
  have hGY := h.gy
  have ha2 : (a : Int) < R := by omega
  clear h B1
  go_enter Try.func38, Try.ntmps38
  go_wp2_with fail
  generalize hW0 : w.alloc (.cells #[.int .i64 32, .int .i64 w0, .int .i64 d, .int .i64 a, .int .i64 b, .int .i64 c, .int .i64 imm] 50) = w1 at A1 X1 K1 ⊢
  have hz1 : w.heap.size < w1.heap.size := by rw [← hW0]; simp
  clear hW0
  have x4 := A1.cell4
  have x7 := A1.cell7
  have f7 := A1.froz 7
  have ra := A1.reg a ha
  have b3 := X1.2.2.2.2.1
  go_quiet (fail)
  go_upto_region 4 with fail
  have K2 := (K1.trans (Keep3.of_below (below_drewN (Below.refl _ _) nq) A1.b)).set X 7 (.int .i64 (s.pc + 1)) (.inl rfl)
  have A2 := (A1.below (below_drewN (Below.refl _ _) nq)).setPc (s.pc + 1)
  have X2 := box_set (X1.below (below_drewN (Below.refl _ _) nq)) X 7 (.int .i64 (s.pc + 1)) (by omega)
  clear x4 x7 f7 ra b3 A1 X1 K1 hz1
  generalize (w1.drewN nq).setCell ⟨X, 7, none⟩ (.int .i64 (s.pc + 1)) = w2 at A2 X2 K2 ⊢
  have e2 : (s.regs a).tmod 2 = 1 := (odd_of x0).trans ho
  have b0 := X2.2.1
  have b6 := X2.2.2.2.2.2.2.2
  have x7 := A2.cell7
  have f7 := A2.froz 7
  have HA2 : Hid (XAt w2 X G Y B R q { s with pc := s.pc + 1 } vl cd dn) := A2
  have HX2 : Hid (BoxI w2 w.heap.size 32 w0 d a b c imm) := X2
  clear A2 X2
  go_wp2_with (go_at_call 24; refine (inS _ _ _ _).mono ?_; rintro e w9 ⟨rfl, h9⟩; have h8 := h9.symm; clear h9; subst h8)
  exact bodyPost_end (results_none Try.results38 _ _ _) rfl ⟨⟨_, rfl⟩, HA2.out.setPc imm, K2.set X 7 _ (.inl rfl)⟩
set_option maxHeartbeats 4000000 in
set_option maxRecDepth 100000 in
theorem stepS_32f (X G Y B R q : Nat) (s : MSt) (vl cd : Int) (dn : Bool) (w0 d b c imm : Int) (a : Nat) (w : World) (h : XAt w X G Y B R q s vl cd dn) (p0 : 0 ≤ s.pc) (p1 : s.pc ≤ 600) (ha : a < R) (x0 : 0 ≤ s.regs a) (ho : ¬ s.regs a % 2 = 1) :
    Calls Try.prog 38 #[.pointer (some ⟨X, 0, none⟩), .agg #[.int .i64 32, .int .i64 w0, .int .i64 d, .int .i64 a, .int .i64 b, .int .i64 c, .int .i64 imm]] w fun e w' => (∃ v, e = .returned v) ∧ XAt w' X G Y B R q { s with pc := s.pc + 1 } vl cd dn ∧ Keep3 X G Y B w w' := by
  have B1 : Below w.heap.size w (w.alloc (.cells #[.int .i64 32, .int .i64 w0, .int .i64 d, .int .i64 a, .int .i64 b, .int .i64 c, .int .i64 imm] 50)) := (Below.refl _ _).alloc (Nat.le_refl _) _
  have X1 := BoxI.new w 32 w0 d a b c imm 50
  have A1 := h.below B1
  have K1 : Keep3 X G Y B w (w.alloc (.cells #[.int .i64 32, .int .i64 w0, .int .i64 d, .int .i64 a, .int .i64 b, .int .i64 c, .int .i64 imm] 50)) := Keep3.of_below B1 h.b
  have hN : B ≤ w.heap.size := h.b
  have hXB := h.x
  have hGB := h.g
  have hYB := h.y
  have hXG := h.xg
  have hXY := h.xy
  have hGY := h.gy
  have ha2 : (a : Int) < R := by omega
  clear h B1
  go_enter Try.func38, Try.ntmps38
  go_wp2_with fail
  generalize hW0 : w.alloc (.cells #[.int .i64 32, .int .i64 w0, .int .i64 d, .int .i64 a, .int .i64 b, .int .i64 c, .int .i64 imm] 50) = w1 at A1 X1 K1 ⊢
  have hz1 : w.heap.size < w1.heap.size := by rw [← hW0]; simp
  clear hW0
  have x4 := A1.cell4
  have x7 := A1.cell7
  have f7 := A1.froz 7
  have ra := A1.reg a ha
  have b3 := X1.2.2.2.2.1
  go_quiet (fail)
  go_upto_region 4 with fail
  have K2 := (K1.trans (Keep3.of_below (below_drewN (Below.refl _ _) nq) A1.b)).set X 7 (.int .i64 (s.pc + 1)) (.inl rfl)
  have A2 := (A1.below (below_drewN (Below.refl _ _) nq)).setPc (s.pc + 1)
  have X2 := box_set (X1.below (below_drewN (Below.refl _ _) nq)) X 7 (.int .i64 (s.pc + 1)) (by omega)
  clear x4 x7 f7 ra b3 A1 X1 K1 hz1
  generalize (w1.drewN nq).setCell ⟨X, 7, none⟩ (.int .i64 (s.pc + 1)) = w2 at A2 X2 K2 ⊢
  have e2 : ¬ (s.regs a).tmod 2 = 1 := by rw [odd_of x0]; exact ho
  have b0 := X2.2.1
  have b6 := X2.2.2.2.2.2.2.2
  have x7 := A2.cell7
  have f7 := A2.froz 7
  have HA2 : Hid (XAt w2 X G Y B R q { s with pc := s.pc + 1 } vl cd dn) := A2
  have HX2 : Hid (BoxI w2 w.heap.size 32 w0 d a b c imm) := X2
  clear A2 X2
  go_wp2_with (go_at_call 24; refine (inS _ _ _ _).mono ?_; rintro e w9 ⟨rfl, h9⟩; have h8 := h9.symm; clear h9; subst h8)
  exact bodyPost_end (results_none Try.results38 _ _ _) rfl ⟨⟨_, rfl⟩, HA2.out, K2⟩
set_option maxHeartbeats 4000000 in
set_option maxRecDepth 100000 in
theorem stepS_33 (X G Y B R q : Nat) (s : MSt) (vl cd : Int) (dn : Bool) (w0 d b c imm : Int) (a : Nat) (w : World) (h : XAt w X G Y B R q s vl cd dn) (p0 : 0 ≤ s.pc) (p1 : s.pc ≤ 600) (ha : a < R) :
    Calls Try.prog 38 #[.pointer (some ⟨X, 0, none⟩), .agg #[.int .i64 33, .int .i64 w0, .int .i64 d, .int .i64 a, .int .i64 b, .int .i64 c, .int .i64 imm]] w fun e w' => (∃ v, e = .returned v) ∧ XAt w' X G Y B R q { s with pc := s.pc + 1 } (maskZ w0 (s.regs a)) cd true ∧ Keep3 X G Y B w w' := by
  have B1 : Below w.heap.size w (w.alloc (.cells #[.int .i64 33, .int .i64 w0, .int .i64 d, .int .i64 a, .int .i64 b, .int .i64 c, .int .i64 imm] 50)) := (Below.refl _ _).alloc (Nat.le_refl _) _
  have X1 := BoxI.new w 33 w0 d a b c imm 50
  have A1 := h.below B1
  have K1 : Keep3 X G Y B w (w.alloc (.cells #[.int .i64 33, .int .i64 w0, .int .i64 d, .int .i64 a, .int .i64 b, .int .i64 c, .int .i64 imm] 50)) := Keep3.of_below B1 h.b
  have hN : B ≤ w.heap.size := h.b
  have hXB := h.x
  have hGB := h.g
  have hYB := h.y
  have hXG := h.xg
  have hXY := h.xy
  have hGY := h.gy
  have ha2 : (a : Int) < R := by omega
  clear h B1
  go_enter Try.func38, Try.ntmps38
  go_wp2_with fail
  generalize hW0 : w.alloc (.cells #[.int .i64 33, .int .i64 w0, .int .i64 d, .int .i64 a, .int .i64 b, .int .i64 c, .int .i64 imm] 50) = w1 at A1 X1 K1 ⊢
  have hz1 : w.heap.size < w1.heap.size := by rw [← hW0]; simp
  clear hW0
  have x4 := A1.cell4
  have x7 := A1.cell7
  have f7 := A1.froz 7
  have ra := A1.reg a ha
  have b3 := X1.2.2.2.2.1
  go_quiet (fail)
  go_upto_region 4 with fail
  have K2 := (K1.trans (Keep3.of_below (below_drewN (Below.refl _ _) nq) A1.b)).set X 7 (.int .i64 (s.pc + 1)) (.inl rfl)
  have A2 := (A1.below (below_drewN (Below.refl _ _) nq)).setPc (s.pc + 1)
  have X2 := box_set (X1.below (below_drewN (Below.refl _ _) nq)) X 7 (.int .i64 (s.pc + 1)) (by omega)
  clear x4 x7 f7 ra b3 A1 X1 K1 hz1
  generalize (w1.drewN nq).setCell ⟨X, 7, none⟩ (.int .i64 (s.pc + 1)) = w2 at A2 X2 K2 ⊢
  have b0 := X2.2.1
  have b1 := X2.2.2.1
  have x8 := A2.cell8
  have f8 := A2.froz 8
  have x10 := A2.cell10
  have f10 := A2.froz 10
  have HA2 : Hid (XAt w2 X G Y B R q { s with pc := s.pc + 1 } vl cd dn) := A2
  have HX2 : Hid (BoxI w2 w.heap.size 33 w0 d a b c imm) := X2
  clear A2 X2
  go_wp2_with (first | (go_at_call 24; refine (inS _ _ _ _).mono ?_; rintro e w9 ⟨rfl, h9⟩; have h8 := h9.symm; clear h9; subst h8) | (go_at_call 63; refine (maskS _ _ _).mono ?_; rintro e w9 ⟨rfl, h9⟩; have h8 := h9.symm; clear h9; subst h8))
  exact bodyPost_end (results_none Try.results38 _ _ _) rfl ⟨⟨_, rfl⟩, (HA2.out.setVal _).setDone true, (K2.set X 8 _ (.inl rfl)).set X 10 _ (.inl rfl)⟩
set_option maxHeartbeats 4000000 in
set_option maxRecDepth 100000 in
theorem stepS_34 (X G Y B R q : Nat) (s : MSt) (vl cd : Int) (dn : Bool) (w0 d b c imm : Int) (a : Nat) (w : World) (h : XAt w X G Y B R q s vl cd dn) (p0 : 0 ≤ s.pc) (p1 : s.pc ≤ 600) (ha : a < R) :
    Calls Try.prog 38 #[.pointer (some ⟨X, 0, none⟩), .agg #[.int .i64 34, .int .i64 w0, .int .i64 d, .int .i64 a, .int .i64 b, .int .i64 c, .int .i64 imm]] w fun e w' => (∃ v, e = .returned v) ∧ XAt w' X G Y B R q { s with pc := s.pc + 1 } vl 3 true ∧ Keep3 X G Y B w w' := by
  have B1 : Below w.heap.size w (w.alloc (.cells #[.int .i64 34, .int .i64 w0, .int .i64 d, .int .i64 a, .int .i64 b, .int .i64 c, .int .i64 imm] 50)) := (Below.refl _ _).alloc (Nat.le_refl _) _
  have X1 := BoxI.new w 34 w0 d a b c imm 50
  have A1 := h.below B1
  have K1 : Keep3 X G Y B w (w.alloc (.cells #[.int .i64 34, .int .i64 w0, .int .i64 d, .int .i64 a, .int .i64 b, .int .i64 c, .int .i64 imm] 50)) := Keep3.of_below B1 h.b
  have hN : B ≤ w.heap.size := h.b
  have hXB := h.x
  have hGB := h.g
  have hYB := h.y
  have hXG := h.xg
  have hXY := h.xy
  have hGY := h.gy
  have ha2 : (a : Int) < R := by omega
  clear h B1
  go_enter Try.func38, Try.ntmps38
  go_wp2_with fail
  generalize hW0 : w.alloc (.cells #[.int .i64 34, .int .i64 w0, .int .i64 d, .int .i64 a, .int .i64 b, .int .i64 c, .int .i64 imm] 50) = w1 at A1 X1 K1 ⊢
  have hz1 : w.heap.size < w1.heap.size := by rw [← hW0]; simp
  clear hW0
  have x4 := A1.cell4
  have x7 := A1.cell7
  have f7 := A1.froz 7
  have ra := A1.reg a ha
  have b3 := X1.2.2.2.2.1
  go_quiet (fail)
  go_upto_region 4 with fail
  have K2 := (K1.trans (Keep3.of_below (below_drewN (Below.refl _ _) nq) A1.b)).set X 7 (.int .i64 (s.pc + 1)) (.inl rfl)
  have A2 := (A1.below (below_drewN (Below.refl _ _) nq)).setPc (s.pc + 1)
  have X2 := box_set (X1.below (below_drewN (Below.refl _ _) nq)) X 7 (.int .i64 (s.pc + 1)) (by omega)
  clear x4 x7 f7 ra b3 A1 X1 K1 hz1
  generalize (w1.drewN nq).setCell ⟨X, 7, none⟩ (.int .i64 (s.pc + 1)) = w2 at A2 X2 K2 ⊢
  have b0 := X2.2.1
  have HA2 : Hid (XAt w2 X G Y B R q { s with pc := s.pc + 1 } vl cd dn) := A2
  have HX2 : Hid (BoxI w2 w.heap.size 34 w0 d a b c imm) := X2
  clear A2 X2
  go_wp2_with (first | (go_at_call 24; refine (inS _ _ _ _).mono ?_; rintro e w9 ⟨rfl, h9⟩; have h8 := h9.symm; clear h9; subst h8) | (go_at_call 37; refine (failS _ X G Y B R q _ _ _ _ _ HA2.out).mono ?_; rintro e w3 ⟨⟨v3, rfl⟩, A3, K3⟩))
  exact bodyPost_end (results_none Try.results38 _ _ _) rfl ⟨⟨_, rfl⟩, A3, K2.trans K3⟩
set_option maxHeartbeats 4000000 in
set_option maxRecDepth 100000 in
theorem stepS_21 (X G Y B R q : Nat) (s : MSt) (vl cd : Int) (dn : Bool) (w0 b c imm : Int) (a d : Nat) (w : World) (h : XAt w X G Y B R q s vl cd dn) (p0 : 0 ≤ s.pc) (p1 : s.pc ≤ 600) (ha : a < R) (hd : d < R) :
    Calls Try.prog 38 #[.pointer (some ⟨X, 0, none⟩), .agg #[.int .i64 21, .int .i64 w0, .int .i64 d, .int .i64 a, .int .i64 b, .int .i64 c, .int .i64 imm]] w fun e w' => (∃ v, e = .returned v) ∧ XAt w' X G Y B R q { s with pc := s.pc + 1, regs := upF s.regs d imm } vl cd dn ∧ Keep3 X G Y B w w' := by
  have B1 : Below w.heap.size w (w.alloc (.cells #[.int .i64 21, .int .i64 w0, .int .i64 d, .int .i64 a, .int .i64 b, .int .i64 c, .int .i64 imm] 50)) := (Below.refl _ _).alloc (Nat.le_refl _) _
  have X1 := BoxI.new w 21 w0 d a b c imm 50
  have A1 := h.below B1
  have K1 : Keep3 X G Y B w (w.alloc (.cells #[.int .i64 21, .int .i64 w0, .int .i64 d, .int .i64 a, .int .i64 b, .int .i64 c, .int .i64 imm] 50)) := Keep3.of_below B1 h.b
  have hN : B ≤ w.heap.size := h.b
  have hXB := h.x
  have hGB := h.g
  have hYB := h.y
  have hXG := h.xg
  have hXY := h.xy
  have hGY := h.gy
  have ha2 : (a : Int) < R := by omega
  have hd2 : (d : Int) < R := by omega
  clear h B1
  go_enter Try.func38, Try.ntmps38
  go_wp2_with fail
  generalize hW0 : w.alloc (.cells #[.int .i64 21, .int .i64 w0, .int .i64 d, .int .i64 a, .int .i64 b, .int .i64 c, .int .i64 imm] 50) = w1 at A1 X1 K1 ⊢
  have hz1 : w.heap.size < w1.heap.size := by rw [← hW0]; simp
  clear hW0
  have x4 := A1.cell4
  have x7 := A1.cell7
  have f7 := A1.froz 7
  have ra := A1.reg a ha
  have b3 := X1.2.2.2.2.1
  go_quiet (fail)
  go_upto_region 4 with fail
  have K2 := (K1.trans (Keep3.of_below (below_drewN (Below.refl _ _) nq) A1.b)).set X 7 (.int .i64 (s.pc + 1)) (.inl rfl)
  have A2 := (A1.below (below_drewN (Below.refl _ _) nq)).setPc (s.pc + 1)
  have X2 := box_set (X1.below (below_drewN (Below.refl _ _) nq)) X 7 (.int .i64 (s.pc + 1)) (by omega)
  clear x4 x7 f7 ra b3 A1 X1 K1 hz1
  generalize (w1.drewN nq).setCell ⟨X, 7, none⟩ (.int .i64 (s.pc + 1)) = w2 at A2 X2 K2 ⊢
  have b0 := X2.2.1
  have b2 := X2.2.2.2.1
  have b6 := X2.2.2.2.2.2.2.2
  have x4 := A2.cell4
  have rd := A2.reg d hd
  have fd := A2.frozG d
  have HA2 : Hid (XAt w2 X G Y B R q { s with pc := s.pc + 1 } vl cd dn) := A2
  have HX2 : Hid (BoxI w2 w.heap.size 21 w0 d a b c imm) := X2
  clear A2 X2
  go_wp2_with (go_at_call 24; refine (inS _ _ _ _).mono ?_; rintro e w9 ⟨rfl, h9⟩; have h8 := h9.symm; clear h9; subst h8)
  go_region
  go_wp2_with fail
  exact bodyPost_end (results_none Try.results38 _ _ _) rfl ⟨⟨_, rfl⟩, (HA2.out.below (drew_below (Below.refl _ _))).setReg d imm hd, (K2.trans (Keep3.of_below (drew_below (Below.refl _ _)) HA2.out.b)).set G d _ (.inr (.inl rfl))⟩
end Go.Proofs.Ytofgfiakccjimaa
