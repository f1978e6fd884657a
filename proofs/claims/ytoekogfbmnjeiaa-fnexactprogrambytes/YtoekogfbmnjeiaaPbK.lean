/- The core of the law FnExactProgramBytes. -/
import Derived.Test.YtoekogfbmnjeiaaPbG
import Derived.Test.YtoekogfbmnjeiaaPgT
import Derived.Test.YtoekogfbmnjeiaaPgE
import Derived.Deep.RegionHeld2
namespace Go.Proofs.Ytoekogfbmnjeiaa
open Go.RowKit
set_option linter.unusedVariables false

theorem bel_drew {w w' : World} (h : Below w.drew.heap.size w.drew w') : Below w.heap.size w w' := ⟨h.os, h.tape, h.output, h.size, h.block⟩
theorem BoxP.alloc {w : World} {B : Nat} {p : ProgD} {u1 : Option Addr} {c1 : Nat} {u2 : Option Addr} {c2 : Nat} {u3 : Option Addr} {c3 : Nat} (h : BoxP w B p u1 c1 u2 c2 u3 c3) (o : Obj) : BoxP (w.alloc o) B p u1 c1 u2 c2 u3 c3 := h.below ((Below.refl _ _).alloc (Nat.le_refl _) o)
set_option maxHeartbeats 4000000 in
theorem fnExactProgramBytes_core (lo : Nat) (d : ProgD) (s1 : Option Addr) (c1 : Nat) (s2 : Option Addr) (c2 : Nat) (s3 : Option Addr) (c3 : Nat) (w : World) (k1 : IntsAt w lo s1 d.params) (k2 : IntsAt w lo s2 d.widths) (k3 : MinsAt w lo s3 d.code) :
    Calls Try.prog 3 #[.agg #[.int .i64 d.regs, .slice s1 d.params.length c1, .slice s2 d.widths.length c2, .slice s3 d.code.length c3]] w fun e w' => e = .returned (.bool true) ∧ Below w.heap.size w w' := by
  have X1 := BoxP.new w d s1 c1 s2 c2 s3 c3 25
  have B1 : Below w.heap.size w (w.alloc (.cells #[.int .i64 d.regs, .slice s1 d.params.length c1, .slice s2 d.widths.length c2, .slice s3 d.code.length c3] 25)) := (Below.refl _ w).alloc (Nat.le_refl _) _
  go_enter Try.func3, Try.ntmps3
  go_wp2_with fail
  refine (szProgram_any d s1 s2 s3 c1 c2 c3 _ _ (by omega) (by omega) k1.1 k2.1 k3.1).mono ?_
  rintro e w1 ⟨rfl, hb1⟩
  have Y1 := X1.below hb1
  have C1 := B1.trans (hb1.mono (by simp))
  clear X1 B1 hb1
  obtain ⟨y, y0, y1, y2, y3⟩ := Y1
  by_cases hz : szProg d 1048576 < 0
  · go_wp2_with fail
    go_ret
    exact ⟨rfl, C1⟩
  · have hs := szProg_small (by omega) (show 0 ≤ szProg d 1048576 by omega)
    have Y1 : BoxP w1 w.heap.size d s1 c1 s2 c2 s3 c3 := ⟨y, y0, y1, y2, y3⟩
    go_wp2_with fail
    refine (toProgram_any lo d s1 c1 s2 c2 s3 c3 _ hs (k1.keep (agree_of_below C1 lo)) (k2.keep (agree_of_below C1 lo)) (k3.keep (agree_of_below C1 lo))).mono ?_
    rintro e w2 ⟨v1, q1, v2, q2, v3, q3, rfl, n1, n2, n3, hb2⟩
    have C2 := C1.trans (hb2.mono C1.size)
    have Y2 := Y1.below hb2
    clear y y0 y1 y2 y3
    go_wp2_with fail
    refine (bytesS _ d v1 q1 v2 q2 v3 q3 _ n1 n2 n3).mono ?_
    rintro e w3 ⟨rfl, hb3⟩
    have C3 := C2.trans (hb3.mono C2.size)
    have Y3 := Y2.below hb3
    clear Y1 Y2 C1 C2 hb2 hb3 n1 n2 n3
    have YY := Y3
    obtain ⟨y, y0, y1, y2, y3⟩ := YY
    go_wp2_with fail
    refine (toProgram_any lo d s1 c1 s2 c2 s3 c3 _ hs (k1.keep (agree_of_below C3 lo)) (k2.keep (agree_of_below C3 lo)) (k3.keep (agree_of_below C3 lo))).mono ?_
    rintro e w4 ⟨x1, r1, x2, r2, x3, r3, rfl, m1, m2, m3, hb4⟩
    have C4 := C3.trans (hb4.mono C3.size)
    have Y4 := Y3.below hb4
    have C4' := C4.alloc C4.size (.cells #[.int .i64 d.regs, .slice x1 d.params.length r1, .slice x2 d.widths.length r2, .slice x3 d.code.length r3] 30)
    have Y4' := Y4.alloc (.cells #[.int .i64 d.regs, .slice x1 d.params.length r1, .slice x2 d.widths.length r2, .slice x3 d.code.length r3] 30)
    have X4' := BoxP.new w4 d x1 r1 x2 r2 x3 r3 30
    have m1' := m1.keep (agree_alloc w4 (.cells #[.int .i64 d.regs, .slice x1 d.params.length r1, .slice x2 d.widths.length r2, .slice x3 d.code.length r3] 30) _)
    have m2' := m2.keep (agree_alloc w4 (.cells #[.int .i64 d.regs, .slice x1 d.params.length r1, .slice x2 d.widths.length r2, .slice x3 d.code.length r3] 30) _)
    have m3' := m3.keep (agree_alloc w4 (.cells #[.int .i64 d.regs, .slice x1 d.params.length r1, .slice x2 d.widths.length r2, .slice x3 d.code.length r3] 30) _)
    clear y y0 y1 y2 y3 Y3 Y4 hb4 C3 C4 m1 m2 m3
    go_wp2_with fail
    refine (bytesI _ d x1 r1 x2 r2 x3 r3 _ m1' m2' m3').mono ?_
    rintro e w5 ⟨rfl, hb5⟩
    have C5 := C4'.trans (hb5.mono C4'.size)
    have Y5 := Y4'.below hb5
    have X5 := X4'.below hb5
    have n1 := m1'.keep (agree_of_below hb5 _)
    have n2 := m2'.keep (agree_of_below hb5 _)
    have n3 := m3'.keep (agree_of_below hb5 _)
    have K1 := k1.keep (agree_of_below C5 lo)
    have K2 := k2.keep (agree_of_below C5 lo)
    have K3 := k3.keep (agree_of_below C5 lo)
    obtain ⟨_, y0, y1, y2, y3⟩ := Y5.below (Below.refl _ _).drew
    obtain ⟨_, x0, x1', x2', x3'⟩ := X5.below (Below.refl _ _).drew
    clear Y4' X4' m1' m2' m3' hb5 C4'
    generalize progT d = T
    go_wp2_with fail
    go_region_held2 (fun w' => w'.cell? ⟨w.heap.size, 0, none⟩ = some (.int .i64 d.regs) ∧ w'.cell? ⟨w.heap.size, 1, none⟩ = some (.slice s1 d.params.length c1) ∧ w'.cell? ⟨w.heap.size, 2, none⟩ = some (.slice s2 d.widths.length c2) ∧ w'.cell? ⟨w.heap.size, 3, none⟩ = some (.slice s3 d.code.length c3) ∧ w'.cell? ⟨w4.heap.size, 0, none⟩ = some (.int .i64 d.regs) ∧ w'.cell? ⟨w4.heap.size, 1, none⟩ = some (.slice x1 d.params.length r1) ∧ w'.cell? ⟨w4.heap.size, 2, none⟩ = some (.slice x2 d.widths.length r2) ∧ w'.cell? ⟨w4.heap.size, 3, none⟩ = some (.slice x3 d.code.length r3)) (first | with_reducible exact ⟨y0, y1, y2, y3, x0, x1', x2', x3'⟩ | with_reducible exact ⟨p0, p1, p2, p3, r0', r1', r2', r3'⟩ | with_reducible exact ⟨g0, g1, g2, g3, h0, h1, h2, h3⟩) (first | (go_at_call 6; refine (toProgram_any lo d s1 c1 s2 c2 s3 c3 _ hs (by exact K1) (by exact K2) (by exact K3)).mono ?_; rintro e w7 ⟨t1, o1, t2, o2, t3, o3, rfl, l1, l2, l3, hb7⟩; have hb7 := bel_drew hb7; obtain ⟨_, p0, p1, p2, p3⟩ := Y5.below hb7; obtain ⟨_, r0', r1', r2', r3'⟩ := X5.below hb7) | (go_at_call 8; refine (eqProgram_any _ _ d x1 r1 x2 r2 x3 r3 t1 o1 t2 o2 t3 o3 _ (n1.keep (agree_of_below hb7 _)) (n2.keep (agree_of_below hb7 _)) (n3.keep (agree_of_below hb7 _)) l1 l2 l3).mono ?_; rintro e w8 ⟨rfl, hb8⟩; obtain ⟨_, g0, g1, g2, g3⟩ := (Y5.below hb7).below hb8; obtain ⟨_, h0, h1, h2, h3⟩ := (X5.below hb7).below hb8))
    all_goals
      have hb58 : Below w5.heap.size w5 w8 := hb7.trans (hb8.mono hb7.size)
      have C8 := C5.trans (hb58.mono C5.size)
      go_wp2_with fail
      go_ret
      exact ⟨rfl, C8⟩
end Go.Proofs.Ytoekogfbmnjeiaa
