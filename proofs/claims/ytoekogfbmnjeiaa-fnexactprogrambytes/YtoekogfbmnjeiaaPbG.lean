/- Programs as bytes: the program's ProgramBytes. -/
import Derived.Test.YtoekogfbmnjeiaaPbF
namespace Go.Proofs.Ytoekogfbmnjeiaa
open Go.RowKit
set_option linter.unusedVariables false

theorem numbersMk (p : ProgD) (s1 : Option Addr) (c1 : Nat) (s2 : Option Addr) (c2 : Nat) (s3 : Option Addr) (c3 : Nat) (w : World) :
    Calls Try.prog 18 #[.agg #[.int .i64 p.regs, .slice s1 p.params.length c1, .slice s2 p.widths.length c2, .slice s3 p.code.length c3]] w fun e w' => e = .returned (.func (.func 31) #[] #[.pointer (some ⟨w.heap.size, 0, none⟩)]) ∧ w' = w.alloc (.cells #[.int .i64 p.regs, .slice s1 p.params.length c1, .slice s2 p.widths.length c2, .slice s3 p.code.length c3] 30) := by
  go_enter Try.func18, Try.ntmps18
  go_wp2_with fail
  go_ret
  exact ⟨rfl, rfl⟩
set_option maxHeartbeats 2000000 in
theorem bytesI (lo : Nat) (p : ProgD) (s1 : Option Addr) (c1 : Nat) (s2 : Option Addr) (c2 : Nat) (s3 : Option Addr) (c3 : Nat) (w : World) (k1 : IntsAt w lo s1 p.params) (k2 : IntsAt w lo s2 p.widths) (k3 : MinsAt w lo s3 p.code) :
    Calls Try.prog 7 #[.agg #[.int .i64 p.regs, .slice s1 p.params.length c1, .slice s2 p.widths.length c2, .slice s3 p.code.length c3]] w fun e w' => e = .returned (.string (progT p)) ∧ Below w.heap.size w w' := by
  have X0 := BoxP.new w p s1 c1 s2 c2 s3 c3 30
  have hB0 : Below w.heap.size w (w.alloc (.cells #[.int .i64 p.regs, .slice s1 p.params.length c1, .slice s2 p.widths.length c2, .slice s3 p.code.length c3] 30)) := (Below.refl _ _).alloc (Nat.le_refl _) _
  go_enter Try.func7, Try.ntmps7
  go_wp2_with fail
  generalize (w.alloc (.cells #[.int .i64 p.regs, .slice s1 p.params.length c1, .slice s2 p.widths.length c2, .slice s3 p.code.length c3] 30)) = W at X0 hB0 ⊢
  refine (progI lo p s1 c1 s2 c2 s3 c3 W (k1.keep (agree_of_below hB0 lo)) (k2.keep (agree_of_below hB0 lo)) (k3.keep (agree_of_below hB0 lo))).mono ?_
  rintro e w1 ⟨rfl, b1⟩
  have X1 := X0.below b1
  have hB1 := hB0.trans (b1.mono hB0.size)
  clear X0 hB0 b1
  obtain ⟨hz1, y0, y1, y2, y3⟩ := X1
  cases hok : progB p with
  | false =>
    have E : Hid (progT p = ⟨#[]⟩) := by show _ = _; unfold progT; rw [hok]; rfl
    go_wp2_with fail
    go_ret
    exact ⟨by rw [E.out]; rfl, hB1⟩
  | true =>
    have E : Hid (progT p = vb reg1 (progN p)) := by show _ = _; unfold progT; rw [if_pos hok]
    obtain ⟨hl1, hl2, hl3⟩ := progB_small hok
    clear hok
    go_wp2_with fail
    refine (numbersMk p s1 c1 s2 c2 s3 c3 w1).mono ?_
    rintro e w2 ⟨rfl, rfl⟩
    have X2 := BoxP.new w1 p s1 c1 s2 c2 s3 c3 30
    have hB2 := hB1.alloc hB1.size (.cells #[.int .i64 p.regs, .slice s1 p.params.length c1, .slice s2 p.widths.length c2, .slice s3 p.code.length c3] 30)
    have P2 := headedI lo w1.heap.size p s1 c1 s2 c2 s3 c3 _ X2 (k1.keep (agree_of_below hB2 lo)) (k2.keep (agree_of_below hB2 lo)) (k3.keep (agree_of_below hB2 lo)) hl1 hl2 hl3
    rw [← E.out] at P2
    generalize hY : progT p = Y at P2
    have HY : Hid (progT p = Y) := hY
    clear hY E
    go_wp2_with fail
    refine P2.mono ?_
    rintro e w3 ⟨rfl, b3⟩
    have hB3 := hB2.trans (b3.mono hB2.size)
    go_wp2_with fail
    go_ret
    exact ⟨by rw [HY.out]; rfl, hB3⟩
end Go.Proofs.Ytoekogfbmnjeiaa
