/- Forms: a function that is none, and modules; the model's side. -/
import Derived.Test.YtkepaamflhpodaaDoorFmJ
import Derived.Test.YtkepaamflhpodaaDoorSzM
import Derived.Deep.RegionHeld2
namespace Go.Proofs.YtkepaamflhpodaaDoor
open Go.RowKit
set_option linter.unusedVariables false

set_option maxHeartbeats 2000000 in
set_option maxRecDepth 100000 in
theorem funcShS_p (lo : Nat) (d : FuncD) (u0 : Option Addr) (c0 : Nat) (u2 : Option Addr) (c2 : Nat) (funcs : Int) (w : World) (hs : SmFunc d) (k0 : IntsAt w lo u0 d.params) (k2 : BlocksAt w lo u2 d.blocks) (hp : ¬ d.params.length ≤ 4) : Calls Tryd.prog 25 #[.agg #[.slice u0 d.params.length c0, .int .i64 d.ret, .slice u2 d.blocks.length c2], .int .i64 funcs] w fun e w' => e = .returned (.bool (funcB funcs d)) ∧ Below w.heap.size w w' := by
  have HR : Hid (false = funcB funcs d) := by show _ = _; simp [funcB, hp]
  have F0 := FBox.start (d := d) (u0 := u0) (u2 := u2) (c0 := c0) (c2 := c2) (w := w) (T := 39)
  have hbl := hs.2.1
  have i1 : (4 : Int) < d.params.length := by omega
  go_enter Tryd.func25, Tryd.ntmps25
  go_wp2_with fail
  refine (countS_any lo d u0 c0 u2 c2 _ hs (k2.keep (agree_of_below F0.below lo))).mono ?_
  rintro e w1 ⟨rfl, hb1'⟩
  have F1 := F0.keep hb1'
  have b0 := F1.a0
  have b1 := F1.a1
  have b2 := F1.a2
  clear hb1' F0
  go_wp2_with fail
  go_ret
  exact ⟨ret_bool HR.out, F1.below⟩
set_option maxHeartbeats 2000000 in
set_option maxRecDepth 100000 in
theorem funcShS_r (lo : Nat) (d : FuncD) (u0 : Option Addr) (c0 : Nat) (u2 : Option Addr) (c2 : Nat) (funcs : Int) (w : World) (hs : SmFunc d) (k0 : IntsAt w lo u0 d.params) (k2 : BlocksAt w lo u2 d.blocks) (hp : d.params.length ≤ 4) (hr : widthB d.ret = false) : Calls Tryd.prog 25 #[.agg #[.slice u0 d.params.length c0, .int .i64 d.ret, .slice u2 d.blocks.length c2], .int .i64 funcs] w fun e w' => e = .returned (.bool (funcB funcs d)) ∧ Below w.heap.size w w' := by
  have HR : Hid (false = funcB funcs d) := by show _ = _; simp [funcB, hr]
  have F0 := FBox.start (d := d) (u0 := u0) (u2 := u2) (c0 := c0) (c2 := c2) (w := w) (T := 39)
  have hbl := hs.2.1
  have i1 : ¬ (4 : Int) < d.params.length := by omega
  go_enter Tryd.func25, Tryd.ntmps25
  go_wp2_with fail
  refine (countS_any lo d u0 c0 u2 c2 _ hs (k2.keep (agree_of_below F0.below lo))).mono ?_
  rintro e w1 ⟨rfl, hb1'⟩
  have F1 := F0.keep hb1'
  have b0 := F1.a0
  have b1 := F1.a1
  have b2 := F1.a2
  clear hb1' F0
  go_wp2_with (first | (go_at_call 47; refine (widthS _ _).mono ?_; rintro e w' ⟨rfl, rfl⟩))
  go_ret
  exact ⟨ret_bool HR.out, F1.below⟩
set_option maxHeartbeats 2000000 in
set_option maxRecDepth 100000 in
theorem funcShS_b (lo : Nat) (d : FuncD) (u0 : Option Addr) (c0 : Nat) (u2 : Option Addr) (c2 : Nat) (funcs : Int) (w : World) (hs : SmFunc d) (k0 : IntsAt w lo u0 d.params) (k2 : BlocksAt w lo u2 d.blocks) (hp : d.params.length ≤ 4) (hr : widthB d.ret = true) (hb : ¬ (1 ≤ d.blocks.length ∧ d.blocks.length ≤ 10)) : Calls Tryd.prog 25 #[.agg #[.slice u0 d.params.length c0, .int .i64 d.ret, .slice u2 d.blocks.length c2], .int .i64 funcs] w fun e w' => e = .returned (.bool (funcB funcs d)) ∧ Below w.heap.size w w' := by
  have HR : Hid (false = funcB funcs d) := by show _ = _; (by_cases q : 1 ≤ d.blocks.length <;> by_cases q2 : d.blocks.length ≤ 10 <;> simp [funcB, q, q2] <;> omega)
  have F0 := FBox.start (d := d) (u0 := u0) (u2 := u2) (c0 := c0) (c2 := c2) (w := w) (T := 39)
  have hbl := hs.2.1
  have i1 : ¬ (4 : Int) < d.params.length := by omega
  have i2 : (decide (1 ≤ (d.blocks.length : Int)) && decide ((d.blocks.length : Int) ≤ 10)) = false := by simp; omega
  go_enter Tryd.func25, Tryd.ntmps25
  go_wp2_with fail
  refine (countS_any lo d u0 c0 u2 c2 _ hs (k2.keep (agree_of_below F0.below lo))).mono ?_
  rintro e w1 ⟨rfl, hb1'⟩
  have F1 := F0.keep hb1'
  have b0 := F1.a0
  have b1 := F1.a1
  have b2 := F1.a2
  clear hb1' F0
  go_wp2_with (first | (go_at_call 47; refine (widthS _ _).mono ?_; rintro e w' ⟨rfl, rfl⟩) | (go_at_call 48; refine (inS _ _ _ _).mono ?_; rw [i2]; rintro e w' ⟨rfl, rfl⟩))
  go_ret
  exact ⟨ret_bool HR.out, F1.below⟩
set_option maxHeartbeats 2000000 in
set_option maxRecDepth 100000 in
theorem funcShS_n (lo : Nat) (d : FuncD) (u0 : Option Addr) (c0 : Nat) (u2 : Option Addr) (c2 : Nat) (funcs : Int) (w : World) (hs : SmFunc d) (k0 : IntsAt w lo u0 d.params) (k2 : BlocksAt w lo u2 d.blocks) (hp : d.params.length ≤ 4) (hr : widthB d.ret = true) (hb : (1 ≤ d.blocks.length ∧ d.blocks.length ≤ 10)) (hn : ¬ cntF d ≤ 60) : Calls Tryd.prog 25 #[.agg #[.slice u0 d.params.length c0, .int .i64 d.ret, .slice u2 d.blocks.length c2], .int .i64 funcs] w fun e w' => e = .returned (.bool (funcB funcs d)) ∧ Below w.heap.size w w' := by
  have HR : Hid (false = funcB funcs d) := by show _ = _; simp [funcB, hn]
  have F0 := FBox.start (d := d) (u0 := u0) (u2 := u2) (c0 := c0) (c2 := c2) (w := w) (T := 39)
  have hbl := hs.2.1
  have i1 : ¬ (4 : Int) < d.params.length := by omega
  have i2 : (decide (1 ≤ (d.blocks.length : Int)) && decide ((d.blocks.length : Int) ≤ 10)) = true := by simp; omega
  have i4 : (60 : Int) < cntF d := by omega
  go_enter Tryd.func25, Tryd.ntmps25
  go_wp2_with fail
  refine (countS_any lo d u0 c0 u2 c2 _ hs (k2.keep (agree_of_below F0.below lo))).mono ?_
  rintro e w1 ⟨rfl, hb1'⟩
  have F1 := F0.keep hb1'
  have b0 := F1.a0
  have b1 := F1.a1
  have b2 := F1.a2
  clear hb1' F0
  go_wp2_with (first | (go_at_call 47; refine (widthS _ _).mono ?_; rintro e w' ⟨rfl, rfl⟩) | (go_at_call 48; refine (inS _ _ _ _).mono ?_; rw [i2]; rintro e w' ⟨rfl, rfl⟩))
  go_ret
  exact ⟨ret_bool HR.out, F1.below⟩
theorem funcShS (lo : Nat) (d : FuncD) (u0 : Option Addr) (c0 : Nat) (u2 : Option Addr) (c2 : Nat) (funcs : Int) (w : World) (hs : SmFunc d) (k0 : IntsAt w lo u0 d.params) (k2 : BlocksAt w lo u2 d.blocks) (g2 : 0 ≤ funcs) (g3 : funcs ≤ 4611686018427387904) : Calls Tryd.prog 25 #[.agg #[.slice u0 d.params.length c0, .int .i64 d.ret, .slice u2 d.blocks.length c2], .int .i64 funcs] w fun e w' => e = .returned (.bool (funcB funcs d)) ∧ Below w.heap.size w w' := by
  by_cases hp : d.params.length ≤ 4
  · cases hr : widthB d.ret with
    | false => exact funcShS_r lo d u0 c0 u2 c2 funcs w hs k0 k2 hp hr
    | true =>
      by_cases hb : 1 ≤ d.blocks.length ∧ d.blocks.length ≤ 10
      · by_cases hn : cntF d ≤ 60
        · exact funcShS_ok lo d u0 c0 u2 c2 funcs w hs k0 k2 g2 g3 hp hr hb.1 hb.2 hn
        · exact funcShS_n lo d u0 c0 u2 c2 funcs w hs k0 k2 hp hr hb hn
      · exact funcShS_b lo d u0 c0 u2 c2 funcs w hs k0 k2 hp hr hb
  · exact funcShS_p lo d u0 c0 u2 c2 funcs w hs k0 k2 hp
end Go.Proofs.YtkepaamflhpodaaDoor
