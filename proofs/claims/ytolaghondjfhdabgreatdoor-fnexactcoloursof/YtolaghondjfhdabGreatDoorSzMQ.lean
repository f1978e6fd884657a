/- How much a module holds: the contracts of szFuncS and szModule. -/
import Derived.Test.YtolaghondjfhdabGreatDoorMemQ
import Derived.Test.YtolaghondjfhdabGreatDoorFmDQ
namespace Go.Proofs.YtolaghondjfhdabGreatDoor
open Go.RowKit


def SmMod (l : List FuncD) : Prop := l.length ≤ 1048576 ∧ ∀ d ∈ l, SmFunc d
theorem szMod_small {l : List FuncD} {x : Int} (hx : x ≤ 1048576) (h : 0 ≤ szS szFunc l x) : SmMod l := by
  obtain ⟨b1, b2⟩ := szS_each szFunc_falls h
  refine ⟨by omega, fun p hp => ?_⟩
  obtain ⟨y, _, y1, y2⟩ := b2 p hp
  exact szFunc_small (by omega) y2
end Go.Proofs.YtolaghondjfhdabGreatDoor
namespace Go.Proofs.YtolaghondjfhdabGreatDoor
open Go.RowKit
set_option linter.unusedVariables false

set_option maxHeartbeats 2000000 in
set_option maxRecDepth 100000 in
theorem funcShI_p (lo : Nat) (d : FuncD) (u0 : Option Addr) (c0 : Nat) (u2 : Option Addr) (c2 : Nat) (funcs : Int) (w : World) (hs : SmFunc d) (k0 : IntsAt w lo u0 d.params) (k2 : BlocksAt w lo u2 d.blocks) (hp : ¬ d.params.length ≤ 4) : Calls Tryz.prog 63 #[.agg #[.slice u0 d.params.length c0, .int .i64 d.ret, .slice u2 d.blocks.length c2], .int .i64 funcs] w fun e w' => e = .returned (.bool (funcB funcs d)) ∧ Below w.heap.size w w' := by
  have HR : Hid (false = funcB funcs d) := by show _ = _; simp [funcB, hp]
  have i1 : (4 : Int) < d.params.length := by omega
  go_enter Tryz.func63, Tryz.ntmps63
  go_wp2_with fail
  go_ret
  exact ⟨ret_bool HR.out, (Below.refl _ _).alloc (Nat.le_refl _) _⟩
set_option maxHeartbeats 2000000 in
set_option maxRecDepth 100000 in
theorem funcShI_a (lo : Nat) (d : FuncD) (u0 : Option Addr) (c0 : Nat) (u2 : Option Addr) (c2 : Nat) (funcs : Int) (w : World) (hs : SmFunc d) (k0 : IntsAt w lo u0 d.params) (k2 : BlocksAt w lo u2 d.blocks) (hp : d.params.length ≤ 4) (ha : d.params.all widthB = false) : Calls Tryz.prog 63 #[.agg #[.slice u0 d.params.length c0, .int .i64 d.ret, .slice u2 d.blocks.length c2], .int .i64 funcs] w fun e w' => e = .returned (.bool (funcB funcs d)) ∧ Below w.heap.size w w' := by
  have HR : Hid (false = funcB funcs d) := by show _ = _; simp [funcB, ha]
  have i1 : ¬ (4 : Int) < d.params.length := by omega
  have K1 := (k0.keep (agree_alloc w (.cells #[.slice u0 d.params.length c0, .int .i64 d.ret, .slice u2 d.blocks.length c2] 30) _))
  have A := fun w k => allWidthsI lo u0 c0 d.params w k
  simp only [show (fun n => widthB n) = widthB from rfl] at A
  rw [ha] at A
  go_enter Tryz.func63, Tryz.ntmps63
  go_wp2_with (first | (go_at_call 86; refine (A _ K1).mono ?_; rintro e w' ⟨rfl, rfl⟩))
  go_ret
  exact ⟨ret_bool HR.out, (Below.refl _ _).alloc (Nat.le_refl _) _⟩
set_option maxHeartbeats 2000000 in
set_option maxRecDepth 100000 in
theorem funcShI_r (lo : Nat) (d : FuncD) (u0 : Option Addr) (c0 : Nat) (u2 : Option Addr) (c2 : Nat) (funcs : Int) (w : World) (hs : SmFunc d) (k0 : IntsAt w lo u0 d.params) (k2 : BlocksAt w lo u2 d.blocks) (hp : d.params.length ≤ 4) (ha : d.params.all widthB = true) (hr : widthB d.ret = false) : Calls Tryz.prog 63 #[.agg #[.slice u0 d.params.length c0, .int .i64 d.ret, .slice u2 d.blocks.length c2], .int .i64 funcs] w fun e w' => e = .returned (.bool (funcB funcs d)) ∧ Below w.heap.size w w' := by
  have HR : Hid (false = funcB funcs d) := by show _ = _; simp [funcB, hr]
  have i1 : ¬ (4 : Int) < d.params.length := by omega
  have K1 := (k0.keep (agree_alloc w (.cells #[.slice u0 d.params.length c0, .int .i64 d.ret, .slice u2 d.blocks.length c2] 30) _))
  have A := fun w k => allWidthsI lo u0 c0 d.params w k
  simp only [show (fun n => widthB n) = widthB from rfl] at A
  rw [ha] at A
  go_enter Tryz.func63, Tryz.ntmps63
  go_wp2_with (first | (go_at_call 86; refine (A _ K1).mono ?_; rintro e w' ⟨rfl, rfl⟩) | (go_at_call 87; refine (widthI _ _).mono ?_; rintro e w' ⟨rfl, rfl⟩))
  go_ret
  exact ⟨ret_bool HR.out, (Below.refl _ _).alloc (Nat.le_refl _) _⟩
set_option maxHeartbeats 2000000 in
set_option maxRecDepth 100000 in
theorem funcShI_b (lo : Nat) (d : FuncD) (u0 : Option Addr) (c0 : Nat) (u2 : Option Addr) (c2 : Nat) (funcs : Int) (w : World) (hs : SmFunc d) (k0 : IntsAt w lo u0 d.params) (k2 : BlocksAt w lo u2 d.blocks) (hp : d.params.length ≤ 4) (ha : d.params.all widthB = true) (hr : widthB d.ret = true) (hb : ¬ 1 ≤ d.blocks.length) : Calls Tryz.prog 63 #[.agg #[.slice u0 d.params.length c0, .int .i64 d.ret, .slice u2 d.blocks.length c2], .int .i64 funcs] w fun e w' => e = .returned (.bool (funcB funcs d)) ∧ Below w.heap.size w w' := by
  have HR : Hid (false = funcB funcs d) := by show _ = _; simp [funcB, hb]
  have i1 : ¬ (4 : Int) < d.params.length := by omega
  have K1 := (k0.keep (agree_alloc w (.cells #[.slice u0 d.params.length c0, .int .i64 d.ret, .slice u2 d.blocks.length c2] 30) _))
  have A := fun w k => allWidthsI lo u0 c0 d.params w k
  simp only [show (fun n => widthB n) = widthB from rfl] at A
  rw [ha] at A
  have i2 : (d.blocks.length : Int) < 1 := by omega
  go_enter Tryz.func63, Tryz.ntmps63
  go_wp2_with (first | (go_at_call 86; refine (A _ K1).mono ?_; rintro e w' ⟨rfl, rfl⟩) | (go_at_call 87; refine (widthI _ _).mono ?_; rintro e w' ⟨rfl, rfl⟩))
  go_ret
  exact ⟨ret_bool HR.out, (Below.refl _ _).alloc (Nat.le_refl _) _⟩
set_option maxHeartbeats 2000000 in
set_option maxRecDepth 100000 in
theorem funcShI_c (lo : Nat) (d : FuncD) (u0 : Option Addr) (c0 : Nat) (u2 : Option Addr) (c2 : Nat) (funcs : Int) (w : World) (hs : SmFunc d) (k0 : IntsAt w lo u0 d.params) (k2 : BlocksAt w lo u2 d.blocks) (hp : d.params.length ≤ 4) (ha : d.params.all widthB = true) (hr : widthB d.ret = true) (hb : 1 ≤ d.blocks.length) (hc : ¬ d.blocks.length ≤ 10) : Calls Tryz.prog 63 #[.agg #[.slice u0 d.params.length c0, .int .i64 d.ret, .slice u2 d.blocks.length c2], .int .i64 funcs] w fun e w' => e = .returned (.bool (funcB funcs d)) ∧ Below w.heap.size w w' := by
  have HR : Hid (false = funcB funcs d) := by show _ = _; simp [funcB, hc]
  have i1 : ¬ (4 : Int) < d.params.length := by omega
  have K1 := (k0.keep (agree_alloc w (.cells #[.slice u0 d.params.length c0, .int .i64 d.ret, .slice u2 d.blocks.length c2] 30) _))
  have A := fun w k => allWidthsI lo u0 c0 d.params w k
  simp only [show (fun n => widthB n) = widthB from rfl] at A
  rw [ha] at A
  have i2 : ¬ (d.blocks.length : Int) < 1 := by omega
  have i3 : (10 : Int) < d.blocks.length := by have := hs.2.1; omega
  go_enter Tryz.func63, Tryz.ntmps63
  go_wp2_with (first | (go_at_call 86; refine (A _ K1).mono ?_; rintro e w' ⟨rfl, rfl⟩) | (go_at_call 87; refine (widthI _ _).mono ?_; rintro e w' ⟨rfl, rfl⟩))
  go_ret
  exact ⟨ret_bool HR.out, (Below.refl _ _).alloc (Nat.le_refl _) _⟩
set_option maxHeartbeats 2000000 in
set_option maxRecDepth 100000 in
theorem funcShI_n (lo : Nat) (d : FuncD) (u0 : Option Addr) (c0 : Nat) (u2 : Option Addr) (c2 : Nat) (funcs : Int) (w : World) (hs : SmFunc d) (k0 : IntsAt w lo u0 d.params) (k2 : BlocksAt w lo u2 d.blocks) (hp : d.params.length ≤ 4) (ha : d.params.all widthB = true) (hr : widthB d.ret = true) (hb : 1 ≤ d.blocks.length) (hc : d.blocks.length ≤ 10) (hn : ¬ cntF d ≤ 60) : Calls Tryz.prog 63 #[.agg #[.slice u0 d.params.length c0, .int .i64 d.ret, .slice u2 d.blocks.length c2], .int .i64 funcs] w fun e w' => e = .returned (.bool (funcB funcs d)) ∧ Below w.heap.size w w' := by
  have HR : Hid (false = funcB funcs d) := by show _ = _; simp [funcB, hn]
  have F0 := FBox.start (d := d) (u0 := u0) (u2 := u2) (c0 := c0) (c2 := c2) (w := w) (T := 30)
  have i1 : ¬ (4 : Int) < d.params.length := by omega
  have K1 := (k0.keep (agree_alloc w (.cells #[.slice u0 d.params.length c0, .int .i64 d.ret, .slice u2 d.blocks.length c2] 30) _))
  have A := fun w k => allWidthsI lo u0 c0 d.params w k
  simp only [show (fun n => widthB n) = widthB from rfl] at A
  rw [ha] at A
  have i2 : ¬ (d.blocks.length : Int) < 1 := by omega
  have i3 : ¬ (10 : Int) < d.blocks.length := by omega
  have i4 : (60 : Int) < cntF d := by omega
  go_enter Tryz.func63, Tryz.ntmps63
  go_wp2_with (first | (go_at_call 86; refine (A _ K1).mono ?_; rintro e w' ⟨rfl, rfl⟩) | (go_at_call 87; refine (widthI _ _).mono ?_; rintro e w' ⟨rfl, rfl⟩))
  refine (countI_any lo d u0 c0 u2 c2 _ hs (k2.keep (agree_of_below F0.below lo))).mono ?_
  rintro e w1 ⟨rfl, hb1'⟩
  have F1 := F0.keep hb1'
  go_wp2_with fail
  go_ret
  exact ⟨ret_bool HR.out, F1.below⟩
theorem funcShI (lo : Nat) (d : FuncD) (u0 : Option Addr) (c0 : Nat) (u2 : Option Addr) (c2 : Nat) (funcs : Int) (w : World) (hs : SmFunc d) (k0 : IntsAt w lo u0 d.params) (k2 : BlocksAt w lo u2 d.blocks) : Calls Tryz.prog 63 #[.agg #[.slice u0 d.params.length c0, .int .i64 d.ret, .slice u2 d.blocks.length c2], .int .i64 funcs] w fun e w' => e = .returned (.bool (funcB funcs d)) ∧ Below w.heap.size w w' := by
  by_cases hp : d.params.length ≤ 4
  · cases ha : d.params.all widthB with
    | false => exact funcShI_a lo d u0 c0 u2 c2 funcs w hs k0 k2 hp ha
    | true =>
      cases hr : widthB d.ret with
      | false => exact funcShI_r lo d u0 c0 u2 c2 funcs w hs k0 k2 hp ha hr
      | true =>
        by_cases hb : 1 ≤ d.blocks.length
        · by_cases hc : d.blocks.length ≤ 10
          · by_cases hn : cntF d ≤ 60
            · exact funcShI_ok lo d u0 c0 u2 c2 funcs w hs k0 k2 hp ha hr hb hc hn
            · exact funcShI_n lo d u0 c0 u2 c2 funcs w hs k0 k2 hp ha hr hb hc hn
          · exact funcShI_c lo d u0 c0 u2 c2 funcs w hs k0 k2 hp ha hr hb hc
        · exact funcShI_b lo d u0 c0 u2 c2 funcs w hs k0 k2 hp ha hr hb
  · exact funcShI_p lo d u0 c0 u2 c2 funcs w hs k0 k2 hp
end Go.Proofs.YtolaghondjfhdabGreatDoor
