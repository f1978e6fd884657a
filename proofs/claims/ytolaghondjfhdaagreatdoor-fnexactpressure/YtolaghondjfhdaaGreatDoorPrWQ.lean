/- The walk of the law FnExactPressure, out of the contracts. -/
import Derived.Test.YtolaghondjfhdaaGreatDoorLyFQ
import Derived.Test.YtolaghondjfhdaaGreatDoorCntQ
import Derived.Deep.RegionWith
namespace Go.Proofs.YtolaghondjfhdaaGreatDoor
open Go.RowKit

set_option maxHeartbeats 8000000 in
set_option maxRecDepth 100000 in
theorem fnExactPressure_core (lo : Nat) (d : FuncD) (u0 : Option Addr) (c0 : Nat) (u2 : Option Addr) (c2 : Nat) (a : Addr) (w : World) (k0 : IntsAt w lo u0 d.params) (k2 : BlocksAt w lo u2 d.blocks) (hv : Gv w 0 (errV a)) :
    Calls Tryz.prog 6 #[.agg #[.slice u0 d.params.length c0, .int .i64 d.ret, .slice u2 d.blocks.length c2]] w fun e w' => e = .returned (.bool true) ∧ Below w.heap.size w w' := by
  go_enter Tryz.func6, Tryz.ntmps6
  go_wp2_with fail
  refine (szFunc_any lo d _ _ _ _ _ _ (by omega) (by omega) (k0.keep (agree_alloc _ _ _)) (k2.keep (agree_alloc _ _ _))).mono ?_
  rintro e w1 ⟨rfl, hb1⟩
  have hx1 := box_first hb1
  obtain ⟨p1, p2, p3⟩ := box3 hx1
  have hB1 := below_box hx1
  rcases szFunc_falls d 1048576 (by omega) with hz | ⟨hz, _⟩
  · have hz2 : szFunc d 1048576 < 0 := by omega
    clear hz
    go_wp2_with fail
    go_ret
    exact ⟨rfl, hB1⟩
  · have hs := szFunc_small (by omega) hz
    have hz3 : ¬ szFunc d 1048576 < 0 := by omega
    go_wp2_with fail
    refine (toFunc_any lo d _ _ _ _ _ hs (k0.keep (agree_of_below hB1 lo)) (k2.keep (agree_of_below hB1 lo))).mono ?_
    rintro e w2 ⟨v0, q0, v2, q2, rfl, n0, n2, hb2⟩
    have hx2 := box_next hx1 hb2
    clear p1 p2 p3
    go_wp2_with fail
    refine (pressS _ d _ _ _ _  _ hs n0 n2).mono ?_
    rintro e w3 ⟨r, rfl, hr, hb3⟩
    have HR : Hid (PressR d r) := hr
    clear hr
    have hx3 := box_next hx2 hb3
    obtain ⟨p1, p2, p3⟩ := box3 hx3
    have hB3 := below_box hx3
    go_wp2_with fail
    refine (toFunc_any lo d _ _ _ _ _ hs (k0.keep (agree_of_below hB3 lo)) (k2.keep (agree_of_below hB3 lo))).mono ?_
    rintro e w4 ⟨m0, r0, m2, r2, rfl, j0, j2, hb4⟩
    have hx4 := box_next hx3 hb4
    clear p1 p2 p3
    go_wp2_with fail
    refine (pressI _ d _ _ _ _  a _ hs (j0.keep (agree_alloc _ _ _)) (j2.keep (agree_alloc _ _ _)) (hv.keep (below_box (box_alloc hx4)))).mono ?_
    rintro e w5 ⟨r5, rfl, hr5, hb5⟩
    have e5 : r = r5 := HR.out.one hr5
    subst e5
    clear hr5
    have hx5 := box_next (box_alloc hx4) hb5
    obtain ⟨p1, p2, p3⟩ := box3 hx5
    have hB5 := below_box hx5
    obtain ⟨y1, y2, y3⟩ := box3 (box_first hb5)
    have i0 := (j0.keep (agree_alloc _ (.cells #[.slice m0 d.params.length r0, .int .i64 d.ret, .slice m2 d.blocks.length r2] 30) _)).keep (agree_of_below hb5 _)
    have i2 := (j2.keep (agree_alloc _ (.cells #[.slice m0 d.params.length r0, .int .i64 d.ret, .slice m2 d.blocks.length r2] 30) _)).keep (agree_of_below hb5 _)
    have z5 : w4.heap.size < w5.heap.size := by have := hb5.size; simp at this; omega
    have K0 := k0.keep (agree_of_below hB5 lo)
    have K2 := k2.keep (agree_of_below hB5 lo)
    clear j0 j2 n0 n2 hx1 hx2 hx3 hx4 hB1 hB3 hb1 hb2 hb3 hb4 k0 k2
    go_wp2_with fail
    go_region_with (first | (go_at_call 11; refine (toFunc_any lo d _ _ _ _ _ hs (by exact K0) (by exact K2)).mono ?_; rintro e w6 ⟨g0, s0, g2, s2, rfl, l0, l2, hb6⟩; have t1 := (bcell hb6 w4.heap.size 0 (by exact z5)).trans (by exact y1); have t2 := (bcell hb6 w4.heap.size 1 (by exact z5)).trans (by exact y2); have t3 := (bcell hb6 w4.heap.size 2 (by exact z5)).trans (by exact y3)) | (go_at_call 14; refine (eqFunc_any _ _ d _ _ _ _ _ _ _ _ _ (i0.keep (by exact agree_of_below hb6 _)) (i2.keep (by exact agree_of_below hb6 _)) (by exact l0) (by exact l2)).mono ?_; rintro e w7 ⟨rfl, hb7⟩))
    all_goals
      go_wp2_with fail
      go_ret
      have h6 := hb6.mono (B' := w.heap.size) hB5.size
      have h7 := hb7.mono (B' := w.heap.size) (Nat.le_trans hB5.size h6.size)
      exact ⟨rfl, ⟨h7.os.trans (h6.os.trans hB5.os), h7.tape.trans (h6.tape.trans hB5.tape), h7.output.trans (h6.output.trans hB5.output), Nat.le_trans hB5.size (Nat.le_trans h6.size h7.size), fun i hi => (h7.block i hi).trans ((h6.block i hi).trans (hB5.block i hi))⟩⟩
end Go.Proofs.YtolaghondjfhdaaGreatDoor
