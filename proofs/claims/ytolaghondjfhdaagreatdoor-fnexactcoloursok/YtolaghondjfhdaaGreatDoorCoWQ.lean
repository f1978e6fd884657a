/- The walk of the law FnExactColoursOk, out of the contracts. -/
import Derived.Test.YtolaghondjfhdaaGreatDoorLyIQ
import Derived.Test.YtolaghondjfhdaaGreatDoorLyJQ
import Derived.Test.YtolaghondjfhdaaGreatDoorCntQ
import Derived.Deep.RegionWith
namespace Go.Proofs.YtolaghondjfhdaaGreatDoor
open Go.RowKit

set_option maxHeartbeats 8000000 in
set_option maxRecDepth 100000 in
theorem fnExactColoursOk_core (lo la : Nat) (d : FuncD) (u0 : Option Addr) (c0 : Nat) (u2 : Option Addr) (c2 : Nat) (l : List Int) (ul : Option Addr) (cl : Nat) (a : Addr) (w : World) (k0 : IntsAt w lo u0 d.params) (k2 : BlocksAt w lo u2 d.blocks) (kl : IntsAt w la ul l) (hv : Gv w 0 (errV a)) :
    Calls Tryz.prog 8 #[.agg #[.slice u0 d.params.length c0, .int .i64 d.ret, .slice u2 d.blocks.length c2], .slice ul l.length cl] w fun e w' => e = .returned (.bool true) ∧ Below w.heap.size w w' := by
  have hlb := kl.1
  by_cases hll : l.length ≤ 1048576
  · have hgt : ¬ ((1048576 : Int) < l.length) := by omega
    have HKL : Hid (∀ W, Below w.heap.size w W → IntsAt W la ul l) := fun W q => kl.keep (agree_of_below q la)
    clear kl
    go_enter Tryz.func8, Tryz.ntmps8
    go_wp2_with fail
    refine (szFunc_any lo d _ _ _ _ _ _ (by omega) (by omega) (k0.keep (agree_alloc _ _ _)) (k2.keep (agree_alloc _ _ _))).mono ?_
    rintro e w1 ⟨rfl, hb1⟩
    have hx1 := box_first hb1
    obtain ⟨p1, p2, p3⟩ := box3 hx1
    have hB1 := below_box hx1
    rcases szFunc_falls d 1048576 (by omega) with hz | ⟨hz, _⟩
    · have hz2 : szFunc d 1048576 < 0 := by omega
      clear hz
      go_wp2_with fail
      go_ret
      exact ⟨rfl, hB1⟩
    · have hs := szFunc_small (by omega) hz
      have hz3 : ¬ szFunc d 1048576 < 0 := by omega
      go_wp2_with fail
      refine (toFunc_any lo d _ _ _ _ _ hs (k0.keep (agree_of_below hB1 lo)) (k2.keep (agree_of_below hB1 lo))).mono ?_
      rintro e w2 ⟨v0, q0, v2, q2, rfl, n0, n2, hb2⟩
      have hx2 := box_next hx1 hb2
      clear p1 p2 p3
      go_wp2_with fail
      refine (toInts_any la ul cl l _ hll (HKL.out _ (below_box hx2))).mono ?_
      rintro e w2b ⟨us, cs, rfl, sl, hb2b⟩
      have hx2b := box_next hx2 hb2b
      go_wp2_with fail
      refine (coloursS _ _ d _ _ _ _ l us cs _ hs (n0.keep (agree_of_below hb2b _)) (n2.keep (agree_of_below hb2b _)) sl hll).mono ?_
      rintro e w3 ⟨r, rfl, hr, hb3⟩
      have HR : Hid (ColR d l r) := hr
      clear hr
      have hx3 := box_next hx2b hb3
      obtain ⟨p1, p2, p3⟩ := box3 hx3
      have hB3 := below_box hx3
      go_wp2_with fail
      refine (toFunc_any lo d _ _ _ _ _ hs (k0.keep (agree_of_below hB3 lo)) (k2.keep (agree_of_below hB3 lo))).mono ?_
      rintro e w4 ⟨m0, r0, m2, r2, rfl, j0, j2, hb4⟩
      have hx4 := box_next hx3 hb4
      have hx4a := box_alloc (p := .cells #[.slice m0 d.params.length r0, .int .i64 d.ret, .slice m2 d.blocks.length r2] 30) hx4
      clear p1 p2 p3
      go_wp2_with fail
      refine (toInts_any la ul cl l _ hll (HKL.out _ (below_box hx4a))).mono ?_
      rintro e w4b ⟨ux, cx, rfl, sx, hb4b⟩
      have hx4b := box_next hx4a hb4b
      obtain ⟨x1, x2, x3⟩ := box3 (box_first hb4b)
      have J0 := (j0.keep (agree_alloc _ (.cells #[.slice m0 d.params.length r0, .int .i64 d.ret, .slice m2 d.blocks.length r2] 30) _)).keep (agree_of_below hb4b _)
      have J2 := (j2.keep (agree_alloc _ (.cells #[.slice m0 d.params.length r0, .int .i64 d.ret, .slice m2 d.blocks.length r2] 30) _)).keep (agree_of_below hb4b _)
      have z4 : w4.heap.size < w4b.heap.size := by have := hb4b.size; simp at this; omega
      go_wp2_with fail
      refine (coloursTI _ _ d _ _ _ _ l ux cx a _ hs J0 J2 sx hll (hv.keep (below_box hx4b))).mono ?_
      rintro e w5 ⟨r5, rfl, hr5, hb5⟩
      have e5 : r = r5 := HR.out.one hr5
      subst e5
      clear hr5 x1 x2 x3
      have hx5 := box_next hx4b hb5
      obtain ⟨p1, p2, p3⟩ := box3 hx5
      have hB5 := below_box hx5
      obtain ⟨y1, y2, y3⟩ := box3 (box_next (box_first hb4b) hb5)
      have i0 := J0.keep (agree_of_below hb5 _)
      have i2 := J2.keep (agree_of_below hb5 _)
      have S5 := sx.keep (agree_of_below hb5 _)
      have z5 : w4.heap.size < w5.heap.size := Nat.lt_of_lt_of_le z4 hb5.size
      have K0 := k0.keep (agree_of_below hB5 lo)
      have K2 := k2.keep (agree_of_below hB5 lo)
      have HS5 : Hid (IntsAt w5 _ ux l) := S5
      clear j0 j2 J0 J2 n0 n2 hx1 hx2 hx3 hx4 hx4a hx4b hx2b hB1 hB3 hb1 hb2 hb3 hb4 hb4b hb2b k0 k2 sl sx S5
      go_wp2_with fail
      go_region_with (first | (go_at_call 11; refine (toFunc_any lo d _ _ _ _ _ hs (by exact K0) (by exact K2)).mono ?_; rintro e w6 ⟨g0, s0, g2, s2, rfl, l0, l2, hb6⟩; have t1 := (bcell hb6 w4.heap.size 0 (by exact z5)).trans (by exact y1); have t2 := (bcell hb6 w4.heap.size 1 (by exact z5)).trans (by exact y2); have t3 := (bcell hb6 w4.heap.size 2 (by exact z5)).trans (by exact y3)) | (go_at_call 14; refine (eqFunc_any _ _ d _ _ _ _ _ _ _ _ _ (i0.keep (by exact agree_of_below hb6 _)) (i2.keep (by exact agree_of_below hb6 _)) (by exact l0) (by exact l2)).mono ?_; rintro e w7 ⟨rfl, hb7⟩))
      all_goals
        have h6 := hb6.mono (B' := w5.heap.size) (Nat.le_refl _)
        have h7 := hb7.mono (B' := w5.heap.size) h6.size
        have h57 : Below w5.heap.size w5 w7 := ⟨h7.os.trans h6.os, h7.tape.trans h6.tape, h7.output.trans h6.output, Nat.le_trans h6.size h7.size, fun i hi => (h7.block i hi).trans (h6.block i hi)⟩
        have hB7 : Below w.heap.size w w7 := hB5.trans (h57.mono hB5.size)
        have S7 := HS5.out.keep (agree_of_below h57 _)
        clear h6 h7 hb6 hb7 h57
        go_wp2_with fail
        refine (toInts_any la ul cl l _ hll (HKL.out _ hB7)).mono ?_
        rintro e w8 ⟨uy, cy, rfl, sy, hb8⟩
        go_wp2_with fail
        refine (eqInts_any _ _ _ _ _ _ l _ (S7.keep (agree_of_below hb8 _)) sy).mono ?_
        rintro e w9 ⟨rfl, hb9⟩
        go_wp2_with fail
        go_ret
        exact ⟨rfl, (hB7.trans (hb8.mono hB7.size)).trans (hb9.mono (Nat.le_trans hB7.size hb8.size))⟩
  · have hgt : (1048576 : Int) < l.length := by omega
    go_enter Tryz.func8, Tryz.ntmps8
    go_wp2_with fail
    go_ret
    exact ⟨rfl, (Below.refl _ _).alloc (Nat.le_refl _) _⟩
end Go.Proofs.YtolaghondjfhdaaGreatDoor
