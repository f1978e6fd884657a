/- The core of the law FnExactColoursOf. -/
import Derived.Test.YtolaghondjfhdabGreatDoorLzCQ
import Derived.Test.YtolaghondjfhdabGreatDoorLzDQ
import Derived.Test.YtolaghondjfhdabGreatDoorLzAQ
import Derived.Test.YtolaghondjfhdabGreatDoorTowQ
import Derived.Deep.RegionWith
namespace Go.Proofs.YtolaghondjfhdabGreatDoor
open Go.RowKit

set_option maxHeartbeats 8000000 in
set_option maxRecDepth 100000 in
theorem fnExactColoursOf_core (lo : Nat) (d : FuncD) (u0 : Option Addr) (c0 : Nat) (u2 : Option Addr) (c2 : Nat) (a : Addr) (w : World) (k0 : IntsAt w lo u0 d.params) (k2 : BlocksAt w lo u2 d.blocks) (hv : Gv w 0 (errV a)) :
    Calls Tryz.prog 3 #[.agg #[.slice u0 d.params.length c0, .int .i64 d.ret, .slice u2 d.blocks.length c2]] w fun e w' => e = .returned (.bool true) ∧ Below w.heap.size w w' := by
  go_enter Tryz.func3, Tryz.ntmps3
  go_wp2_with fail
  refine (szFunc_any lo d _ _ _ _ _ _ (by omega) (by omega) (k0.keep (agree_alloc _ _ _)) (k2.keep (agree_alloc _ _ _))).mono ?_
  rintro e w1 ⟨rfl, hb1⟩
  have hx1 := box_first hb1
  obtain ⟨p1, p2, p3⟩ := box3 hx1
  have hB1 := below_box hx1
  rcases szFunc_falls d 1048576 (by omega) with hz | ⟨hz, _⟩
  · have hz2 : szFunc d 1048576 < 0 := by omega
    clear hz
    go_wp2_with fail
    go_ret
    exact ⟨rfl, hB1⟩
  · have hs := szFunc_small (by omega) hz
    have hz3 : ¬ szFunc d 1048576 < 0 := by omega
    go_wp2_with fail
    refine (toFunc_any lo d _ _ _ _ _ hs (k0.keep (agree_of_below hB1 lo)) (k2.keep (agree_of_below hB1 lo))).mono ?_
    rintro e w2 ⟨v0, q0, v2, q2, rfl, n0, n2, hb2⟩
    have hx2 := box_next hx1 hb2
    clear p1 p2 p3
    go_wp2_with fail
    refine (coloursOfS _ d _ _ _ _ _ hs n0 n2).mono ?_
    rintro e w3 ⟨vs, rfl, r, hr, sl3, hb3⟩
    obtain ⟨us, cs, rfl, is3⟩ := sl3.ints
    have hrl : r.length ≤ 1048576 := Nat.le_trans hr.len (by omega)
    have HR : Hid (ColsR d r) := hr
    clear hr sl3
    have hx3 := box_next hx2 hb3
    obtain ⟨p1, p2, p3⟩ := box3 hx3
    have hB3 := below_box hx3
    go_wp2_with fail
    refine (toFunc_own lo d _ _ _ _ _ hs (k0.keep (agree_of_below hB3 lo)) (k2.keep (agree_of_below hB3 lo))).mono ?_
    rintro e w4 ⟨m0, r0, m2, r2, rfl, j0, j2, hb4⟩
    have hx4 := box_next hx3 hb4
    clear p1 p2 p3
    go_wp2_with fail
    refine (coloursOfI _ d _ _ _ _ a _ hs (j0.at.keep (agree_alloc _ _ _)) (j2.at.keep (agree_alloc _ _ _)) (hv.keep (below_box (box_alloc hx4)))).mono ?_
    rintro e w5 ⟨v5, rfl, r5, hr5, ho5, hb5⟩
    have e5 : r = r5 := HR.out.one hr5
    subst e5
    clear hr5
    obtain ⟨ug, cg, rfl, g5⟩ := row_own hrl ho5
    have hx5 := box_next (box_alloc hx4) hb5
    have hz4 : w4.heap.size < (w4.alloc (.cells #[.slice m0 d.params.length r0, .int .i64 d.ret, .slice m2 d.blocks.length r2] 30)).heap.size := by simp
    have g5' : OI w5 (w4.heap.size + 1) ug r := g5.low (by simp)
    have a5 : Agree w2.heap.size w3 w5 := agree_below ((agree_of_below hb4 _).trans (agree_alloc _ (.cells #[.slice m0 d.params.length r0, .int .i64 d.ret, .slice m2 d.blocks.length r2] 30) _)) hb5
    have s5 : IntsAt w5 w2.heap.size us r := is3.keep a5
    have sh0 := j0.sh
    have sh2 := j2.sh
    clear ho5 g5
    go_wp2_with fail
    refine (eqInts_any _ _ _ _ _ _ r _ g5'.at s5).mono ?_
    rintro e w6 ⟨rfl, hb6⟩
    have hx6 := box_next hx5 hb6
    obtain ⟨p1, p2, p3⟩ := box3 hx6
    have hB6 := below_box hx6
    have hb56 := hb5.trans (hb6.mono hb5.size)
    obtain ⟨y1, y2, y3⟩ := box3 (box_first hb56)
    have i0 := (j0.keep (agree_alloc _ (.cells #[.slice m0 d.params.length r0, .int .i64 d.ret, .slice m2 d.blocks.length r2] 30) _)).keep (agree_of_below hb56 _)
    have i2 := (j2.keep (agree_alloc _ (.cells #[.slice m0 d.params.length r0, .int .i64 d.ret, .slice m2 d.blocks.length r2] 30) _)).keep (agree_of_below hb56 _)
    have g6 := g5'.keep (agree_of_below hb6 _)
    have a6 := agree_below a5 hb6
    have th0 := (sh0.keep (Hdr.alloc _ _ _ (.cells #[.slice m0 d.params.length r0, .int .i64 d.ret, .slice m2 d.blocks.length r2] 30))).keep (hdr_below hb56)
    have th2 := (sh2.keep (Hdr.alloc _ _ _ (.cells #[.slice m0 d.params.length r0, .int .i64 d.ret, .slice m2 d.blocks.length r2] 30))).keep (hdr_below hb56)
    have z6 : w4.heap.size < w6.heap.size := by have := hb56.size; simp at this; omega
    have K0 := k0.keep (agree_of_below hB6 lo)
    have K2 := k2.keep (agree_of_below hB6 lo)
    have z23 := hb3.size
    have z34 := hb4.size
    have z12 := hb2.size
    have z01 : w.heap.size + 1 ≤ w1.heap.size := by have := hx1.size; simpa using this
    clear j0 j2 n0 n2 hx1 hx2 hx3 hx4 hx5 hB1 hB3 hb1 hb2 hb3 hb4 hb5 hb6 hb56 s5 g5' hz4 a5 sh0 sh2
    go_wp2_with fail
    go_region_with (first | (go_at_call 6; refine (toFunc_any lo d _ _ _ _ _ hs (by exact K0) (by exact K2)).mono ?_; rintro e w7 ⟨g0, s0, g2, s2, rfl, l0, l2, hb7⟩; have t1 := (bcell hb7 w4.heap.size 0 (by exact z6)).trans (by exact y1); have t2 := (bcell hb7 w4.heap.size 1 (by exact z6)).trans (by exact y2); have t3 := (bcell hb7 w4.heap.size 2 (by exact z6)).trans (by exact y3)) | (go_at_call 9; refine (eqFunc_any _ _ d _ _ _ _ _ _ _ _ _ (i0.at.keep (by exact agree_of_below hb7 _)) (i2.at.keep (by exact agree_of_below hb7 _)) (by exact l0) (by exact l2)).mono ?_; rintro e w8 ⟨rfl, hb8⟩))
    all_goals
      have hb68 : Below w6.heap.size w6 w8 := ⟨hb8.os.trans hb7.os, hb8.tape.trans hb7.tape, hb8.output.trans hb7.output, Nat.le_trans hb7.size hb8.size, fun i hi => (hb8.block i (Nat.lt_of_lt_of_le hi hb7.size)).trans (hb7.block i hi)⟩
      have hx8 := box_next hx6 hb68
      have y1' := (bcell hb68 w4.heap.size 0 z6).trans y1
      have y2' := (bcell hb68 w4.heap.size 1 z6).trans y2
      have y3' := (bcell hb68 w4.heap.size 2 z6).trans y3
      have th0' := th0.keep (hdr_below hb68)
      have th2' := th2.keep (hdr_below hb68)
      have g8 := g6.keep (agree_of_below hb68 _)
      have a8 := agree_below a6 hb68
      have z8 : w6.heap.size ≤ w8.heap.size := hb68.size
      clear i0 i2 g6 a6 hb7 hb8 hb68 y1 y2 y3 K0 K2 l0 l2 th0 th2 hx6 hB6
      try clear t1 t2 t3
      try clear p1 p2 p3
      go_wp2_with fail
      refine (markFunc_any w3.heap.size w4.heap.size d m0 r0 m2 r2 1 _ hs (by omega) (by omega) (by omega) th0' th2').mono ?_
      rintro e w9 ⟨x9, rfl, hx90, hd9⟩
      have hx9 := below_hdr hx8 hd9 (by omega) (by omega)
      have z89 := hd9.size
      have g9 := g8.keep ⟨hd9.size, fun i hi hl => hd9.out i (.inr (by omega)) hl⟩
      have a9 := agree_hdr a8 hd9 (Nat.le_refl _)
      have hxn : ¬ x9 < 0 := by omega
      clear g8 a8 hd9 th0' th2' y1' y2' y3' hx8
      go_wp2_with fail
      refine (eqInts_any _ _ _ _ _ _ r _ g9.at (is3.keep a9)).mono ?_
      rintro e w10 ⟨rfl, hb10⟩
      have hx10 := box_next hx9 hb10
      have g10 := g9.keep (agree_of_below hb10 _)
      have a10 := agree_below a9 hb10
      have z910 := hb10.size
      clear g9 a9 hx9 hb10
      go_wp2_with fail
      refine (mark_own (w4.heap.size + 1) _ _ r _ hrl g10).mono ?_
      rintro e w11 ⟨rfl, g11, gg, hgg, ho11⟩
      have hx11 := below_only hx10 ho11 (by omega)
      have a11 := agree_only a10 ho11 (by omega)
      have z1011 := ho11.size
      obtain ⟨p1, p2, p3⟩ := box3 hx11
      have hB11 := below_box hx11
      have hrn : ¬ (1 : Int) + r.length < 0 := by omega
      clear g10 a10 hx10 ho11
      go_wp2_with fail
      refine (heldInts _ _ _ _ 1 _ hrl (by omega) (by omega) g11.at).mono ?_
      rintro e w12 ⟨rfl, rfl⟩
      go_wp2_with fail
      refine (toFunc_any lo d _ _ _ _ _ hs (k0.keep (agree_of_below hB11 lo)) (k2.keep (agree_of_below hB11 lo))).mono ?_
      rintro e w13 ⟨f0, e0, f2, e2, rfl, n0, n2, hb13⟩
      have hx13 := box_next hx11 hb13
      have g13 := g11.keep (agree_of_below hb13 _)
      have a13 := agree_below a11 hb13
      clear p1 p2 p3 g11 a11 hx11 hB11
      go_wp2_with fail
      refine (coloursOfI _ d _ _ _ _ a _ hs n0 n2 (hv.keep (below_box hx13))).mono ?_
      rintro e w14 ⟨v14, rfl, r14, hr14, ho14, hb14⟩
      have e14 : r = r14 := HR.out.one hr14
      subst e14
      clear hr14
      obtain ⟨uh, ch, rfl, h14⟩ := row_own hrl ho14
      have hx14 := box_next hx13 hb14
      have g14 := g13.keep (agree_of_below hb14 _)
      have a14 := agree_below a13 hb14
      clear g13 a13 hx13 ho14 n0 n2 hb13 hb14
      go_wp2_with fail
      refine (eqInts_any _ _ _ _ _ _ r _ h14.at (is3.keep a14)).mono ?_
      rintro e w15 ⟨rfl, hb15⟩
      have hx15 := box_next hx14 hb15
      have g15 := g14.keep (agree_of_below hb15 _)
      clear g14 a14 hx14 h14 hb15
      go_wp2_with fail
      refine (heldInts _ _ _ _ 1 _ hrl (by omega) (by omega) g15.at).mono ?_
      rintro e w16 ⟨rfl, rfl⟩
      go_wp2_with fail
      go_ret
      exact ⟨rfl, below_box hx15⟩
end Go.Proofs.YtolaghondjfhdabGreatDoor
