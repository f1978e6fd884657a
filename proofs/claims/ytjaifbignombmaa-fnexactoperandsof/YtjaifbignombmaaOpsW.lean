/- The core of the law FnExactOperandsOf. -/
import Derived.Test.YtjaifbignombmaaOps3
import Derived.Test.YtjaifbignombmaaLsn
import Derived.Test.YtjaifbignombmaaEq
namespace Go.Proofs.Ytjaifbignombmaa
open Go.RowKit

theorem own_oi {w : World} {lo : Nat} {a : Option Addr} {l : List Int} (h : OwnAt w lo a l) : OI w lo a l := h
set_option maxHeartbeats 4000000 in
theorem fnExactOperandsOf_core (lo : Nat) (d : InstD) (u : Option Addr) (c : Nat) (w : World) (k : IntsAt w lo u d.args) :
    Calls Try.prog 4 #[.agg #[.int .i64 d.op, .int .i64 d.w, .int .i64 d.a, .int .i64 d.b, .int .i64 d.c, .int .i64 d.imm, .slice u d.args.length c]] w fun e w' => e = .returned (.bool true) ∧ Below w.heap.size w w' := by
  have hk := k.1
  obtain ⟨L, hL, hLl⟩ : ∃ L, opsD d = L ∧ (d.args.length ≤ 1048576 → L.length ≤ 1048576) := ⟨_, rfl, opsD_len d⟩
  have HL : Hid (opsD d = L) := hL
  clear hL
  have X1 := Box7.new w d u c 35
  have B1 : Below w.heap.size w (w.alloc (.cells #[.int .i64 d.op, .int .i64 d.w, .int .i64 d.a, .int .i64 d.b, .int .i64 d.c, .int .i64 d.imm, .slice u d.args.length c] 35)) := (Below.refl _ w).alloc (Nat.le_refl _) _
  go_enter Try.func4, Try.ntmps4
  go_wp2_with fail
  refine (szInst_any lo d u c _ _ (by omega) (by omega) (k.keep (agree_alloc _ _ _))).mono ?_
  rintro e w1 ⟨rfl, hb1⟩
  have Y1 := X1.below hb1
  have C1 := B1.trans (hb1.mono (by simp))
  clear X1 B1 hb1
  obtain ⟨_, y0, y1, y2, y3, y4, y5, y6⟩ := id Y1
  rcases szInst_falls d 1048576 (by omega) with hz | ⟨hz, _⟩
  · have hz2 : szInst d 1048576 < 0 := by omega
    clear hz
    go_wp2_with fail
    go_ret
    exact ⟨rfl, C1⟩
  · have hs : d.args.length ≤ 1048576 := szI_small (by omega) hz
    have hLs := hLl hs
    have hz3 : ¬ szInst d 1048576 < 0 := by omega
    go_wp2_with fail
    refine (toInst_own lo d u c _ hs (k.keep (agree_of_below C1 lo))).mono ?_
    rintro e w2 ⟨v2, q2, rfl, n2, hb2⟩
    have C2 := C1.trans (hb2.mono C1.size)
    have Y2 := Y1.below hb2
    clear y0 y1 y2 y3 y4 y5 y6
    go_wp2_with fail
    refine (operandsS _ d v2 q2 _ hs n2.at).mono ?_
    rw [HL.out]
    rintro e w3 ⟨v3, q3, rfl, n3, hb3⟩
    have n3 := own_oi n3
    have C3 := C2.trans (hb3.mono C2.size)
    have Y3 := Y2.below hb3
    have z03 := C3.size
    have z23 := hb3.size
    have a3 := Agree.refl w2.heap.size w3
    clear Y1 Y2 C1 C2 hb2 hb3 n2
    obtain ⟨_, y0, y1, y2, y3, y4, y5, y6⟩ := id Y3
    go_wp2_with fail
    refine (toInst_own lo d u c _ hs (k.keep (agree_of_below C3 lo))).mono ?_
    rintro e w4 ⟨v4, q4, rfl, n4, hb4⟩
    have C4 := C3.trans (hb4.mono C3.size)
    have Y4 := Y3.below hb4
    have a34 := agree_below a3 hb4
    have s4 := n4.sh
    have z34 : w3.heap.size ≤ w4.heap.size := hb4.size
    have C4' := C4.alloc C4.size (.cells #[.int .i64 d.op, .int .i64 d.w, .int .i64 d.a, .int .i64 d.b, .int .i64 d.c, .int .i64 d.imm, .slice v4 d.args.length q4] 38)
    have Y4' := Y4.alloc (.cells #[.int .i64 d.op, .int .i64 d.w, .int .i64 d.a, .int .i64 d.b, .int .i64 d.c, .int .i64 d.imm, .slice v4 d.args.length q4] 38)
    have X4' := Box7.new w4 d v4 q4 38
    have a34' := a34.trans (agree_alloc _ (.cells #[.int .i64 d.op, .int .i64 d.w, .int .i64 d.a, .int .i64 d.b, .int .i64 d.c, .int .i64 d.imm, .slice v4 d.args.length q4] 38) _)
    have n4' := n4.keep (agree_alloc _ (.cells #[.int .i64 d.op, .int .i64 d.w, .int .i64 d.a, .int .i64 d.b, .int .i64 d.c, .int .i64 d.imm, .slice v4 d.args.length q4] 38) _)
    have s4' := s4.keep (Hdr.alloc _ _ _ (.cells #[.int .i64 d.op, .int .i64 d.w, .int .i64 d.a, .int .i64 d.b, .int .i64 d.c, .int .i64 d.imm, .slice v4 d.args.length q4] 38))
    clear y0 y1 y2 y3 y4 y5 y6 Y3 a3 Y4 a34 hb4 C3 C4 n4 s4
    go_wp2_with fail
    refine (operI _ d v4 q4 _ hs n4'.at).mono ?_
    rw [HL.out]
    rintro e w5 ⟨v5, q5, rfl, n5, hb5⟩
    have n5 : OI w5 (w4.heap.size + 1) v5 L := (own_oi n5).low (by simp)
    have C5 := C4'.trans (hb5.mono C4'.size)
    have Y5 := Y4'.below hb5
    have X5 := X4'.below hb5
    have a35 := agree_below a34' hb5
    have n45 := n4'.keep (agree_of_below hb5 _)
    have s45 := s4'.keep (hdr_below hb5)
    have s5 := n5.sh
    have z45 : w4.heap.size + 1 ≤ w5.heap.size := by have := hb5.size; simpa using this
    clear Y4' X4' a34' n4' s4' hb5 C4'
    go_wp2_with fail
    refine (eqInts_any _ _ _ _ _ _ L _ n5.at (n3.at.keep a35)).mono ?_
    rintro e w6 ⟨rfl, hb6⟩
    have C6 := C5.trans (hb6.mono C5.size)
    have Y6 := Y5.below hb6
    have X6 := X5.below hb6
    have a36 := agree_below a35 hb6
    have n46 := n45.keep (agree_of_below hb6 _)
    have s46 := s45.keep (hdr_below hb6)
    have n56 := n5.keep (agree_of_below hb6 _)
    have s56 := s5.keep2 (agree_of_below hb6 _)
    have z56 := hb6.size
    clear Y5 X5 a35 n45 s45 n5 s5 hb6 C5
    have K6 := k.keep (agree_of_below C6 lo)
    obtain ⟨_, y0, y1, y2, y3, y4, y5, y6⟩ := Y6.below (Below.refl _ _).drew
    obtain ⟨_, x0, x1, x2, x3, x4, x5, x6⟩ := X6.below (Below.refl _ _).drew
    go_wp2_with fail
    go_region_held2 (fun w' => w'.cell? ⟨w.heap.size, 0, none⟩ = some (.int .i64 d.op) ∧ w'.cell? ⟨w.heap.size, 1, none⟩ = some (.int .i64 d.w) ∧ w'.cell? ⟨w.heap.size, 2, none⟩ = some (.int .i64 d.a) ∧ w'.cell? ⟨w.heap.size, 3, none⟩ = some (.int .i64 d.b) ∧ w'.cell? ⟨w.heap.size, 4, none⟩ = some (.int .i64 d.c) ∧ w'.cell? ⟨w.heap.size, 5, none⟩ = some (.int .i64 d.imm) ∧ w'.cell? ⟨w.heap.size, 6, none⟩ = some (.slice u d.args.length c) ∧ w'.cell? ⟨w4.heap.size, 0, none⟩ = some (.int .i64 d.op) ∧ w'.cell? ⟨w4.heap.size, 1, none⟩ = some (.int .i64 d.w) ∧ w'.cell? ⟨w4.heap.size, 2, none⟩ = some (.int .i64 d.a) ∧ w'.cell? ⟨w4.heap.size, 3, none⟩ = some (.int .i64 d.b) ∧ w'.cell? ⟨w4.heap.size, 4, none⟩ = some (.int .i64 d.c) ∧ w'.cell? ⟨w4.heap.size, 5, none⟩ = some (.int .i64 d.imm) ∧ w'.cell? ⟨w4.heap.size, 6, none⟩ = some (.slice v4 d.args.length q4)) (first | with_reducible exact ⟨y0, y1, y2, y3, y4, y5, y6, x0, x1, x2, x3, x4, x5, x6⟩ | with_reducible exact ⟨p0, p1, p2, p3, p4, p5, p6, r0, r1, r2, r3, r4, r5, r6⟩ | with_reducible exact ⟨g0, g1, g2, g3, g4, g5, g6, h0, h1, h2, h3, h4, h5, h6⟩) (first | (go_at_call 13; refine (toInst_own lo d u c _ hs (by exact K6)).mono ?_; rintro e w7 ⟨v7, q7, rfl, n7, hb7⟩; have hb7 := bel_drew hb7; obtain ⟨_, p0, p1, p2, p3, p4, p5, p6⟩ := Y6.below hb7; obtain ⟨_, r0, r1, r2, r3, r4, r5, r6⟩ := X6.below hb7) | (go_at_call 16; refine (eqInst_any _ _ d v4 q4 v7 q7 _ (n46.at.keep (agree_of_below hb7 _)) n7.at).mono ?_; rintro e w8 ⟨rfl, hb8⟩; obtain ⟨_, g0, g1, g2, g3, g4, g5, g6⟩ := (Y6.below hb7).below hb8; obtain ⟨_, h0, h1, h2, h3, h4, h5, h6⟩ := (X6.below hb7).below hb8))
    all_goals
      have hb68 : Below w6.heap.size w6 w8 := hb7.trans (hb8.mono hb7.size)
      have C8 := C6.trans (hb68.mono C6.size)
      have Y8 := Y6.below hb68
      have X8 := X6.below hb68
      have a38 := agree_below a36 hb68
      have s48 := s46.keep (hdr_below hb68)
      have n58 := n56.keep (agree_of_below hb68 _)
      have s58 := s56.keep2 (agree_of_below hb68 _)
      have z68 := hb68.size
      clear y0 y1 y2 y3 y4 y5 y6 x0 x1 x2 x3 x4 x5 x6 p0 p1 p2 p3 p4 p5 p6 r0 r1 r2 r3 r4 r5 r6 g0 g1 g2 g3 g4 g5 g6 h0 h1 h2 h3 h4 h5 h6 hb7 hb8 hb68 Y6 X6 a36 n46 s46 n56 s56 C6 K6 n7
      obtain ⟨_, x0, x1, x2, x3, x4, x5, x6⟩ := id X8
      go_wp2_with fail
      refine (markInst1 w3.heap.size w4.heap.size d v4 q4 _ hs s48).mono ?_
      rintro e w9 ⟨rfl, hd9⟩
      have C9 := below_hdr C8 hd9 (by omega) C8.size
      have hn1 : ¬ (1 : Int) + d.args.length < 0 := by omega
      have Y9 := Y8.keep hd9.size (hd9.out _ (.inl (by omega)) Y8.1)
      have a39 := agree_hdr a38 hd9 (by omega)
      have a89 : Agree (w4.heap.size + 1) w8 w9 := ⟨hd9.size, fun i hi hl => hd9.out i (.inr (by omega)) hl⟩
      have n59 := n58.keep a89
      have s59 := s58.keep2 a89
      have z89 := hd9.size
      clear x0 x1 x2 x3 x4 x5 x6 Y8 X8 a38 s48 n58 s58 C8 hd9 a89
      go_wp2_with fail
      refine (eqInts_any _ _ _ _ _ _ L _ n59.at (n3.at.keep a39)).mono ?_
      rintro e w10 ⟨rfl, hb10⟩
      have C10 := C9.trans (hb10.mono C9.size)
      have Y10 := Y9.below hb10
      have a310 := agree_below a39 hb10
      have s510 := s59.keep2 (agree_of_below hb10 _)
      have z910 := hb10.size
      clear Y9 a39 n59 s59 C9 hb10
      go_wp2_with fail
      refine (mark_both (w4.heap.size + 1) w5.heap.size v5 q5 L _ hLs s510).mono ?_
      rintro e w11 ⟨rfl, n11, hd11⟩
      have C11 := below_hdr C10 hd11 (by omega) C10.size
      have Y11 := Y10.keep hd11.size (hd11.out _ (.inl (by omega)) Y10.1)
      have a311 := agree_hdr a310 hd11 (by omega)
      have hn2 : ¬ (1 : Int) + L.length < 0 := by omega
      clear Y10 a310 s510 C10 hd11
      go_wp2_with fail
      refine (heldInts _ v5 q5 L.length 1 _ hLs (by omega) (by omega) n11.at).mono ?_
      rintro e w12 ⟨rfl, rfl⟩
      obtain ⟨_, y0, y1, y2, y3, y4, y5, y6⟩ := id Y11
      go_wp2_with fail
      refine (toInst_own lo d u c _ hs (k.keep (agree_of_below C11 lo))).mono ?_
      rintro e w13 ⟨v13, q13, rfl, n13, hb13⟩
      have C13 := C11.trans (hb13.mono C11.size)
      have a313 := agree_below a311 hb13
      have n113 := n11.keep (agree_of_below hb13 _)
      clear y0 y1 y2 y3 y4 y5 y6 Y11 a311 n11 C11 hb13
      go_wp2_with fail
      refine (operI _ d v13 q13 _ hs n13.at).mono ?_
      rw [HL.out]
      rintro e w14 ⟨v14, q14, rfl, n14, hb14⟩
      have n14 := own_oi n14
      have C14 := C13.trans (hb14.mono C13.size)
      have a314 := agree_below a313 hb14
      have n114 := n113.keep (agree_of_below hb14 _)
      clear a313 n13 n113 C13 hb14
      go_wp2_with fail
      refine (eqInts_any _ _ _ _ _ _ L _ n14.at (n3.at.keep a314)).mono ?_
      rintro e w15 ⟨rfl, hb15⟩
      have C15 := C14.trans (hb15.mono C14.size)
      have n115 := n114.keep (agree_of_below hb15 _)
      clear a314 n14 n114 C14 hb15
      go_wp2_with fail
      refine (heldInts _ v5 q5 L.length 1 _ hLs (by omega) (by omega) n115.at).mono ?_
      rintro e w16 ⟨rfl, rfl⟩
      go_wp2_with fail
      go_ret
      exact ⟨rfl, C15⟩
end Go.Proofs.Ytjaifbignombmaa
