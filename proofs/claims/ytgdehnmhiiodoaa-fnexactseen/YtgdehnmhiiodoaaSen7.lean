/- The core of the law FnExactSeen. -/
import Derived.Test.YtgdehnmhiiodoaaSen6
import Derived.Test.YtgdehnmhiiodoaaSen1
import Derived.Test.YtgdehnmhiiodoaaSen2
namespace Go.Proofs.Ytgdehnmhiiodoaa
open Go.RowKit

theorem seenI (lo : Nat) (d : ResD) (u : Option Addr) (c : Nat) (w : World) (hs : d.out.length ≤ 1048576) (hm : d.mem.size ≤ 1048576) (k : IntsAt w lo u d.out) :
    Calls Try.prog 7 #[resV d u c] w fun e w' => ∃ v q, e = .returned (resV (seenD d) v q) ∧ OI w' w.heap.size v d.out ∧ Below w.heap.size w w' := by
  by_cases hp : 0 < d.out.length
  · exact seenI_some lo d u c w hs hm hp k
  · obtain ⟨code, value, out, mem, steps⟩ := d
    have hz : out = [] := List.length_eq_zero_iff.1 (by simpa using hp)
    subst hz
    exact seenI_none code value steps mem u c w hm
theorem bel_drew {w w' : World} (h : Below w.drew.heap.size w.drew w') : Below w.heap.size w w' := ⟨h.os, h.tape, h.output, h.size, h.block⟩
theorem SI.keep2 {w w' : World} {lo hi : Nat} {a : Option Addr} {n : Nat} (h : SI w lo hi a n) (k : Agree lo w w') : SI w' lo hi a n := by
  rcases h with h | ⟨g, cur, ha, hl, hh, hb, hc⟩
  · exact .inl h
  · exact .inr ⟨g, cur, ha, hl, hh, (k.2 g hl (Array.getElem?_eq_some_iff.1 hb).1).trans hb, hc⟩
/-- A boxed result. -/
def Box5 (w : World) (B : Nat) (d : ResD) (u : Option Addr) (c : Nat) : Prop :=
  B < w.heap.size ∧ w.cell? ⟨B, 0, none⟩ = some (.int .i64 d.code) ∧ w.cell? ⟨B, 1, none⟩ = some (.int .i64 d.value) ∧ w.cell? ⟨B, 2, none⟩ = some (.slice u d.out.length c) ∧ w.cell? ⟨B, 3, none⟩ = some (.string d.mem) ∧ w.cell? ⟨B, 4, none⟩ = some (.int .i64 d.steps)
theorem Box5.new (w : World) (d : ResD) (u : Option Addr) (c : Nat) (T : TypeId) : Box5 (w.alloc (.cells #[.int .i64 d.code, .int .i64 d.value, .slice u d.out.length c, .string d.mem, .int .i64 d.steps] T)) w.heap.size d u c := by
  have hb := heap_alloc_last w (.cells #[.int .i64 d.code, .int .i64 d.value, .slice u d.out.length c, .string d.mem, .int .i64 d.steps] T)
  exact ⟨by simp, (cell_of_heap hb).trans rfl, (cell_of_heap hb).trans rfl, (cell_of_heap hb).trans rfl, (cell_of_heap hb).trans rfl, (cell_of_heap hb).trans rfl⟩
theorem Box5.keep {w w' : World} {B : Nat} {d : ResD} {u : Option Addr} {c : Nat} (h : Box5 w B d u c) (hz : w.heap.size ≤ w'.heap.size) (k : w'.heap[B]? = w.heap[B]?) : Box5 w' B d u c :=
  ⟨Nat.lt_of_lt_of_le h.1 hz, (cell_block k).trans h.2.1, (cell_block k).trans h.2.2.1, (cell_block k).trans h.2.2.2.1, (cell_block k).trans h.2.2.2.2.1, (cell_block k).trans h.2.2.2.2.2⟩
theorem Box5.below {w w' : World} {B : Nat} {d : ResD} {u : Option Addr} {c : Nat} (h : Box5 w B d u c) (k : Below w.heap.size w w') : Box5 w' B d u c := h.keep k.size (k.block _ h.1)
theorem Box5.alloc {w : World} {B : Nat} {d : ResD} {u : Option Addr} {c : Nat} (h : Box5 w B d u c) (o : Obj) : Box5 (w.alloc o) B d u c := h.keep (by simp) (Below.heap_alloc w o B h.1)

set_option maxHeartbeats 2000000 in
theorem fnExactSeen_core (lo : Nat) (d : ResD) (u : Option Addr) (c : Nat) (w : World) (k : IntsAt w lo u d.out) (hmm : d.mem.size ≤ 9223372036854775807) :
    Calls Try.prog 3 #[resV d u c] w fun e w' => e = .returned (.bool true) ∧ Below w.heap.size w w' := by
  have hk := k.1
  have X1 := Box5.new w d u c 24
  have B1 : Below w.heap.size w (w.alloc (.cells #[.int .i64 d.code, .int .i64 d.value, .slice u d.out.length c, .string d.mem, .int .i64 d.steps] 24)) := (Below.refl _ w).alloc (Nat.le_refl _) _
  rw [resV]
  go_enter Try.func3, Try.ntmps3
  go_wp2_with fail
  refine (szRes_any d u c _ _ (by omega) (by omega) hk hmm).mono ?_
  rintro e w1 ⟨rfl, hb1⟩
  have Y1 := X1.below hb1
  have C1 := B1.trans (hb1.mono (by simp))
  clear X1 B1 hb1
  obtain ⟨_, y0, y1, y2, y3, y4⟩ := id Y1
  rcases szRes_falls d 1048576 with hz | ⟨hz, _⟩
  · have hz2 : szRes d 1048576 < 0 := by omega
    clear hz
    go_wp2_with fail
    go_ret
    exact ⟨rfl, C1⟩
  · obtain ⟨hs, hm⟩ := szRes_small (by omega) (by omega) hz
    have hz3 : ¬ szRes d 1048576 < 0 := by omega
    go_wp2_with fail
    refine (toRes_own lo d u c _ hs (k.keep (agree_of_below C1 lo))).mono ?_
    rintro e w2 ⟨v2, q2, rfl, n2, hb2⟩
    have C2 := C1.trans (hb2.mono C1.size)
    have Y2 := Y1.below hb2
    unfold resV
    clear y0 y1 y2 y3 y4
    go_wp2_with fail
    refine (seenS _ d v2 q2 _ hs n2.at).mono ?_
    rintro e w3 ⟨v3, q3, rfl, n3, hb3⟩
    have C3 := C2.trans (hb3.mono C2.size)
    have Y3 := Y2.below hb3
    unfold resV seenD
    have C3' := C3.alloc C3.size (.cells #[.int .i64 d.code, .int .i64 d.value, .slice v3 d.out.length q3, .string d.mem, .int .i64 0] 26)
    have Y3' := Y3.alloc (.cells #[.int .i64 d.code, .int .i64 d.value, .slice v3 d.out.length q3, .string d.mem, .int .i64 0] 26)
    have Z3' := Box5.new w3 (seenD d) v3 q3 26
    have z03 := C3.size
    have z23 := hb3.size
    have a3' := agree_alloc w3 (.cells #[.int .i64 d.code, .int .i64 d.value, .slice v3 d.out.length q3, .string d.mem, .int .i64 0] 26) w2.heap.size
    obtain ⟨_, y0, y1, y2, y3, y4⟩ := id Y3'
    clear Y1 Y2 Y3 C1 C2 hb2 hb3 n2
    go_wp2_with fail
    refine (toRes_own lo d u c _ hs (k.keep (agree_of_below C3' lo))).mono ?_
    rintro e w4 ⟨v4, q4, rfl, n4, hb4⟩
    have C4 := C3'.trans (hb4.mono C3'.size)
    have Y4 := Y3'.below hb4
    have Z4 := Z3'.below hb4
    have a34 := agree_below a3' hb4
    have n4 : OI w4 (w3.heap.size + 1) v4 d.out := n4.low (by simp)
    have s4 := n4.sh
    have C4' := C4.alloc C4.size (.cells #[.int .i64 d.code, .int .i64 d.value, .slice v4 d.out.length q4, .string d.mem, .int .i64 d.steps] 26)
    have Y4' := Y4.alloc (.cells #[.int .i64 d.code, .int .i64 d.value, .slice v4 d.out.length q4, .string d.mem, .int .i64 d.steps] 26)
    have Z4' := Z4.alloc (.cells #[.int .i64 d.code, .int .i64 d.value, .slice v4 d.out.length q4, .string d.mem, .int .i64 d.steps] 26)
    have X4' := Box5.new w4 d v4 q4 26
    have a34' := a34.trans (agree_alloc _ (.cells #[.int .i64 d.code, .int .i64 d.value, .slice v4 d.out.length q4, .string d.mem, .int .i64 d.steps] 26) _)
    have n4' := n4.keep (agree_alloc _ (.cells #[.int .i64 d.code, .int .i64 d.value, .slice v4 d.out.length q4, .string d.mem, .int .i64 d.steps] 26) _)
    have s4' := s4.keep (Hdr.alloc _ _ _ (.cells #[.int .i64 d.code, .int .i64 d.value, .slice v4 d.out.length q4, .string d.mem, .int .i64 d.steps] 26))
    have z34 : w3.heap.size + 1 ≤ w4.heap.size := by have := hb4.size; simpa using this
    unfold resV
    clear y0 y1 y2 y3 y4 Y3' Z3' a3' Y4 Z4 a34 hb4 C3 C3' C4 n4 s4
    go_wp2_with fail
    refine (seenI _ d v4 q4 _ hs hm n4'.at).mono ?_
    rintro e w5 ⟨v5, q5, rfl, n5, hb5⟩
    have C5 := C4'.trans (hb5.mono C4'.size)
    have Y5 := Y4'.below hb5
    have Z5 := Z4'.below hb5
    have X5 := X4'.below hb5
    have a35 := agree_below a34' hb5
    have n45 := n4'.keep (agree_of_below hb5 _)
    have s45 := s4'.keep (hdr_below hb5)
    have n5 : OI w5 (w4.heap.size + 1) v5 d.out := n5.low (by simp)
    have s5 := n5.sh
    have z45 : w4.heap.size + 1 ≤ w5.heap.size := by have := hb5.size; simpa using this
    have C5' := C5.alloc C5.size (.cells #[.int .i64 d.code, .int .i64 d.value, .slice v5 d.out.length q5, .string d.mem, .int .i64 0] 26)
    have Y5' := Y5.alloc (.cells #[.int .i64 d.code, .int .i64 d.value, .slice v5 d.out.length q5, .string d.mem, .int .i64 0] 26)
    have Z5' := Z5.alloc (.cells #[.int .i64 d.code, .int .i64 d.value, .slice v5 d.out.length q5, .string d.mem, .int .i64 0] 26)
    have X5' := X5.alloc (.cells #[.int .i64 d.code, .int .i64 d.value, .slice v5 d.out.length q5, .string d.mem, .int .i64 0] 26)
    have G5' := Box5.new w5 (seenD d) v5 q5 26
    have a35' := a35.trans (agree_alloc _ (.cells #[.int .i64 d.code, .int .i64 d.value, .slice v5 d.out.length q5, .string d.mem, .int .i64 0] 26) _)
    have n45' := n45.keep (agree_alloc _ (.cells #[.int .i64 d.code, .int .i64 d.value, .slice v5 d.out.length q5, .string d.mem, .int .i64 0] 26) _)
    have s45' := s45.keep (Hdr.alloc _ _ _ (.cells #[.int .i64 d.code, .int .i64 d.value, .slice v5 d.out.length q5, .string d.mem, .int .i64 0] 26))
    have n5' := n5.keep (agree_alloc _ (.cells #[.int .i64 d.code, .int .i64 d.value, .slice v5 d.out.length q5, .string d.mem, .int .i64 0] 26) _)
    have s5' := s5.keep (Hdr.alloc _ _ _ (.cells #[.int .i64 d.code, .int .i64 d.value, .slice v5 d.out.length q5, .string d.mem, .int .i64 0] 26))
    unfold resV seenD
    clear Y4' Z4' X4' a34' n4' s4' Y5 Z5 X5 a35 n45 s45 n5 s5 hb5 C4' C5
    obtain ⟨_, y0, y1, y2, y3, y4⟩ := id Z5'
    go_wp2_with fail
    refine (eqRes _ _ (seenD d) v5 q5 v3 q3 _ n5'.at (n3.at.keep a35')).mono ?_
    rintro e w6 ⟨rfl, hb6⟩
    have C6 := C5'.trans (hb6.mono C5'.size)
    have Y6 := Y5'.below hb6
    have Z6 := Z5'.below hb6
    have X6 := X5'.below hb6
    have G6 := G5'.below hb6
    have a36 := agree_below a35' hb6
    have n46 := n45'.keep (agree_of_below hb6 _)
    have s46 := s45'.keep (hdr_below hb6)
    have n56 := n5'.keep (agree_of_below hb6 _)
    have s56 := s5'.keep (hdr_below hb6)
    have z56 : w5.heap.size + 1 ≤ w6.heap.size := by have := hb6.size; simpa using this
    clear y0 y1 y2 y3 y4 Y5' Z5' X5' G5' a35' n45' s45' n5' s5' C5' hb6
    have K6 := k.keep (agree_of_below C6 lo)
    obtain ⟨_, y0, y1, y2, y3, y4⟩ := Y6.below (Below.refl _ _).drew
    obtain ⟨_, x0, x1, x2, x3, x4⟩ := X6.below (Below.refl _ _).drew
    go_wp2_with fail
    go_region_held2 (fun w' => w'.cell? ⟨w.heap.size, 0, none⟩ = some (.int .i64 d.code) ∧ w'.cell? ⟨w.heap.size, 1, none⟩ = some (.int .i64 d.value) ∧ w'.cell? ⟨w.heap.size, 2, none⟩ = some (.slice u d.out.length c) ∧ w'.cell? ⟨w.heap.size, 3, none⟩ = some (.string d.mem) ∧ w'.cell? ⟨w.heap.size, 4, none⟩ = some (.int .i64 d.steps) ∧ w'.cell? ⟨w4.heap.size, 0, none⟩ = some (.int .i64 d.code) ∧ w'.cell? ⟨w4.heap.size, 1, none⟩ = some (.int .i64 d.value) ∧ w'.cell? ⟨w4.heap.size, 2, none⟩ = some (.slice v4 d.out.length q4) ∧ w'.cell? ⟨w4.heap.size, 3, none⟩ = some (.string d.mem) ∧ w'.cell? ⟨w4.heap.size, 4, none⟩ = some (.int .i64 d.steps)) (first | with_reducible exact ⟨y0, y1, y2, y3, y4, x0, x1, x2, x3, x4⟩ | with_reducible exact ⟨p0, p1, p2, p3, p4, r0, r1, r2, r3, r4⟩ | with_reducible exact ⟨g0, g1, g2, g3, g4, h0, h1, h2, h3, h4⟩) (first | (go_at_call 6; refine (toRes_own lo d u c _ hs (by exact K6)).mono ?_; rintro e w7 ⟨v7, q7, rfl, n7, hb7⟩; have hb7 := bel_drew hb7; obtain ⟨_, p0, p1, p2, p3, p4⟩ := Y6.below hb7; obtain ⟨_, r0, r1, r2, r3, r4⟩ := X6.below hb7; unfold resV) | (go_at_call 8; refine (eqRes _ _ d v4 q4 v7 q7 _ (n46.at.keep (agree_of_below hb7 _)) n7.at).mono ?_; rintro e w8 ⟨rfl, hb8⟩; obtain ⟨_, g0, g1, g2, g3, g4⟩ := (Y6.below hb7).below hb8; obtain ⟨_, h0, h1, h2, h3, h4⟩ := (X6.below hb7).below hb8))
    all_goals
      have hb68 : Below w6.heap.size w6 w8 := hb7.trans (hb8.mono hb7.size)
      have C8 := C6.trans (hb68.mono C6.size)
      have Y8 := Y6.below hb68
      have Z8 := Z6.below hb68
      have X8 := X6.below hb68
      have G8 := G6.below hb68
      have a38 := agree_below a36 hb68
      have n48 := n46.keep (agree_of_below hb68 _)
      have s48 := s46.keep (hdr_below hb68)
      have n58 := n56.keep (agree_of_below hb68 _)
      have s58 := s56.keep (hdr_below hb68)
      have z68 := hb68.size
      clear y0 y1 y2 y3 y4 x0 x1 x2 x3 x4 p0 p1 p2 p3 p4 r0 r1 r2 r3 r4 g0 g1 g2 g3 g4 h0 h1 h2 h3 h4 hb7 hb8 hb68 Y6 Z6 X6 G6 a36 n46 s46 n56 s56 C6 K6 n7
      obtain ⟨_, x0, x1, x2, x3, x4⟩ := id X8
      go_wp2_with fail
      refine (markRes (w3.heap.size + 1) w4.heap.size d v4 q4 _ hs n48 s48).mono ?_
      rintro e w9 ⟨rfl, _, hd9⟩
      have C9 := below_hdr C8 hd9 (by omega) C8.size
      have hn1 : ¬ (1 : Int) + d.out.length < 0 := by omega
      have Y9 := Y8.keep hd9.size (hd9.out _ (.inl (by omega)) Y8.1)
      have Z9 := Z8.keep hd9.size (hd9.out _ (.inl (by omega)) Z8.1)
      have G9 := G8.keep hd9.size (hd9.out _ (.inr (by omega)) G8.1)
      have a39 := agree_hdr a38 hd9 (by omega)
      have a89 : Agree (w4.heap.size + 1) w8 w9 := ⟨hd9.size, fun i hi hl => hd9.out i (.inr (by omega)) hl⟩
      have n59 := n58.keep a89
      have s59 := s58.keep2 a89
      have z89 := hd9.size
      clear x0 x1 x2 x3 x4 Y8 Z8 X8 G8 a38 n48 s48 n58 s58 C8 hd9 a89
      obtain ⟨_, x0, x1, x2, x3, x4⟩ := id Z9
      obtain ⟨_, y0, y1, y2, y3, y4⟩ := id G9
      go_wp2_with fail
      refine (eqRes _ _ (seenD d) v5 q5 v3 q3 _ n59.at (n3.at.keep a39)).mono ?_
      rintro e w10 ⟨rfl, hb10⟩
      have C10 := C9.trans (hb10.mono C9.size)
      have Y10 := Y9.below hb10
      have Z10 := Z9.below hb10
      have G10 := G9.below hb10
      have a310 := agree_below a39 hb10
      have n510 := n59.keep (agree_of_below hb10 _)
      have s510 := s59.keep2 (agree_of_below hb10 _)
      have z910 := hb10.size
      clear x0 x1 x2 x3 x4 y0 y1 y2 y3 y4 Y9 Z9 G9 a39 n59 s59 C9 hb10
      obtain ⟨_, y0, y1, y2, y3, y4⟩ := id G10
      dsimp only [seenD] at y0 y1 y2 y3 y4
      go_wp2_with fail
      refine (markRes (w4.heap.size + 1) w5.heap.size (seenD d) v5 q5 _ hs n510 s510).mono ?_
      rintro e w11 ⟨rfl, n11, hd11⟩
      rw [show (seenD d).out.length = d.out.length from rfl]
      have C11 := below_hdr C10 hd11 (by omega) C10.size
      have Y11 := Y10.keep hd11.size (hd11.out _ (.inl (by omega)) Y10.1)
      have Z11 := Z10.keep hd11.size (hd11.out _ (.inl (by omega)) Z10.1)
      have G11 := G10.keep hd11.size (hd11.out _ (.inr (by omega)) G10.1)
      have a311 := agree_hdr a310 hd11 (by omega)
      have z1011 := hd11.size
      clear y0 y1 y2 y3 y4 Y10 Z10 G10 a310 n510 s510 C10 hd11
      obtain ⟨_, y0, y1, y2, y3, y4⟩ := id G11
      dsimp only [seenD] at y0 y1 y2 y3 y4
      go_wp2_with fail
      refine (heldRes _ (seenD d) v5 q5 _ hs n11.at).mono ?_
      rintro e w12 ⟨rfl, hb12⟩
      rw [show (seenD d).out.length = d.out.length from rfl]
      have C12 := C11.trans (hb12.mono C11.size)
      have Y12 := Y11.below hb12
      have Z12 := Z11.below hb12
      have G12 := G11.below hb12
      have a312 := agree_below a311 hb12
      have n12 := n11.keep (agree_of_below hb12 _)
      clear y0 y1 y2 y3 y4 Y11 Z11 G11 a311 n11 C11 hb12
      obtain ⟨_, y0, y1, y2, y3, y4⟩ := id Y12
      go_wp2_with fail
      refine (toRes_own lo d u c _ hs (k.keep (agree_of_below C12 lo))).mono ?_
      rintro e w13 ⟨v13, q13, rfl, n13, hb13⟩
      have C13 := C12.trans (hb13.mono C12.size)
      have Z13 := Z12.below hb13
      have G13 := G12.below hb13
      have a313 := agree_below a312 hb13
      have n113 := n12.keep (agree_of_below hb13 _)
      clear y0 y1 y2 y3 y4 Y12 Z12 G12 a312 n12 C12 hb13
      unfold resV
      go_wp2_with fail
      refine (seenI _ d v13 q13 _ hs hm n13.at).mono ?_
      rintro e w14 ⟨v14, q14, rfl, n14, hb14⟩
      have C14 := C13.trans (hb14.mono C13.size)
      have Z14 := Z13.below hb14
      have G14 := G13.below hb14
      have a314 := agree_below a313 hb14
      have n114 := n113.keep (agree_of_below hb14 _)
      clear Z13 G13 a313 n13 n113 C13 hb14
      unfold resV seenD
      have C14' := C14.alloc C14.size (.cells #[.int .i64 d.code, .int .i64 d.value, .slice v14 d.out.length q14, .string d.mem, .int .i64 0] 26)
      have Z14' := Z14.alloc (.cells #[.int .i64 d.code, .int .i64 d.value, .slice v14 d.out.length q14, .string d.mem, .int .i64 0] 26)
      have G14' := G14.alloc (.cells #[.int .i64 d.code, .int .i64 d.value, .slice v14 d.out.length q14, .string d.mem, .int .i64 0] 26)
      have a314' := a314.trans (agree_alloc _ (.cells #[.int .i64 d.code, .int .i64 d.value, .slice v14 d.out.length q14, .string d.mem, .int .i64 0] 26) _)
      have n114' := n114.keep (agree_alloc _ (.cells #[.int .i64 d.code, .int .i64 d.value, .slice v14 d.out.length q14, .string d.mem, .int .i64 0] 26) _)
      have n14' := n14.keep (agree_alloc _ (.cells #[.int .i64 d.code, .int .i64 d.value, .slice v14 d.out.length q14, .string d.mem, .int .i64 0] 26) _)
      clear Z14 G14 a314 n14 n114 C14
      obtain ⟨_, x0, x1, x2, x3, x4⟩ := id Z14'
      dsimp only [seenD] at x0 x1 x2 x3 x4
      go_wp2_with fail
      refine (eqRes _ _ (seenD d) v14 q14 v3 q3 _ n14'.at (n3.at.keep a314')).mono ?_
      rintro e w15 ⟨rfl, hb15⟩
      have C15 := C14'.trans (hb15.mono C14'.size)
      have G15 := G14'.below hb15
      have n115 := n114'.keep (agree_of_below hb15 _)
      clear x0 x1 x2 x3 x4 Z14' G14' a314' n14' n114' C14' hb15
      obtain ⟨_, y0, y1, y2, y3, y4⟩ := id G15
      dsimp only [seenD] at y0 y1 y2 y3 y4
      go_wp2_with fail
      refine (heldRes _ (seenD d) v5 q5 _ hs n115.at).mono ?_
      rintro e w16 ⟨rfl, hb16⟩
      rw [show (seenD d).out.length = d.out.length from rfl]
      have C16 := C15.trans (hb16.mono C15.size)
      go_wp2_with fail
      go_ret
      exact ⟨rfl, C16⟩
end Go.Proofs.Ytgdehnmhiiodoaa
