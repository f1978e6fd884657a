/- The core of the law FnExactShapeOk. -/
import Derived.Test.YtjaifbignombmaaFmI
import Derived.Test.YtjaifbignombmaaFmK
import Derived.Test.YtjaifbignombmaaToM
import Derived.Test.YtjaifbignombmaaEqM
namespace Go.Proofs.Ytjaifbignombmaa
open Go.RowKit
set_option linter.unusedVariables false

/-- A boxed module. -/
def Box1 (w : World) (B : Nat) (n : Nat) (u : Option Addr) (c : Nat) : Prop := B < w.heap.size ∧ w.cell? ⟨B, 0, none⟩ = some (.slice u n c)
theorem Box1.new (w : World) (n : Nat) (u : Option Addr) (c : Nat) (T : TypeId) : Box1 (w.alloc (.cells #[.slice u n c] T)) w.heap.size n u c :=
  ⟨by simp, (cell_of_heap (heap_alloc_last _ _)).trans rfl⟩
theorem Box1.below {w w' : World} {B n : Nat} {u : Option Addr} {c : Nat} (h : Box1 w B n u c) (k : Below w.heap.size w w') : Box1 w' B n u c := ⟨Nat.lt_of_lt_of_le h.1 k.size, (cell_block (k.block _ h.1)).trans h.2⟩
theorem Box1.alloc {w : World} {B n : Nat} {u : Option Addr} {c : Nat} (h : Box1 w B n u c) (o : Obj) : Box1 (w.alloc o) B n u c := h.below ((Below.refl _ _).alloc (Nat.le_refl _) o)
theorem bel_drew {w w' : World} (h : Below w.drew.heap.size w.drew w') : Below w.heap.size w w' := ⟨h.os, h.tape, h.output, h.size, h.block⟩
set_option maxHeartbeats 4000000 in
theorem fnExactShapeOk_core (lo : Nat) (l : List FuncD) (u : Option Addr) (c : Nat) (w : World) (k : FuncsAt w lo u l) :
    Calls Try.prog 3 #[.agg #[.slice u l.length c]] w fun e w' => e = .returned (.bool true) ∧ Below w.heap.size w w' := by
  have X1 := Box1.new w l.length u c 24
  have B1 : Below w.heap.size w (w.alloc (.cells #[.slice u l.length c] 24)) := (Below.refl _ w).alloc (Nat.le_refl _) _
  go_enter Try.func3, Try.ntmps3
  go_wp2_with fail
  refine (szModule_any lo l u c _ _ (by omega) (by omega) (k.keep (agree_alloc _ _ _))).mono ?_
  rintro e w1 ⟨rfl, hb1⟩
  have Y1 := X1.below hb1
  have C1 := B1.trans (hb1.mono (by simp))
  clear X1 B1 hb1
  have y0 := Y1.2
  rcases szS_falls szFunc_falls l 1048576 with hz | ⟨hz, _⟩
  · have hz2 : szS szFunc l 1048576 < 0 := by omega
    clear hz
    go_wp2_with fail
    go_ret
    exact ⟨rfl, C1⟩
  · have hs := szMod_small (by omega) hz
    have hz3 : ¬ szS szFunc l 1048576 < 0 := by omega
    go_wp2_with fail
    refine (toModule_any lo l u c _ hs (k.keep (agree_of_below C1 lo))).mono ?_
    rintro e w2 ⟨v2, q2, rfl, n2, hb2⟩
    have C2 := C1.trans (hb2.mono C1.size)
    have Y2 := Y1.below hb2
    clear y0
    go_wp2_with fail
    refine (modShS _ l v2 q2 _ hs n2).mono ?_
    rintro e w3 ⟨rfl, hb3⟩
    have C3 := C2.trans (hb3.mono C2.size)
    have Y3 := Y2.below hb3
    clear Y1 Y2 C1 C2 hb2 hb3 n2
    have y0 := Y3.2
    go_wp2_with fail
    refine (toModule_any lo l u c _ hs (k.keep (agree_of_below C3 lo))).mono ?_
    rintro e w4 ⟨v4, q4, rfl, n4, hb4⟩
    have C4 := C3.trans (hb4.mono C3.size)
    have Y4 := Y3.below hb4
    have C4' := C4.alloc C4.size (.cells #[.slice v4 l.length q4] 29)
    have Y4' := Y4.alloc (.cells #[.slice v4 l.length q4] 29)
    have X4' := Box1.new w4 l.length v4 q4 29
    have n4' := n4.keep (agree_alloc _ (.cells #[.slice v4 l.length q4] 29) _)
    clear y0 Y3 Y4 hb4 C3 C4 n4
    go_wp2_with fail
    refine (modShI _ l v4 q4 _ hs n4').mono ?_
    rintro e w5 ⟨rfl, hb5⟩
    have C5 := C4'.trans (hb5.mono C4'.size)
    have Y5 := Y4'.below hb5
    have X5 := X4'.below hb5
    have n45 := n4'.keep (agree_of_below hb5 _)
    have K5 := k.keep (agree_of_below C5 lo)
    have y0 := (Y5.below (Below.refl _ _).drew).2
    have x0 := (X5.below (Below.refl _ _).drew).2
    clear Y4' X4' n4' hb5 C4'
    go_wp2_with fail
    go_region_held2 (fun w' => w'.cell? ⟨w.heap.size, 0, none⟩ = some (.slice u l.length c) ∧ w'.cell? ⟨w4.heap.size, 0, none⟩ = some (.slice v4 l.length q4)) (first | with_reducible exact ⟨y0, x0⟩ | with_reducible exact ⟨p0, r0⟩ | with_reducible exact ⟨g0, h0⟩) (first | (go_at_call 8; refine (toModule_any lo l u c _ hs (by exact K5)).mono ?_; rintro e w7 ⟨v7, q7, rfl, n7, hb7⟩; have hb7 := bel_drew hb7; have p0 := (Y5.below hb7).2; have r0 := (X5.below hb7).2) | (go_at_call 10; refine (eqModule_any _ _ l v4 q4 v7 q7 _ (n45.keep (agree_of_below hb7 _)) n7).mono ?_; rintro e w8 ⟨rfl, hb8⟩; have g0 := ((Y5.below hb7).below hb8).2; have h0 := ((X5.below hb7).below hb8).2))
    all_goals
      have hb58 : Below w5.heap.size w5 w8 := hb7.trans (hb8.mono hb7.size)
      have C8 := C5.trans (hb58.mono C5.size)
      go_wp2_with fail
      go_ret
      exact ⟨rfl, C8⟩
end Go.Proofs.Ytjaifbignombmaa
