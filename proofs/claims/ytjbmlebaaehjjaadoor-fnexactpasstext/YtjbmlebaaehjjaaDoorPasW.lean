/- The core of the law FnExactPassText. -/
import Derived.Test.YtjbmlebaaehjjaaDoorPas3
import Derived.Test.YtjbmlebaaehjjaaDoorEq
namespace Go.Proofs.YtjbmlebaaehjjaaDoor
open Go.RowKit
set_option linter.unusedVariables false

set_option maxHeartbeats 4000000 in
theorem fnExactPassText_core (lo : Nat) (a : Option Addr) (cap : Nat) (l : List Int) (w : World) (hv : IntsAt w lo a l) (hW : WordsAt w) :
    Calls Tryd.prog 5 #[.slice a l.length cap] w fun e w' => e = .returned (.bool true) ∧ Below w.heap.size w w' := by
  have hm := hv.1
  by_cases hl : l.length ≤ 1048576
  · go_enter Tryd.func5, Tryd.ntmps5
    go_wp2_with fail
    refine (toInts_any lo _ _ l _ hl hv).mono ?_
    rintro e w1 ⟨u1, c1, rfl, h1, b1⟩
    go_wp2_with fail
    refine (passTextS _ _ _ l _ h1).mono ?_
    rintro e w2 ⟨rfl, b2⟩
    have B2 := b1.trans (b2.mono b1.size)
    clear h1 b2
    go_wp2_with fail
    refine (toInts_any lo _ _ l _ hl (hv.keep (agree_of_below B2 lo))).mono ?_
    rintro e w3 ⟨u3, c3, rfl, h3, b3⟩
    have B3 := B2.trans (b3.mono B2.size)
    go_wp2_with fail
    refine (passTextI _ _ _ l _ h3 (hW.keep B3)).mono ?_
    rintro e w4 ⟨rfl, b4⟩
    have B4 := B3.trans (b4.mono B3.size)
    have h4 := h3.keep (agree_of_below b4 _)
    clear h3 b3 b4 B2 B3 b1
    generalize textOf l = T
    go_wp2_with fail
    refine (toInts_any lo _ _ l _ hl (hv.keep (agree_of_below B4 lo))).mono ?_
    rintro e w5 ⟨u5, c5, rfl, h5, b5⟩
    have B5 := B4.trans (b5.mono B4.size)
    go_wp2_with fail
    refine (eqInts_any _ _ _ _ _ _ l _ (h4.keep (agree_of_below b5 _)) h5).mono ?_
    rintro e w6 ⟨rfl, b6⟩
    have B6 := B5.trans (b6.mono B5.size)
    clear h4 h5 b5 b6 B4 B5
    go_wp2_with fail
    go_ret
    exact ⟨rfl, B6⟩
  · have hbig : (1048576 : Int) < l.length := by omega
    go_enter Tryd.func5, Tryd.ntmps5
    go_wp2_with fail
    go_ret
    exact ⟨rfl, Below.refl _ _⟩
end Go.Proofs.YtjbmlebaaehjjaaDoor
