/- The core of the law FnExactVarOf. -/
import Derived.Test.YthgjnaabiffhiaaVof
import Derived.Test.YthgjnaabiffhiaaVoi
namespace Go.Proofs.Ythgjnaabiffhiaa
open Go.RowKit

set_option maxHeartbeats 1000000 in
theorem fnExactVarOf_core (a : Int) (w : World) :
    Calls Try.prog 5 #[.int .i64 a] w fun e w' => e = .returned (.bool true) ∧ Below w.heap.size w w' := by
  go_enter Try.func5, Try.ntmps5
  go_wp2_with (first | (go_at_call 10; refine (varI _ _).mono ?_; rintro e w2 ⟨rfl, hb2⟩; replace hb1 := hb1.trans (hb2.mono hb1.size); clear hb2) | (go_at_call 14; refine (varS _ _).mono ?_; rintro e w1 ⟨rfl, hb1⟩))
  go_ret
  exact ⟨by rfl, hb1⟩
end Go.Proofs.Ythgjnaabiffhiaa
