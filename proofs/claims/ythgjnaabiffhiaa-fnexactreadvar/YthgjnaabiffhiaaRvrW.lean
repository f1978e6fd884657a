/- The core of the law FnExactReadVar. -/
import Derived.Test.YthgjnaabiffhiaaRvr
import Derived.Test.YthgjnaabiffhiaaRvi
namespace Go.Proofs.Ythgjnaabiffhiaa
open Go.RowKit

set_option maxHeartbeats 1000000 in
theorem fnExactReadVar_core (s : ByteArray) (a : Int) (w : World) :
    Calls Try.prog 6 #[.string s, .int .i64 a] w fun e w' => e = .returned (.bool true) ∧ Below w.heap.size w w' := by
  by_cases hs : s.size ≤ 1048576
  · go_enter Try.func6, Try.ntmps6
    go_wp2_with (first | (go_at_call 12; refine (readI _ _ hs _).mono ?_; rintro e w1 ⟨rfl, rfl⟩) | (go_at_call 13; refine (readS _ _ hs _).mono ?_; rintro e w1 ⟨rfl, rfl⟩))
    go_ret
    exact ⟨by rfl, Below.refl _ _⟩
  · go_enter Try.func6, Try.ntmps6
    go_wp2_with fail
    go_ret
    exact ⟨rfl, Below.refl _ _⟩
end Go.Proofs.Ythgjnaabiffhiaa
