/- The core of the law FnExactCrc. -/
import Derived.Test.YthgjnaabiffhiaaCrc
namespace Go.Proofs.Ythgjnaabiffhiaa
open Go.RowKit

set_option maxHeartbeats 1000000 in
theorem fnExactCrc_core (s : ByteArray) (w : World) :
    Calls Try.prog 7 #[.string s] w fun e w' => e = .returned (.bool true) ∧ Below w.heap.size w w' := by
  by_cases hs : s.size ≤ 1048576
  · go_enter Try.func7, Try.ntmps7
    go_wp2_with (first | (go_at_call 16; refine (crcI _ hs _).mono ?_; rintro e w1 ⟨rfl, rfl⟩) | (go_at_call 17; refine (crcS _ hs _).mono ?_; rintro e w1 ⟨rfl, rfl⟩))
    go_ret
    exact ⟨by rfl, Below.refl _ _⟩
  · go_enter Try.func7, Try.ntmps7
    go_wp2_with fail
    go_ret
    exact ⟨rfl, Below.refl _ _⟩
end Go.Proofs.Ythgjnaabiffhiaa
