/- The text of an instruction: the model's InstText; the core of the law FnExactInstText. -/
import Derived.Test.YtjmoonbpfieifaaGreatDoorTxL
import Derived.Test.YtjmoonbpfieifaaGreatDoorSz
import Derived.Test.YtjmoonbpfieifaaGreatDoorTo2
import Derived.Test.YtjmoonbpfieifaaGreatDoorEq
namespace Go.Proofs.YtjmoonbpfieifaaGreatDoor
open Go.RowKit
set_option linter.unusedVariables false

set_option maxHeartbeats 4000000 in
theorem instTextS (lo : Nat) (d : InstD) (u : Option Addr) (q : Nat) (w : World) (hm : d.args.length ≤ 1048576) (hk : IntsAt w lo u d.args) :
    Calls Tryz.prog 9 #[.agg #[.int .i64 d.op, .int .i64 d.w, .int .i64 d.a, .int .i64 d.b, .int .i64 d.c, .int .i64 d.imm, .slice u d.args.length q]] w fun e w' => e = .returned (.string (instText d)) ∧ Below w.heap.size w w' := by
  have B0 : IBox d u q w _ := IBox.start (T := 26)
  go_enter Tryz.func9, Tryz.ntmps9
  go_wp2_with fail
  generalize (w.alloc (.cells #[.int .i64 d.op, .int .i64 d.w, .int .i64 d.a, .int .i64 d.b, .int .i64 d.c, .int .i64 d.imm, .slice u d.args.length q] 26)) = W at B0 ⊢
  refine (formS lo d u q W hm (hk.keep (agree_of_below B0.below lo))).mono ?_
  rintro e w1 ⟨rfl, b1⟩
  have I1 := B0.keep (b1.mono B0.size)
  obtain ⟨y0, y1, y2, y3, y4, y5, y6, _, _⟩ := id I1
  cases hok : instB d 60 3 with
  | false =>
    have E : Hid (instText d = ⟨#[]⟩) := by show _ = _; unfold instText; rw [hok]; rfl
    go_wp2_with fail
    go_ret
    exact ⟨by rw [E.out]; rfl, I1.below⟩
  | true =>
    have hF := instB_inF hok
    have E : Hid (instText d = instTx d) := by show _ = _; unfold instText; rw [if_pos hok]
    have LI := l5instS lo d u q w1 hF (hk.keep (agree_of_below I1.below lo))
    clear hok
    rw [← E.out] at LI
    clear E
    generalize hY : instText d = Y at LI
    have HY : Hid (instText d = Y) := hY
    clear hY
    go_wp2_with fail
    refine LI.mono ?_
    rintro e w3 ⟨rfl, b3⟩
    have I3 := I1.keep (b3.mono I1.size)
    go_wp2_with fail
    go_ret
    exact ⟨by rw [HY.out]; rfl, I3.below⟩
end Go.Proofs.YtjmoonbpfieifaaGreatDoor
