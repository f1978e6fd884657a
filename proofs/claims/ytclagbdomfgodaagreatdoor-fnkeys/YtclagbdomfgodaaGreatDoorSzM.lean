/- How much a module holds: the contracts of szFuncS and szModule. -/
import Derived.Test.YtclagbdomfgodaaGreatDoorSz
namespace Go.Proofs.YtclagbdomfgodaaGreatDoor
open Go.RowKit


def SmMod (l : List FuncD) : Prop := l.length ≤ 1048576 ∧ ∀ d ∈ l, SmFunc d
theorem szMod_small {l : List FuncD} {x : Int} (hx : x ≤ 1048576) (h : 0 ≤ szS szFunc l x) : SmMod l := by
  obtain ⟨b1, b2⟩ := szS_each szFunc_falls h
  refine ⟨by omega, fun p hp => ?_⟩
  obtain ⟨y, _, y1, y2⟩ := b2 p hp
  exact szFunc_small (by omega) y2
end Go.Proofs.YtclagbdomfgodaaGreatDoor
