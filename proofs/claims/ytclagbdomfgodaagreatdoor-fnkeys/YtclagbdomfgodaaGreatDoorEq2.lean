/- The contracts of the comparing functions of blocks and functions, where both sides hold the same. -/
import Derived.Test.YtclagbdomfgodaaGreatDoorEq
namespace Go.Proofs.YtclagbdomfgodaaGreatDoor
open Go.RowKit

end Go.Proofs.YtclagbdomfgodaaGreatDoor
