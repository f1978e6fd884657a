/- The contracts of the comparing functions, where both sides hold the same: they say so. -/
import Derived.Test.YtclagbdomfgodaaGreatDoorTo1
import Derived.Deep.QuietTactic
import Derived.BigQuiet
import Derived.Deep.RegionWith
import Derived.WalkSmall
namespace Go.Proofs.YtclagbdomfgodaaGreatDoor
open Go.RowKit

end Go.Proofs.YtclagbdomfgodaaGreatDoor
