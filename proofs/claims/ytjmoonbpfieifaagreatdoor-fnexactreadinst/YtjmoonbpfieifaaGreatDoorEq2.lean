/- The contracts of the comparing functions of blocks and functions, where both sides hold the same. -/
import Derived.Test.YtjmoonbpfieifaaGreatDoorEq
namespace Go.Proofs.YtjmoonbpfieifaaGreatDoor
open Go.RowKit

end Go.Proofs.YtjmoonbpfieifaaGreatDoor
