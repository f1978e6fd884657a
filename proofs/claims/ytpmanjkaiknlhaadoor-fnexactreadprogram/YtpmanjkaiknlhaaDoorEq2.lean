/- The contracts of the comparing functions of blocks and functions, where both sides hold the same. -/
import Derived.Test.YtpmanjkaiknlhaaDoorEq
namespace Go.Proofs.YtpmanjkaiknlhaaDoor
open Go.RowKit

end Go.Proofs.YtpmanjkaiknlhaaDoor
