/- The contracts of the copying functions of blocks, functions and modules. -/
import Derived.Test.YtpmanjkaiknlhaaDoorTo1
namespace Go.Proofs.YtpmanjkaiknlhaaDoor
open Go.RowKit

end Go.Proofs.YtpmanjkaiknlhaaDoor
