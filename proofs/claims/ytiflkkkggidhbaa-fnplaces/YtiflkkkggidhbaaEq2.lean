/- The contracts of the comparing functions of blocks and functions, where both sides hold the same. -/
import Derived.Test.YtiflkkkggidhbaaEq
namespace Go.Proofs.Ytiflkkkggidhbaa
open Go.RowKit

end Go.Proofs.Ytiflkkkggidhbaa
