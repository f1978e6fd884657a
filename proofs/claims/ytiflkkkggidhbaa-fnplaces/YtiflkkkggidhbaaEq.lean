/- The contracts of the comparing functions, where both sides hold the same: they say so. -/
import Derived.Test.YtiflkkkggidhbaaTo1
import Derived.Deep.QuietTactic
import Derived.BigQuiet
import Derived.Deep.RegionWith
import Derived.WalkSmall
namespace Go.Proofs.Ytiflkkkggidhbaa
open Go.RowKit

end Go.Proofs.Ytiflkkkggidhbaa
