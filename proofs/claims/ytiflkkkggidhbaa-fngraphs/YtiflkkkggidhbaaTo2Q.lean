/- The contracts of the copying functions of blocks, functions and modules. -/
import Derived.Test.YtiflkkkggidhbaaTo1
import Derived.Deep.QuietTactic
import Derived.BigQuiet
import Derived.Deep.RegionWith
import Derived.WalkSmall
namespace Go.Proofs.Ytiflkkkggidhbaa
open Go.RowKit

theorem infoBlock : (Try.prog.info? 47).map (fun i => (i.zero, i.size, i.bytes)) = some (some (.agg #[.slice none 0 0, .slice none 0 0, .int .i64 0, .int .i64 0, .int .i64 0, .int .i64 0]), 6, 80) := by kernel_rfl
end Go.Proofs.Ytiflkkkggidhbaa
namespace Go.Proofs.Ytiflkkkggidhbaa
open Go.RowKit

end Go.Proofs.Ytiflkkkggidhbaa
namespace Go.Proofs.Ytiflkkkggidhbaa
open Go.RowKit

end Go.Proofs.Ytiflkkkggidhbaa
