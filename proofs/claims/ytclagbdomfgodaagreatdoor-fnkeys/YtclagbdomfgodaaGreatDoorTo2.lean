/- The contracts of the copying functions of blocks, functions and modules. -/
import Derived.Test.YtclagbdomfgodaaGreatDoorTo1
namespace Go.Proofs.YtclagbdomfgodaaGreatDoor
open Go.RowKit

theorem infoBlock : (Tryz.prog.info? 43).map (fun i => (i.zero, i.size, i.bytes)) = some (some (.agg #[.slice none 0 0, .slice none 0 0, .int .i64 0, .int .i64 0, .int .i64 0, .int .i64 0]), 6, 80) := by kernel_rfl
end Go.Proofs.YtclagbdomfgodaaGreatDoor
