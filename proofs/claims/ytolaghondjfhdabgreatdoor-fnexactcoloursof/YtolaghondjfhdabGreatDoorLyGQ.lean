/- Who meets whom: the program's Meet. -/
import Derived.Test.YtolaghondjfhdabGreatDoorLyDQ
namespace Go.Proofs.YtolaghondjfhdabGreatDoor
open Go.RowKit
set_option linter.unusedVariables false

end Go.Proofs.YtolaghondjfhdabGreatDoor
