/- What is alive: the model's LiveOut. -/
import Derived.Test.YtolaghondjfhdabGreatDoorLxJQ
namespace Go.Proofs.YtolaghondjfhdabGreatDoor
open Go.RowKit
set_option linter.unusedVariables false

end Go.Proofs.YtolaghondjfhdabGreatDoor
