/- What the exact laws of boxes call besides: contracts. -/
import Derived.Test.YteohgmmenlinbagDoorBoxA
import Derived.Test.YteohgmmenlinbagDoorPairL
namespace Go.Proofs.YteohgmmenlinbagDoor
open Go.ChangeShapes Go.WideShapes Go.ChangeAt Go.RowKit
set_option linter.unusedVariables false

end Go.Proofs.YteohgmmenlinbagDoor
