/- Whether one pair lies within another one. -/
import Derived.Test.YteohgmmenlinbacDoorJB
import Derived.Test.YteohgmmenlinbacDoorJA
namespace Go.Proofs.YteohgmmenlinbacDoor
open Go.RowKit
set_option linter.unusedVariables false

def isB (x0 y0 x1 y1 : Int) : Bool := decide (x1 ≤ x0) && decide (y0 ≤ y1)

end Go.Proofs.YteohgmmenlinbacDoor
