/- PairCut of the model: its contract. -/
import Derived.Test.YteohgmmenlinbaaSpanS
import Derived.Test.YteohgmmenlinbaaPairG
import Derived.Test.YteohgmmenlinbaaOwns
namespace Go.Proofs.Yteohgmmenlinbaa
open Go.ChangeShapes Go.WideShapes Go.ChangeAt Go.RowKit
set_option linter.unusedVariables false

def cutB (n x y g h : Int) : Bool := pokI n x y && (decide (g < h) && (pokI n x g && pokI n h y))

end Go.Proofs.Yteohgmmenlinbaa
