/- The model's BitBelow and BitAbove: contracts. -/
import Derived.Test.YteohgmmenlinbabSpecW
namespace Go.Proofs.Yteohgmmenlinbab
open Go.ChangeShapes Go.WideShapes Go.ChangeAt Go.RowKit
set_option linter.unusedVariables false

end Go.Proofs.Yteohgmmenlinbab
