/- l2Wide of the model: its contract. -/
import Derived.Test.YteohgmmenlinbabSpecE
namespace Go.Proofs.Yteohgmmenlinbab
open Go.ChangeShapes Go.WideShapes Go.ChangeAt Go.RowKit
set_option linter.unusedVariables false

end Go.Proofs.Yteohgmmenlinbab
