/- The contracts of the reader's 'big' and 'ord', and of 'BitTop' of the model. -/
import Derived.Test.YteohgmmenlinbagDrawB
import Derived.Test.YteohgmmenlinbagTop
import Derived.Deep.LoopGhost
import Derived.WalkSpells
namespace Go.Proofs.Yteohgmmenlinbag
open Go.ChangeShapes Go.WideShapes Go.ChangeAt Go.RowKit
set_option linter.unusedVariables false

end Go.Proofs.Yteohgmmenlinbag
