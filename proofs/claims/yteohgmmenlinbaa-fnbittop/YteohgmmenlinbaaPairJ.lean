/- PairCut of the program: its contract. -/
import Derived.Test.YteohgmmenlinbaaPairK
namespace Go.Proofs.Yteohgmmenlinbaa
open Go.ChangeShapes Go.WideShapes Go.ChangeAt Go.RowKit
set_option linter.unusedVariables false

theorem spanOf' (w : World) (x y : Int) (h1 : (Lit.int .i64 x).wf = true) (h2 : (Lit.int .i64 y).wf = true) :
    Calls Try.prog 83 #[.agg #[.int .i64 x, .int .i64 y]] w fun e w' => e = .returned (.agg #[.int .i64 x, .int .i64 y, .int .u64 (gapI x y)]) ∧ Below w.heap.size w w' := spanOf w x y h1 h2

end Go.Proofs.Yteohgmmenlinbaa
