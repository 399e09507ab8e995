/- The contract of the reader's 'pair'. -/
import Derived.Test.YteohgmmenlinbagDrawD
namespace Go.Proofs.Yteohgmmenlinbag
open Go.ChangeShapes Go.WideShapes Go.ChangeAt Go.RowKit
set_option linter.unusedVariables false

/-- What 'pair' leaves: two ints, the reader further on, all other old blocks as they were. -/
def DPairOut (w : World) (b : Nat) (lim : Int) (e : Ending) (w' : World) : Prop :=
  ∃ x y, e = .returned (.agg #[.int .i64 x, .int .i64 y]) ∧ Nr x ∧ Nr y ∧ Rd w' b lim ∧ Keep b w w'

theorem run_results_cell {fn : Func} {p : Tmp} {ty : TypeId} (h : fn.results = #[.cell p ty]) (tmps : Array Value) (P : Program) (w : World) :
    (results fn tmps).run P w = ((asAddr (tmps.getD p undef)).run P w).andThen fun a w₁ => (loadVar ty a).run P w₁ := by
  simp only [results, h]
  simp [Sem.run_bind, Result.andThen]

end Go.Proofs.Yteohgmmenlinbag
