/- The ends of a pair that is ok. -/
import Derived.Test.YteohgmmenlinbabJA
namespace Go.Proofs.Yteohgmmenlinbab
open Go.ChangeShapes Go.WideShapes Go.ChangeAt Go.RowKit
set_option linter.unusedVariables false

theorem pok_ok {n x y : Int} (h : pokI n x y = true) : okI n x = true ∧ okI n y = true := by
  unfold pokI at h
  simp only [Bool.and_eq_true] at h
  exact ⟨h.1, h.2.1⟩

end Go.Proofs.Yteohgmmenlinbab
