/- The model's small functions of chapter 1: contracts. -/
import Derived.Test.YteohgmmenlinbadDoorTop
import Derived.WalkLawsBesides
import Derived.Outline
namespace Go.Proofs.YteohgmmenlinbadDoor
open Go.ChangeShapes Go.WideShapes Go.ChangeAt Go.RowKit
set_option linter.unusedVariables false

/-- An order number of a width. -/
def okI (w n : Int) : Bool := (w == 32 || w == 64) && (decide (-(topI w) ≤ n) && decide (n ≤ topI w))

theorem okI_32 (n : Int) : okI 32 n = true ↔ -2139095040 ≤ n ∧ n ≤ 2139095040 := by simp [okI, topI]
theorem okI_64 (n : Int) : okI 64 n = true ↔ -9218868437227405312 ≤ n ∧ n ≤ 9218868437227405312 := by simp [okI, topI]
theorem okI_width {w n : Int} (h : okI w n = true) : w = 32 ∨ w = 64 := by
  simp only [okI, Bool.and_eq_true, Bool.or_eq_true, beq_iff_eq] at h
  exact h.1

end Go.Proofs.YteohgmmenlinbadDoor
