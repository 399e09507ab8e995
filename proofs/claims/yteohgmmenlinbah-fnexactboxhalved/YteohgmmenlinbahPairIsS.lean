/- PairIs of the model: its contract. -/
import Derived.Test.YteohgmmenlinbahPairIsB
namespace Go.Proofs.Yteohgmmenlinbah
open Go.RowKit
set_option linter.unusedVariables false

theorem specIs (w : World) (x0 y0 x1 y1 : Int) : Calls Try.prog 59 #[.agg #[.int .i64 x0, .int .i64 y0], .agg #[.int .i64 x1, .int .i64 y1]] w fun e w' => e = .returned (.bool (isB x0 y0 x1 y1)) ∧ Below w.heap.size w w' := by
  unfold isB
  by_cases h1 : x1 ≤ x0
  · go_enter Try.func59, Try.ntmps59
    go_wp2
    go_ret
    exact ⟨by simp [h1], by repeat (first | exact Below.refl _ _ | refine Below.drew ?_ | refine Below.alloc ?_ (by simp; try omega) _)⟩
  · have d : decide (x1 ≤ x0) = false := by simp; omega
    go_enter Try.func59, Try.ntmps59
    go_wp2
    go_ret
    exact ⟨by simp, by repeat (first | exact Below.refl _ _ | refine Below.drew ?_ | refine Below.alloc ?_ (by simp; try omega) _)⟩

end Go.Proofs.Yteohgmmenlinbah
