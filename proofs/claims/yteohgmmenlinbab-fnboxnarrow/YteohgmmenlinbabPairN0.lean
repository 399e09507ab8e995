/- There is a narrow one below every wide one. -/
import Derived.Test.YteohgmmenlinbabSpecE
namespace Go.Proofs.Yteohgmmenlinbab
open Go.ChangeShapes Go.WideShapes Go.ChangeAt Go.RowKit
set_option linter.unusedVariables false

theorem exists_below {x : Int} (h1 : -9218868437227405312 ≤ x) (h2 : x ≤ 9218868437227405312) : ∃ n, IsBelow x n := by
  have step : ∀ k : Nat, k ≤ 4278190080 → (∃ n, IsBelow x n) ∨ widI (-2139095040 + (k : Int)) ≤ x := by
    intro k
    induction k with
    | zero =>
      intro _
      refine .inr ?_
      rw [show -2139095040 + ((0 : Nat) : Int) = -2139095040 by omega, widI_neg, widI_top]
      omega
    | succ k ih =>
      intro hk
      rcases ih (by omega) with h | h
      · exact .inl h
      · by_cases hx : widI (-2139095040 + ((k + 1 : Nat) : Int)) ≤ x
        · exact .inr hx
        · refine .inl ⟨-2139095040 + (k : Int), by omega, by omega, h, fun _ => ?_⟩
          rw [show -2139095040 + (k : Int) + 1 = -2139095040 + ((k + 1 : Nat) : Int) by omega]
          omega
  rcases step 4278190080 (Nat.le_refl _) with h | h
  · exact h
  · exact ⟨2139095040, by omega, by omega, by simpa using h, fun k => absurd k (by omega)⟩

end Go.Proofs.Yteohgmmenlinbab
