/- The model's small functions of chapter 1: contracts. -/
import Derived.Test.YteohgmmenlinbagDoorTop
import Derived.WalkLawsBesides
import Derived.Outline
namespace Go.Proofs.YteohgmmenlinbagDoor
open Go.ChangeShapes Go.WideShapes Go.ChangeAt Go.RowKit
set_option linter.unusedVariables false

/-- An order number of a width. -/
def okI (w n : Int) : Bool := (w == 32 || w == 64) && (decide (-(topI w) ≤ n) && decide (n ≤ topI w))

theorem okI_32 (n : Int) : okI 32 n = true ↔ -2139095040 ≤ n ∧ n ≤ 2139095040 := by simp [okI, topI]
theorem okI_64 (n : Int) : okI 64 n = true ↔ -9218868437227405312 ≤ n ∧ n ≤ 9218868437227405312 := by simp [okI, topI]
theorem okI_width {w n : Int} (h : okI w n = true) : w = 32 ∨ w = 64 := by
  simp only [okI, Bool.and_eq_true, Bool.or_eq_true, beq_iff_eq] at h
  exact h.1

theorem specOk (w : World) (n x : Int) (hx : (Lit.int .i64 x).wf = true) :
    Calls Tryd.prog 29 #[.int .i64 n, .int .i64 x] w fun e w' => e = .returned (.bool (okI n x)) ∧ w = w' := by
  by_cases h1 : n = 32
  · subst h1
    by_cases h2 : -2139095040 ≤ x
    · by_cases h3 : x ≤ 2139095040
      · rw [(okI_32 x).2 ⟨h2, h3⟩]
        go_enter Tryd.func29, Tryd.ntmps29
        go_wp2
        go_ret
        exact ⟨rfl, rfl⟩
      · rw [show okI 32 x = false by rw [Bool.eq_false_iff, Ne, okI_32]; omega]
        have d3 : decide (x ≤ 2139095040) = false := by simp; omega
        go_enter Tryd.func29, Tryd.ntmps29
        go_wp2
        go_ret
        exact ⟨rfl, rfl⟩
    · rw [show okI 32 x = false by rw [Bool.eq_false_iff, Ne, okI_32]; omega]
      have d3 : decide (-2139095040 ≤ x) = false := by simp; omega
      go_enter Tryd.func29, Tryd.ntmps29
      go_wp2
      go_ret
      exact ⟨rfl, rfl⟩
  · by_cases h2 : n = 64
    · subst h2
      by_cases h2 : -9218868437227405312 ≤ x
      · by_cases h3 : x ≤ 9218868437227405312
        · rw [(okI_64 x).2 ⟨h2, h3⟩]
          go_enter Tryd.func29, Tryd.ntmps29
          go_wp2
          go_ret
          exact ⟨rfl, rfl⟩
        · rw [show okI 64 x = false by rw [Bool.eq_false_iff, Ne, okI_64]; omega]
          have d3 : decide (x ≤ 9218868437227405312) = false := by simp; omega
          go_enter Tryd.func29, Tryd.ntmps29
          go_wp2
          go_ret
          exact ⟨rfl, rfl⟩
      · rw [show okI 64 x = false by rw [Bool.eq_false_iff, Ne, okI_64]; omega]
        have d3 : decide (-9218868437227405312 ≤ x) = false := by simp; omega
        go_enter Tryd.func29, Tryd.ntmps29
        go_wp2
        go_ret
        exact ⟨rfl, rfl⟩
    · have e1 : (n == 32) = false := by simp; exact h1
      have e2 : (n == 64) = false := by simp; exact h2
      rw [show okI n x = false by simp [okI, e1, e2]]
      go_enter Tryd.func29, Tryd.ntmps29
      go_wp2
      go_ret
      exact ⟨rfl, rfl⟩

end Go.Proofs.YteohgmmenlinbagDoor
