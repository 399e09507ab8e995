/- The model's BitPartOf at every argument; the parts' bounds. -/
import Derived.Test.YteohgmmenlinbadSpecC
namespace Go.Proofs.Yteohgmmenlinbad
open Go.ChangeShapes Go.WideShapes Go.ChangeAt Go.RowKit
set_option linter.unusedVariables false

theorem fin32 (x : Int) : finI 32 x = true ↔ -2139095040 < x ∧ x < 2139095040 := by
  unfold finI
  simp only [Bool.and_eq_true, okI_32, bne_iff_ne, ne_eq]
  simp only [show topI 32 = 2139095040 from rfl]
  omega
theorem fin64 (x : Int) : finI 64 x = true ↔ -9218868437227405312 < x ∧ x < 9218868437227405312 := by
  unfold finI
  simp only [Bool.and_eq_true, okI_64, bne_iff_ne, ne_eq]
  simp only [show topI 64 = 9218868437227405312 from rfl]
  omega

theorem finI_width {n x : Int} (h : finI n x = true) : n = 32 ∨ n = 64 := by
  unfold finI at h
  rw [Bool.and_eq_true] at h
  exact okI_width h.1

theorem specPart (w : World) (n x : Int) (hx : (Lit.int .i64 x).wf = true) :
    Calls Try.prog 12 #[.int .i64 n, .int .i64 x] w (PartOut w (if finI n x = true then partV n x else noPart) (finI n x)) := by
  by_cases hf : finI n x = true
  · rw [if_pos hf, hf]
    rcases finI_width hf with rfl | rfl
    · exact specPart32 w x ((fin32 x).1 hf).1 ((fin32 x).1 hf).2
    · exact specPart64 w x ((fin64 x).1 hf).1 ((fin64 x).1 hf).2
  · rw [if_neg hf]
    rw [Bool.not_eq_true] at hf
    rw [hf]
    exact specPartNo w n x hx hf

theorem mag_bound {F r : Nat} (hF : F ≤ 52) : magN F r ≤ 18446744073709551615 := by
  have h1 : 2 ^ F ≤ 2 ^ 52 := Nat.pow_le_pow_right (by decide) hF
  have h2 := Nat.mod_lt r (Nat.two_pow_pos F)
  unfold magN
  split <;> omega

/-- The parts of a finite float, in numbers. -/
theorem part_parts {n x : Int} (h : finI n x = true) : ∃ (F : Nat) (L : Int), partV n x = .agg #[.bool (decide (x < 0)), .int .u64 (magN F x.natAbs : Nat), .int .i64 (L + (expN F x.natAbs : Nat))] ∧ -2000 ≤ L ∧ F = fracI n ∧ L = leastI n ∧
    magN F x.natAbs ≤ 18446744073709551615 ∧ L + (expN F x.natAbs : Nat) ≤ 1000 := by
  refine ⟨fracI n, leastI n, rfl, ?_, rfl, rfl, ?_, ?_⟩
  · rcases finI_width h with rfl | rfl <;> decide
  · apply mag_bound
    rcases finI_width h with rfl | rfl <;> decide
  · rcases finI_width h with rfl | rfl
    · have := (fin32 x).1 h
      rw [show leastI 32 = -149 by decide, show fracI 32 = 23 by decide]
      unfold expN
      rw [show 2 ^ 23 = 8388608 by decide]
      omega
    · have := (fin64 x).1 h
      rw [show leastI 64 = -1074 by decide, show fracI 64 = 52 by decide]
      unfold expN
      rw [show 2 ^ 52 = 4503599627370496 by decide]
      omega

end Go.Proofs.Yteohgmmenlinbad
