/- Parts of two finite floats of one width stand as their order numbers. No program is named here beyond what is imported. -/
import Derived.Test.YteohgmmenlinbaaPbLess
import Derived.Test.YteohgmmenlinbaaSpecB
namespace Go.Proofs.Yteohgmmenlinbaa
set_option linter.unusedVariables false

theorem mag_zero {F r : Nat} : magN F r = 0 ↔ r = 0 := by
  have hp := Nat.two_pow_pos F
  unfold magN
  split <;> omega

theorem scaled_val {F r : Nat} {L : Int} (hL : -5000 ≤ L) : scaled (magN F r) (L + (expN F r : Nat)) = val F r * 2 ^ (L + 5000).toNat := by
  unfold scaled
  have e : (L + ((expN F r : Nat) : Int) + 5000).toNat = expN F r + (L + 5000).toNat := by omega
  rw [e, Nat.pow_add, ← Nat.mul_assoc, ← val_mag]

theorem scaled_part_lt {F r s : Nat} {L : Int} (hL : -5000 ≤ L) : scaled (magN F r) (L + (expN F r : Nat)) < scaled (magN F s) (L + (expN F s : Nat)) ↔ r < s := by
  rw [scaled_val hL, scaled_val hL]
  constructor
  · intro h; exact val_lt_iff.1 (Nat.lt_of_mul_lt_mul_right h)
  · intro h; exact Nat.mul_lt_mul_of_pos_right (val_lt h) (Nat.two_pow_pos _)

theorem less_part {F : Nat} {L : Int} (hL : -5000 ≤ L) (a b : Int) :
    lessB (decide (a < 0)) (magN F a.natAbs) (L + (expN F a.natAbs : Nat)) (decide (b < 0)) (magN F b.natAbs) (L + (expN F b.natAbs : Nat)) = decide (a < b) := by
  unfold lessB
  simp only [mag_zero]
  have h1 := scaled_part_lt (F := F) (r := a.natAbs) (s := b.natAbs) hL
  have h2 := scaled_part_lt (F := F) (r := b.natAbs) (s := a.natAbs) hL
  by_cases ha : a.natAbs = 0
  · by_cases hb : b.natAbs = 0
    · rw [if_pos ⟨ha, hb⟩]
      have : ¬ a < b := by omega
      simp [this]
    · rw [if_neg (by omega), if_pos ha]
      by_cases q : b < 0
      · have : ¬ a < b := by omega
        simp [q, this]
      · have : a < b := by omega
        simp [q, this]
  · rw [if_neg (by omega), if_neg ha]
    by_cases hb : b.natAbs = 0
    · rw [if_pos hb]
      by_cases q : a < 0
      · have : a < b := by omega
        simp [q, this]
      · have : ¬ a < b := by omega
        simp [q, this]
    · rw [if_neg hb]
      by_cases qa : a < 0 <;> by_cases qb : b < 0
      · have e : (decide (b.natAbs < a.natAbs)) = decide (a < b) := by
          rw [Bool.eq_iff_iff]; simp only [decide_eq_true_eq]; omega
        simp only [qa, qb, decide_true, bne_self_eq_false, Bool.false_eq_true, if_false, if_true]
        rw [← e, Bool.eq_iff_iff]; simp only [decide_eq_true_eq]; exact h2
      · have : a < b := by omega
        simp [qa, qb, this]
      · have : ¬ a < b := by omega
        simp [qa, qb, this]
      · have e : (decide (a.natAbs < b.natAbs)) = decide (a < b) := by
          rw [Bool.eq_iff_iff]; simp only [decide_eq_true_eq]; omega
        simp only [qa, qb, decide_false, bne_self_eq_false, Bool.false_eq_true, if_false]
        rw [← e, Bool.eq_iff_iff]; simp only [decide_eq_true_eq]; exact h1

end Go.Proofs.Yteohgmmenlinbaa
