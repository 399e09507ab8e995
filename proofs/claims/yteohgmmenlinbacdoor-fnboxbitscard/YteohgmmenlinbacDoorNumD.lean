/- One bit struck out of a word of 64 bits. No program is named here. -/
import Derived.WalkKit
namespace Go.Proofs.YteohgmmenlinbacDoor
set_option linter.unusedVariables false

theorem strike (i h b R : Nat) (hb : b < 2) (hR : R < 2 ^ i) (hi : i < 64) (ha : 2 ^ (i + 1) * h + (2 ^ i * b + R) < 2 ^ 64) :
    (2 ^ (i + 1) * h + (2 ^ i * b + R)) &&& (2 ^ 64 - (2 ^ i + 1)) = 2 ^ (i + 1) * h + R := by
  have h1 : 2 ^ i * b + R < 2 ^ (i + 1) := by
    rw [Nat.pow_succ]
    have : 2 ^ i * b ≤ 2 ^ i * 1 := Nat.mul_le_mul_left _ (by omega)
    omega
  have h2 : R < 2 ^ (i + 1) := by rw [Nat.pow_succ]; omega
  have h3 : 2 ^ i < 2 ^ 64 := Nat.pow_lt_pow_right (by omega) hi
  apply Nat.eq_of_testBit_eq
  intro j
  rw [Nat.testBit_and, Nat.testBit_two_pow_sub_succ h3, Nat.testBit_two_pow_mul_add _ h1, Nat.testBit_two_pow_mul_add _ h2, Nat.testBit_two_pow_mul_add _ hR, Nat.testBit_two_pow]
  by_cases c1 : j < i + 1
  · rw [if_pos c1, if_pos c1]
    by_cases c2 : j < i
    · have c3 : ¬ i = j := by omega
      have c4 : j < 64 := by omega
      simp [c2, c3, c4]
    · have c3 : i = j := by omega
      subst c3
      simp [Nat.testBit_lt_two_pow hR]
  · rw [if_neg c1, if_neg c1]
    have c3 : ¬ i = j := by omega
    by_cases c4 : j < 64
    · simp [c3, c4]
    · have : h < 2 ^ (j - (i + 1)) := by
        rcases Nat.lt_or_ge h (2 ^ (j - (i + 1))) with q | q
        · exact q
        · have e : 2 ^ (i + 1) * 2 ^ (j - (i + 1)) = 2 ^ j := by rw [← Nat.pow_add]; congr 1; omega
          have l1 := Nat.mul_le_mul_left (2 ^ (i + 1)) q
          rw [e] at l1
          have l2 : 2 ^ 64 ≤ 2 ^ j := Nat.pow_le_pow_right (by omega) (by omega)
          omega
      simp [c4, Nat.testBit_lt_two_pow this]

/-- 'x &^ bit i'. -/
theorem andNot_bit (i : Nat) (hi : i < 64) (x : Nat) (hx : x < 2 ^ 64) : x &&& (2 ^ 64 - (2 ^ i + 1)) = x - x / 2 ^ i % 2 * 2 ^ i := by
  have e1 : x = 2 ^ (i + 1) * (x / 2 ^ (i + 1)) + (2 ^ i * (x / 2 ^ i % 2) + x % 2 ^ i) := by
    have d1 := Nat.div_add_mod x (2 ^ i)
    have d2 := Nat.div_add_mod (x / 2 ^ i) 2
    rw [Nat.div_div_eq_div_mul, ← Nat.pow_succ] at d2
    rw [Nat.pow_succ] at d2 ⊢
    generalize x / (2 ^ i * 2) = h at *
    generalize x / 2 ^ i = q at *
    generalize x % 2 ^ i = R at *
    generalize q % 2 = b at *
    subst d2
    rw [← d1, Nat.mul_add, Nat.mul_assoc]
    omega
  have hb : x / 2 ^ i % 2 < 2 := Nat.mod_lt _ (by omega)
  have hR : x % 2 ^ i < 2 ^ i := Nat.mod_lt _ (Nat.two_pow_pos i)
  have hs := strike i (x / 2 ^ (i + 1)) (x / 2 ^ i % 2) (x % 2 ^ i) hb hR hi (by rw [← e1]; exact hx)
  rw [← e1] at hs
  rw [hs]
  generalize 2 ^ (i + 1) * (x / 2 ^ (i + 1)) = A at *
  rw [Nat.mul_comm (2 ^ i)] at e1
  omega

theorem andNot31 (x : Int) (h0 : 0 ≤ x) (h1 : x ≤ 18446744073709551615) : bits .andNot .u64 x 2147483648 = x - x / 2147483648 % 2 * 2147483648 := by
  rw [u64_andNot x 2147483648 h0 (by omega) (by omega) (by omega)]
  have := andNot_bit 31 (by decide) x.toNat (by omega)
  rw [show (18446744073709551615 - (2147483648 : Int).toNat) = 2 ^ 64 - (2 ^ 31 + 1) by decide, this]
  have e : (2 : Nat) ^ 31 = 2147483648 := by decide
  rw [e]
  omega

theorem andNot63 (x : Int) (h0 : 0 ≤ x) (h1 : x ≤ 18446744073709551615) : bits .andNot .u64 x 9223372036854775808 = x - x / 9223372036854775808 % 2 * 9223372036854775808 := by
  rw [u64_andNot x 9223372036854775808 h0 (by omega) (by omega) (by omega)]
  have := andNot_bit 63 (by decide) x.toNat (by omega)
  rw [show (18446744073709551615 - (9223372036854775808 : Int).toNat) = 2 ^ 64 - (2 ^ 63 + 1) by decide, this]
  have e : (2 : Nat) ^ 63 = 9223372036854775808 := by decide
  rw [e]
  omega

theorem and31 (x : Int) (h0 : 0 ≤ x) (h1 : x ≤ 18446744073709551615) : bits .and .u64 x 2147483648 = x / 2147483648 % 2 * 2147483648 := by
  rw [u64_and x 2147483648 h0 (by omega) (by omega) (by omega)]
  have := nat_bit 31 x.toNat
  have e : (2 : Nat) ^ 31 = 2147483648 := by decide
  rw [e] at this
  rw [show ((2147483648 : Int).toNat) = 2147483648 from rfl, this]
  omega

theorem and63 (x : Int) (h0 : 0 ≤ x) (h1 : x ≤ 18446744073709551615) : bits .and .u64 x 9223372036854775808 = x / 9223372036854775808 % 2 * 9223372036854775808 := by
  rw [u64_and x 9223372036854775808 h0 (by omega) (by omega) (by omega)]
  have := nat_bit 63 x.toNat
  have e : (2 : Nat) ^ 63 = 9223372036854775808 := by decide
  rw [e] at this
  rw [show ((9223372036854775808 : Int).toNat) = 9223372036854775808 from rfl, this]
  omega

end Go.Proofs.YteohgmmenlinbacDoor
