/- Half of a sum, up, by bits, on signed numbers of 64 bits. No program is named here. -/
import Derived.WalkKit
namespace Go.Proofs.Yteohgmmenlinbab
set_option linter.unusedVariables false

theorem or_xor (x : Nat) : ∀ y : Nat, 2 * (x ||| y) = (x ^^^ y) + x + y := by
  induction x using Nat.strongRecOn with
  | ind x ih =>
    intro y
    by_cases h : x = 0
    · subst h; simp; omega
    · have i := ih (x / 2) (by omega) (y / 2)
      have o1 : (x ||| y) / 2 = x / 2 ||| y / 2 := Nat.or_div_two
      have x1 : (x ^^^ y) / 2 = x / 2 ^^^ y / 2 := Nat.xor_div_two
      have o2 : (x ||| y) % 2 = (x % 2 ||| y % 2) := by
        have := Nat.or_mod_two_pow (a := x) (b := y) (n := 1)
        simpa using this
      have x2 : (x ^^^ y) % 2 = (x % 2 ^^^ y % 2) := by
        have := Nat.xor_mod_two_pow (a := x) (b := y) (n := 1)
        simpa using this
      rw [← o1, ← x1] at i
      have hx : x % 2 = 0 ∨ x % 2 = 1 := by omega
      have hy : y % 2 = 0 ∨ y % 2 = 1 := by omega
      rcases hx with hx | hx <;> rcases hy with hy | hy <;> rw [hx, hy] at o2 x2
      · have o3 := o2.trans (show (0 ||| 0 : Nat) = 0 from rfl)
        have x3 := x2.trans (show (0 ^^^ 0 : Nat) = 0 from rfl)
        omega
      · have o3 := o2.trans (show (0 ||| 1 : Nat) = 1 from rfl)
        have x3 := x2.trans (show (0 ^^^ 1 : Nat) = 1 from rfl)
        omega
      · have o3 := o2.trans (show (1 ||| 0 : Nat) = 1 from rfl)
        have x3 := x2.trans (show (1 ^^^ 0 : Nat) = 1 from rfl)
        omega
      · have o3 := o2.trans (show (1 ||| 1 : Nat) = 1 from rfl)
        have x3 := x2.trans (show (1 ^^^ 1 : Nat) = 0 from rfl)
        omega

theorem top_bit (n : Nat) (h : n < 18446744073709551616) : n.testBit 63 = decide (9223372036854775808 ≤ n) := by
  rw [Nat.testBit_eq_decide_div_mod_eq]
  have e : (2 : Nat) ^ 63 = 9223372036854775808 := by decide
  rw [e]
  congr 1
  apply propext
  constructor <;> intro h <;> omega

theorem ofInt64 (a : Int) : ((BitVec.ofInt 64 a).toNat : Int) = a % 18446744073709551616 := by
  rw [BitVec.toNat_ofInt]
  have : ((2 ^ 64 : Nat) : Int) = 18446744073709551616 := by decide
  rw [this]
  omega

/-- Twice the 'or', less the 'xor', is the sum. -/
theorem or_xor_i64 (a b : Int) (a1 : -9223372036854775808 ≤ a) (a2 : a ≤ 9223372036854775807) (b1 : -9223372036854775808 ≤ b) (b2 : b ≤ 9223372036854775807) :
    2 * bits .or .i64 a b - bits .xor .i64 a b = a + b ∧ -9223372036854775808 ≤ bits .or .i64 a b ∧ bits .or .i64 a b ≤ 9223372036854775807 ∧
      -9223372036854775808 ≤ bits .xor .i64 a b ∧ bits .xor .i64 a b ≤ 9223372036854775807 := by
  have ho : bits .or .i64 a b = IntKind.i64.wrap ((BitVec.ofInt 64 a ||| BitVec.ofInt 64 b).toNat : Int) := rfl
  have hx : bits .xor .i64 a b = IntKind.i64.wrap ((BitVec.ofInt 64 a ^^^ BitVec.ofInt 64 b).toNat : Int) := rfl
  rw [ho, hx, IntKind.wrap_i64, IntKind.wrap_i64, BitVec.toNat_or, BitVec.toNat_xor]
  have ua := ofInt64 a
  have ub := ofInt64 b
  have la := (BitVec.ofInt 64 a).isLt
  have lb := (BitVec.ofInt 64 b).isLt
  generalize (BitVec.ofInt 64 a).toNat = A at *
  generalize (BitVec.ofInt 64 b).toNat = B at *
  have e64 : (2 : Nat) ^ 64 = 18446744073709551616 := by decide
  have lo : A ||| B < 2 ^ 64 := Nat.or_lt_two_pow la lb
  have lx : A ^^^ B < 2 ^ 64 := Nat.xor_lt_two_pow la lb
  have h := or_xor A B
  have t1 : (A ||| B).testBit 63 = (A.testBit 63 || B.testBit 63) := Nat.testBit_or ..
  have t2 : (A ^^^ B).testBit 63 = (A.testBit 63 ^^ B.testBit 63) := Nat.testBit_xor ..
  rw [e64] at *
  rw [top_bit _ lo, top_bit _ la, top_bit _ lb] at t1
  rw [top_bit _ lx, top_bit _ la, top_bit _ lb] at t2
  generalize A ||| B = O at *
  generalize A ^^^ B = X at *
  by_cases c1 : 9223372036854775808 ≤ A <;> by_cases c2 : 9223372036854775808 ≤ B <;> simp [c1, c2] at t1 t2 <;> omega

/-- Half of the sum, up. -/
theorem half_up (a b : Int) (a1 : -9223372036854775808 ≤ a) (a2 : a ≤ 9223372036854775807) (b1 : -9223372036854775808 ≤ b) (b2 : b ≤ 9223372036854775807) :
    bits .or .i64 a b - bits .xor .i64 a b / 2 = a + (b - a + 1) / 2 := by
  have h := (or_xor_i64 a b a1 a2 b1 b2).1
  omega

end Go.Proofs.Yteohgmmenlinbab
