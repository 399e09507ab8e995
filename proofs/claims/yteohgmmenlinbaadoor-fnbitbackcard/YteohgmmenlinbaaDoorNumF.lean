/- The low bits of an int from 0 on, and a bit set above them. No program is named here. -/
import Derived.Test.YteohgmmenlinbaaDoorNumD
namespace Go.Proofs.YteohgmmenlinbaaDoor
set_option linter.unusedVariables false

theorem i64_and_low (k : Nat) (hk : k < 63) (a b : Nat) (ha : a < 9223372036854775808) (hb : b = 2 ^ k - 1) : bits .and .i64 (a : Int) (b : Int) = ((a % 2 ^ k : Nat) : Int) := by
  have h63 : 2 ^ k ≤ 2 ^ 62 := Nat.pow_le_pow_right (by decide) (by omega)
  have hp := Nat.two_pow_pos k
  have hm : a % 2 ^ k < 2 ^ k := Nat.mod_lt _ hp
  show IntKind.i64.wrap ((BitVec.ofInt 64 (a : Int) &&& BitVec.ofInt 64 (b : Int)).toNat : Int) = _
  rw [BitVec.toNat_and, ofInt_u64 a (by omega), ofInt_u64 b (by omega), hb, Nat.and_two_pow_sub_one_eq_mod, IntKind.wrap_i64]
  omega

theorem i64_or_low (k : Nat) (hk : k < 63) (a b : Nat) (ha : a = 2 ^ k) (hb : b < 2 ^ k) : bits .or .i64 (a : Int) (b : Int) = ((a + b : Nat) : Int) := by
  have h63 : 2 ^ k ≤ 2 ^ 62 := Nat.pow_le_pow_right (by decide) (by omega)
  have e : 2 ^ k * 1 + b = 2 ^ k * 1 ||| b := Nat.two_pow_add_eq_or_of_lt hb 1
  rw [Nat.mul_one] at e
  show IntKind.i64.wrap ((BitVec.ofInt 64 (a : Int) ||| BitVec.ofInt 64 (b : Int)).toNat : Int) = _
  rw [BitVec.toNat_or, ofInt_u64 a (by omega), ofInt_u64 b (by omega), ha, ← e, IntKind.wrap_i64]
  omega

theorem and23 {m : Int} (h0 : 0 ≤ m) (h1 : m ≤ 9223372036854775807) : bits .and .i64 m 8388607 = m % 8388608 := by
  obtain ⟨a, rfl⟩ := Int.eq_ofNat_of_zero_le h0
  rw [show (8388607 : Int) = ((8388607 : Nat) : Int) from rfl, i64_and_low 23 (by decide) a 8388607 (by omega) (by decide)]
  omega

theorem and52 {m : Int} (h0 : 0 ≤ m) (h1 : m ≤ 9223372036854775807) : bits .and .i64 m 4503599627370495 = m % 4503599627370496 := by
  obtain ⟨a, rfl⟩ := Int.eq_ofNat_of_zero_le h0
  rw [show (4503599627370495 : Int) = ((4503599627370495 : Nat) : Int) from rfl, i64_and_low 52 (by decide) a 4503599627370495 (by omega) (by decide)]
  omega

theorem or23 {r : Int} (h0 : 0 ≤ r) (h1 : r < 8388608) : bits .or .i64 8388608 r = 8388608 + r := by
  obtain ⟨a, rfl⟩ := Int.eq_ofNat_of_zero_le h0
  rw [show (8388608 : Int) = ((8388608 : Nat) : Int) from rfl, i64_or_low 23 (by decide) 8388608 a (by decide) (by omega)]
  omega

theorem or52 {r : Int} (h0 : 0 ≤ r) (h1 : r < 4503599627370496) : bits .or .i64 4503599627370496 r = 4503599627370496 + r := by
  obtain ⟨a, rfl⟩ := Int.eq_ofNat_of_zero_le h0
  rw [show (4503599627370496 : Int) = ((4503599627370496 : Nat) : Int) from rfl, i64_or_low 52 (by decide) 4503599627370496 a (by decide) (by omega)]
  omega

end Go.Proofs.YteohgmmenlinbaaDoor
