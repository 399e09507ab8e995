/- The contract of the reader's 'pick'. -/
import Derived.Test.YteohgmmenlinbagDrawA
namespace Go.Proofs.Yteohgmmenlinbag
open Go.ChangeShapes Go.WideShapes Go.ChangeAt Go.RowKit
set_option linter.unusedVariables false

theorem i64_xor_nat (a b : Nat) (ha : a < 9223372036854775808) (hb : b < 9223372036854775808) : bits .xor .i64 (a : Int) (b : Int) = ((a ^^^ b : Nat) : Int) := by
  have hx : a ^^^ b < 2 ^ 63 := Nat.xor_lt_two_pow (by omega) (by omega)
  show IntKind.i64.wrap ((BitVec.ofInt 64 (a : Int) ^^^ BitVec.ofInt 64 (b : Int)).toNat : Int) = _
  rw [BitVec.toNat_xor, ofInt_u64 a (by omega), ofInt_u64 b (by omega), IntKind.wrap_i64]
  omega

theorem xor_pos (a b : Int) (h1 : 0 ≤ a) (h2 : a < 9223372036854775808) (h3 : 0 ≤ b) (h4 : b < 9223372036854775808) : 0 ≤ bits .xor .i64 a b := by
  obtain ⟨m, rfl⟩ := Int.eq_ofNat_of_zero_le h1
  obtain ⟨n, rfl⟩ := Int.eq_ofNat_of_zero_le h3
  rw [i64_xor_nat m n (by omega) (by omega)]
  omega

/-- The mixture behind the code's end is no number below 0. -/
theorem mix_pos (x y p : Int) (len : Nat) (h0 : 0 ≤ p) (h1 : p ≤ 1000000) (hl0 : 1 ≤ len) (x0 : 0 ≤ x) (x1 : x ≤ 255) (y0 : 0 ≤ y) (y1 : y ≤ 255) :
    0 ≤ bits .xor .i64 (wrap64 (x * 131 + y * 1117 + p * 29 + wrap64 (p / (len : Int) * 53))) (wrap64 ((wrap64 (x * 131 + y * 1117 + p * 29 + wrap64 (p / (len : Int) * 53))).tdiv 64)) := by
  have d0 : 0 ≤ p / (len : Int) := Int.ediv_nonneg h0 (by omega)
  have d1 : p / (len : Int) ≤ p := Int.ediv_le_self _ h0
  generalize p / (len : Int) = d at d0 d1
  have e1 : wrap64 (d * 53) = d * 53 := IntWalk.wrap64_in _ (by omega)
  rw [e1]
  have e2 : wrap64 (x * 131 + y * 1117 + p * 29 + d * 53) = x * 131 + y * 1117 + p * 29 + d * 53 := IntWalk.wrap64_in _ (by omega)
  rw [e2]
  have t0 : 0 ≤ x * 131 + y * 1117 + p * 29 + d * 53 := by omega
  have t1 : x * 131 + y * 1117 + p * 29 + d * 53 ≤ 1000000000 := by omega
  generalize x * 131 + y * 1117 + p * 29 + d * 53 = t at t0 t1
  rw [Int.tdiv_eq_ediv_of_nonneg t0]
  have e3 : wrap64 (t / 64) = t / 64 := IntWalk.wrap64_in _ (by omega)
  rw [e3]
  exact xor_pos _ _ t0 (by omega) (by omega) (by omega)

end Go.Proofs.Yteohgmmenlinbag
