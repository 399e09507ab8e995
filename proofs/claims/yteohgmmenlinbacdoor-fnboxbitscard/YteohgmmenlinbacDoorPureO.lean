/- A pattern of an order number is a float, and its order number is that one. -/
import Derived.Test.YteohgmmenlinbacDoorSpecO
namespace Go.Proofs.YteohgmmenlinbacDoor
open Go.RowKit
set_option linter.unusedVariables false

theorem bits_inO (n x : Int) : 0 ≤ bitsI n x ∧ bitsI n x ≤ 18446744073709551615 := by
  unfold bitsI
  by_cases h : okI n x = true
  · rw [if_pos h]
    rcases okI_width h with rfl | rfl
    · have := (okI_32 x).1 h
      rw [if_pos rfl]
      split <;> omega
    · have := (okI_64 x).1 h
      simp only [show ((64 : Int) = 32) = False by simp, if_false]
      split <;> omega
  · rw [if_neg h]
    omega

theorem bits_ordO {n x : Int} (h : okI n x = true) : ordI n (bitsI n x) = x ∧ isFloat n (bitsI n x) = true := by
  have hb : bitsI n x = if x < 0 then (if n = 32 then 2147483648 else 9223372036854775808) + -x else x := by unfold bitsI; rw [if_pos h]
  rw [hb]
  unfold ordI isFloat
  rcases okI_width h with rfl | rfl
  · have := (okI_32 x).1 h
    simp only [if_true]
    split
    · rename_i c
      have e1 : (2147483648 + -x) / 2147483648 % 2 = 1 := by omega
      rw [e1]
      refine ⟨?_, decide_eq_true (by omega)⟩
      rw [if_pos (by omega), if_pos rfl]
      omega
    · rename_i c
      have e1 : x / 2147483648 % 2 = 0 := by omega
      rw [e1]
      refine ⟨?_, decide_eq_true (by omega)⟩
      rw [if_pos (by omega), if_neg (by decide)]
      omega
  · have := (okI_64 x).1 h
    simp only [show ((64 : Int) = 32) = False by simp, if_false, if_true]
    split
    · rename_i c
      have e1 : (9223372036854775808 + -x) / 9223372036854775808 % 2 = 1 := by omega
      rw [e1]
      refine ⟨?_, decide_eq_true (by omega)⟩
      rw [if_pos (by omega), if_pos rfl]
      omega
    · rename_i c
      have e1 : x / 9223372036854775808 % 2 = 0 := by omega
      rw [e1]
      refine ⟨?_, decide_eq_true (by omega)⟩
      rw [if_pos (by omega), if_neg (by decide)]
      omega

end Go.Proofs.YteohgmmenlinbacDoor
