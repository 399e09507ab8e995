/- The program's BitPartOf: its contract. -/
import Derived.Test.YteohgmmenlinbadDoorImplA
import Derived.Test.YteohgmmenlinbadDoorSpecB
import Derived.Test.YteohgmmenlinbadDoorQuiet
import Derived.Test.YteohgmmenlinbadDoorOwn
import Derived.Test.YteohgmmenlinbadDoorNumF
namespace Go.Proofs.YteohgmmenlinbadDoor
open Go.ChangeShapes Go.WideShapes Go.ChangeAt Go.RowKit
set_option linter.unusedVariables false

theorem cne (w : World) : Calls Tryd.prog 33 #[.agg #[]] w fun e w' => e = .returned (.int .i64 8) ∧ Below w.heap.size w w' := by
  go_enter Tryd.func33, Tryd.ntmps33
  go_wp2
  go_ret
  exact ⟨rfl, (Below.refl _ _).alloc (Nat.le_refl _) _⟩
theorem cnf (w : World) : Calls Tryd.prog 34 #[.agg #[]] w fun e w' => e = .returned (.int .i64 23) ∧ Below w.heap.size w w' := by
  go_enter Tryd.func34, Tryd.ntmps34
  go_wp2
  go_ret
  exact ⟨rfl, (Below.refl _ _).alloc (Nat.le_refl _) _⟩

theorem least32 (w : World) : Calls Tryd.prog 16 #[.iface 40 (.agg #[])] w fun e w' => e = .returned (.int .i64 (-149)) ∧ Below w.heap.size w w' := by
  have m1 := meth_ne
  have m2 := meth_nf
  go_enter Tryd.func16, Tryd.ntmps16
  go_wp2
  refine region_below (by kernel_rfl) (by kernel_rfl) ?_
  repeat (go_big_quiet_step (first
    | (intro _; rfl)
    | (intro hC; go_at_call 33; exact Calls.qb hC (cne _))
    | (intro hC; go_at_call 34; exact Calls.qb hC (cnf _))))
  refine wpQuiet_nil ?_
  intro W q
  go_wp2
  go_ret
  exact ⟨rfl, q⟩

theorem part32_small {n m : Int} (hm : m = n.natAbs) (h : m < 8388608) : partV 32 n = .agg #[.bool (decide (n < 0)), .int .u64 m, .int .i64 (-149)] := by
  have e1 : fracI 32 = 23 := by decide
  have e2 : leastI 32 = -149 := by decide
  unfold partV magN expN
  rw [e1, e2, show 2 ^ 23 = 8388608 by decide, if_pos (by omega), ← hm, show -149 + ((n.natAbs / 8388608 - 1 : Nat) : Int) = -149 by omega]

theorem part32_big {n m : Int} (hm : m = n.natAbs) (h : ¬ m < 8388608) : partV 32 n = .agg #[.bool (decide (n < 0)), .int .u64 (8388608 + m % 8388608), .int .i64 (-149 + (m / 8388608 - 1))] := by
  have e1 : fracI 32 = 23 := by decide
  have e2 : leastI 32 = -149 := by decide
  unfold partV magN expN
  rw [e1, e2, show 2 ^ 23 = 8388608 by decide, if_neg (by omega), show ((8388608 + n.natAbs % 8388608 : Nat) : Int) = 8388608 + m % 8388608 by omega, show -149 + ((n.natAbs / 8388608 - 1 : Nat) : Int) = -149 + (m / 8388608 - 1) by omega]

theorem cwe (w : World) : Calls Tryd.prog 36 #[.agg #[]] w fun e w' => e = .returned (.int .i64 11) ∧ Below w.heap.size w w' := by
  go_enter Tryd.func36, Tryd.ntmps36
  go_wp2
  go_ret
  exact ⟨rfl, (Below.refl _ _).alloc (Nat.le_refl _) _⟩
theorem cwf (w : World) : Calls Tryd.prog 37 #[.agg #[]] w fun e w' => e = .returned (.int .i64 52) ∧ Below w.heap.size w w' := by
  go_enter Tryd.func37, Tryd.ntmps37
  go_wp2
  go_ret
  exact ⟨rfl, (Below.refl _ _).alloc (Nat.le_refl _) _⟩

theorem least64 (w : World) : Calls Tryd.prog 16 #[.iface 41 (.agg #[])] w fun e w' => e = .returned (.int .i64 (-1074)) ∧ Below w.heap.size w w' := by
  have m1 := meth_we
  have m2 := meth_wf
  go_enter Tryd.func16, Tryd.ntmps16
  go_wp2
  refine region_below (by kernel_rfl) (by kernel_rfl) ?_
  repeat (go_big_quiet_step (first
    | (intro _; rfl)
    | (intro hC; go_at_call 36; exact Calls.qb hC (cwe _))
    | (intro hC; go_at_call 37; exact Calls.qb hC (cwf _))))
  refine wpQuiet_nil ?_
  intro W q
  go_wp2
  go_ret
  exact ⟨rfl, q⟩

theorem part64_small {n m : Int} (hm : m = n.natAbs) (h : m < 4503599627370496) : partV 64 n = .agg #[.bool (decide (n < 0)), .int .u64 m, .int .i64 (-1074)] := by
  have e1 : fracI 64 = 52 := by decide
  have e2 : leastI 64 = -1074 := by decide
  unfold partV magN expN
  rw [e1, e2, show 2 ^ 52 = 4503599627370496 by decide, if_pos (by omega), ← hm, show -1074 + ((n.natAbs / 4503599627370496 - 1 : Nat) : Int) = -1074 by omega]

theorem part64_big {n m : Int} (hm : m = n.natAbs) (h : ¬ m < 4503599627370496) : partV 64 n = .agg #[.bool (decide (n < 0)), .int .u64 (4503599627370496 + m % 4503599627370496), .int .i64 (-1074 + (m / 4503599627370496 - 1))] := by
  have e1 : fracI 64 = 52 := by decide
  have e2 : leastI 64 = -1074 := by decide
  unfold partV magN expN
  rw [e1, e2, show 2 ^ 52 = 4503599627370496 by decide, if_neg (by omega), show ((4503599627370496 + n.natAbs % 4503599627370496 : Nat) : Int) = 4503599627370496 + m % 4503599627370496 by omega, show -1074 + ((n.natAbs / 4503599627370496 - 1 : Nat) : Int) = -1074 + (m / 4503599627370496 - 1) by omega]

theorem finNo {n x : Int} (h1 : n ≠ 32) (h2 : n ≠ 64) : finI n x = false := by
  unfold finI
  rw [okI_no h1 h2]
  rfl

theorem finI_32 (x : Int) : finI 32 x = true ↔ -2139095040 < x ∧ x < 2139095040 := by
  unfold finI
  simp only [Bool.and_eq_true, okI_32, bne_iff_ne, ne_eq]
  simp only [show topI 32 = 2139095040 from rfl]
  omega
theorem finI_64 (x : Int) : finI 64 x = true ↔ -9218868437227405312 < x ∧ x < 9218868437227405312 := by
  unfold finI
  simp only [Bool.and_eq_true, okI_64, bne_iff_ne, ne_eq]
  simp only [show topI 64 = 9218868437227405312 from rfl]
  omega

end Go.Proofs.YteohgmmenlinbadDoor
