/- The program's BitBits and BitOrd: contracts. -/
import Derived.Test.YteohgmmenlinbagImplA
import Derived.Test.YteohgmmenlinbagNumC
import Derived.Test.YteohgmmenlinbagNumD
namespace Go.Proofs.Yteohgmmenlinbag
open Go.ChangeShapes Go.WideShapes Go.ChangeAt Go.RowKit
set_option linter.unusedVariables false

theorem sign32 (w : World) : Calls Try.prog 61 #[.iface 87 (.agg #[])] w fun e w' => e = .returned (.int .u64 2147483648) ∧ Below w.heap.size w w' := by
  have m1 := meth_ne
  have m2 := meth_nf
  go_enter Try.func61, Try.ntmps61
  go_wp2
  go_ret
  exact ⟨rfl, ((Below.refl _ _).alloc (Nat.le_refl _) _).alloc (by simp) _⟩

theorem sign64 (w : World) : Calls Try.prog 61 #[.iface 88 (.agg #[])] w fun e w' => e = .returned (.int .u64 9223372036854775808) ∧ Below w.heap.size w w' := by
  have m1 := meth_we
  have m2 := meth_wf
  go_enter Try.func61, Try.ntmps61
  go_wp2
  go_ret
  exact ⟨rfl, ((Below.refl _ _).alloc (Nat.le_refl _) _).alloc (by simp) _⟩

theorem wf64b {n : Int} (h1 : -9223372036854775808 ≤ n) (h2 : n ≤ 9223372036854775807) : (Lit.int .i64 n).wf = true := by
  simp only [Lit.wf, IntKind.min, IntKind.max, IntKind.signed, IntKind.bits, Bool.and_eq_true, decide_eq_true_eq, if_true]
  omega

theorem or32 (m : Int) (h0 : 0 < m) (h1 : m ≤ 2139095040) : bits .or .u64 m 2147483648 = 2147483648 + m := by
  rw [u64_or m 2147483648 (by omega) (by omega) (by omega) (by omega)]
  rw [show (2147483648 : Int).toNat = 2147483648 from rfl, nat_join31' 2147483648 m.toNat (by decide) (by omega)]
  omega

theorem or64 (m : Int) (h0 : 0 < m) (h1 : m ≤ 9218868437227405312) : bits .or .u64 m 9223372036854775808 = 9223372036854775808 + m := by
  rw [u64_or m 9223372036854775808 (by omega) (by omega) (by omega) (by omega)]
  rw [show (9223372036854775808 : Int).toNat = 9223372036854775808 from rfl, nat_join63' 9223372036854775808 m.toNat (by decide) (by omega)]
  omega

/-- The pattern of an order number: the word of its sign and its rung. -/
theorem implBits32 (w : World) (x : Int) (h2 : -2139095040 ≤ x) (h3 : x ≤ 2139095040) :
    Calls Try.prog 33 #[.int .i64 32, .int .i64 x] w fun e w' => e = .returned (.int .u64 (Ieee.single.word (decide (x < 0)) x.natAbs : Nat)) ∧ Below w.heap.size w w' := by
  have hf := format32 w
  have ho := implOk32 w x (wf64b (by omega) (by omega))
  rw [(okI_32 x).2 ⟨h2, h3⟩] at ho
  by_cases hn : x < 0
  · obtain ⟨m, rfl⟩ : ∃ m, x = -m := ⟨-x, by omega⟩
    have hv : ((Ieee.single.word (decide (-m < 0)) (-m).natAbs : Nat) : Int) = bits .or .u64 m 2147483648 := by
      rw [or32 m (by omega) (by omega), decide_eq_true hn]
      show ((Ieee.single.signWeight + (-m).natAbs : Nat) : Int) = _
      have : Ieee.single.signWeight = 2147483648 := by decide
      rw [this]; omega
    rw [hv]
    have hs := sign32
    clear hv
    go_enter Try.func33, Try.ntmps33
    go_wp2_with first | (go_at_call 58; go_must (refine hf.mono ?_); clear hf; rintro e w1 ⟨rfl, rfl⟩) | (go_at_call 59; go_must (refine ho.mono ?_); clear ho; rintro e w1 ⟨rfl, hb1⟩) | (go_at_call 61; go_must (refine (hs _).mono ?_); rintro e w2 ⟨rfl, hb⟩) | go_in
    go_ret
    exact ⟨rfl, hb1.trans (hb.mono hb1.size)⟩
  · have hv : ((Ieee.single.word (decide (x < 0)) x.natAbs : Nat) : Int) = x := by
      rw [decide_eq_false hn]
      show ((x.natAbs : Nat) : Int) = _
      omega
    rw [hv]
    clear hv
    go_enter Try.func33, Try.ntmps33
    go_wp2_with first | (go_at_call 58; go_must (refine hf.mono ?_); clear hf; rintro e w1 ⟨rfl, rfl⟩) | (go_at_call 59; go_must (refine ho.mono ?_); clear ho; rintro e w1 ⟨rfl, hb1⟩) | go_in
    go_ret
    exact ⟨rfl, hb1⟩

theorem implBits64 (w : World) (x : Int) (h2 : -9218868437227405312 ≤ x) (h3 : x ≤ 9218868437227405312) :
    Calls Try.prog 33 #[.int .i64 64, .int .i64 x] w fun e w' => e = .returned (.int .u64 (Ieee.double.word (decide (x < 0)) x.natAbs : Nat)) ∧ Below w.heap.size w w' := by
  have hf := format64 w
  have ho := implOk64 w x (wf64b (by omega) (by omega))
  rw [(okI_64 x).2 ⟨h2, h3⟩] at ho
  by_cases hn : x < 0
  · obtain ⟨m, rfl⟩ : ∃ m, x = -m := ⟨-x, by omega⟩
    have hv : ((Ieee.double.word (decide (-m < 0)) (-m).natAbs : Nat) : Int) = bits .or .u64 m 9223372036854775808 := by
      rw [or64 m (by omega) (by omega), decide_eq_true hn]
      show ((Ieee.double.signWeight + (-m).natAbs : Nat) : Int) = _
      have : Ieee.double.signWeight = 9223372036854775808 := by decide
      rw [this]; omega
    rw [hv]
    have hs := sign64
    clear hv
    go_enter Try.func33, Try.ntmps33
    go_wp2_with first | (go_at_call 58; go_must (refine hf.mono ?_); clear hf; rintro e w1 ⟨rfl, rfl⟩) | (go_at_call 59; go_must (refine ho.mono ?_); clear ho; rintro e w1 ⟨rfl, hb1⟩) | (go_at_call 61; go_must (refine (hs _).mono ?_); rintro e w2 ⟨rfl, hb⟩) | go_in
    go_ret
    exact ⟨rfl, hb1.trans (hb.mono hb1.size)⟩
  · have hv : ((Ieee.double.word (decide (x < 0)) x.natAbs : Nat) : Int) = x := by
      rw [decide_eq_false hn]
      show ((x.natAbs : Nat) : Int) = _
      omega
    rw [hv]
    clear hv
    go_enter Try.func33, Try.ntmps33
    go_wp2_with first | (go_at_call 58; go_must (refine hf.mono ?_); clear hf; rintro e w1 ⟨rfl, rfl⟩) | (go_at_call 59; go_must (refine ho.mono ?_); clear ho; rintro e w1 ⟨rfl, hb1⟩) | go_in
    go_ret
    exact ⟨rfl, hb1⟩

end Go.Proofs.Yteohgmmenlinbag
