/- The program's BitBits and BitOrd: contracts. -/
import Derived.Test.YteohgmmenlinbacDoorJB
import Derived.Test.YteohgmmenlinbacDoorNumC
import Derived.Test.YteohgmmenlinbacDoorNumD
namespace Go.Proofs.YteohgmmenlinbacDoor
open Go.ChangeShapes Go.WideShapes Go.ChangeAt Go.RowKit
set_option linter.unusedVariables false

theorem sign32 (w : World) : Calls Tryd.prog 32 #[.iface 89 (.agg #[])] w fun e w' => e = .returned (.int .u64 2147483648) ∧ Below w.heap.size w w' := by
  have m1 := meth_ne
  have m2 := meth_nf
  go_enter Tryd.func32, Tryd.ntmps32
  go_wp2
  go_ret
  exact ⟨rfl, ((Below.refl _ _).alloc (Nat.le_refl _) _).alloc (by simp) _⟩

theorem sign64 (w : World) : Calls Tryd.prog 32 #[.iface 90 (.agg #[])] w fun e w' => e = .returned (.int .u64 9223372036854775808) ∧ Below w.heap.size w w' := by
  have m1 := meth_we
  have m2 := meth_wf
  go_enter Tryd.func32, Tryd.ntmps32
  go_wp2
  go_ret
  exact ⟨rfl, ((Below.refl _ _).alloc (Nat.le_refl _) _).alloc (by simp) _⟩

theorem wf64b {n : Int} (h1 : -9223372036854775808 ≤ n) (h2 : n ≤ 9223372036854775807) : (Lit.int .i64 n).wf = true := by
  simp only [Lit.wf, IntKind.min, IntKind.max, IntKind.signed, IntKind.bits, Bool.and_eq_true, decide_eq_true_eq, if_true]
  omega

theorem or32 (m : Int) (h0 : 0 < m) (h1 : m ≤ 2139095040) : bits .or .u64 m 2147483648 = 2147483648 + m := by
  rw [u64_or m 2147483648 (by omega) (by omega) (by omega) (by omega)]
  rw [show (2147483648 : Int).toNat = 2147483648 from rfl, nat_join31' 2147483648 m.toNat (by decide) (by omega)]
  omega

theorem or64 (m : Int) (h0 : 0 < m) (h1 : m ≤ 9218868437227405312) : bits .or .u64 m 9223372036854775808 = 9223372036854775808 + m := by
  rw [u64_or m 9223372036854775808 (by omega) (by omega) (by omega) (by omega)]
  rw [show (9223372036854775808 : Int).toNat = 9223372036854775808 from rfl, nat_join63' 9223372036854775808 m.toNat (by decide) (by omega)]
  omega

/-- The pattern of an order number: the word of its sign and its rung. -/
theorem implBits32 (w : World) (x : Int) (h2 : -2139095040 ≤ x) (h3 : x ≤ 2139095040) :
    Calls Tryd.prog 16 #[.int .i64 32, .int .i64 x] w fun e w' => e = .returned (.int .u64 (Ieee.single.word (decide (x < 0)) x.natAbs : Nat)) ∧ Below w.heap.size w w' := by
  have hf := format32 w
  have ho := implOk32 w x (wf64b (by omega) (by omega))
  rw [(okI_32 x).2 ⟨h2, h3⟩] at ho
  by_cases hn : x < 0
  · obtain ⟨m, rfl⟩ : ∃ m, x = -m := ⟨-x, by omega⟩
    have hv : ((Ieee.single.word (decide (-m < 0)) (-m).natAbs : Nat) : Int) = bits .or .u64 m 2147483648 := by
      rw [or32 m (by omega) (by omega), decide_eq_true hn]
      show ((Ieee.single.signWeight + (-m).natAbs : Nat) : Int) = _
      have : Ieee.single.signWeight = 2147483648 := by decide
      rw [this]; omega
    rw [hv]
    have hs := sign32
    clear hv
    go_enter Tryd.func16, Tryd.ntmps16
    go_wp2_with first | (go_at_call 31; go_must (refine hf.mono ?_); clear hf; rintro e w1 ⟨rfl, rfl⟩) | (go_at_call 39; go_must (refine ho.mono ?_); clear ho; rintro e w1 ⟨rfl, hb1⟩) | (go_at_call 32; go_must (refine (hs _).mono ?_); rintro e w2 ⟨rfl, hb⟩) | go_in
    go_ret
    exact ⟨rfl, hb1.trans (hb.mono hb1.size)⟩
  · have hv : ((Ieee.single.word (decide (x < 0)) x.natAbs : Nat) : Int) = x := by
      rw [decide_eq_false hn]
      show ((x.natAbs : Nat) : Int) = _
      omega
    rw [hv]
    clear hv
    go_enter Tryd.func16, Tryd.ntmps16
    go_wp2_with first | (go_at_call 31; go_must (refine hf.mono ?_); clear hf; rintro e w1 ⟨rfl, rfl⟩) | (go_at_call 39; go_must (refine ho.mono ?_); clear ho; rintro e w1 ⟨rfl, hb1⟩) | go_in
    go_ret
    exact ⟨rfl, hb1⟩

theorem implBits64 (w : World) (x : Int) (h2 : -9218868437227405312 ≤ x) (h3 : x ≤ 9218868437227405312) :
    Calls Tryd.prog 16 #[.int .i64 64, .int .i64 x] w fun e w' => e = .returned (.int .u64 (Ieee.double.word (decide (x < 0)) x.natAbs : Nat)) ∧ Below w.heap.size w w' := by
  have hf := format64 w
  have ho := implOk64 w x (wf64b (by omega) (by omega))
  rw [(okI_64 x).2 ⟨h2, h3⟩] at ho
  by_cases hn : x < 0
  · obtain ⟨m, rfl⟩ : ∃ m, x = -m := ⟨-x, by omega⟩
    have hv : ((Ieee.double.word (decide (-m < 0)) (-m).natAbs : Nat) : Int) = bits .or .u64 m 9223372036854775808 := by
      rw [or64 m (by omega) (by omega), decide_eq_true hn]
      show ((Ieee.double.signWeight + (-m).natAbs : Nat) : Int) = _
      have : Ieee.double.signWeight = 9223372036854775808 := by decide
      rw [this]; omega
    rw [hv]
    have hs := sign64
    clear hv
    go_enter Tryd.func16, Tryd.ntmps16
    go_wp2_with first | (go_at_call 31; go_must (refine hf.mono ?_); clear hf; rintro e w1 ⟨rfl, rfl⟩) | (go_at_call 39; go_must (refine ho.mono ?_); clear ho; rintro e w1 ⟨rfl, hb1⟩) | (go_at_call 32; go_must (refine (hs _).mono ?_); rintro e w2 ⟨rfl, hb⟩) | go_in
    go_ret
    exact ⟨rfl, hb1.trans (hb.mono hb1.size)⟩
  · have hv : ((Ieee.double.word (decide (x < 0)) x.natAbs : Nat) : Int) = x := by
      rw [decide_eq_false hn]
      show ((x.natAbs : Nat) : Int) = _
      omega
    rw [hv]
    clear hv
    go_enter Tryd.func16, Tryd.ntmps16
    go_wp2_with first | (go_at_call 31; go_must (refine hf.mono ?_); clear hf; rintro e w1 ⟨rfl, rfl⟩) | (go_at_call 39; go_must (refine ho.mono ?_); clear ho; rintro e w1 ⟨rfl, hb1⟩) | go_in
    go_ret
    exact ⟨rfl, hb1⟩

/-- BitOrd of a pattern whose sign bit is s and whose rest is z. -/
theorem implOrd32 (w : World) (x s z : Int) (h0 : 0 ≤ x) (h1 : x ≤ 18446744073709551615) (hs : s = x / 2147483648 % 2) (hz : z = x - s * 2147483648) :
    Calls Tryd.prog 11 #[.int .i64 32, .int .u64 x] w fun e w' => e = .returned (.tuple #[.int .i64 (if z ≤ 2139095040 then (if s = 1 then -z else z) else 0), .bool (decide (z ≤ 2139095040))]) ∧ Below w.heap.size w w' := by
  have hf := format32 w
  have hg := sign32
  have ht := topOf32
  have hA := andNot31 x h0 h1
  have hB := and31 x h0 h1
  rw [← hs] at hA hB
  rw [← hz] at hA
  have z0 : 0 ≤ z := by omega
  have s01 : s = 0 ∨ s = 1 := by omega
  have hb := Below.refl w.heap.size w
  clear hs
  by_cases ht2 : z ≤ 2139095040
  · rw [if_pos ht2, decide_eq_true ht2]
    clear hz h0 h1
    rcases s01 with rfl | rfl
    · rw [if_neg (by omega)]
      rw [Int.zero_mul] at hB
      go_enter Tryd.func11, Tryd.ntmps11
      go_wp2_with first | (go_at_call 31; go_must (refine hf.mono ?_); clear hf; rintro e w1 ⟨rfl, rfl⟩) | (go_at_call 32; go_must (refine (hg _).mono ?_); rintro e w2 ⟨rfl, q⟩; replace hb := hb.trans (q.mono hb.size); clear q) | (go_at_call 33; go_must (refine (ht _).mono ?_); rintro e w3 ⟨rfl, q⟩; replace hb := hb.trans (q.mono hb.size); clear q) | go_in
      go_ret2
      exact ⟨rfl, hb⟩
    · rw [if_pos rfl]
      rw [Int.one_mul] at hB
      go_enter Tryd.func11, Tryd.ntmps11
      go_wp2_with first | (go_at_call 31; go_must (refine hf.mono ?_); clear hf; rintro e w1 ⟨rfl, rfl⟩) | (go_at_call 32; go_must (refine (hg _).mono ?_); rintro e w2 ⟨rfl, q⟩; replace hb := hb.trans (q.mono hb.size); clear q) | (go_at_call 33; go_must (refine (ht _).mono ?_); rintro e w3 ⟨rfl, q⟩; replace hb := hb.trans (q.mono hb.size); clear q) | go_in
      go_ret2
      exact ⟨rfl, hb⟩
  · rw [if_neg ht2, decide_eq_false ht2]
    have z1 : z ≤ 18446744073709551615 := by omega
    clear hz h0 h1
    go_enter Tryd.func11, Tryd.ntmps11
    go_wp2_with first | (go_at_call 31; go_must (refine hf.mono ?_); clear hf; rintro e w1 ⟨rfl, rfl⟩) | (go_at_call 32; go_must (refine (hg _).mono ?_); rintro e w2 ⟨rfl, q⟩; replace hb := hb.trans (q.mono hb.size); clear q) | (go_at_call 33; go_must (refine (ht _).mono ?_); rintro e w3 ⟨rfl, q⟩; replace hb := hb.trans (q.mono hb.size); clear q) | go_in
    go_ret2
    exact ⟨rfl, hb⟩

/-- BitOrd of a pattern whose sign bit is s and whose rest is z. -/
theorem implOrd64 (w : World) (x s z : Int) (h0 : 0 ≤ x) (h1 : x ≤ 18446744073709551615) (hs : s = x / 9223372036854775808 % 2) (hz : z = x - s * 9223372036854775808) :
    Calls Tryd.prog 11 #[.int .i64 64, .int .u64 x] w fun e w' => e = .returned (.tuple #[.int .i64 (if z ≤ 9218868437227405312 then (if s = 1 then -z else z) else 0), .bool (decide (z ≤ 9218868437227405312))]) ∧ Below w.heap.size w w' := by
  have hf := format64 w
  have hg := sign64
  have ht := topOf64
  have hA := andNot63 x h0 h1
  have hB := and63 x h0 h1
  rw [← hs] at hA hB
  rw [← hz] at hA
  have z0 : 0 ≤ z := by omega
  have s01 : s = 0 ∨ s = 1 := by omega
  have hb := Below.refl w.heap.size w
  clear hs
  by_cases ht2 : z ≤ 9218868437227405312
  · rw [if_pos ht2, decide_eq_true ht2]
    clear hz h0 h1
    rcases s01 with rfl | rfl
    · rw [if_neg (by omega)]
      rw [Int.zero_mul] at hB
      go_enter Tryd.func11, Tryd.ntmps11
      go_wp2_with first | (go_at_call 31; go_must (refine hf.mono ?_); clear hf; rintro e w1 ⟨rfl, rfl⟩) | (go_at_call 32; go_must (refine (hg _).mono ?_); rintro e w2 ⟨rfl, q⟩; replace hb := hb.trans (q.mono hb.size); clear q) | (go_at_call 33; go_must (refine (ht _).mono ?_); rintro e w3 ⟨rfl, q⟩; replace hb := hb.trans (q.mono hb.size); clear q) | go_in
      go_ret2
      exact ⟨rfl, hb⟩
    · rw [if_pos rfl]
      rw [Int.one_mul] at hB
      go_enter Tryd.func11, Tryd.ntmps11
      go_wp2_with first | (go_at_call 31; go_must (refine hf.mono ?_); clear hf; rintro e w1 ⟨rfl, rfl⟩) | (go_at_call 32; go_must (refine (hg _).mono ?_); rintro e w2 ⟨rfl, q⟩; replace hb := hb.trans (q.mono hb.size); clear q) | (go_at_call 33; go_must (refine (ht _).mono ?_); rintro e w3 ⟨rfl, q⟩; replace hb := hb.trans (q.mono hb.size); clear q) | go_in
      go_ret2
      exact ⟨rfl, hb⟩
  · rw [if_neg ht2, decide_eq_false ht2]
    have z1 : z ≤ 18446744073709551615 := by omega
    clear hz h0 h1
    go_enter Tryd.func11, Tryd.ntmps11
    go_wp2_with first | (go_at_call 31; go_must (refine hf.mono ?_); clear hf; rintro e w1 ⟨rfl, rfl⟩) | (go_at_call 32; go_must (refine (hg _).mono ?_); rintro e w2 ⟨rfl, q⟩; replace hb := hb.trans (q.mono hb.size); clear q) | (go_at_call 33; go_must (refine (ht _).mono ?_); rintro e w3 ⟨rfl, q⟩; replace hb := hb.trans (q.mono hb.size); clear q) | go_in
    go_ret2
    exact ⟨rfl, hb⟩

end Go.Proofs.YteohgmmenlinbacDoor
