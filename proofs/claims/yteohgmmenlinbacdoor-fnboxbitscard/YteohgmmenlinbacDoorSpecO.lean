/- The model's BitOrd and BitBits at every argument; the program's too: contracts. -/
import Derived.Test.YteohgmmenlinbacDoorImplB
namespace Go.Proofs.YteohgmmenlinbacDoor
open Go.ChangeShapes Go.WideShapes Go.ChangeAt Go.RowKit
set_option linter.unusedVariables false

def OrdOut (w : World) (v : Int) (k : Bool) (e : Ending) (w' : World) : Prop := e = .returned (.tuple #[.int .i64 v, .bool k]) ∧ Below w.heap.size w w'

theorem specOrd32 (w : World) (x s z : Int) (h0 : 0 ≤ x) (h1 : x ≤ 18446744073709551615) (hs : s = x / 2147483648 % 2) (hz : z = x - s * 2147483648) :
    Calls Tryd.prog 30 #[.int .i64 32, .int .u64 x] w (OrdOut w (if z ≤ 2139095040 then (if s = 1 then -z else z) else 0) (decide (z ≤ 2139095040))) := by
  have hT := fun W => bitTop W 32
  rw [show topI 32 = 2139095040 from rfl] at hT
  by_cases hbig : 0 < x / 4294967296
  · rw [if_neg (by omega), decide_eq_false (by omega)]
    clear hs hz
    go_enter Tryd.func30, Tryd.ntmps30
    go_wp2
    go_ret2
    exact ⟨rfl, Below.refl _ _⟩
  · have hx : x < 4294967296 := by omega
    have e : z = x % 2147483648 := by omega
    by_cases ht : z ≤ 2139095040
    · rw [if_pos ht, decide_eq_true ht]
      by_cases hs1 : s = 1
      · rw [if_pos hs1, e]
        have hge : 2147483648 ≤ x := by omega
        rw [e] at ht
        clear hs hz e hs1
        go_enter Tryd.func30, Tryd.ntmps30
        go_wp2_with first | (go_at_call 44; go_must (refine (hT _).mono ?_); clear hT; rintro e w1 ⟨rfl, rfl⟩) | go_in
        go_ret2
        exact ⟨rfl, Below.refl _ _⟩
      · rw [if_neg hs1, e]
        have hge : x < 2147483648 := by omega
        rw [e] at ht
        clear hs hz e hs1
        go_enter Tryd.func30, Tryd.ntmps30
        go_wp2_with first | (go_at_call 44; go_must (refine (hT _).mono ?_); clear hT; rintro e w1 ⟨rfl, rfl⟩) | go_in
        go_ret2
        exact ⟨rfl, Below.refl _ _⟩
    · rw [if_neg ht, decide_eq_false ht]
      rw [e] at ht
      have ht2 : 2139095040 < x % 2147483648 := by omega
      clear hs hz e
      go_enter Tryd.func30, Tryd.ntmps30
      go_wp2_with first | (go_at_call 44; go_must (refine (hT _).mono ?_); clear hT; rintro e w1 ⟨rfl, rfl⟩) | go_in
      go_ret2
      exact ⟨rfl, Below.refl _ _⟩

theorem specOrd64 (w : World) (x s z : Int) (h0 : 0 ≤ x) (h1 : x ≤ 18446744073709551615) (hs : s = x / 9223372036854775808 % 2) (hz : z = x - s * 9223372036854775808) :
    Calls Tryd.prog 30 #[.int .i64 64, .int .u64 x] w (OrdOut w (if z ≤ 9218868437227405312 then (if s = 1 then -z else z) else 0) (decide (z ≤ 9218868437227405312))) := by
  have hT := fun W => bitTop W 64
  rw [show topI 64 = 9218868437227405312 from rfl] at hT
  have e : z = x % 9223372036854775808 := by omega
  by_cases ht : z ≤ 9218868437227405312
  · rw [if_pos ht, decide_eq_true ht]
    by_cases hs1 : s = 1
    · rw [if_pos hs1, e]
      have hge : 9223372036854775808 ≤ x := by omega
      rw [e] at ht
      clear hs hz e hs1
      go_enter Tryd.func30, Tryd.ntmps30
      go_wp2_with first | (go_at_call 44; go_must (refine (hT _).mono ?_); clear hT; rintro e w1 ⟨rfl, rfl⟩) | go_in
      go_ret2
      exact ⟨rfl, Below.refl _ _⟩
    · rw [if_neg hs1, e]
      have hge : x < 9223372036854775808 := by omega
      rw [e] at ht
      clear hs hz e hs1
      go_enter Tryd.func30, Tryd.ntmps30
      go_wp2_with first | (go_at_call 44; go_must (refine (hT _).mono ?_); clear hT; rintro e w1 ⟨rfl, rfl⟩) | go_in
      go_ret2
      exact ⟨rfl, Below.refl _ _⟩
  · rw [if_neg ht, decide_eq_false ht]
    rw [e] at ht
    have ht2 : 9218868437227405312 < x % 9223372036854775808 := by omega
    clear hs hz e
    go_enter Tryd.func30, Tryd.ntmps30
    go_wp2_with first | (go_at_call 44; go_must (refine (hT _).mono ?_); clear hT; rintro e w1 ⟨rfl, rfl⟩) | go_in
    go_ret2
    exact ⟨rfl, Below.refl _ _⟩

theorem specOrdNo (w : World) (n x : Int) (h1 : n ≠ 32) (h2 : n ≠ 64) :
    Calls Tryd.prog 30 #[.int .i64 n, .int .u64 x] w (OrdOut w 0 false) := by
  have e1 : (n == 32) = false := by simp; exact h1
  have e2 : (n == 64) = false := by simp; exact h2
  go_enter Tryd.func30, Tryd.ntmps30
  go_wp2
  go_ret2
  exact ⟨rfl, Below.refl _ _⟩

theorem implOrdNo (w : World) (n x : Int) (h1 : n ≠ 32) (h2 : n ≠ 64) :
    Calls Tryd.prog 11 #[.int .i64 n, .int .u64 x] w (OrdOut w 0 false) := by
  have hf := formatNo w n h1 h2
  go_enter Tryd.func11, Tryd.ntmps11
  go_wp2_with (go_at_call 31; go_must (refine hf.mono ?_); clear hf; rintro e w1 ⟨rfl, rfl⟩)
  go_ret2
  exact ⟨rfl, Below.refl _ _⟩

/-- The order number of a pattern, and whether it is a float. -/
def ordI (n x : Int) : Int :=
  if n = 32 then (if x - x / 2147483648 % 2 * 2147483648 ≤ 2139095040 then (if x / 2147483648 % 2 = 1 then -(x - x / 2147483648 % 2 * 2147483648) else x - x / 2147483648 % 2 * 2147483648) else 0)
  else if n = 64 then (if x - x / 9223372036854775808 % 2 * 9223372036854775808 ≤ 9218868437227405312 then (if x / 9223372036854775808 % 2 = 1 then -(x - x / 9223372036854775808 % 2 * 9223372036854775808) else x - x / 9223372036854775808 % 2 * 9223372036854775808) else 0)
  else 0
def isFloat (n x : Int) : Bool :=
  if n = 32 then decide (x - x / 2147483648 % 2 * 2147483648 ≤ 2139095040)
  else if n = 64 then decide (x - x / 9223372036854775808 % 2 * 9223372036854775808 ≤ 9218868437227405312)
  else false

theorem specOrd (w : World) (n x : Int) (h0 : 0 ≤ x) (h1 : x ≤ 18446744073709551615) :
    Calls Tryd.prog 30 #[.int .i64 n, .int .u64 x] w (OrdOut w (ordI n x) (isFloat n x)) := by
  unfold ordI isFloat
  by_cases k1 : n = 32
  · subst k1
    rw [if_pos rfl, if_pos rfl]
    exact specOrd32 w x _ _ h0 h1 rfl rfl
  · rw [if_neg k1, if_neg k1]
    by_cases k2 : n = 64
    · subst k2
      rw [if_pos rfl, if_pos rfl]
      exact specOrd64 w x _ _ h0 h1 rfl rfl
    · rw [if_neg k2, if_neg k2]
      exact specOrdNo w n x k1 k2

theorem implOrd (w : World) (n x : Int) (h0 : 0 ≤ x) (h1 : x ≤ 18446744073709551615) :
    Calls Tryd.prog 11 #[.int .i64 n, .int .u64 x] w (OrdOut w (ordI n x) (isFloat n x)) := by
  unfold ordI isFloat
  by_cases k1 : n = 32
  · subst k1
    rw [if_pos rfl, if_pos rfl]
    exact implOrd32 w x _ _ h0 h1 rfl rfl
  · rw [if_neg k1, if_neg k1]
    by_cases k2 : n = 64
    · subst k2
      rw [if_pos rfl, if_pos rfl]
      exact implOrd64 w x _ _ h0 h1 rfl rfl
    · rw [if_neg k2, if_neg k2]
      exact implOrdNo w n x k1 k2

theorem u64_bounds {n : Int} (h : (Lit.int .u64 n).wf = true) : 0 ≤ n ∧ n ≤ 18446744073709551615 := by
  simpa [Lit.wf, IntKind.min, IntKind.max, IntKind.signed, IntKind.bits, Bool.and_eq_true, decide_eq_true_eq] using h

/-- The pattern of an order number. -/
def bitsI (n x : Int) : Int := if okI n x = true then (if x < 0 then (if n = 32 then 2147483648 else 9223372036854775808) + -x else x) else 0

theorem specBits (w : World) (n x : Int) (hx : (Lit.int .i64 x).wf = true) :
    Calls Tryd.prog 47 #[.int .i64 n, .int .i64 x] w fun e w' => e = .returned (.int .u64 (bitsI n x)) ∧ w = w' := by
  have ho := fun W => specOk W n x hx
  unfold bitsI
  by_cases h : okI n x = true
  · rw [if_pos h]
    rw [h] at ho
    rcases okI_width h with rfl | rfl
    · have hb := (okI_32 x).1 h
      rw [if_pos rfl]
      by_cases hn : x < 0
      · rw [if_pos hn]
        go_enter Tryd.func47, Tryd.ntmps47
        go_wp2_with (go_at_call 45; go_must (refine (ho _).mono ?_); clear ho; rintro e w1 ⟨rfl, rfl⟩)
        go_ret
        exact ⟨rfl, rfl⟩
      · rw [if_neg hn]
        go_enter Tryd.func47, Tryd.ntmps47
        go_wp2_with (go_at_call 45; go_must (refine (ho _).mono ?_); clear ho; rintro e w1 ⟨rfl, rfl⟩)
        go_ret
        exact ⟨rfl, rfl⟩
    · have hb := (okI_64 x).1 h
      rw [show (if (64 : Int) = 32 then (2147483648 : Int) else 9223372036854775808) = 9223372036854775808 from rfl]
      by_cases hn : x < 0
      · rw [if_pos hn]
        go_enter Tryd.func47, Tryd.ntmps47
        go_wp2_with (go_at_call 45; go_must (refine (ho _).mono ?_); clear ho; rintro e w1 ⟨rfl, rfl⟩)
        go_ret
        exact ⟨rfl, rfl⟩
      · rw [if_neg hn]
        go_enter Tryd.func47, Tryd.ntmps47
        go_wp2_with (go_at_call 45; go_must (refine (ho _).mono ?_); clear ho; rintro e w1 ⟨rfl, rfl⟩)
        go_ret
        exact ⟨rfl, rfl⟩
  · rw [if_neg h]
    rw [Bool.not_eq_true] at h
    rw [h] at ho
    clear h
    go_enter Tryd.func47, Tryd.ntmps47
    go_wp2_with (go_at_call 45; go_must (refine (ho _).mono ?_); clear ho; rintro e w1 ⟨rfl, rfl⟩)
    go_ret
    exact ⟨rfl, rfl⟩

theorem implBitsNo (w : World) (n x : Int) (hx : (Lit.int .i64 x).wf = true) (h : okI n x = false) :
    Calls Tryd.prog 16 #[.int .i64 n, .int .i64 x] w fun e w' => e = .returned (.int .u64 0) ∧ Below w.heap.size w w' := by
  have ho := fun W => implOk W n x hx
  rw [h] at ho
  by_cases k1 : n = 32
  · subst k1
    have hf := format32 w
    go_enter Tryd.func16, Tryd.ntmps16
    go_wp2_with first | (go_at_call 31; go_must (refine hf.mono ?_); clear hf; rintro e w1 ⟨rfl, rfl⟩) | (go_at_call 39; go_must (refine (ho _).mono ?_); clear ho; rintro e w1 ⟨rfl, q⟩)
    go_ret
    exact ⟨rfl, q⟩
  · by_cases k2 : n = 64
    · subst k2
      have hf := format64 w
      go_enter Tryd.func16, Tryd.ntmps16
      go_wp2_with first | (go_at_call 31; go_must (refine hf.mono ?_); clear hf; rintro e w1 ⟨rfl, rfl⟩) | (go_at_call 39; go_must (refine (ho _).mono ?_); clear ho; rintro e w1 ⟨rfl, q⟩)
      go_ret
      exact ⟨rfl, q⟩
    · have hf := formatNo w n k1 k2
      go_enter Tryd.func16, Tryd.ntmps16
      go_wp2_with first | (go_at_call 31; go_must (refine hf.mono ?_); clear hf; rintro e w1 ⟨rfl, rfl⟩)
      go_ret
      exact ⟨rfl, Below.refl _ _⟩

theorem word_eq32 {x : Int} (h : -2139095040 ≤ x ∧ x ≤ 2139095040) : ((Ieee.single.word (decide (x < 0)) x.natAbs : Nat) : Int) = if x < 0 then 2147483648 + -x else x := by
  have hw : Ieee.single.signWeight = 2147483648 := by decide
  by_cases hn : x < 0
  · rw [if_pos hn, decide_eq_true hn]
    show ((Ieee.single.signWeight + x.natAbs : Nat) : Int) = _
    rw [hw]; omega
  · rw [if_neg hn, decide_eq_false hn]
    show ((x.natAbs : Nat) : Int) = _
    omega

theorem word_eq64 {x : Int} (h : -9218868437227405312 ≤ x ∧ x ≤ 9218868437227405312) : ((Ieee.double.word (decide (x < 0)) x.natAbs : Nat) : Int) = if x < 0 then 9223372036854775808 + -x else x := by
  have hw : Ieee.double.signWeight = 9223372036854775808 := by decide
  by_cases hn : x < 0
  · rw [if_pos hn, decide_eq_true hn]
    show ((Ieee.double.signWeight + x.natAbs : Nat) : Int) = _
    rw [hw]; omega
  · rw [if_neg hn, decide_eq_false hn]
    show ((x.natAbs : Nat) : Int) = _
    omega

theorem implBits (w : World) (n x : Int) (hx : (Lit.int .i64 x).wf = true) :
    Calls Tryd.prog 16 #[.int .i64 n, .int .i64 x] w fun e w' => e = .returned (.int .u64 (bitsI n x)) ∧ Below w.heap.size w w' := by
  unfold bitsI
  by_cases h : okI n x = true
  · rw [if_pos h]
    rcases okI_width h with rfl | rfl
    · have hb := (okI_32 x).1 h
      have := implBits32 w x hb.1 hb.2
      rw [word_eq32 hb] at this
      rw [if_pos rfl]
      exact this
    · have hb := (okI_64 x).1 h
      have := implBits64 w x hb.1 hb.2
      rw [word_eq64 hb] at this
      rw [show (if (64 : Int) = 32 then (2147483648 : Int) else 9223372036854775808) = 9223372036854775808 from rfl]
      exact this
  · rw [if_neg h]
    rw [Bool.not_eq_true] at h
    exact implBitsNo w n x hx h

end Go.Proofs.YteohgmmenlinbacDoor
