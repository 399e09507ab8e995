/- What FnBitBack asks of patterns, order numbers and parts. -/
import Derived.Test.YteohgmmenlinbaaDoorSpecO
import Derived.Test.YteohgmmenlinbaaDoorImplM
namespace Go.Proofs.YteohgmmenlinbaaDoor
open Go.RowKit
set_option linter.unusedVariables false

theorem bits_in (n x : Int) : 0 ≤ bitsI n x ∧ bitsI n x ≤ 18446744073709551615 := by
  unfold bitsI
  by_cases h : okI n x = true
  · rw [if_pos h]
    rcases okI_width h with rfl | rfl
    · have := (okI_32 x).1 h
      rw [if_pos rfl]
      split <;> omega
    · have := (okI_64 x).1 h
      simp only [show ((64 : Int) = 32) = False by simp, if_false]
      split <;> omega
  · rw [if_neg h]
    omega

theorem bits_ord {n x : Int} (h : okI n x = true) : ordI n (bitsI n x) = x ∧ isFloat n (bitsI n x) = true := by
  have hb : bitsI n x = if x < 0 then (if n = 32 then 2147483648 else 9223372036854775808) + -x else x := by unfold bitsI; rw [if_pos h]
  rw [hb]
  unfold ordI isFloat
  rcases okI_width h with rfl | rfl
  · have := (okI_32 x).1 h
    simp only [if_true]
    split
    · rename_i c
      have e1 : (2147483648 + -x) / 2147483648 % 2 = 1 := by omega
      rw [e1]
      refine ⟨?_, decide_eq_true (by omega)⟩
      rw [if_pos (by omega), if_pos rfl]
      omega
    · rename_i c
      have e1 : x / 2147483648 % 2 = 0 := by omega
      rw [e1]
      refine ⟨?_, decide_eq_true (by omega)⟩
      rw [if_pos (by omega), if_neg (by decide)]
      omega
  · have := (okI_64 x).1 h
    simp only [show ((64 : Int) = 32) = False by simp, if_false, if_true]
    split
    · rename_i c
      have e1 : (9223372036854775808 + -x) / 9223372036854775808 % 2 = 1 := by omega
      rw [e1]
      refine ⟨?_, decide_eq_true (by omega)⟩
      rw [if_pos (by omega), if_pos rfl]
      omega
    · rename_i c
      have e1 : x / 9223372036854775808 % 2 = 0 := by omega
      rw [e1]
      refine ⟨?_, decide_eq_true (by omega)⟩
      rw [if_pos (by omega), if_neg (by decide)]
      omega

theorem ord_bits {n x : Int} (h0 : 0 ≤ x) (h1 : x ≤ 18446744073709551615) (h : isFloat n x = true) :
    (n = 32 ∨ n = 64) ∧ (Lit.int .i64 (ordI n x)).wf = true ∧ (bitsI n (ordI n x) = x ∨ (ordI n x = 0 ∧ x = if n = 32 then 2147483648 else 9223372036854775808)) := by
  unfold isFloat at h
  by_cases k1 : n = 32
  · subst k1
    rw [if_pos rfl] at h
    have hz := of_decide_eq_true h
    have ho : ordI 32 x = if x / 2147483648 % 2 = 1 then -(x - x / 2147483648 % 2 * 2147483648) else x - x / 2147483648 % 2 * 2147483648 := by unfold ordI; rw [if_pos rfl, if_pos hz]
    rw [ho]
    rcases (show x / 2147483648 % 2 = 0 ∨ x / 2147483648 % 2 = 1 by omega) with e | e
    · rw [e] at hz ⊢
      rw [if_neg (by decide)]
      have hx : okI 32 (x - 0 * 2147483648) = true := (okI_32 _).2 ⟨by omega, by omega⟩
      refine ⟨.inl rfl, wf64 (by omega) (by omega), .inl ?_⟩
      unfold bitsI
      rw [if_pos hx, if_neg (by omega)]
      omega
    · rw [e] at hz ⊢
      rw [if_pos rfl]
      have hx : okI 32 (-(x - 1 * 2147483648)) = true := (okI_32 _).2 ⟨by omega, by omega⟩
      refine ⟨.inl rfl, wf64 (by omega) (by omega), ?_⟩
      by_cases c : x = 2147483648
      · exact .inr ⟨by omega, by rw [if_pos rfl]; exact c⟩
      · left
        unfold bitsI
        rw [if_pos hx, if_pos rfl, if_pos (by omega)]
        omega
  · rw [if_neg k1] at h
    by_cases k2 : n = 64
    · subst k2
      rw [if_pos rfl] at h
      have hz := of_decide_eq_true h
      have ho : ordI 64 x = if x / 9223372036854775808 % 2 = 1 then -(x - x / 9223372036854775808 % 2 * 9223372036854775808) else x - x / 9223372036854775808 % 2 * 9223372036854775808 := by unfold ordI; rw [if_neg (by decide), if_pos rfl, if_pos hz]
      rw [ho]
      rcases (show x / 9223372036854775808 % 2 = 0 ∨ x / 9223372036854775808 % 2 = 1 by omega) with e | e
      · rw [e] at hz ⊢
        rw [if_neg (by decide)]
        have hx : okI 64 (x - 0 * 9223372036854775808) = true := (okI_64 _).2 ⟨by omega, by omega⟩
        refine ⟨.inr rfl, wf64 (by omega) (by omega), .inl ?_⟩
        unfold bitsI
        rw [if_pos hx, if_neg (by omega)]
        omega
      · rw [e] at hz ⊢
        rw [if_pos rfl]
        have hx : okI 64 (-(x - 1 * 9223372036854775808)) = true := (okI_64 _).2 ⟨by omega, by omega⟩
        refine ⟨.inr rfl, wf64 (by omega) (by omega), ?_⟩
        by_cases c : x = 9223372036854775808
        · exact .inr ⟨by omega, by rw [if_neg (by decide)]; exact c⟩
        · left
          unfold bitsI
          rw [if_pos hx, if_pos (by omega), if_neg (by decide)]
          omega
    · rw [if_neg k2] at h
      cases h

/-- The part of a finite float: its size and power. -/
theorem part_in {n x : Int} (h : finI n x = true) : (n = 32 ∨ n = 64) ∧ magN (fracI n) x.natAbs < 18014398509481984 ∧ -1074 ≤ leastI n + (expN (fracI n) x.natAbs : Nat) ∧ leastI n + (expN (fracI n) x.natAbs : Nat) ≤ 1000 ∧
    BM n (decide (x < 0)) (magN (fracI n) x.natAbs) (leastI n + (expN (fracI n) x.natAbs : Nat)) x true ∧ BM n (decide (x < 0)) (magN (fracI n) x.natAbs * 2) (leastI n + (expN (fracI n) x.natAbs : Nat) - 1) x true := by
  have hn : n = 32 ∨ n = 64 := by
    unfold finI at h
    simp only [Bool.and_eq_true] at h
    exact okI_width h.1
  have key : ∀ (F : Nat) (L : Int) (inf : Nat), -1074 ≤ L → L ≤ -149 → x.natAbs < inf → ∀ (m : Nat) (p : Int), m = magN F x.natAbs → p = L + (expN F x.natAbs : Nat) →
      MakeAns F L inf (decide (x < 0)) m p x true ∧ MakeAns F L inf (decide (x < 0)) (m * 2) (p - 1) x true := by
    intro F L inf l1 l2 hi m p hm hp
    have hv : isV F L x.natAbs m p := by
      unfold isV
      rw [val_mag, hm, hp, Nat.mul_assoc, ← Nat.pow_add]
      congr 2
      omega
    have hx : x = if decide (x < 0) = true then -(x.natAbs : Int) else (x.natAbs : Int) := by
      by_cases c : x < 0
      · rw [if_pos (decide_eq_true c)]; omega
      · rw [if_neg (by rw [decide_eq_false c]; decide)]; omega
    exact ⟨.inl ⟨rfl, x.natAbs, hi, hv, hx⟩, .inl ⟨rfl, x.natAbs, hi, (isV_twice (by omega)).2 hv, hx⟩⟩
  have bmz : ∀ (m : Nat) (p : Int), m = 0 → x = 0 → -2000 ≤ p → p ≤ 2000 → BM n (decide (x < 0)) m p x true := by
    intro m p hm hx p1 p2
    unfold BM
    rw [if_pos ⟨hn, p1, p2⟩, if_pos hm]
    exact ⟨hx, rfl⟩
  rcases hn with rfl | rfl
  · have hf := (finI_32 x).1 h
    have e1 : fracI 32 = 23 := by decide
    have e2 : leastI 32 = -149 := by decide
    rw [e1, e2]
    have hm : magN 23 x.natAbs < 16777216 := by
      unfold magN
      split
      · rename_i c; exact Nat.lt_trans c (by decide)
      · have := Nat.mod_lt x.natAbs (show 0 < 2 ^ 23 by decide)
        omega
    have he : expN 23 x.natAbs ≤ 254 := by unfold expN; omega
    have hz : magN 23 x.natAbs = 0 → x = 0 := by
      unfold magN
      split
      · intro c; omega
      · intro c; omega
    obtain ⟨k1, k2⟩ := key 23 (-149) 2139095040 (by omega) (by omega) (by omega) _ _ rfl rfl
    refine ⟨.inl rfl, by omega, by omega, by omega, ?_, ?_⟩
    · by_cases c : magN 23 x.natAbs = 0
      · exact bmz _ _ c (hz c) (by omega) (by omega)
      · unfold BM
        rw [if_pos ⟨.inl rfl, by omega, by omega⟩, if_neg c, if_pos rfl]
        exact k1
    · by_cases c : magN 23 x.natAbs = 0
      · exact bmz _ _ (by omega) (hz c) (by omega) (by omega)
      · unfold BM
        rw [if_pos ⟨.inl rfl, by omega, by omega⟩, if_neg (by omega), if_pos rfl]
        exact k2
  · have hf := (finI_64 x).1 h
    have e1 : fracI 64 = 52 := by decide
    have e2 : leastI 64 = -1074 := by decide
    rw [e1, e2]
    have hm : magN 52 x.natAbs < 9007199254740992 := by
      unfold magN
      split
      · rename_i c; exact Nat.lt_trans c (by decide)
      · have := Nat.mod_lt x.natAbs (show 0 < 2 ^ 52 by decide)
        omega
    have he : expN 52 x.natAbs ≤ 2046 := by unfold expN; omega
    have hz : magN 52 x.natAbs = 0 → x = 0 := by
      unfold magN
      split
      · intro c; omega
      · intro c; omega
    obtain ⟨k1, k2⟩ := key 52 (-1074) 9218868437227405312 (by omega) (by omega) (by omega) _ _ rfl rfl
    refine ⟨.inr rfl, by omega, by omega, by omega, ?_, ?_⟩
    · by_cases c : magN 52 x.natAbs = 0
      · exact bmz _ _ c (hz c) (by omega) (by omega)
      · unfold BM
        rw [if_pos ⟨.inr rfl, by omega, by omega⟩, if_neg c, if_neg (by decide)]
        exact k1
    · by_cases c : magN 52 x.natAbs = 0
      · exact bmz _ _ (by omega) (hz c) (by omega) (by omega)
      · unfold BM
        rw [if_pos ⟨.inr rfl, by omega, by omega⟩, if_neg (by omega), if_neg (by decide)]
        exact k2

end Go.Proofs.YteohgmmenlinbaaDoor
