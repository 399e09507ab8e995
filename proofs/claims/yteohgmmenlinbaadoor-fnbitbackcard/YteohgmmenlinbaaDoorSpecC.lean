/- The model's BitPartOf at what is not finite; BitMake: its contract. -/
import Derived.Test.YteohgmmenlinbaaDoorSpecB
import Derived.Deep.LoopGhost
namespace Go.Proofs.YteohgmmenlinbaaDoor
open Go.ChangeShapes Go.WideShapes Go.ChangeAt Go.RowKit
set_option linter.unusedVariables false

/-- The rung r of a format has the value size * 2 ^ power. -/
def isV (F : Nat) (L : Int) (r size : Nat) (power : Int) : Prop := val F r * 2 ^ (L + 5000).toNat = size * 2 ^ (power + 5000).toNat

theorem pow_split (p : Int) (hp : -4000 ≤ p) : 2 ^ (p + 1 + 5000).toNat = 2 * 2 ^ (p + 5000).toNat := by
  have : (p + 1 + 5000).toNat = (p + 5000).toNat + 1 := by omega
  rw [this, Nat.pow_succ, Nat.mul_comm]

theorem isV_half {F : Nat} {L : Int} {r size : Nat} {p : Int} (hp : -4000 ≤ p) (h : size % 2 = 0) : isV F L r (size / 2) (p + 1) ↔ isV F L r size p := by
  unfold isV
  rw [pow_split p hp, ← Nat.mul_assoc]
  have : size / 2 * 2 = size := by omega
  rw [this]

theorem isV_twice {F : Nat} {L : Int} {r size : Nat} {p : Int} (hp : -4000 < p) : isV F L r (size * 2) (p - 1) ↔ isV F L r size p := by
  unfold isV
  have e := pow_split (p - 1) (by omega)
  rw [show p - 1 + 1 = p by omega] at e
  rw [e, Nat.mul_assoc]

theorem pow_sub_split {a b : Int} (h : a ≤ b) (ha : -4000 ≤ a) : 2 ^ (b + 5000).toNat = 2 ^ (b - a).toNat * 2 ^ (a + 5000).toNat := by
  rw [← Nat.pow_add]; congr 1; omega

/-- Fitting size and power: there is just one rung. -/
theorem isV_fit {F : Nat} {L : Int} {r size : Nat} {p : Int} (hL : -4000 ≤ L) (hp : L ≤ p) (hs : size < 2 ^ (F + 1)) (h : p = L ∨ 2 ^ F ≤ size) :
    isV F L r size p ↔ r = (p - L).toNat * 2 ^ F + size := by
  have hv := val_of F (p - L).toNat size (by omega) (by omega)
  unfold isV
  rw [pow_sub_split hp hL, ← Nat.mul_assoc, ← hv]
  constructor
  · intro e
    exact val_inj (Nat.eq_of_mul_eq_mul_right (Nat.two_pow_pos _) e)
  · intro e; rw [e]

/-- An odd size that is too great, or a power that is too small: no rung. -/
theorem isV_none {F : Nat} {L : Int} {r size : Nat} {p : Int} (hL : -4000 ≤ L) (hp4 : -4000 ≤ p) (ho : size % 2 = 1) (h : 2 ^ (F + 1) ≤ size ∨ p < L) : ¬ isV F L r size p := by
  obtain ⟨e, k, rfl, hk, he⟩ := decomp F r
  unfold isV
  rw [val_of F e k (by omega) he]
  intro hq
  by_cases hpL : p < L
  · rw [pow_sub_split (Int.le_of_lt hpL) hp4, ← Nat.mul_assoc] at hq
    have h2 := Nat.eq_of_mul_eq_mul_right (Nat.two_pow_pos _) hq
    have : (L - p).toNat = (L - p).toNat - 1 + 1 := by omega
    rw [this, Nat.pow_succ, ← Nat.mul_assoc] at h2
    omega
  · have hs : 2 ^ (F + 1) ≤ size := by omega
    rw [pow_sub_split (by omega : L ≤ p) hL, ← Nat.mul_assoc] at hq
    have h2 := Nat.eq_of_mul_eq_mul_right (Nat.two_pow_pos _) hq
    generalize (p - L).toNat = m at h2
    rcases Nat.lt_or_ge m e with hlt | hge
    · have : e = (e - m - 1) + 1 + m := by omega
      rw [this, Nat.pow_add, ← Nat.mul_assoc] at h2
      have h3 := Nat.eq_of_mul_eq_mul_right (Nat.two_pow_pos _) h2
      rw [Nat.pow_succ, ← Nat.mul_assoc] at h3
      omega
    · have : m = (m - e) + e := by omega
      rw [this, Nat.pow_add, ← Nat.mul_assoc] at h2
      have h3 := Nat.eq_of_mul_eq_mul_right (Nat.two_pow_pos _) h2
      have := Nat.le_mul_of_pos_right size (Nat.two_pow_pos (m - e))
      omega

end Go.Proofs.YteohgmmenlinbaaDoor
