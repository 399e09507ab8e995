/- Plain arithmetic on floats by their rungs (order numbers without sign): 'val F r' is the value of rung r in units of the least float, F the bits of the fraction; it rises with r. No program is named here. -/
import Ieee.Arith
import Derived.Laws.FloatArith
namespace Go.Proofs.YteohgmmenlinbacDoor
set_option linter.unusedVariables false

/-- The value of a rung, in units of the least float above nought. -/
def val (F r : Nat) : Nat := if r < 2 ^ F then r else (2 ^ F + r % 2 ^ F) * 2 ^ (r / 2 ^ F - 1)

theorem val_of (F e k : Nat) (hk : k ≤ 2 ^ (F + 1)) (he : e = 0 ∨ 2 ^ F ≤ k) : val F (e * 2 ^ F + k) = k * 2 ^ e := by
  have hp : 0 < 2 ^ F := Nat.two_pow_pos F
  rw [Nat.pow_succ] at hk
  unfold val
  generalize hP : 2 ^ F = P at *
  by_cases h1 : k < P
  · have e0 : e = 0 := by omega
    subst e0
    simp [h1]
  · have hr : e * P + k = (k - P) + P * (e + 1) := by rw [Nat.mul_comm e P, Nat.mul_succ]; omega
    have hge : P ≤ e * P + k := by omega
    rw [if_neg (by omega)]
    by_cases h2 : k = P * 2
    · have hr2 : e * P + k = 0 + P * (e + 2) := by rw [Nat.mul_comm e P, Nat.mul_add]; omega
      rw [hr2, Nat.add_mul_mod_self_left, Nat.add_mul_div_left _ _ hp]
      simp only [Nat.zero_mod, Nat.zero_div, Nat.zero_add, Nat.add_zero]
      have : e + 2 - 1 = e + 1 := by omega
      rw [this, Nat.pow_succ, h2, Nat.mul_comm (2 ^ e) 2, ← Nat.mul_assoc]
    · rw [hr, Nat.add_mul_mod_self_left, Nat.add_mul_div_left _ _ hp, Nat.mod_eq_of_lt (by omega), Nat.div_eq_of_lt (by omega)]
      have a1 : P + (k - P) = k := by omega
      have a2 : 0 + (e + 1) - 1 = e := by omega
      rw [a1, a2]

theorem decomp (F r : Nat) : ∃ e k, r = e * 2 ^ F + k ∧ k < 2 ^ (F + 1) ∧ (e = 0 ∨ 2 ^ F ≤ k) := by
  have hp : 0 < 2 ^ F := Nat.two_pow_pos F
  rw [Nat.pow_succ]
  generalize 2 ^ F = P at *
  by_cases h : r < P
  · exact ⟨0, r, by omega, by omega, .inl rfl⟩
  · have hd : 1 ≤ r / P := (Nat.le_div_iff_mul_le hp).2 (by omega)
    have hm : r % P < P := Nat.mod_lt _ hp
    refine ⟨r / P - 1, P + r % P, ?_, by omega, .inr (by omega)⟩
    have := Nat.div_add_mod r P
    rw [Nat.sub_mul, Nat.mul_comm (r / P) P]
    have : P ≤ P * (r / P) := Nat.le_mul_of_pos_right P (by omega)
    omega

theorem val_succ (F r : Nat) : val F r < val F (r + 1) := by
  obtain ⟨e, k, rfl, hk, he⟩ := decomp F r
  rw [val_of F e k (by omega) he, Nat.add_assoc, val_of F e (k + 1) (by omega) (by omega), Nat.succ_mul]
  have := Nat.two_pow_pos e
  omega

theorem val_zero (F : Nat) : val F 0 = 0 := by
  unfold val
  rw [if_pos (Nat.two_pow_pos F)]

theorem val_lt {F r s : Nat} (h : r < s) : val F r < val F s := by
  induction s with
  | zero => omega
  | succ s ih =>
    by_cases h1 : r = s
    · subst h1; exact val_succ F r
    · exact Nat.lt_trans (ih (by omega)) (val_succ F s)

theorem val_lt_iff {F r s : Nat} : val F r < val F s ↔ r < s := by
  refine ⟨fun h => ?_, val_lt⟩
  rcases Nat.lt_or_ge r s with h1 | h1
  · exact h1
  · rcases Nat.lt_or_ge s r with h2 | h2
    · have := val_lt (F := F) h2; omega
    · have : r = s := by omega
      subst this; omega

theorem val_le_iff {F r s : Nat} : val F r ≤ val F s ↔ r ≤ s := by
  have := val_lt_iff (F := F) (r := s) (s := r)
  omega

theorem val_inj {F r s : Nat} (h : val F r = val F s) : r = s := by
  have h1 := val_le_iff (F := F) (r := r) (s := s)
  have h2 := val_le_iff (F := F) (r := s) (s := r)
  omega

/-- The greatest rung whose value is not above V. -/
def fl (F V : Nat) : Nat := (V.log2 - F) * 2 ^ F + V / 2 ^ (V.log2 - F)

theorem fl_spec (F V : Nat) : val F (fl F V) ≤ V ∧ V < val F (fl F V + 1) := by
  by_cases h0 : V = 0
  · subst h0
    have : fl F 0 = 0 := by simp [fl]
    rw [this]
    have := val_succ F 0
    rw [val_zero] at *
    omega
  · have l1 : 2 ^ V.log2 ≤ V := Nat.log2_self_le h0
    have l2 : V < 2 ^ (V.log2 + 1) := Nat.lt_log2_self
    unfold fl
    generalize hl : V.log2 = l at *
    have hk : V / 2 ^ (l - F) < 2 ^ (F + 1) := by
      rw [Nat.div_lt_iff_lt_mul (Nat.two_pow_pos _), ← Nat.pow_add]
      exact Nat.lt_of_lt_of_le l2 (Nat.pow_le_pow_right (by omega) (by omega))
    have hk0 : l - F = 0 ∨ 2 ^ F ≤ V / 2 ^ (l - F) := by
      by_cases hF : l - F = 0
      · exact .inl hF
      · refine .inr ?_
        rw [Nat.le_div_iff_mul_le (Nat.two_pow_pos _), ← Nat.pow_add]
        have : F + (l - F) = l := by omega
        rw [this]; exact l1
    rw [val_of F _ _ (by omega) hk0, Nat.add_assoc, val_of F _ _ (by omega) (by omega)]
    have hd := Nat.div_add_mod V (2 ^ (l - F))
    have hm := Nat.mod_lt V (Nat.two_pow_pos (l - F))
    generalize 2 ^ (l - F) = D at *
    rw [Nat.succ_mul, Nat.mul_comm (V / D) D]
    omega

theorem le_fl {F V r : Nat} : r ≤ fl F V ↔ val F r ≤ V := by
  obtain ⟨h1, h2⟩ := fl_spec F V
  refine ⟨fun h => Nat.le_trans (val_le_iff.2 h) h1, fun h => ?_⟩
  have : r < fl F V + 1 := val_lt_iff.1 (Nat.lt_of_le_of_lt h h2)
  omega

theorem fl_val (F r : Nat) : fl F (val F r) = r := by
  have h1 := le_fl.2 (Nat.le_refl (val F r))
  have h2 := val_le_iff.1 (fl_spec F (val F r)).1
  omega

/-- Rounding to a whole number is down or one more, and exact where nothing is left. -/
theorem cut_even (neg : Bool) (n drop : Nat) : ∃ d, Ieee.Toward.even.cut neg n drop = n / 2 ^ drop + d ∧ d ≤ 1 ∧ (n % 2 ^ drop = 0 → d = 0) := by
  unfold Ieee.Toward.cut
  simp only [Nat.one_shiftLeft]
  by_cases h : drop ≤ n.log2 + 2
  · rw [Nat.min_eq_left h]
    refine ⟨_, rfl, Bool.toNat_le _, fun h0 => ?_⟩
    rw [h0]
    have := Nat.two_pow_pos drop
    generalize 2 ^ drop = G at *
    simp
    omega
  · rw [Nat.min_eq_right (by omega)]
    have l2 : n < 2 ^ (n.log2 + 1) := Nat.lt_log2_self
    have g2 : 2 ^ (n.log2 + 2) = 2 ^ (n.log2 + 1) * 2 := Nat.pow_succ ..
    have hn : n < 2 ^ (n.log2 + 2) := by omega
    have hd : n < 2 ^ drop := Nat.lt_of_lt_of_le hn (Nat.pow_le_pow_right (by omega) (by omega))
    rw [Nat.div_eq_of_lt hn, Nat.mod_eq_of_lt hn, Nat.div_eq_of_lt hd]
    refine ⟨0, ?_, by omega, fun _ => rfl⟩
    generalize 2 ^ (n.log2 + 2) = G at *
    simp
    omega

end Go.Proofs.YteohgmmenlinbacDoor
