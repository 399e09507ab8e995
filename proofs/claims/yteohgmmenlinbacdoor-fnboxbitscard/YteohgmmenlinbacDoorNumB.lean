/- What the language's conversions between floats of two widths do to rungs. No program is named here. -/
import Derived.Test.YteohgmmenlinbacDoorNum
namespace Go.Proofs.YteohgmmenlinbacDoor
set_option linter.unusedVariables false
open Ieee

/-- Rounding to a format: the greatest rung not above the value, or the next one; that rung itself where the value is a float. The value is mag * 2 ^ E in units of 2 ^ base, the format's least place is base + g. -/
theorem nearest_spec (f : Format) (neg : Bool) (mag E g : Nat) (base : Int) (hL : f.leastPlace = base + g) :
    ∃ s d, f.nearest neg mag (base + E) = f.word neg (min (s + d) f.infRung) ∧ val f.fractionBits s * 2 ^ g ≤ mag * 2 ^ E ∧ mag * 2 ^ E < val f.fractionBits (s + 1) * 2 ^ g ∧ d ≤ 1 ∧
      (val f.fractionBits s * 2 ^ g = mag * 2 ^ E → d = 0) := by
  by_cases h0 : mag = 0
  · subst h0
    refine ⟨0, 0, ?_, ?_, ?_, by omega, fun _ => rfl⟩
    · unfold Format.nearest; simp
    · rw [val_zero]; simp
    · have h1 := val_succ f.fractionBits 0
      rw [val_zero] at h1
      have := Nat.mul_pos h1 (Nat.two_pow_pos g)
      omega
  · have l1 : 2 ^ mag.log2 ≤ mag := Nat.log2_self_le h0
    have l2 : mag < 2 ^ (mag.log2 + 1) := Nat.lt_log2_self
    generalize hF : f.fractionBits = F at *
    obtain ⟨l, hl⟩ : ∃ l, l = max (E + mag.log2 - F) g := ⟨_, rfl⟩
    have hlast : max (base + (E : Int) + (mag.log2 : Int) - (F : Int)) (base + (g : Int)) = base + (l : Int) := by omega
    have hgl : g ≤ l := by omega
    obtain ⟨d, hcut, hd1, hd0⟩ := cut_even neg (mag * 2 ^ (E - l)) (l - E)
    have hK : mag * 2 ^ (E - l) / 2 ^ (l - E) = mag * 2 ^ E / 2 ^ l ∧ (mag * 2 ^ E % 2 ^ l = 0 → mag * 2 ^ (E - l) % 2 ^ (l - E) = 0) := by
      rcases Nat.le_total l E with h | h
      · have e1 : l - E = 0 := by omega
        have e2 : E = E - l + l := by omega
        rw [e1]
        refine ⟨?_, fun _ => by simp [Nat.mod_one]⟩
        conv => rhs; rw [e2, Nat.pow_add, ← Nat.mul_assoc, Nat.mul_div_cancel _ (Nat.two_pow_pos l)]
        simp
      · have e1 : E - l = 0 := by omega
        have e2 : l = l - E + E := by omega
        rw [e1, Nat.pow_zero, Nat.mul_one]
        refine ⟨?_, fun hm => ?_⟩
        · conv => rhs; rw [e2, Nat.pow_add, Nat.mul_div_mul_right _ _ (Nat.two_pow_pos E)]
        · rw [e2, Nat.pow_add, Nat.mul_mod_mul_right] at hm
          exact (Nat.mul_eq_zero.1 hm).resolve_right (by have := Nat.two_pow_pos E; omega)
    have hV1 : 2 ^ (E + mag.log2) ≤ mag * 2 ^ E := by
      rw [Nat.add_comm, Nat.pow_add]; exact Nat.mul_le_mul_right _ l1
    have hV2 : mag * 2 ^ E < 2 ^ (E + mag.log2 + 1) := by
      have : E + mag.log2 + 1 = mag.log2 + 1 + E := by omega
      rw [this, Nat.pow_add]; exact Nat.mul_lt_mul_of_pos_right l2 (Nat.two_pow_pos E)
    have hk : mag * 2 ^ E / 2 ^ l < 2 ^ (F + 1) := by
      rw [Nat.div_lt_iff_lt_mul (Nat.two_pow_pos _), ← Nat.pow_add]
      exact Nat.lt_of_lt_of_le hV2 (Nat.pow_le_pow_right (by omega) (by omega))
    have hk0 : l - g = 0 ∨ 2 ^ F ≤ mag * 2 ^ E / 2 ^ l := by
      by_cases hg : l - g = 0
      · exact .inl hg
      · refine .inr ?_
        rw [Nat.le_div_iff_mul_le (Nat.two_pow_pos _), ← Nat.pow_add]
        exact Nat.le_trans (Nat.pow_le_pow_right (by omega) (by omega)) hV1
    have hv1 := val_of F (l - g) (mag * 2 ^ E / 2 ^ l) (by omega) hk0
    have hv2 := val_of F (l - g) (mag * 2 ^ E / 2 ^ l + 1) (by omega) (by omega)
    have hlg : 2 ^ l = 2 ^ (l - g) * 2 ^ g := by rw [← Nat.pow_add]; congr 1; omega
    have hdm := Nat.div_add_mod (mag * 2 ^ E) (2 ^ l)
    have hml := Nat.mod_lt (mag * 2 ^ E) (Nat.two_pow_pos l)
    refine ⟨(l - g) * 2 ^ F + mag * 2 ^ E / 2 ^ l, d, ?_, ?_, ?_, hd1, ?_⟩
    · unfold Format.nearest
      rw [if_neg h0]
      simp only [hF, hL]
      have p1 : (base + (E : Int) - (base + (l : Int))).toNat = E - l := by omega
      have p2 : (base + (l : Int) - (base + (E : Int))).toNat = l - E := by omega
      have p3 : (base + (l : Int) - (base + (g : Int))).toNat = l - g := by omega
      rw [hlast, p1, p2, p3, Nat.shiftLeft_eq, hcut, hK.1]
      unfold Format.binade
      rw [hF, Nat.add_assoc]
    · rw [hv1, Nat.mul_assoc, ← hlg]
      rw [Nat.mul_comm]
      omega
    · rw [Nat.add_assoc, hv2, Nat.mul_assoc, ← hlg, Nat.succ_mul, Nat.mul_comm (mag * 2 ^ E / 2 ^ l)]
      omega
    · intro he
      rw [hv1, Nat.mul_assoc, ← hlg, Nat.mul_comm] at he
      exact hd0 (hK.2 (by omega))

theorem word_parts (f : Format) (neg : Bool) (r : Nat) (h : r < f.signWeight) : (f.word neg r / f.signWeight % 2 == 1) = neg ∧ f.word neg r % f.signWeight = r := by
  have hp : 0 < f.signWeight := by omega
  unfold Format.word
  generalize f.signWeight = S at *
  cases neg
  · simp [Nat.div_eq_of_lt h, Nat.mod_eq_of_lt h]
  · simp [Nat.add_div_left _ hp, Nat.div_eq_of_lt h, Nat.mod_eq_of_lt h]

/-- A finite rung, read: a number of that value. -/
theorem read_num (f : Format) (neg : Bool) (r : Nat) (h : r < f.infRung) :
    ∃ mag E, f.read (f.word neg r) = .number neg mag (f.leastPlace + (E : Nat)) ∧ mag * 2 ^ E = val f.fractionBits r ∧ mag < 2 ^ (f.fractionBits + 1) := by
  obtain ⟨h1, h2⟩ := word_parts f neg r (Nat.lt_trans h f.infRung_lt)
  have hp : 0 < 2 ^ f.fractionBits := Nat.two_pow_pos _
  unfold Format.read
  simp only [h1, h2, Format.binade]
  unfold val
  by_cases hb : r < 2 ^ f.fractionBits
  · rw [if_pos hb, if_pos hb]
    exact ⟨r, 0, by simp, by simp, by rw [Nat.pow_succ]; omega⟩
  · rw [if_neg hb, if_neg hb, if_pos h]
    exact ⟨_, _, rfl, rfl, by rw [Nat.pow_succ]; have := Nat.mod_lt r hp; omega⟩

theorem read_inf (f : Format) (neg : Bool) (hb : f.binade ≤ f.infRung) : f.read (f.word neg f.infRung) = .infinity neg := by
  obtain ⟨h1, h2⟩ := word_parts f neg f.infRung f.infRung_lt
  unfold Format.read
  simp only [h1, h2]
  rw [if_neg (by omega), if_neg (by omega), if_pos trivial]

def infS : Nat := 2139095040
def infD : Nat := 9218868437227405312

theorem infS_eq : single.infRung = infS := by decide
theorem infD_eq : double.infRung = infD := by decide

theorem val_infS : val 23 infS = 2 ^ 277 := by decide +kernel
theorem val_infD : val 52 infD = 2 ^ 2098 := by decide +kernel

/-- The wide rung of a narrow one. -/
def wid (r : Nat) : Nat := if r = infS then infD else fl 52 (val 23 r * 2 ^ 925)

end Go.Proofs.YteohgmmenlinbacDoor
