/- Narrow rungs among the wide ones, and the language's conversions both ways. No program is named here. -/
import Derived.Test.YteohgmmenlinbacDoorNumB
namespace Go.Proofs.YteohgmmenlinbacDoor
set_option linter.unusedVariables false
open Ieee

theorem wid_exG (r G : Nat) (hG : 52 ≤ G) : ∃ R, val 52 R = val 23 r * 2 ^ G := by
  obtain ⟨e, k, rfl, hk, he⟩ := decomp 23 r
  rw [val_of 23 e k (by omega) he]
  by_cases h0 : k = 0
  · refine ⟨0, ?_⟩
    rw [val_zero, h0, Nat.zero_mul, Nat.zero_mul]
  · have l1 : 2 ^ k.log2 ≤ k := Nat.log2_self_le h0
    have l2 : k < 2 ^ (k.log2 + 1) := Nat.lt_log2_self
    have l3 : k.log2 < 24 := (Nat.log2_lt h0).2 hk
    generalize k.log2 = l at *
    refine ⟨(e + G - (52 - l)) * 2 ^ 52 + k * 2 ^ (52 - l), ?_⟩
    rw [val_of 52]
    · rw [Nat.mul_assoc, Nat.mul_assoc, ← Nat.pow_add, ← Nat.pow_add]
      congr 2
      omega
    · have : 2 ^ (52 + 1) = 2 ^ (l + 1) * 2 ^ (52 - l) := by rw [← Nat.pow_add]; congr 1; omega
      rw [this]
      exact Nat.mul_le_mul_right _ (by omega)
    · refine .inr ?_
      have : 2 ^ 52 = 2 ^ l * 2 ^ (52 - l) := by rw [← Nat.pow_add]; congr 1; omega
      rw [this]
      exact Nat.mul_le_mul_right _ l1

theorem wid_ex (r : Nat) : ∃ R, val 52 R = val 23 r * 2 ^ 925 := wid_exG r 925 (by decide)

theorem wid_val {r : Nat} (h : r < infS) : val 52 (wid r) = val 23 r * 2 ^ 925 := by
  obtain ⟨R, hR⟩ := wid_ex r
  unfold wid
  rw [if_neg (by omega), ← hR, fl_val]

theorem wid_top : wid infS = infD := by unfold wid; rw [if_pos rfl]
theorem wid_zero : wid 0 = 0 := by
  have h := wid_val (r := 0) (by decide)
  generalize 2 ^ 925 = G at h
  rw [val_zero 23, Nat.zero_mul, ← val_zero 52] at h
  exact val_inj h

theorem mul_pow_lt {a b c x : Nat} (h : x < 2 ^ a) (hc : a + b ≤ c) : x * 2 ^ b < 2 ^ c := by
  have h2 := Nat.mul_lt_mul_of_pos_right h (Nat.two_pow_pos b)
  rw [← Nat.pow_add] at h2
  exact Nat.lt_of_lt_of_le h2 (Nat.pow_le_pow_right (by omega) hc)

theorem wid_lt_inf {r : Nat} (h : r < infS) : wid r < infD := by
  have h1 := val_lt (F := 23) h
  have h2 := mul_pow_lt (b := 925) (c := 2098) (Nat.lt_of_lt_of_eq h1 val_infS) (by omega)
  have h3 := Nat.lt_of_lt_of_eq h2 val_infD.symm
  rw [← wid_val h] at h3
  exact val_lt_iff.1 h3

theorem wid_lt {r s : Nat} (h : r < s) (hs : s ≤ infS) : wid r < wid s := by
  by_cases e : s = infS
  · subst e; rw [wid_top]; exact wid_lt_inf h
  · rw [← val_lt_iff (F := 52), wid_val (by omega), wid_val (by omega)]
    exact Nat.mul_lt_mul_of_pos_right (val_lt h) (Nat.two_pow_pos 925)

theorem wid_le {r s : Nat} (h : r ≤ s) (hs : s ≤ infS) : wid r ≤ wid s := by
  by_cases e : r = s
  · subst e; omega
  · exact Nat.le_of_lt (wid_lt (by omega) hs)

theorem wid_le_inf {r : Nat} (h : r ≤ infS) : wid r ≤ infD := by
  have := wid_le h (Nat.le_refl _)
  rwa [wid_top] at this

theorem leastS : single.leastPlace = -149 := by decide
theorem leastD : double.leastPlace = -1074 := by decide

/-- 'float64(x)' of a narrow float. -/
theorem conv_widen (neg : Bool) (r : Nat) (h : r ≤ infS) : floatToFloatBits .f32 (single.word neg r) .f64 = some (double.word neg (wid r)) := by
  unfold floatToFloatBits
  rw [if_neg (by decide)]
  have hd : ∀ x, FloatKind.decode .f32 x = single.read x := fun _ => rfl
  have hd2 : ∀ x, FloatKind.decode .f64 x = double.read x := fun _ => rfl
  have he : ∀ x, FloatKind.encode .f64 x = double.write x := fun _ => rfl
  simp only [hd, hd2, he]
  by_cases e : r = infS
  · subst e
    rw [← infS_eq, read_inf single neg (by decide)]
    show some (double.word neg double.infRung) = _
    rw [infD_eq, infS_eq, wid_top]
  · have hr : r < infS := by omega
    obtain ⟨mag, E, h1, h2, h3⟩ := read_num single neg r (by rw [infS_eq]; exact hr)
    rw [h1]
    have hplace : single.leastPlace + (E : Int) = -1074 + ((E + 925 : Nat) : Int) := by rw [leastS]; omega
    obtain ⟨s, d, n1, n2, n3, n4, n5⟩ := nearest_spec double neg mag (E + 925) 0 (-1074) (by rw [leastD]; rfl)
    have hV : mag * 2 ^ (E + 925) = val 52 (wid r) := by
      rw [wid_val hr, Nat.pow_add, ← Nat.mul_assoc, h2]; rfl
    have hF : double.fractionBits = 52 := rfl
    rw [hF, Nat.pow_zero, Nat.mul_one, hV] at n2 n3 n5
    have hs : s = wid r := by
      have a1 := val_le_iff.1 n2
      have a2 := val_lt_iff.1 n3
      omega
    have hd0 := n5 (by rw [hs])
    have hw : double.nearest neg mag (single.leastPlace + (E : Int)) = double.word neg (wid r) := by
      rw [hplace, n1, hs, hd0, infD_eq, Nat.add_zero, Nat.min_eq_left (Nat.le_of_lt (wid_lt_inf hr))]
    show (if (double.read (double.nearest neg mag _)).isInfinity = true then none else some (double.nearest neg mag _)) = _
    rw [hw]
    obtain ⟨m2, E2, q1, _, _⟩ := read_num double neg (wid r) (by rw [infD_eq]; exact wid_lt_inf hr)
    rw [q1]
    rfl

/-- 'float32(x)' of a wide float that is not beyond the greatest finite narrow one: a narrow float at most one step from each neighbour. -/
theorem conv_narrow (neg : Bool) (R : Nat) (h : R ≤ wid (infS - 1)) :
    ∃ t, floatToFloatBits .f64 (double.word neg R) .f32 = some (single.word neg t) ∧ t < infS ∧ wid (t - 1) ≤ R ∧ R < wid (t + 1) := by
  have hi : infS - 1 < infS := by decide
  have hR : R < infD := Nat.lt_of_le_of_lt h (wid_lt_inf hi)
  unfold floatToFloatBits
  rw [if_neg (by decide)]
  have hd : ∀ x, FloatKind.decode .f32 x = single.read x := fun _ => rfl
  have hd2 : ∀ x, FloatKind.decode .f64 x = double.read x := fun _ => rfl
  have he : ∀ x, FloatKind.encode .f32 x = single.write x := fun _ => rfl
  simp only [hd, hd2, he]
  obtain ⟨mag, E, h1, h2, h3⟩ := read_num double neg R (by rw [infD_eq]; exact hR)
  rw [h1]
  have hplace : double.leastPlace + (E : Int) = -1074 + (E : Int) := by rw [leastD]
  obtain ⟨s, d, n1, n2, n3, n4, n5⟩ := nearest_spec single neg mag E 925 (-1074) (by rw [leastS]; rfl)
  have hF : single.fractionBits = 23 := rfl
  have hF2 : double.fractionBits = 52 := rfl
  rw [hF2] at h2
  rw [hF, h2] at n2 n3 n5
  have hVle : val 52 R ≤ val 23 (infS - 1) * 2 ^ 925 := by rw [← wid_val hi]; exact val_le_iff.2 h
  have hs : s < infS := by
    have : val 23 s * 2 ^ 925 ≤ val 23 (infS - 1) * 2 ^ 925 := Nat.le_trans n2 hVle
    have := Nat.le_of_mul_le_mul_right this (Nat.two_pow_pos 925)
    have := val_le_iff.1 this
    omega
  have hsd : s + d < infS := by
    by_cases hq : s = infS - 1
    · have := n5 (Nat.le_antisymm n2 (by rw [hq]; exact hVle))
      omega
    · omega
  have w1 : wid s ≤ R := by
    rw [← val_le_iff (F := 52), wid_val hs]; exact n2
  have w2 : R < wid (s + 1) := by
    by_cases hq : s + 1 = infS
    · rw [hq, wid_top]; exact hR
    · rw [← val_lt_iff (F := 52), wid_val (by omega)]; exact n3
  have hw : single.nearest neg mag (double.leastPlace + (E : Int)) = single.word neg (s + d) := by
    rw [hplace, n1, infS_eq, Nat.min_eq_left (Nat.le_of_lt hsd)]
  refine ⟨s + d, ?_, hsd, ?_, ?_⟩
  · show (if (single.read (single.nearest neg mag _)).isInfinity = true then none else some (single.nearest neg mag _)) = _
    rw [hw]
    obtain ⟨m2, E2, q1, _, _⟩ := read_num single neg (s + d) (by rw [infS_eq]; exact hsd)
    rw [q1]
    rfl
  · exact Nat.le_trans (wid_le (by omega) (by omega)) w1
  · exact Nat.lt_of_lt_of_le w2 (wid_le (by omega) (by omega))

end Go.Proofs.YteohgmmenlinbacDoor
