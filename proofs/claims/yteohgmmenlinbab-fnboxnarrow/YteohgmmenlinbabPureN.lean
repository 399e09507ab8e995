/- From width to width: pure facts on pairs. -/
import Derived.Test.YteohgmmenlinbabSpecE
import Derived.Test.YteohgmmenlinbabPokOk
namespace Go.Proofs.Yteohgmmenlinbab
open Go.RowKit
set_option linter.unusedVariables false

theorem pok_of {n lo hi : Int} (h1 : okI n lo = true) (h2 : okI n hi = true) (h3 : lo ≤ hi) (h4 : lo < topI n) (h5 : -(topI n) < hi) : pokI n lo hi = true := by
  unfold pokI
  rw [h1, h2, decide_eq_true h3, decide_eq_true h4, decide_eq_true h5]
  rfl
theorem pok_all {n lo hi : Int} (h : pokI n lo hi = true) : okI n lo = true ∧ okI n hi = true ∧ lo ≤ hi ∧ lo < topI n ∧ -(topI n) < hi := by
  unfold pokI at h
  simp only [Bool.and_eq_true, decide_eq_true_eq] at h
  exact ⟨h.1, h.2.1, h.2.2.1, h.2.2.2.1, h.2.2.2.2⟩

/-- The narrow pair around a wide one is ok, and lies round it. -/
theorem less_ok {x y a m : Int} (h : pokI 64 x y = true) (hx : IsBelow x a) (hy : IsBelow (-y) m) : pokI 32 a (-m) = true ∧ widI a ≤ x ∧ y ≤ widI (-m) := by
  obtain ⟨_, _, h3, h4, h5⟩ := pok_all h
  have t64 : topI 64 = 9218868437227405312 := rfl
  have t32 : topI 32 = 2139095040 := rfl
  rw [t64] at h4 h5
  obtain ⟨a1, a2, a3, _⟩ := hx
  obtain ⟨m1, m2, m3, _⟩ := hy
  have e := widI_neg m
  have hle : a ≤ -m := by
    rcases Int.lt_or_le (-m) a with q | q
    · have := widI_lt q (by omega) (by omega)
      omega
    · exact q
  have ha : a < 2139095040 := by
    rcases Int.lt_or_le a 2139095040 with q | q
    · exact q
    · have : a = 2139095040 := by omega
      rw [this, widI_top] at a3
      omega
  have hm : m < 2139095040 := by
    rcases Int.lt_or_le m 2139095040 with q | q
    · exact q
    · have : m = 2139095040 := by omega
      rw [this, widI_top] at m3
      omega
  exact ⟨pok_of ((okI_32 a).2 ⟨by omega, by omega⟩) ((okI_32 (-m)).2 ⟨by omega, by omega⟩) hle (by rw [t32]; exact ha) (by rw [t32]; omega), a3, by omega⟩

theorem below_self {s : Int} (h1 : -2139095040 ≤ s) (h2 : s ≤ 2139095040) : IsBelow (widI s) s :=
  ⟨h1, h2, Int.le_refl _, fun h => widI_lt (by omega) (by omega) (by omega)⟩

/-- A narrow pair among the wide ones is ok, and comes back. -/
theorem more_back {x y : Int} (h : pokI 32 x y = true) : pokI 64 (widI x) (widI y) = true ∧ IsBelow (widI x) x ∧ IsBelow (-(widI y)) (-y) := by
  obtain ⟨h1, h2, h3, h4, h5⟩ := pok_all h
  have t64 : topI 64 = 9218868437227405312 := rfl
  have t32 : topI 32 = 2139095040 := rfl
  rw [t32] at h4 h5
  have kx := (okI_32 x).1 h1
  have ky := (okI_32 y).1 h2
  have bx := widI_bounds kx.1 kx.2
  have bY := widI_bounds ky.1 ky.2
  have l1 := widI_le h3 kx.1 ky.2
  have l2 := widI_lt h4 kx.1 (Int.le_refl _)
  have l3 := widI_lt h5 (Int.le_refl _) ky.2
  rw [widI_top] at l2
  rw [widI_neg, widI_top] at l3
  refine ⟨pok_of ((okI_64 _).2 bx) ((okI_64 _).2 bY) l1 (by rw [t64]; exact l2) (by rw [t64]; exact l3), below_self kx.1 kx.2, ?_⟩
  have := below_self (s := -y) (by omega) (by omega)
  rw [widI_neg] at this
  exact this

end Go.Proofs.Yteohgmmenlinbab
