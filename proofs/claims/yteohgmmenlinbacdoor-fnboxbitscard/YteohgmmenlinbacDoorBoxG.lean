/- The first coordinate that fits. -/
import Derived.Test.YteohgmmenlinbacDoorJB
namespace Go.Proofs.YteohgmmenlinbacDoor
open Go.ChangeShapes Go.WideShapes Go.ChangeAt Go.RowKit
set_option linter.unusedVariables false

def firstI (P : Int × Int → Bool) (ps : List (Int × Int)) : Int := if ps.any P = true then (ps.findIdx P : Nat) else -1

theorem first_at {P : Int × Int → Bool} {ps : List (Int × Int)} {k : Nat} {p : Int × Int} (hk : ps[k]? = some p) (hp : P p = true) (he : ∀ (j : Nat) q, j < k → ps[j]? = some q → P q = false) : firstI P ps = k := by
  have hkl := (List.getElem?_eq_some_iff.1 hk).1
  have e : ps[k] = p := by rw [List.getElem?_eq_getElem hkl] at hk; exact Option.some.inj hk
  have hany : ps.any P = true := by rw [List.any_eq_true]; exact ⟨p, List.mem_of_getElem? hk, hp⟩
  unfold firstI
  rw [if_pos hany]
  congr 1
  rw [List.findIdx_eq hkl]
  refine ⟨by rw [e]; exact hp, fun j hj => ?_⟩
  exact he j _ hj (List.getElem?_eq_getElem (by omega))

theorem first_none {P : Int × Int → Bool} {ps : List (Int × Int)} (h : ∀ (j : Nat) q, ps[j]? = some q → P q = false) : firstI P ps = -1 := by
  have hany : ¬ ps.any P = true := by
    rw [List.any_eq_true]
    rintro ⟨p, hp, hP⟩
    obtain ⟨j, hj⟩ := List.getElem?_of_mem hp
    rw [h j p hj] at hP
    cases hP
  unfold firstI
  rw [if_neg hany]

theorem getD_of' {ps : List (Int × Int)} {i : Nat} {p : Int × Int} (h : ps[i]? = some p) : ps[i]?.getD (0, 0) = p := by rw [h]; rfl

theorem first_eq {P : Int × Int → Bool} {ps : List (Int × Int)} {r : Int}
    (hr : (r = -1 ∧ ∀ x : Fin ps.length, P (ps[x.1]?.getD (0, 0)) = false) ∨ (∃ x : Fin ps.length, r = (x.1 : Int) ∧ P (ps[x.1]?.getD (0, 0)) = true ∧ ∀ y : Fin ps.length, y.1 < x.1 → P (ps[y.1]?.getD (0, 0)) = false)) : r = firstI P ps := by
  rcases hr with ⟨rfl, hall⟩ | ⟨x, rfl, hx, hy⟩
  · rw [first_none fun j q hj => ?_]
    have := hall ⟨j, (List.getElem?_eq_some_iff.1 hj).1⟩
    rw [getD_of' hj] at this
    exact this
  · have hp : ps[x.1]? = some ps[x.1] := List.getElem?_eq_getElem x.2
    rw [getD_of' hp] at hx
    rw [first_at hp hx fun j q hj hq => ?_]
    have := hy ⟨j, (List.getElem?_eq_some_iff.1 hq).1⟩ hj
    rw [getD_of' hq] at this
    exact this

theorem first_neg {P : Int × Int → Bool} {ps : List (Int × Int)} : decide (firstI P ps = -1) = !ps.any P := by
  unfold firstI
  cases h : ps.any P
  · simp
  · simp only [if_true, Bool.not_true, decide_eq_false_iff_not]; omega

end Go.Proofs.YteohgmmenlinbacDoor
