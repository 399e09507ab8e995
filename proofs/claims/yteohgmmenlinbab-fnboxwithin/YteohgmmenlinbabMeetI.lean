/- PairMeet of both, as a function of two pairs; what BoxMeet makes of two boxes. -/
import Derived.Test.YteohgmmenlinbabPairM
import Derived.Test.YteohgmmenlinbabJB
import Derived.Test.YteohgmmenlinbabJA
namespace Go.Proofs.Yteohgmmenlinbab
open Go.RowKit
set_option linter.unusedVariables false

def meetI (n : Int) (p q : Int × Int) : (Int × Int) × Bool := ((if meetB n p.1 p.2 q.1 q.2 = true then max p.1 q.1 else 0, if meetB n p.1 p.2 q.1 q.2 = true then min p.2 q.2 else 0), meetB n p.1 p.2 q.1 q.2)
def meetF (n : Int) (ps qs : List (Int × Int)) (i : Nat) : (Int × Int) × Bool := meetI n (at2 ps i) (at2 qs i)
def meetG (n : Int) (ps qs : List (Int × Int)) : Bool := bokI n ps && (bokI n qs && decide (ps.length = qs.length))
def meetK (n : Int) (ps qs : List (Int × Int)) : Bool := meetG n ps qs && madeB (meetF n ps qs) ps.length
def meetL (n : Int) (ps qs : List (Int × Int)) : List (Int × Int) := if meetK n ps qs = true then madeL (meetF n ps qs) ps.length else []

theorem meet_wf (n : Int) {p q : Int × Int} (hp : (Lit.int .i64 p.1).wf = true ∧ (Lit.int .i64 p.2).wf = true) (hq : (Lit.int .i64 q.1).wf = true ∧ (Lit.int .i64 q.2).wf = true) : (Lit.int .i64 (meetI n p q).1.1).wf = true ∧ (Lit.int .i64 (meetI n p q).1.2).wf = true := by
  have a1 := i64_bounds hp.1
  have a2 := i64_bounds hp.2
  have a3 := i64_bounds hq.1
  have a4 := i64_bounds hq.2
  unfold meetI
  by_cases h : meetB n p.1 p.2 q.1 q.2 = true
  · simp only [if_pos h]
    exact ⟨i64_wf (by omega) (by omega), i64_wf (by omega) (by omega)⟩
  · simp only [if_neg h]
    exact ⟨rfl, rfl⟩

theorem meet_no {n : Int} {ps qs : List (Int × Int)} (h : meetK n ps qs = false) : meetL n ps qs = [] := by unfold meetL; rw [h]; rfl
theorem meet_noG {n : Int} {ps qs : List (Int × Int)} (h : meetG n ps qs = false) : meetK n ps qs = false := by unfold meetK; rw [h]; rfl
theorem meet_yes {n : Int} {ps qs : List (Int × Int)} (h : meetG n ps qs = true) : meetK n ps qs = madeB (meetF n ps qs) ps.length ∧ meetL n ps qs = madeR (meetF n ps qs) ps.length := by
  have e : meetK n ps qs = madeB (meetF n ps qs) ps.length := by unfold meetK; rw [h]; rfl
  refine ⟨e, ?_⟩
  unfold meetL madeR
  rw [e]
theorem meet_len (n : Int) (ps qs : List (Int × Int)) : (meetL n ps qs).length ≤ 6 := by
  unfold meetL
  by_cases h : meetK n ps qs = true
  · rw [if_pos h, madeL_length]
    unfold meetK meetG bokI at h
    simp only [Bool.and_eq_true, decide_eq_true_eq] at h
    exact h.1.1.2.1
  · rw [if_neg h]
    simp

end Go.Proofs.Yteohgmmenlinbab
