/- A wide box, narrowed and widened again, and a narrow one, widened and narrowed again: facts on lists. -/
import Derived.Test.YteohgmmenlinbabBoxLs
import Derived.Test.YteohgmmenlinbabBoxMo
import Derived.Test.YteohgmmenlinbabBoxX
import Derived.Test.YteohgmmenlinbabPureN
namespace Go.Proofs.Yteohgmmenlinbab
open Go.RowKit
set_option linter.unusedVariables false

theorem bokL_iff {n : Int} {ps : List (Int × Int)} : bokI n ps = true ↔ 1 ≤ ps.length ∧ ps.length ≤ 6 ∧ ∀ p ∈ ps, pokI n p.1 p.2 = true := by
  unfold bokI
  simp only [Bool.and_eq_true, decide_eq_true_eq, List.all_eq_true]

theorem at2_map {f : Int × Int → Int × Int} {ps : List (Int × Int)} {j : Nat} (h : j < ps.length) : at2 (ps.map f) j = f (at2 ps j) := by
  apply at2_of
  rw [List.getElem?_map, at2_get h]
  rfl

theorem isb_self (ps : List (Int × Int)) : isbI ps ps = true := by
  refine isb_true rfl fun j hj => ?_
  unfold isP isB
  simp

theorem less_list {bel : Int → Int} (hB : BelF bel) {ps : List (Int × Int)} (h : bokI 64 ps = true) :
    bokI 32 (boxLessL bel ps) = true ∧ isbI ps (boxMoreL (boxLessL bel ps)) = true := by
  have e : boxLessL bel ps = ps.map fun p => (lessI bel p).1 := by unfold boxLessL; rw [if_pos h]
  obtain ⟨h1, h6, hp⟩ := bokL_iff.1 h
  have key : ∀ q ∈ ps, pokI 32 (lessI bel q).1.1 (lessI bel q).1.2 = true ∧ widI (lessI bel q).1.1 ≤ q.1 ∧ q.2 ≤ widI (lessI bel q).1.2 := by
    intro q hq
    have hk := hp q hq
    obtain ⟨b1, b2⟩ := less_yes hB hk
    have := less_ok hk b1 b2
    simp only [lessI, if_pos hk]
    exact this
  have k : bokI 32 (boxLessL bel ps) = true := by
    rw [e]
    refine bokL_iff.2 ⟨by simpa using h1, by simpa using h6, ?_⟩
    intro p hm
    obtain ⟨q, hq, rfl⟩ := List.mem_map.1 hm
    exact (key q hq).1
  refine ⟨k, ?_⟩
  have e2 : boxMoreL (boxLessL bel ps) = (ps.map fun p => (lessI bel p).1).map fun p => (moreI p).1 := by unfold boxMoreL; rw [if_pos k, e]
  rw [e2]
  refine isb_true (by simp) fun j hj => ?_
  rw [at2_map (by simpa using hj), at2_map hj]
  have hq := key (at2 ps j) (List.mem_of_getElem? (at2_get hj))
  unfold isP isB moreI
  simp only [if_pos hq.1, Bool.and_eq_true, decide_eq_true_eq]
  omega

theorem more_list {bel : Int → Int} (hB : BelF bel) {qs : List (Int × Int)} (h : bokI 32 qs = true) :
    bokI 64 (boxMoreL qs) = true ∧ boxLessL bel (boxMoreL qs) = qs := by
  have e : boxMoreL qs = qs.map fun p => (moreI p).1 := by unfold boxMoreL; rw [if_pos h]
  obtain ⟨h1, h6, hp⟩ := bokL_iff.1 h
  have key : ∀ q ∈ qs, pokI 64 (moreI q).1.1 (moreI q).1.2 = true ∧ (lessI bel (moreI q).1).1 = q := by
    intro q hq
    have hk := hp q hq
    obtain ⟨m1, m2, m3⟩ := more_back hk
    have hk2 : pokI 64 (moreI q).1.1 (moreI q).1.2 = true := by simp only [moreI, if_pos hk]; exact m1
    refine ⟨hk2, ?_⟩
    obtain ⟨b1, b2⟩ := less_yes hB hk2
    simp only [moreI, if_pos hk] at b1 b2
    have e1 := isBelow_unique b1 m2
    have e2 := isBelow_unique b2 m3
    simp only [lessI, moreI, if_pos hk, if_pos m1, e1, e2]
    cases q
    simp
  have k : bokI 64 (boxMoreL qs) = true := by
    rw [e]
    refine bokL_iff.2 ⟨by simpa using h1, by simpa using h6, ?_⟩
    intro p hm
    obtain ⟨q, hq, rfl⟩ := List.mem_map.1 hm
    exact (key q hq).1
  refine ⟨k, ?_⟩
  unfold boxLessL
  rw [if_pos k, e, List.map_map]
  conv => rhs; rw [← List.map_id qs]
  apply List.map_congr_left
  intro q hq
  exact (key q hq).2

end Go.Proofs.Yteohgmmenlinbab
