/- A box within another one; what two boxes have in common: pure facts. -/
import Derived.Test.YteohgmmenlinbabPureU
import Derived.Test.YteohgmmenlinbabMeetI
import Derived.Test.YteohgmmenlinbabBoxX
import Derived.Test.YteohgmmenlinbabBoxFn
namespace Go.Proofs.Yteohgmmenlinbab
open Go.RowKit
set_option linter.unusedVariables false

theorem pok_parts {n lo hi : Int} (h : pokI n lo hi = true) : okI n lo = true ∧ okI n hi = true ∧ lo ≤ hi ∧ lo < topI n ∧ -(topI n) < hi := by
  unfold pokI at h
  simp only [Bool.and_eq_true, decide_eq_true_eq] at h
  exact ⟨h.1, h.2.1, h.2.2.1, h.2.2.2.1, h.2.2.2.2⟩

theorem bok_of {n : Int} {ps : List (Int × Int)} (h1 : 1 ≤ ps.length) (h6 : ps.length ≤ 6) (h : ∀ j, j < ps.length → pokI n (at2 ps j).1 (at2 ps j).2 = true) : bokI n ps = true :=
  bok_true h1 h6 fun j p hj => by
    have hl := (List.getElem?_eq_some_iff.1 hj).1
    have := h j hl
    rw [at2_of hj] at this
    exact this

theorem bok_lens {n : Int} {ps : List (Int × Int)} (h : bokI n ps = true) : 1 ≤ ps.length ∧ ps.length ≤ 6 := by
  unfold bokI at h
  simp only [Bool.and_eq_true, decide_eq_true_eq] at h
  exact ⟨h.1, h.2.1⟩

/-- What two ok boxes have in common is a box that lies within both. -/
theorem meet_in {n : Int} {ps qs : List (Int × Int)} (h : meetK n ps qs = true) : bokI n (meetL n ps qs) = true ∧ isbI (meetL n ps qs) ps = true ∧ isbI (meetL n ps qs) qs = true := by
  have hL : meetL n ps qs = madeL (meetF n ps qs) ps.length := by unfold meetL; rw [if_pos h]
  rw [hL]
  unfold meetK meetG at h
  simp only [Bool.and_eq_true, decide_eq_true_eq] at h
  obtain ⟨⟨hp, hq, hl⟩, hm⟩ := h
  have ll := madeL_length (meetF n ps qs) ps.length
  have bl := bok_lens hp
  have hat : ∀ j, j < ps.length → at2 (madeL (meetF n ps qs) ps.length) j = (max (at2 ps j).1 (at2 qs j).1, min (at2 ps j).2 (at2 qs j).2) ∧ max (at2 ps j).1 (at2 qs j).1 ≤ min (at2 ps j).2 (at2 qs j).2 := by
    intro j hj
    have hk : (meetF n ps qs j).2 = true := by
      unfold madeB at hm
      rw [List.all_eq_true] at hm
      exact hm j (List.mem_range.2 hj)
    have hk' : meetB n (at2 ps j).1 (at2 ps j).2 (at2 qs j).1 (at2 qs j).2 = true := hk
    rw [at2_of (madeL_get hj)]
    refine ⟨by unfold meetF meetI; simp only [if_pos hk'], ?_⟩
    unfold meetB at hk'
    simp only [Bool.and_eq_true, decide_eq_true_eq] at hk'
    exact hk'.2.2
  refine ⟨bok_of (by omega) (by omega) fun j hj => ?_, isb_true ll fun j hj => ?_, isb_true (by omega) fun j hj => ?_⟩
  · rw [ll] at hj
    rw [(hat j hj).1]
    have := pok_both (bok_at hp hj) (bok_at hq (i := j) (by omega))
    rw [this]
    exact decide_eq_true (hat j hj).2
  · rw [ll] at hj
    rw [(hat j hj).1]
    unfold isP isB
    simp only [Bool.and_eq_true, decide_eq_true_eq]
    omega
  · rw [ll] at hj
    rw [(hat j hj).1]
    unfold isP isB
    simp only [Bool.and_eq_true, decide_eq_true_eq]
    omega

/-- A box within another one: it meets that one in itself, and has no more of anything. -/
theorem within_all {n m : Int} {ps qs : List (Int × Int)} (hw : ∀ p ∈ qs, Wf p) (hp : bokI n ps = true) (hq : bokI n qs = true) (h : isbI ps qs = true) :
    meetK n ps qs = true ∧ isbI ps (meetL n ps qs) = true ∧ unitsI n ps ≤ unitsI n qs ∧ pathI n ps ≤ pathI n qs ∧ (fineI n qs m = true → fineI n ps m = true) := by
  obtain ⟨hl, hi⟩ := isb_iff.1 h
  have hin : ∀ j, j < ps.length → (at2 qs j).1 ≤ (at2 ps j).1 ∧ (at2 ps j).2 ≤ (at2 qs j).2 ∧ (at2 ps j).1 ≤ (at2 ps j).2 := by
    intro j hj
    have a := hi j hj
    unfold isP isB at a
    simp only [Bool.and_eq_true, decide_eq_true_eq] at a
    exact ⟨a.1, a.2, (pok_parts (bok_at hp hj)).2.2.1⟩
  have hgap : ∀ j, j < ps.length → gp (at2 ps j) ≤ gp (at2 qs j) ∧ gp (at2 qs j) ≤ 18446744073709551615 := by
    intro j hj
    obtain ⟨a, b, c⟩ := hin j hj
    have wf := hw _ (List.mem_of_getElem? (at2_get (ps := qs) (i := j) (by omega)))
    refine ⟨?_, (gap_bounds wf.1 wf.2).2⟩
    unfold gp gapI
    rw [if_neg (by omega), if_neg (by omega)]
    omega
  have hF : ∀ j, j < ps.length → meetF n ps qs j = (at2 ps j, true) := by
    intro j hj
    obtain ⟨a, b, c⟩ := hin j hj
    have e : meetB n (at2 ps j).1 (at2 ps j).2 (at2 qs j).1 (at2 qs j).2 = true := by
      unfold meetB
      rw [bok_at hp hj, bok_at hq (i := j) (by omega), decide_eq_true (show max (at2 ps j).1 (at2 qs j).1 ≤ min (at2 ps j).2 (at2 qs j).2 by omega)]
      rfl
    unfold meetF meetI
    simp only [e, if_true]
    rw [show max (at2 ps j).1 (at2 qs j).1 = (at2 ps j).1 by omega, show min (at2 ps j).2 (at2 qs j).2 = (at2 ps j).2 by omega]
  have hK : meetK n ps qs = true := by
    unfold meetK meetG
    rw [hp, hq, decide_eq_true hl, madeB_true fun j hj => by rw [hF j hj]]
    rfl
  have hL : meetL n ps qs = ps := by
    unfold meetL
    rw [if_pos hK]
    apply List.ext_getElem?
    intro j
    by_cases hj : j < ps.length
    · rw [madeL_get hj, hF j hj, at2_get hj]
    · rw [List.getElem?_eq_none (by rw [madeL_length]; omega), List.getElem?_eq_none (by omega)]
  refine ⟨hK, ?_, ?_, ?_, ?_⟩
  · rw [hL]
    refine isb_true rfl fun j hj => ?_
    unfold isP isB
    simp only [Bool.and_eq_true, decide_eq_true_eq]
    omega
  · unfold unitsI
    rw [if_pos hp, if_pos hq, unL_eq, unL_eq]
    have := units_mono ps qs hl fun j hj => (hgap j hj).1
    omega
  · unfold pathI
    rw [if_pos hp, if_pos hq]
    exact path_mono ps qs 1 hl hgap
  · unfold fineI
    intro hf
    rw [Bool.and_eq_true, List.all_eq_true] at hf ⊢
    refine ⟨hp, fun p hpm => ?_⟩
    obtain ⟨j, hj⟩ := List.getElem?_of_mem hpm
    have hjl := (List.getElem?_eq_some_iff.1 hj).1
    have a := hf.2 _ (List.mem_of_getElem? (at2_get (ps := qs) (i := j) (by omega)))
    have b := (hgap j hjl).1
    rw [at2_of hj] at b
    rw [decide_eq_true_eq] at a ⊢
    exact Int.le_trans b a

end Go.Proofs.Yteohgmmenlinbab
