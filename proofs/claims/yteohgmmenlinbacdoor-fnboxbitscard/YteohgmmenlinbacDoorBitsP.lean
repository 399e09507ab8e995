/- What FnBoxBits asks of patterns and boxes. -/
import Derived.Test.YteohgmmenlinbacDoorOfP
import Derived.Test.YteohgmmenlinbacDoorBoxB
import Derived.Test.YteohgmmenlinbacDoorPureO
import Derived.Test.YteohgmmenlinbacDoorBoxX
namespace Go.Proofs.YteohgmmenlinbacDoor
open Go.RowKit
set_option linter.unusedVariables false

theorem bits_get (n : Int) : ∀ (ps : List (Int × Int)) (i : Nat) (p : Int × Int), ps[i]? = some p → (bitsL n ps)[2 * i]? = some (bitsI n p.1) ∧ (bitsL n ps)[2 * i + 1]? = some (bitsI n p.2)
  | [], i, p, h => by simp at h
  | q :: ps, i, p, h => by
    have e : bitsL n (q :: ps) = bitsI n q.1 :: bitsI n q.2 :: bitsL n ps := rfl
    rw [e]
    match i, h with
    | 0, h => simp at h; subst h; exact ⟨rfl, rfl⟩
    | i + 1, h =>
      have := bits_get n ps i p (by simpa using h)
      rw [show 2 * (i + 1) = 2 * i + 1 + 1 by omega]
      simpa using this

theorem pok_ok {n lo hi : Int} (h : pokI n lo hi = true) : okI n lo = true ∧ okI n hi = true := by
  unfold pokI at h
  simp only [Bool.and_eq_true, decide_eq_true_eq] at h
  exact ⟨h.1, h.2.1⟩

/-- A box comes back from its patterns. -/
theorem box_back {n : Int} {ps : List (Int × Int)} (h : bokI n ps = true) : codeU n (bboxL n ps) = 0 ∧ boxU n (bboxL n ps) = ps ∧ (bboxL n ps).length = 2 * ps.length := by
  have hb := h
  unfold bokI at hb
  simp only [Bool.and_eq_true, decide_eq_true_eq, List.all_eq_true] at hb
  have ez : bboxL n ps = bitsL n ps := by unfold bboxL; rw [if_pos h]
  have hlen := bitsL_length n ps
  rw [ez]
  have hw : n = 32 ∨ n = 64 := by
    match ps, hb.1 with
    | p :: ps, _ => exact okI_width (pok_ok (hb.2.2 p (by simp))).1
  have hat : ∀ i p, ps[i]? = some p → pairU n (bitsL n ps) i = (p, true) := by
    intro i p hp
    obtain ⟨e1, e2⟩ := bits_get n ps i p hp
    obtain ⟨k1, k2⟩ := pok_ok (hb.2.2 p (List.mem_of_getElem? hp))
    unfold pairU atU
    rw [e1, e2]
    simp only [Option.getD_some]
    rw [(bits_ordO k1).1, (bits_ordO k2).1, (bits_ordO k1).2, (bits_ordO k2).2]
    rfl
  have hc : countU n (bitsL n ps) = true := by
    unfold countU
    rw [hlen, decide_eq_true hw, decide_eq_true (show 2 ≤ 2 * ps.length by omega), decide_eq_true (show 2 * ps.length ≤ 12 by omega), decide_eq_true (show 2 * ps.length % 2 = 0 by omega)]
    rfl
  have hdiv : (bitsL n ps).length / 2 = ps.length := by omega
  have hB : madeB (pairU n (bitsL n ps)) ps.length = true := madeB_true fun i hi => by rw [hat i _ (List.getElem?_eq_getElem hi)]
  have hP : pairsU n (bitsL n ps) = ps := by
    unfold pairsU
    rw [hdiv]
    apply List.ext_getElem?
    intro i
    by_cases hi : i < ps.length
    · rw [madeL_get hi, hat i _ (List.getElem?_eq_getElem hi), List.getElem?_eq_getElem hi]
    · rw [List.getElem?_eq_none (by rw [madeL_length]; omega), List.getElem?_eq_none (by omega)]
  have hcode : codeU n (bitsL n ps) = 0 := by
    unfold codeU
    rw [if_pos hc, hdiv, if_pos hB, hP, if_pos h]
  exact ⟨hcode, by unfold boxU; rw [if_pos hcode, hP], hlen⟩

theorem box_none {n : Int} {ps : List (Int × Int)} (h : bokI n ps = false) : bboxL n ps = [] ∧ codeU n [] = 1 := by
  refine ⟨by unfold bboxL; rw [h]; rfl, ?_⟩
  have : countU n [] = false := by unfold countU; simp
  unfold codeU
  rw [this]
  rfl

theorem box_bad {n : Int} {zs : List Int} (h : codeU n zs ≠ 0) : boxU n zs = [] := by unfold boxU; rw [if_neg h]

theorem box_good {n : Int} {zs : List Int} (h : codeU n zs = 0) : (boxU n zs).length * 2 = zs.length ∧ ∀ i, i < zs.length → isFloat n (atU zs i) = true ∧ (i % 2 = 0 → (at2 (boxU n zs) (i / 2)).1 = ordI n (atU zs i)) ∧ (i % 2 = 1 → (at2 (boxU n zs) (i / 2)).2 = ordI n (atU zs i)) := by
  have e : boxU n zs = pairsU n zs := by unfold boxU; rw [if_pos h]
  rw [e]
  unfold codeU at h
  by_cases hc : countU n zs = true
  · rw [if_pos hc] at h
    unfold countU at hc
    simp only [Bool.and_eq_true, decide_eq_true_eq] at hc
    by_cases hB : madeB (pairU n zs) (zs.length / 2) = true
    · refine ⟨by unfold pairsU; rw [madeL_length]; omega, fun i hi => ?_⟩
      have hq : i / 2 < zs.length / 2 := by omega
      have ha : at2 (pairsU n zs) (i / 2) = (pairU n zs (i / 2)).1 := at2_of (by unfold pairsU; exact madeL_get hq)
      have hf : (pairU n zs (i / 2)).2 = true := by
        unfold madeB at hB
        rw [List.all_eq_true] at hB
        exact hB _ (List.mem_range.2 hq)
      unfold pairU at hf ha
      simp only [Bool.and_eq_true] at hf
      rw [ha]
      dsimp only
      rcases Nat.mod_two_eq_zero_or_one i with e | e
      · have : 2 * (i / 2) = i := by omega
        rw [this] at hf ⊢
        exact ⟨hf.1, fun _ => rfl, fun e' => by omega⟩
      · have : 2 * (i / 2) + 1 = i := by omega
        rw [this] at hf ⊢
        exact ⟨hf.2, fun e' => by omega, fun _ => rfl⟩
    · rw [if_neg hB] at h; cases h
  · rw [if_neg hc] at h; cases h

theorem isb_self (ps : List (Int × Int)) : isbI ps ps = true := isb_true rfl fun j _ => by
  unfold isP isB
  simp

end Go.Proofs.YteohgmmenlinbacDoor
