/- Units and path of the parts that BoxSplit and BoxCut make: pure facts. -/
import Derived.Test.YteohgmmenlinbaaPureU
import Derived.Test.YteohgmmenlinbaaSplitI
import Derived.Test.YteohgmmenlinbaaCutI
namespace Go.Proofs.Yteohgmmenlinbaa
open Go.RowKit
set_option linter.unusedVariables false

theorem part_yes {n : Int} {f : PartF} {ps : List (Int × Int)} {k : Int} (h : partK n f ps k = true) :
    ∃ j : Nat, k = j ∧ j < ps.length ∧ bokI n ps = true ∧ (f (at2 ps j)).2.2 = true ∧ partA n f ps k = ps.set j (f (at2 ps j)).1 ∧ partB n f ps k = ps.set j (f (at2 ps j)).2.1 := by
  have hA : partA n f ps k = ps.set k.toNat (f (at2 ps k.toNat)).1 := by unfold partA; rw [if_pos h]
  have hB : partB n f ps k = ps.set k.toNat (f (at2 ps k.toNat)).2.1 := by unfold partB; rw [if_pos h]
  unfold partK at h
  simp only [Bool.and_eq_true, decide_eq_true_eq] at h
  exact ⟨k.toNat, by omega, by omega, h.1, h.2.2.2, hA, hB⟩

/-- What P9 says of two parts. -/
def PartLess (ps qs rs : List (Int × Int)) : Prop := (unL ps < 1000000000 → unL qs + unL rs + 1 ≤ unL ps) ∧ paL qs + 1 ≤ paL ps ∧ paL rs ≤ paL ps

theorem part_less {ps : List (Int × Int)} {j : Nat} (hj : j < ps.length) {g a b : Int} {q1 q2 : Int × Int} (hg : gp (at2 ps j) = g) (h1 : gp q1 = a) (h2 : gp q2 = b) (g1 : 1 ≤ g) (gm : g ≤ 18446744073709551615)
    (hu : ufI g < 1000000000 → ufI a + ufI b + 1 ≤ ufI g) (ha0 : 0 ≤ a) (ha : a ≤ g / 2) (hb0 : 0 ≤ b) (hb : b ≤ g) : PartLess ps (ps.set j q1) (ps.set j q2) := by
  refine ⟨fun h => units_part hj h (by rw [hg, h1, h2]; exact hu), ?_, ?_⟩
  · rw [paL_set hj, hg, h1, halv_step (by omega) gm]
    have := halv_mono ha0 ha (by omega)
    omega
  · rw [paL_set hj, hg, h2]
    have := halv_mono hb0 hb gm
    omega

theorem split_less {n : Int} {ps : List (Int × Int)} {k : Int} (hw : ∀ p ∈ ps, Wf p) (h : partK n (splitF n) ps k = true) : PartLess ps (partA n (splitF n) ps k) (partB n (splitF n) ps k) := by
  obtain ⟨j, rfl, hj, hbk, hs, hA, hB⟩ := part_yes h
  rw [hA, hB]
  have wf := hw _ (List.mem_of_getElem? (at2_get hj))
  have hs' : splitB n (at2 ps j).1 (at2 ps j).2 = true := hs
  have gb := gap_bounds wf.1 wf.2
  have e1 : (splitF n (at2 ps j)).1 = ((at2 ps j).1, midI (at2 ps j).1 (at2 ps j).2) := by unfold splitF; simp only [if_pos hs']
  have e2 : (splitF n (at2 ps j)).2.1 = (midI (at2 ps j).1 (at2 ps j).2, (at2 ps j).2) := by unfold splitF; simp only [if_pos hs']
  rw [e1, e2]
  unfold splitB at hs'
  rw [Bool.and_eq_true, decide_eq_true_eq] at hs'
  have g2 := hs'.2
  have hle : ¬ (at2 ps j).2 < (at2 ps j).1 := by
    intro hlt
    unfold gapI at g2
    rw [if_pos hlt] at g2
    omega
  have hgap : gapI (at2 ps j).1 (at2 ps j).2 = (at2 ps j).2 - (at2 ps j).1 := by unfold gapI; rw [if_neg hle]
  have hm : midI (at2 ps j).1 (at2 ps j).2 = (at2 ps j).1 + gapI (at2 ps j).1 (at2 ps j).2 / 2 := rfl
  have a1 : gp ((at2 ps j).1, midI (at2 ps j).1 (at2 ps j).2) = gapI (at2 ps j).1 (at2 ps j).2 / 2 := by
    show gapI (at2 ps j).1 (midI (at2 ps j).1 (at2 ps j).2) = _
    rw [hm, hgap]
    unfold gapI
    rw [if_neg (by omega)]
    omega
  have a2 : gp (midI (at2 ps j).1 (at2 ps j).2, (at2 ps j).2) = gapI (at2 ps j).1 (at2 ps j).2 - gapI (at2 ps j).1 (at2 ps j).2 / 2 := by
    show gapI (midI (at2 ps j).1 (at2 ps j).2) (at2 ps j).2 = _
    rw [hm, hgap]
    unfold gapI
    rw [if_neg (by omega)]
    omega
  exact part_less hj rfl a1 a2 (by show 1 ≤ gapI _ _; omega) gb.2 (fun h => uf_split g2 h) (by omega) (Int.le_refl _) (by omega) (by show _ ≤ gapI _ _; omega)

theorem cut_less {n g gh : Int} {ps : List (Int × Int)} {k : Int} (hw : ∀ p ∈ ps, Wf p) (h : partK n (cutF n g gh) ps k = true) : PartLess ps (partA n (cutF n g gh) ps k) (partB n (cutF n g gh) ps k) := by
  obtain ⟨j, rfl, hj, hbk, hs, hA, hB⟩ := part_yes h
  rw [hA, hB]
  have wf := hw _ (List.mem_of_getElem? (at2_get hj))
  have gb := gap_bounds wf.1 wf.2
  have hc : cutB n (at2 ps j).1 (at2 ps j).2 g gh = true := by
    cases hq : cutB n (at2 ps j).1 (at2 ps j).2 g gh
    · unfold cutF at hs
      rw [if_neg (by rw [hq]; decide)] at hs
      cases hs
    · rfl
  have hc' := hc
  unfold cutB at hc'
  simp only [Bool.and_eq_true, decide_eq_true_eq] at hc'
  obtain ⟨k1, k2, k3, k4⟩ := hc'
  have hlo : (at2 ps j).1 ≤ g := by unfold pokI at k3; simp only [Bool.and_eq_true, decide_eq_true_eq] at k3; exact k3.2.2.1
  have hhi : gh ≤ (at2 ps j).2 := by unfold pokI at k4; simp only [Bool.and_eq_true, decide_eq_true_eq] at k4; exact k4.2.2.1
  have hgap : gapI (at2 ps j).1 (at2 ps j).2 = (at2 ps j).2 - (at2 ps j).1 := by unfold gapI; rw [if_neg (by omega)]
  have a1 : gapI (at2 ps j).1 g = g - (at2 ps j).1 := by unfold gapI; rw [if_neg (by omega)]
  have a2 : gapI gh (at2 ps j).2 = (at2 ps j).2 - gh := by unfold gapI; rw [if_neg (by omega)]
  by_cases hu : upFirst (at2 ps j).1 (at2 ps j).2 g gh = true
  · have e1 : cutF n g gh (at2 ps j) = ((gh, (at2 ps j).2), ((at2 ps j).1, g), true) := by unfold cutF; rw [if_pos hc, if_pos hu]
    rw [e1]
    unfold upFirst at hu
    rw [decide_eq_true_eq, a1, a2] at hu
    exact part_less hj rfl (show gp (gh, (at2 ps j).2) = _ from a2) (show gp ((at2 ps j).1, g) = _ from a1) (by show 1 ≤ gapI _ _; omega) gb.2 (fun h => uf_cut (by omega) (by omega) (by show _ ≤ gapI _ _; omega) h) (by omega) (by show _ ≤ gapI _ _ / 2; omega) (by omega) (by show _ ≤ gapI _ _; omega)
  · have e1 : cutF n g gh (at2 ps j) = (((at2 ps j).1, g), (gh, (at2 ps j).2), true) := by unfold cutF; rw [if_pos hc, if_neg hu]
    rw [e1]
    unfold upFirst at hu
    rw [decide_eq_true_eq, a1, a2] at hu
    exact part_less hj rfl (show gp ((at2 ps j).1, g) = _ from a1) (show gp (gh, (at2 ps j).2) = _ from a2) (by show 1 ≤ gapI _ _; omega) gb.2 (fun h => uf_cut (by omega) (by omega) (by show _ ≤ gapI _ _; omega) h) (by omega) (by show _ ≤ gapI _ _ / 2; omega) (by omega) (by show _ ≤ gapI _ _; omega)

/-- What BoxUnits and BoxPath say of the parts, ok or not. -/
theorem part_units {n : Int} {ps qs rs : List (Int × Int)} (hb : bokI n ps = true) (hw : ∀ p ∈ ps, Wf p) (h : PartLess ps qs rs) (h1 : 1 ≤ unL ps) (h2 : 1 ≤ paL ps) (q0 : 0 ≤ unL qs ∧ 0 ≤ paL qs) (r0 : 0 ≤ unL rs ∧ 0 ≤ paL rs) :
    (unitsI n ps < 1000000000 → unitsI n qs + unitsI n rs + 1 ≤ unitsI n ps) ∧ pathI n qs + 1 ≤ pathI n ps ∧ pathI n rs ≤ pathI n ps := by
  obtain ⟨a, b, c⟩ := h
  unfold unitsI pathI
  rw [if_pos hb, if_pos hb]
  refine ⟨fun h => ?_, ?_, ?_⟩
  · have := a h
    split <;> split <;> omega
  · split <;> omega
  · split <;> omega

end Go.Proofs.Yteohgmmenlinbaa
