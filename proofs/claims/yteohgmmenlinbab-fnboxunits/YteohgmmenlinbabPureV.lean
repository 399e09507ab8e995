/- What FnBoxUnits asks of a box and of its parts. -/
import Derived.Test.YteohgmmenlinbabPureP
namespace Go.Proofs.Yteohgmmenlinbab
open Go.RowKit
set_option linter.unusedVariables false

theorem units_in (n : Int) (ps : List (Int × Int)) : 0 ≤ unitsI n ps ∧ unitsI n ps ≤ 1000000000 := by
  unfold unitsI unL
  have := un_fold (v := 1) ps (by omega) (by omega)
  split <;> omega
theorem path_in (n : Int) {ps : List (Int × Int)} (hw : ∀ p ∈ ps, Wf p) : 0 ≤ pathI n ps ∧ pathI n ps ≤ 64 * (ps.length : Int) + 1 := by
  unfold pathI paL
  have := pa_fold hw 1
  split <;> omega
theorem box_bounds {n : Int} {ps : List (Int × Int)} (hw : ∀ p ∈ ps, Wf p) (h : bokI n ps = true) : 1 ≤ unitsI n ps ∧ 1 ≤ pathI n ps := by
  unfold unitsI unL pathI paL
  rw [if_pos h, if_pos h]
  have h1 := un_fold (v := 1) ps (by omega) (by omega)
  have h2 := pa_fold hw 1
  omega
theorem box_none {n : Int} {ps : List (Int × Int)} (h : bokI n ps = false) : unitsI n ps = 0 ∧ pathI n ps = 0 := by
  unfold unitsI pathI
  rw [h]
  exact ⟨rfl, rfl⟩
theorem part_bok {n : Int} {f : PartF} {ps : List (Int × Int)} {k : Int} (h : partK n f ps k = true) : bokI n ps = true := by
  unfold partK at h
  simp only [Bool.and_eq_true] at h
  exact h.1
theorem partA_len (n : Int) (f : PartF) (ps : List (Int × Int)) (k : Int) : (partA n f ps k).length ≤ ps.length := by
  unfold partA
  split <;> simp
theorem partB_len (n : Int) (f : PartF) (ps : List (Int × Int)) (k : Int) : (partB n f ps k).length ≤ ps.length := by
  unfold partB
  split <;> simp

theorem parts_units {n : Int} {f : PartF} {ps : List (Int × Int)} {k : Int} (hw : ∀ p ∈ ps, Wf p) (h : partK n f ps k = true) (hl : PartLess ps (partA n f ps k) (partB n f ps k))
    (ha : ∀ p ∈ partA n f ps k, Wf p) (hb : ∀ p ∈ partB n f ps k, Wf p) :
    (unitsI n ps < 1000000000 → unitsI n (partA n f ps k) + unitsI n (partB n f ps k) + 1 ≤ unitsI n ps) ∧ pathI n (partA n f ps k) + 1 ≤ pathI n ps ∧ pathI n (partB n f ps k) ≤ pathI n ps := by
  have u0 := un_fold (v := 1) ps (by omega) (by omega)
  have p0 := pa_fold hw 1
  have ua := un_fold (v := 1) (partA n f ps k) (by omega) (by omega)
  have pa := pa_fold ha 1
  have ub := un_fold (v := 1) (partB n f ps k) (by omega) (by omega)
  have pb := pa_fold hb 1
  exact part_units (part_bok h) hw hl (by unfold unL; omega) (by unfold paL; omega) ⟨by unfold unL; omega, by unfold paL; omega⟩ ⟨by unfold unL; omega, by unfold paL; omega⟩

theorem parts_wf {n : Int} {f : PartF} {ps : List (Int × Int)} {k : Int} (hw : ∀ p ∈ ps, Wf p) (h : partK n f ps k = true) (hf : ∀ p, Wf p → Wf (f p).1 ∧ Wf (f p).2.1) : (∀ p ∈ partA n f ps k, Wf p) ∧ ∀ p ∈ partB n f ps k, Wf p := by
  obtain ⟨j, -, hj, -, -, hA, hB⟩ := part_yes h
  have hat := hf (at2 ps j) (hw _ (List.mem_of_getElem? (at2_get hj)))
  rw [hA, hB]
  constructor
  · intro p hp
    rcases List.mem_or_eq_of_mem_set hp with h1 | h1
    · exact hw p h1
    · rw [h1]; exact hat.1
  · intro p hp
    rcases List.mem_or_eq_of_mem_set hp with h1 | h1
    · exact hw p h1
    · rw [h1]; exact hat.2

/-- All that the law asks of the parts. -/
def PartsOk (n : Int) (ps qs rs : List (Int × Int)) : Prop :=
  (unitsI n ps < 1000000000 → unitsI n qs + unitsI n rs + 1 ≤ unitsI n ps) ∧ pathI n qs + 1 ≤ pathI n ps ∧ pathI n rs ≤ pathI n ps ∧ 0 ≤ pathI n qs ∧ 0 ≤ pathI n rs ∧ pathI n ps ≤ 64 * (ps.length : Int) + 1

theorem split_ok {n : Int} {ps : List (Int × Int)} {k : Int} (hw : ∀ p ∈ ps, Wf p) (h : partK n (splitF n) ps k = true) : PartsOk n ps (partA n (splitF n) ps k) (partB n (splitF n) ps k) := by
  have w := parts_wf hw h (fun p hp => split_wf n p hp)
  obtain ⟨a, b, c⟩ := parts_units hw h (split_less hw h) w.1 w.2
  exact ⟨a, b, c, (path_in n w.1).1, (path_in n w.2).1, (path_in n hw).2⟩

theorem cut_ok {n g gh : Int} {ps : List (Int × Int)} {k : Int} (wg : (Lit.int .i64 g).wf = true) (wgh : (Lit.int .i64 gh).wf = true) (hw : ∀ p ∈ ps, Wf p) (h : partK n (cutF n g gh) ps k = true) : PartsOk n ps (partA n (cutF n g gh) ps k) (partB n (cutF n g gh) ps k) := by
  have w := parts_wf hw h (fun p hp => cut_wf n g gh wg wgh p hp)
  obtain ⟨a, b, c⟩ := parts_units hw h (cut_less hw h) w.1 w.2
  exact ⟨a, b, c, (path_in n w.1).1, (path_in n w.2).1, (path_in n hw).2⟩

end Go.Proofs.Yteohgmmenlinbab
