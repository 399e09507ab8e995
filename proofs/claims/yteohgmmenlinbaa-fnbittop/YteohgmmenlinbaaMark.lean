/- The laws' own marking of a list of pairs and of a box, and their look whether the marks still stand: contracts. -/
import Derived.Test.YteohgmmenlinbaaJB
import Derived.Test.YteohgmmenlinbaaJA
namespace Go.Proofs.Yteohgmmenlinbaa
open Go.ChangeShapes Go.WideShapes Go.ChangeAt Go.RowKit
set_option linter.unusedVariables false

/-- The marks from k on. -/
def marks (k : Int) (len : Nat) : List (Int × Int) := (List.range len).map fun (j : Nat) => (k + 2 * (j : Int), k + 2 * (j : Int) + 1)
theorem marks_length (k : Int) (len : Nat) : (marks k len).length = len := by simp [marks]
theorem marks_get {k : Int} {len j : Nat} (h : j < len) : (marks k len)[j]? = some (k + 2 * (j : Int), k + 2 * (j : Int) + 1) := by simp [marks, h]
theorem marks_of {k : Int} {len : Nat} {qs : List (Int × Int)} (hl : qs.length = len) (h : ∀ j, j < len → qs[j]? = some (k + 2 * (j : Int), k + 2 * (j : Int) + 1)) : qs = marks k len := by
  apply List.ext_getElem?
  intro j
  by_cases hj : j < len
  · rw [h j hj, marks_get hj]
  · rw [List.getElem?_eq_none (by omega), List.getElem?_eq_none (by rw [marks_length]; omega)]
theorem marks_wf {k : Int} {len : Nat} (h0 : 0 ≤ k) (h1 : k ≤ 1000000000000) (hm : len ≤ 1048576) : ∀ p ∈ marks k len, (Lit.int .i64 p.1).wf = true ∧ (Lit.int .i64 p.2).wf = true := by
  intro p hp
  obtain ⟨j, hj⟩ := List.getElem?_of_mem hp
  have hl : j < len := by have := (List.getElem?_eq_some_iff.1 hj).1; rw [marks_length] at this; exact this
  rw [marks_get hl] at hj
  obtain rfl := Option.some.inj hj
  exact ⟨i64_wf (by omega) (by omega), i64_wf (by omega) (by omega)⟩

theorem OwnP.setPair {W : World} {G i : Nat} {ps : List (Int × Int)} (h : OwnP W G ps) (x y : Int) (hi : i < ps.length) : OwnP ((W.setCell ⟨G, i * 2, none⟩ (.int .i64 x)).setCell ⟨G, i * 2 + 1, none⟩ (.int .i64 y)) G (ps.set i (x, y)) := by
  have hp : ps[i]? = some ps[i] := List.getElem?_eq_getElem hi
  have hc := h.cell i _ hp
  refine ⟨by simpa [World.setCell] using h.lt, fun j p hj => ?_, fun j p hj => ?_⟩
  · by_cases e : i = j
    · subst e
      rw [List.getElem?_set_self hi] at hj
      obtain rfl := Option.some.inj hj
      constructor
      · rw [World.cell?_setCell_other _ _ _ _ (fun q => by injection q; omega)]
        exact World.cell?_setCell_same _ _ _ hc.1
      · exact World.cell?_setCell_same _ _ _ ((World.cell?_setCell_other _ _ _ _ (fun q => by injection q; omega)).trans hc.2)
    · rw [List.getElem?_set_ne e] at hj
      have := h.cell j p hj
      constructor
      · rw [World.cell?_setCell_other _ _ _ _ (fun q => by injection q; omega), World.cell?_setCell_other _ _ _ _ (fun q => by injection q; omega)]; exact this.1
      · rw [World.cell?_setCell_other _ _ _ _ (fun q => by injection q; omega), World.cell?_setCell_other _ _ _ _ (fun q => by injection q; omega)]; exact this.2
  · simp only [World.frozen?_setCell]
    by_cases e : i = j
    · subst e
      exact h.frz i _ hp
    · rw [List.getElem?_set_ne e] at hj
      exact h.frz j p hj

/-- The first i of the pairs in block G bear marks. -/
def MarkSt (w : World) (G len : Nat) (k : Int) (i : Nat) (W : World) : Prop :=
  (∃ qs : List (Int × Int), qs.length = len ∧ OwnP W G qs ∧ ∀ j, j < i → qs[j]? = some (k + 2 * (j : Int), k + 2 * (j : Int) + 1)) ∧ KeepO (some G) w W

end Go.Proofs.Yteohgmmenlinbaa
