/- The pair at a coordinate of a box. -/
import Derived.Test.YteohgmmenlinbagBoxA
namespace Go.Proofs.Yteohgmmenlinbag
open Go.ChangeShapes Go.WideShapes Go.ChangeAt Go.RowKit
set_option linter.unusedVariables false

abbrev at2 (ps : List (Int × Int)) (j : Nat) : Int × Int := ps[j]?.getD (0, 0)
theorem at2_of {ps : List (Int × Int)} {i : Nat} {p : Int × Int} (h : ps[i]? = some p) : at2 ps i = p := by unfold at2; rw [h]; rfl
theorem at2_get {ps : List (Int × Int)} {i : Nat} (h : i < ps.length) : ps[i]? = some (at2 ps i) := by
  rw [List.getElem?_eq_getElem h]
  congr 1
  exact (at2_of (List.getElem?_eq_getElem h)).symm

/-- The pair at a coordinate of a box, in memory. -/
theorem PairsAt.atD {W : World} {a : Option Addr} {ps : List (Int × Int)} (h : PairsAt W a ps) {i : Nat} (hi : i < ps.length) :
    ∃ rb ro, a = some ⟨rb, ro, none⟩ ∧ rb < W.heap.size ∧ W.cell? ⟨rb, ro + i * 2, none⟩ = some (.int .i64 (at2 ps i).1) ∧ W.cell? ⟨rb, ro + i * 2 + 1, none⟩ = some (.int .i64 (at2 ps i).2) := by
  obtain ⟨rb, ro, ha, hlt, hc⟩ := h.2.resolve_left (by intro e; rw [e] at hi; simp at hi)
  have hp : ps[i]? = some ps[i] := List.getElem?_eq_getElem hi
  refine ⟨rb, ro, ha, hlt, ?_⟩
  rw [at2_of hp]
  exact hc i _ hp
theorem PairsAt.wfD {W : World} {a : Option Addr} {ps : List (Int × Int)} (h : PairsAt W a ps) {i : Nat} (hi : i < ps.length) : (Lit.int .i64 (at2 ps i).1).wf = true ∧ (Lit.int .i64 (at2 ps i).2).wf = true := by
  have hp : ps[i]? = some ps[i] := List.getElem?_eq_getElem hi
  rw [at2_of hp]
  exact h.1 _ (List.mem_of_getElem? hp)


theorem bok_at {n : Int} {ps : List (Int × Int)} (h : bokI n ps = true) {i : Nat} (hi : i < ps.length) : pokI n (at2 ps i).1 (at2 ps i).2 = true := by
  unfold bokI at h
  simp only [Bool.and_eq_true, List.all_eq_true] at h
  exact h.2.2 _ (List.mem_of_getElem? (at2_get hi))

end Go.Proofs.Yteohgmmenlinbag
