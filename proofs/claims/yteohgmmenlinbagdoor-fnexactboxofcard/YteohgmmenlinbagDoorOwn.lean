/- Blocks of the call's own: what lies in them, and what keeps it. -/
import Derived.Test.YteohgmmenlinbagDoorDrawA
namespace Go.Proofs.YteohgmmenlinbagDoor
open Go.ChangeShapes Go.WideShapes Go.ChangeAt Go.RowKit
set_option linter.unusedVariables false

/-- In block k lie these values, cell by cell, and none is frozen. -/
structure Own (w : World) (k : Nat) (vs : List Value) : Prop where
  lt : k < w.heap.size
  cell : ∀ i v, vs[i]? = some v → w.cell? ⟨k, i, none⟩ = some v
  frz : ∀ i v, vs[i]? = some v → w.frozen? ⟨k, i, none⟩ = false

theorem Own.new (w : World) (c : Array Value) (t : TypeId) : Own (w.alloc (.cells c t)) w.heap.size c.toList :=
  ⟨by simp, fun i v h => by rw [World.cell?_alloc_new]; simpa using h, fun i v h => by simp⟩

theorem Own.keep {w w' : World} {b k : Nat} {vs : List Value} (h : Own w k vs) (q : Keep b w w') (hk : k ≠ b) : Own w' k vs :=
  ⟨Nat.lt_of_lt_of_le h.lt q.size, fun i v hv => (q.cell (p := ⟨k, i, none⟩) h.lt hk).trans (h.cell i v hv), fun i v hv => (q.frozen (p := ⟨k, i, none⟩) h.lt hk).trans (h.frz i v hv)⟩

theorem Keep.of_below {w w' : World} (b : Nat) (q : Below w.heap.size w w') : Keep b w w' := ⟨q.os, q.tape, q.output, q.size, fun k hk _ => q.block k hk⟩

theorem Own.below {w w' : World} {k : Nat} {vs : List Value} (h : Own w k vs) (q : Below w.heap.size w w') : Own w' k vs :=
  h.keep (b := w.heap.size) (Keep.of_below _ q) (by have := h.lt; omega)

theorem Own.alloc {w : World} {k : Nat} {vs : List Value} (h : Own w k vs) (o : Obj) : Own (w.alloc o) k vs :=
  h.below ((Below.refl _ _).alloc (Nat.le_refl _) _)

theorem Own.drewN {w : World} {k : Nat} {vs : List Value} (h : Own w k vs) (n : Nat) : Own (w.drewN n) k vs := ⟨h.lt, h.cell, h.frz⟩
theorem Own.drew {w : World} {k : Nat} {vs : List Value} (h : Own w k vs) : Own w.drew k vs := ⟨h.lt, h.cell, h.frz⟩

theorem Own.other {w : World} {k j i : Nat} {vs : List Value} (h : Own w k vs) (v : Value) (hk : j ≠ k) : Own (w.setCell ⟨j, i, none⟩ v) k vs :=
  ⟨by simpa [World.setCell] using h.lt, fun i' u hu => (World.cell?_setCell_other _ _ _ _ (fun e => by injection e; omega)).trans (h.cell i' u hu), fun i' u hu => by rw [World.frozen?_setCell]; exact h.frz i' u hu⟩

theorem Own.set {w : World} {k i : Nat} {vs : List Value} (h : Own w k vs) (v : Value) (hi : i < vs.length) : Own (w.setCell ⟨k, i, none⟩ v) k (vs.set i v) := by
  refine ⟨by simpa [World.setCell] using h.lt, fun j u hu => ?_, fun j u hu => ?_⟩
  · by_cases e : i = j
    · subst e
      rw [List.getElem?_set_self hi] at hu
      obtain rfl := Option.some.inj hu
      exact World.cell?_setCell_same _ _ _ (h.cell i _ (List.getElem?_eq_getElem hi))
    · rw [List.getElem?_set_ne e] at hu
      exact (World.cell?_setCell_other _ _ _ _ (fun q => by injection q; omega)).trans (h.cell j u hu)
  · rw [World.frozen?_setCell]
    by_cases e : i = j
    · subst e
      exact h.frz i _ (List.getElem?_eq_getElem hi)
    · rw [List.getElem?_set_ne e] at hu
      exact h.frz j u hu

theorem Own.set2 {w : World} {k : Nat} {a b : Value} (h : Own w k [a, b]) (x y : Value) : Own ((w.setCell ⟨k, 0, none⟩ x).setCell ⟨k, 1, none⟩ y) k [x, y] :=
  (h.set x (i := 0) (by simp)).set y (i := 1) (by simp)

theorem Rd.own {w : World} {b j i : Nat} {l : Int} (h : Rd w b l) (v : Value) (hj : b < j) : Rd (w.setCell ⟨j, i, none⟩ v) b l :=
  h.keep (c := j) ((Keep.refl j w).setCell rfl v) hj

theorem Rd.below {w w' : World} {b : Nat} {l : Int} (h : Rd w b l) (q : Below w.heap.size w w') : Rd w' b l :=
  h.keep (c := w.heap.size) (Keep.of_below _ q) h.1

end Go.Proofs.YteohgmmenlinbagDoor
