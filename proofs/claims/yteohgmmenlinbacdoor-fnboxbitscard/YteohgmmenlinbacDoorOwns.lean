/- Several blocks of the call's own, one behind the other. -/
import Derived.Test.YteohgmmenlinbacDoorJA
namespace Go.Proofs.YteohgmmenlinbacDoor
open Go.RowKit
set_option linter.unusedVariables false

structure Owns (W : World) (B : Nat) (l : List (List Value)) : Prop where
  get : ∀ i vs, l[i]? = some vs → Own W (B + i) vs

theorem Owns.below {W W' : World} {B : Nat} {l : List (List Value)} (h : Owns W B l) (q : Below W.heap.size W W') : Owns W' B l := ⟨fun i vs hi => (h.get i vs hi).below q⟩
theorem Owns.alloc {W : World} {B : Nat} {l : List (List Value)} (h : Owns W B l) (o : Obj) : Owns (W.alloc o) B l := ⟨fun i vs hi => (h.get i vs hi).alloc o⟩
theorem Owns.drew {W : World} {B : Nat} {l : List (List Value)} (h : Owns W B l) : Owns W.drew B l := ⟨fun i vs hi => (h.get i vs hi).drew⟩

theorem Owns.push {W : World} {B : Nat} {l : List (List Value)} (h : Owns W B l) (hs : W.heap.size = B + l.length) (c : Array Value) (t : TypeId) : Owns (W.alloc (.cells c t)) B (l ++ [c.toList]) := by
  refine ⟨fun i vs hi => ?_⟩
  by_cases k : i < l.length
  · rw [List.getElem?_append_left k] at hi
    exact (h.get i vs hi).alloc _
  · rw [List.getElem?_append_right (by omega)] at hi
    have e : i = l.length := by
      rcases Nat.lt_or_ge (i - l.length) 1 with h1 | h1
      · omega
      · rw [List.getElem?_eq_none (by simpa using h1)] at hi; cases hi
    subst e
    simp at hi
    subst hi
    rw [← hs]
    exact Own.new W c t

theorem owns1 (w : World) (c0 : Array Value) (t : TypeId) : Owns (w.alloc (.cells c0 t)) w.heap.size [c0.toList] := by
  have := (⟨fun i vs h => by simp at h⟩ : Owns w w.heap.size []).push (by simp) c0 t
  simpa using this
theorem owns2 (w : World) (c0 c1 : Array Value) (t : TypeId) : Owns ((w.alloc (.cells c0 t)).alloc (.cells c1 t)) w.heap.size [c0.toList, c1.toList] := (owns1 w c0 t).push (by simp) c1 t
theorem owns3 (w : World) (c0 c1 c2 : Array Value) (t : TypeId) : Owns (((w.alloc (.cells c0 t)).alloc (.cells c1 t)).alloc (.cells c2 t)) w.heap.size [c0.toList, c1.toList, c2.toList] := (owns2 w c0 c1 t).push (by simp) c2 t
theorem owns4 (w : World) (c0 c1 c2 c3 : Array Value) (t : TypeId) : Owns ((((w.alloc (.cells c0 t)).alloc (.cells c1 t)).alloc (.cells c2 t)).alloc (.cells c3 t)) w.heap.size [c0.toList, c1.toList, c2.toList, c3.toList] := (owns3 w c0 c1 c2 t).push (by simp) c3 t
theorem owns5 (w : World) (c0 c1 c2 c3 c4 : Array Value) (t : TypeId) : Owns (((((w.alloc (.cells c0 t)).alloc (.cells c1 t)).alloc (.cells c2 t)).alloc (.cells c3 t)).alloc (.cells c4 t)) w.heap.size [c0.toList, c1.toList, c2.toList, c3.toList, c4.toList] := (owns4 w c0 c1 c2 c3 t).push (by simp) c4 t
theorem owns6 (w : World) (c0 c1 c2 c3 c4 c5 : Array Value) (t : TypeId) : Owns ((((((w.alloc (.cells c0 t)).alloc (.cells c1 t)).alloc (.cells c2 t)).alloc (.cells c3 t)).alloc (.cells c4 t)).alloc (.cells c5 t)) w.heap.size [c0.toList, c1.toList, c2.toList, c3.toList, c4.toList, c5.toList] := (owns5 w c0 c1 c2 c3 c4 t).push (by simp) c5 t

end Go.Proofs.YteohgmmenlinbacDoor
