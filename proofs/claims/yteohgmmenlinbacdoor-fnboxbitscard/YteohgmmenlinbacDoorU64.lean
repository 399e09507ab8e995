/- Lists of uint64 in memory; the laws' own comparison, marking and look at them: contracts. -/
import Derived.Test.YteohgmmenlinbacDoorJB
namespace Go.Proofs.YteohgmmenlinbacDoor
open Go.ChangeShapes Go.WideShapes Go.ChangeAt Go.RowKit
set_option linter.unusedVariables false

/-- A slice that leads to these numbers. -/
def UAt (W : World) (a : Option Addr) (zs : List Int) : Prop :=
  zs = [] ∨ ∃ rb ro, a = some ⟨rb, ro, none⟩ ∧ rb < W.heap.size ∧ ∀ (i : Nat) (z : Int), zs[i]? = some z → W.cell? ⟨rb, ro + i, none⟩ = some (.int .u64 z)
theorem UAt.below {W W' : World} {a : Option Addr} {zs : List Int} (h : UAt W a zs) (q : Below W.heap.size W W') : UAt W' a zs := by
  rcases h with h | ⟨rb, ro, ha, hlt, hc⟩
  · exact .inl h
  · exact .inr ⟨rb, ro, ha, Nat.lt_of_lt_of_le hlt q.size, fun i z hz => (q.cell (p := ⟨rb, ro + i, none⟩) hlt).trans (hc i z hz)⟩

/-- These numbers lie in block G. -/
structure OwnU (W : World) (G : Nat) (zs : List Int) : Prop where
  lt : G < W.heap.size
  cell : ∀ (i : Nat) (z : Int), zs[i]? = some z → W.cell? ⟨G, i, none⟩ = some (.int .u64 z)
  frz : ∀ (i : Nat) (z : Int), zs[i]? = some z → W.frozen? ⟨G, i, none⟩ = false
theorem OwnU.keepO {W W' : World} {G : Nat} {zs : List Int} {o : Option Nat} (h : OwnU W G zs) (q : KeepO o W W') (hG : o ≠ some G) : OwnU W' G zs :=
  ⟨Nat.lt_of_lt_of_le h.lt q.size, fun i z hz => (q.cell (p := ⟨G, i, none⟩) h.lt hG).trans (h.cell i z hz), fun i z hz => (q.frozen (p := ⟨G, i, none⟩) h.lt hG).trans (h.frz i z hz)⟩

/-- A slice of numbers, in a block o of its own; none, where there are no numbers. -/
def HasU (W : World) (a : Option Addr) (zs : List Int) (o : Option Nat) : Prop := (zs = [] ∧ o = none) ∨ ∃ G, o = some G ∧ a = some ⟨G, 0, none⟩ ∧ OwnU W G zs
theorem HasU.keepO {W W' : World} {a : Option Addr} {zs : List Int} {o o' : Option Nat} (h : HasU W a zs o) (q : KeepO o' W W') (ho : ∀ G, o = some G → o' ≠ some G) : HasU W' a zs o := by
  rcases h with h | ⟨G, e1, e2, e3⟩
  · exact .inl h
  · exact .inr ⟨G, e1, e2, e3.keepO q (ho G e1)⟩
theorem HasU.below {W W' : World} {a : Option Addr} {zs : List Int} {o : Option Nat} (h : HasU W a zs o) (q : Below W.heap.size W W') : HasU W' a zs o := h.keepO (KeepO.of_below none q) (fun _ _ e => by cases e)
theorem HasU.at {W : World} {a : Option Addr} {zs : List Int} {o : Option Nat} (h : HasU W a zs o) : UAt W a zs := by
  rcases h with ⟨h, _⟩ | ⟨G, _, e2, e3⟩
  · exact .inl h
  · exact .inr ⟨G, 0, e2, e3.lt, fun i z hz => by rw [Nat.zero_add]; exact e3.cell i z hz⟩
theorem HasU.lt {W : World} {a : Option Addr} {zs : List Int} {o : Option Nat} (h : HasU W a zs o) : ∀ G, o = some G → G < W.heap.size := by
  intro G hG
  rcases h with ⟨_, e⟩ | ⟨G', e1, _, e3⟩
  · rw [e] at hG; cases hG
  · rw [e1] at hG; obtain rfl := Option.some.inj hG; exact e3.lt

/-- The marks from k on. -/
def marksU (k : Int) (len : Nat) : List Int := (List.range len).map fun (j : Nat) => k + (j : Int)
theorem marksU_length (k : Int) (len : Nat) : (marksU k len).length = len := by simp [marksU]
theorem marksU_get {k : Int} {len j : Nat} (h : j < len) : (marksU k len)[j]? = some (k + (j : Int)) := by simp [marksU, h]
theorem marksU_of {k : Int} {len : Nat} {qs : List Int} (hl : qs.length = len) (h : ∀ j, j < len → qs[j]? = some (k + (j : Int))) : qs = marksU k len := by
  apply List.ext_getElem?
  intro j
  by_cases hj : j < len
  · rw [h j hj, marksU_get hj]
  · rw [List.getElem?_eq_none (by omega), List.getElem?_eq_none (by rw [marksU_length]; omega)]

theorem OwnU.setU {W : World} {G i : Nat} {zs : List Int} (h : OwnU W G zs) (x : Int) (hi : i < zs.length) : OwnU (W.setCell ⟨G, i, none⟩ (.int .u64 x)) G (zs.set i x) := by
  have hp : zs[i]? = some zs[i] := List.getElem?_eq_getElem hi
  have hc := h.cell i _ hp
  refine ⟨by simpa [World.setCell] using h.lt, fun j p hj => ?_, fun j p hj => ?_⟩
  · by_cases e : i = j
    · subst e
      rw [List.getElem?_set_self hi] at hj
      obtain rfl := Option.some.inj hj
      exact World.cell?_setCell_same _ _ _ hc
    · rw [List.getElem?_set_ne e] at hj
      rw [World.cell?_setCell_other _ _ _ _ (fun q => by injection q; omega)]
      exact h.cell j p hj
  · simp only [World.frozen?_setCell]
    by_cases e : i = j
    · subst e
      exact h.frz i _ hp
    · rw [List.getElem?_set_ne e] at hj
      exact h.frz j p hj

def MarkU (w : World) (G len : Nat) (k : Int) (i : Nat) (W : World) : Prop :=
  (∃ qs : List Int, qs.length = len ∧ OwnU W G qs ∧ ∀ j, j < i → qs[j]? = some (k + (j : Int))) ∧ KeepO (some G) w W

end Go.Proofs.YteohgmmenlinbacDoor
