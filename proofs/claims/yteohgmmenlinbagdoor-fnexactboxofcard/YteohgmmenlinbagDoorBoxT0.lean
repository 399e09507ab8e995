/- Pairs in a block of their own. -/
import Derived.Test.YteohgmmenlinbagDoorBoxA
import Derived.Laws.MakeOwn
import Derived.OwnWalk
namespace Go.Proofs.YteohgmmenlinbagDoor
open Go.ChangeShapes Go.WideShapes Go.ChangeAt Go.RowKit
set_option linter.unusedVariables false

theorem infoPairB : (Tryd.prog.info? 39).map (fun i => (i.zero, i.size, i.bytes)) = some (some (.agg #[.int .i64 0, .int .i64 0]), 2, 16) := by kernel_rfl

/-- These pairs lie in block G from its first cell on, none frozen. -/
structure OwnP (W : World) (G : Nat) (ps : List (Int × Int)) : Prop where
  lt : G < W.heap.size
  cell : ∀ (i : Nat) (p : Int × Int), ps[i]? = some p → W.cell? ⟨G, i * 2, none⟩ = some (.int .i64 p.1) ∧ W.cell? ⟨G, i * 2 + 1, none⟩ = some (.int .i64 p.2)
  frz : ∀ (i : Nat) (p : Int × Int), ps[i]? = some p → W.frozen? ⟨G, i * 2, none⟩ = false ∧ W.frozen? ⟨G, i * 2 + 1, none⟩ = false

theorem OwnP.below {W W' : World} {G : Nat} {ps : List (Int × Int)} (h : OwnP W G ps) (q : Below W.heap.size W W') : OwnP W' G ps :=
  ⟨Nat.lt_of_lt_of_le h.lt q.size, fun i p hp => ⟨(q.cell (p := ⟨G, i * 2, none⟩) h.lt).trans (h.cell i p hp).1, (q.cell (p := ⟨G, i * 2 + 1, none⟩) h.lt).trans (h.cell i p hp).2⟩,
   fun i p hp => ⟨(q.frozen (p := ⟨G, i * 2, none⟩) h.lt).trans (h.frz i p hp).1, (q.frozen (p := ⟨G, i * 2 + 1, none⟩) h.lt).trans (h.frz i p hp).2⟩⟩

theorem OwnP.other {W : World} {G j k : Nat} {ps : List (Int × Int)} (h : OwnP W G ps) (v : Value) (hk : j ≠ G) : OwnP (W.setCell ⟨j, k, none⟩ v) G ps :=
  ⟨by simpa [World.setCell] using h.lt, fun i p hp => ⟨(World.cell?_setCell_other _ _ _ _ (fun e => by injection e; omega)).trans (h.cell i p hp).1, (World.cell?_setCell_other _ _ _ _ (fun e => by injection e; omega)).trans (h.cell i p hp).2⟩,
   fun i p hp => by rw [World.frozen?_setCell, World.frozen?_setCell]; exact h.frz i p hp⟩

theorem OwnP.at {W : World} {G : Nat} {ps : List (Int × Int)} (h : OwnP W G ps) (hw : ∀ p ∈ ps, (Lit.int .i64 p.1).wf = true ∧ (Lit.int .i64 p.2).wf = true) : PairsAt W (some ⟨G, 0, none⟩) ps :=
  ⟨hw, .inr ⟨G, 0, rfl, h.lt, fun i p hp => by rw [Nat.zero_add]; exact h.cell i p hp⟩⟩

theorem Own.pairs {W : World} {G : Nat} {vs : List Value} {ps : List (Int × Int)} (o : Own W G vs) (h : ∀ (i : Nat) (p : Int × Int), ps[i]? = some p → vs[i * 2]? = some (.int .i64 p.1) ∧ vs[i * 2 + 1]? = some (.int .i64 p.2)) : OwnP W G ps :=
  ⟨o.lt, fun i p hp => ⟨o.cell _ _ (h i p hp).1, o.cell _ _ (h i p hp).2⟩, fun i p hp => ⟨o.frz _ _ (h i p hp).1, o.frz _ _ (h i p hp).2⟩⟩

/-- The first i pairs lie in the new row. -/
def CopySt (w : World) (G len : Nat) (ps : List (Int × Int)) (i : Nat) (W : World) : Prop :=
  (∃ vs : List Value, vs.length = len * 2 ∧ Own W G vs ∧ ∀ j, j < i → ∀ p : Int × Int, ps[j]? = some p → vs[j * 2]? = some (.int .i64 p.1) ∧ vs[j * 2 + 1]? = some (.int .i64 p.2)) ∧ Below w.heap.size w W

theorem copy_step {vs : List Value} {ps : List (Int × Int)} {i len : Nat} {lo hi : Int} (hv : vs.length = len * 2) (hil : i < len) (hpi : ps[i]? = some (lo, hi)) (hc : ∀ j, j < i → ∀ p : Int × Int, ps[j]? = some p → vs[j * 2]? = some (.int .i64 p.1) ∧ vs[j * 2 + 1]? = some (.int .i64 p.2)) :
    ∀ j, j < i + 1 → ∀ p : Int × Int, ps[j]? = some p → ((vs.set (i * 2) (.int .i64 lo)).set (i * 2 + 1) (.int .i64 hi))[j * 2]? = some (.int .i64 p.1) ∧ ((vs.set (i * 2) (.int .i64 lo)).set (i * 2 + 1) (.int .i64 hi))[j * 2 + 1]? = some (.int .i64 p.2) := by
  intro j hj p hp
  by_cases e : j = i
  · subst e
    rw [hpi] at hp
    obtain rfl := Option.some.inj hp
    constructor
    · rw [List.getElem?_set_ne (by omega), List.getElem?_set_self (by omega)]
    · rw [List.getElem?_set_self (by rw [List.length_set]; omega)]
  · obtain ⟨h1, h2⟩ := hc j (by omega) p hp
    constructor
    · rw [List.getElem?_set_ne (by omega), List.getElem?_set_ne (by omega)]; exact h1
    · rw [List.getElem?_set_ne (by omega), List.getElem?_set_ne (by omega)]; exact h2

end Go.Proofs.YteohgmmenlinbagDoor
