/- The laws' own copy of a list of pairs and of a box: their contracts. -/
import Derived.Test.YteohgmmenlinbagDoorBoxL
import Derived.Test.YteohgmmenlinbagDoorBoxT0
import Derived.Laws.MakeOwn
import Derived.OwnWalk
namespace Go.Proofs.YteohgmmenlinbagDoor
open Go.ChangeShapes Go.WideShapes Go.ChangeAt Go.RowKit
set_option linter.unusedVariables false

/-- A box that is new, its block G beyond all that lay. -/
def BoxNew (w : World) (len : Nat) (ps : List (Int × Int)) (e : Ending) (w' : World) : Prop :=
  ∃ G, w.heap.size ≤ G ∧ e = .returned (.agg #[.slice (some ⟨G, 0, none⟩) len len]) ∧ OwnP w' G ps ∧ Below w.heap.size w w'

end Go.Proofs.YteohgmmenlinbagDoor
