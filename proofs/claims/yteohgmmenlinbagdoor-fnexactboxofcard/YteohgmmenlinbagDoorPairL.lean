/- What the exact laws of pairs call besides: contracts. -/
import Derived.Test.YteohgmmenlinbagDoorQuiet
import Derived.Test.YteohgmmenlinbagDoorOwn
namespace Go.Proofs.YteohgmmenlinbagDoor
open Go.RowKit
set_option linter.unusedVariables false

def PairVal (w : World) (x y : Int) (e : Ending) (w' : World) : Prop := e = .returned (.agg #[.int .i64 x, .int .i64 y]) ∧ Below w.heap.size w w'

theorem eqPairSame (w : World) (x y : Int) : Calls Tryd.prog 28 #[.agg #[.int .i64 x, .int .i64 y], .agg #[.int .i64 x, .int .i64 y]] w fun e w' => e = .returned (.bool true) ∧ Below w.heap.size w w' := by
  go_enter Tryd.func28, Tryd.ntmps28
  go_wp2
  go_ret
  exact ⟨rfl, by repeat (first | exact Below.refl _ _ | refine Below.drew ?_ | refine Below.alloc ?_ (by simp; try omega) _)⟩

end Go.Proofs.YteohgmmenlinbagDoor
