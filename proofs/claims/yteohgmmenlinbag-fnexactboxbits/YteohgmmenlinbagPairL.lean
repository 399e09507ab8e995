/- What the exact laws of pairs call besides: contracts. -/
import Derived.Test.YteohgmmenlinbagQuiet
import Derived.Test.YteohgmmenlinbagOwn
namespace Go.Proofs.Yteohgmmenlinbag
open Go.RowKit
set_option linter.unusedVariables false

def PairVal (w : World) (x y : Int) (e : Ending) (w' : World) : Prop := e = .returned (.agg #[.int .i64 x, .int .i64 y]) ∧ Below w.heap.size w w'

theorem toPair (w : World) (x y : Int) : Calls Try.prog 54 #[.agg #[.int .i64 x, .int .i64 y]] w (PairVal w x y) := by
  go_enter Try.func54, Try.ntmps54
  go_wp2
  refine bodyPost_ret (v := .agg #[.int .i64 x, .int .i64 y]) ?_ rfl ⟨rfl, ?_⟩
  · simp [results, Try.f54, go_sem]
  · repeat (first | exact Below.refl _ _ | refine Below.drew ?_ | refine Below.alloc ?_ (by simp; try omega) _)

theorem eqPairSame (w : World) (x y : Int) : Calls Try.prog 62 #[.agg #[.int .i64 x, .int .i64 y], .agg #[.int .i64 x, .int .i64 y]] w fun e w' => e = .returned (.bool true) ∧ Below w.heap.size w w' := by
  go_enter Try.func62, Try.ntmps62
  go_wp2
  go_ret
  exact ⟨rfl, by repeat (first | exact Below.refl _ _ | refine Below.drew ?_ | refine Below.alloc ?_ (by simp; try omega) _)⟩

end Go.Proofs.Yteohgmmenlinbag
