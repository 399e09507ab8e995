/- l2Wide of the model: its contract. -/
import Derived.Test.YteohgmmenlinbaiSpecE
namespace Go.Proofs.Yteohgmmenlinbai
open Go.ChangeShapes Go.WideShapes Go.ChangeAt Go.RowKit
set_option linter.unusedVariables false

theorem specWide (w : World) (n : Int) (h1 : -2139095040 ≤ n) (h2 : n ≤ 2139095040) :
    Calls Try.prog 23 #[.int .i64 n] w fun e w' => e = .returned (.int .i64 (widI n)) ∧ Below w.heap.size w w' := by
  have hw := specWiden w n (wf64 (by omega) (by omega))
  rw [(okI_32 n).2 ⟨h1, h2⟩, if_pos rfl] at hw
  generalize widI n = v at *
  go_enter Try.func23, Try.ntmps23
  go_wp2_with (go_at_call 32; go_must (refine hw.mono ?_); clear hw; rintro e w1 ⟨rfl, hb⟩)
  go_ret
  exact ⟨rfl, hb⟩

end Go.Proofs.Yteohgmmenlinbai
