/- The model's steps of a pair: its contract. -/
import Derived.Test.YteohgmmenlinbaaJA
namespace Go.Proofs.Yteohgmmenlinbaa
open Go.ChangeShapes Go.WideShapes Go.ChangeAt Go.RowKit
set_option linter.unusedVariables false

theorem l3gap (w : World) (x y : Int) (h1 : (Lit.int .i64 x).wf = true) (h2 : (Lit.int .i64 y).wf = true) :
    Calls Try.prog 45 #[.agg #[.int .i64 x, .int .i64 y]] w fun e w' => e = .returned (.int .u64 (gapI x y)) ∧ Below w.heap.size w w' := by
  have hg := fun W => specGap W x y h1 h2
  generalize gapI x y = g at *
  go_enter Try.func45, Try.ntmps45
  go_wp2_with (go_at_call 34; refine (hg _).mono ?_; clear hg; rintro e w1 ⟨rfl, rfl⟩)
  go_ret
  exact ⟨rfl, by repeat (first | exact Below.refl _ _ | refine Below.drew ?_ | refine Below.alloc ?_ (by simp; try omega) _)⟩

end Go.Proofs.Yteohgmmenlinbaa
