/- The walks of the exact laws of BitTop and BitOk: each returns true. -/
import Derived.Test.YteohgmmenlinbacImplT
namespace Go.Proofs.Yteohgmmenlinbac
open Go.ChangeShapes Go.WideShapes Go.ChangeAt Go.RowKit
set_option linter.unusedVariables false

theorem walkExTop (n : Int) (hn : (Lit.int .i64 n).wf = true) (w : World) :
    Calls Try.prog 3 #[.int .i64 n] w fun e w' => e = .returned (.bool true) ∧ Below w.heap.size w w' := by
  have hs := bitTop w n
  have hi := fun W => implTop W n
  generalize topI n = t at *
  go_enter Try.func3, Try.ntmps3
  go_wp2_with first
    | (go_at_call 7; go_must (refine hs.mono ?_); clear hs; rintro e w1 ⟨rfl, rfl⟩)
    | (go_at_call 8; go_must (refine (hi _).mono ?_); clear hi; rintro e w2 ⟨rfl, q⟩)
  go_ret
  exact ⟨rfl, q⟩

theorem walkExOk (n : Int) (hn : (Lit.int .i64 n).wf = true) (x : Int) (hx : (Lit.int .i64 x).wf = true) (w : World) :
    Calls Try.prog 4 #[.int .i64 n, .int .i64 x] w fun e w' => e = .returned (.bool true) ∧ Below w.heap.size w w' := by
  have hs := specOk w n x hx
  have hi := fun W => implOk W n x hx
  generalize okI n x = t at *
  go_enter Try.func4, Try.ntmps4
  go_wp2_with first
    | (go_at_call 9; go_must (refine hs.mono ?_); clear hs; rintro e w1 ⟨rfl, rfl⟩)
    | (go_at_call 10; go_must (refine (hi _).mono ?_); clear hi; rintro e w2 ⟨rfl, q⟩)
  go_ret
  exact ⟨rfl, q⟩

end Go.Proofs.Yteohgmmenlinbac
