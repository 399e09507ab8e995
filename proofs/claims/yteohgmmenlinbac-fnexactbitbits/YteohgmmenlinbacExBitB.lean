/- The walks of the exact laws of BitOrd and BitBits: each returns true. -/
import Derived.Test.YteohgmmenlinbacSpecO
namespace Go.Proofs.Yteohgmmenlinbac
open Go.ChangeShapes Go.WideShapes Go.ChangeAt Go.RowKit
set_option linter.unusedVariables false

theorem walkExOrd (n : Int) (hn : (Lit.int .i64 n).wf = true) (x : Int) (hx : (Lit.int .u64 x).wf = true) (w : World) :
    Calls Try.prog 5 #[.int .i64 n, .int .u64 x] w fun e w' => e = .returned (.bool true) ∧ Below w.heap.size w w' := by
  have hb := u64_bounds hx
  have hs := specOrd w n x hb.1 hb.2
  have hi := fun W => implOrd W n x hb.1 hb.2
  generalize ordI n x = v at *
  generalize isFloat n x = k at *
  clear hb
  go_enter Try.func5, Try.ntmps5
  go_wp2_with first
    | (go_at_call 11; go_must (refine hs.mono ?_); clear hs; rintro e w1 ⟨rfl, q⟩)
    | (go_at_call 12; go_must (refine (hi _).mono ?_); clear hi; rintro e w2 ⟨rfl, q2⟩)
  all_goals
    go_ret
    exact ⟨rfl, q.trans (q2.mono q.size)⟩

theorem walkExBits (n : Int) (hn : (Lit.int .i64 n).wf = true) (x : Int) (hx : (Lit.int .i64 x).wf = true) (w : World) :
    Calls Try.prog 6 #[.int .i64 n, .int .i64 x] w fun e w' => e = .returned (.bool true) ∧ Below w.heap.size w w' := by
  have hs := specBits w n x hx
  have hi := fun W => implBits W n x hx
  generalize bitsI n x = v at *
  go_enter Try.func6, Try.ntmps6
  go_wp2_with first
    | (go_at_call 13; go_must (refine hs.mono ?_); clear hs; rintro e w1 ⟨rfl, rfl⟩)
    | (go_at_call 14; go_must (refine (hi _).mono ?_); clear hi; rintro e w2 ⟨rfl, q2⟩)
  go_ret
  exact ⟨rfl, q2⟩

end Go.Proofs.Yteohgmmenlinbac
