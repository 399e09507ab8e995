/- BitMiddle of the model: its contract. -/
import Derived.Test.YteohgmmenlinbaaJA
import Derived.Test.YteohgmmenlinbaaMid
namespace Go.Proofs.Yteohgmmenlinbaa
open Go.ChangeShapes Go.WideShapes Go.ChangeAt Go.RowKit
set_option linter.unusedVariables false

theorem spec_mid_eq {lo hi : Int} (h1 : (Lit.int .i64 lo).wf = true) (h2 : (Lit.int .i64 hi).wf = true) :
    wrap64 (IntKind.u64.wrap (IntKind.u64.wrap lo + IntKind.u64.wrap ((gapI lo hi).tdiv 2))) = midI lo hi := by
  have a1 := i64_bounds (mid_bounds h1 h2).2.2
  have a2 := gap_bounds h1 h2
  have a3 := i64_bounds h1
  rw [IntKind.wrap_u64, IntKind.wrap_u64, IntKind.wrap_u64, Int.tdiv_eq_ediv_of_nonneg a2.1]
  unfold midI at a1 ⊢
  unfold wrap64
  omega

end Go.Proofs.Yteohgmmenlinbaa
