/- Steps between two numbers. -/
import Derived.Test.YteohgmmenlinbagDoorRows
import Derived.WalkKit
import Derived.ProofKit
import Derived.OpenShut
import Derived.Below
import Derived.WalkSpells
namespace Go.Proofs.YteohgmmenlinbagDoor
open Go.ChangeShapes Go.WideShapes Go.ChangeAt Go.RowKit
set_option linter.unusedVariables false

def gapI (lo hi : Int) : Int := if hi < lo then 0 else hi - lo

theorem i64_bounds {n : Int} (h : (Lit.int .i64 n).wf = true) : -9223372036854775808 ≤ n ∧ n ≤ 9223372036854775807 := by
  simpa [Lit.wf, IntKind.min, IntKind.max, IntKind.signed, IntKind.bits, Bool.and_eq_true, decide_eq_true_eq] using h

theorem i64_wf {n : Int} (h1 : -9223372036854775808 ≤ n) (h2 : n ≤ 9223372036854775807) : (Lit.int .i64 n).wf = true := by
  simp only [Lit.wf, IntKind.min, IntKind.max, IntKind.signed, IntKind.bits, Bool.and_eq_true, decide_eq_true_eq, if_true]
  omega

theorem gap_eq {lo hi : Int} (h1 : (Lit.int .i64 lo).wf = true) (h2 : (Lit.int .i64 hi).wf = true) (h : ¬ hi < lo) :
    IntKind.u64.wrap (IntKind.u64.wrap hi - IntKind.u64.wrap lo) = gapI lo hi := by
  have a1 := i64_bounds h1
  have a2 := i64_bounds h2
  unfold gapI
  rw [if_neg h, IntKind.wrap_u64, IntKind.wrap_u64, IntKind.wrap_u64]
  omega

theorem gap_bounds {lo hi : Int} (h1 : (Lit.int .i64 lo).wf = true) (h2 : (Lit.int .i64 hi).wf = true) : 0 ≤ gapI lo hi ∧ gapI lo hi ≤ 18446744073709551615 := by
  have a1 := i64_bounds h1
  have a2 := i64_bounds h2
  unfold gapI
  split <;> omega

end Go.Proofs.YteohgmmenlinbagDoor
