/- BitMiddle of the program: its contract. -/
import Derived.Test.YteohgmmenlinbaaJB
import Derived.WalkKit
import Derived.ProofKit
import Derived.OpenShut
import Derived.Below
import Derived.WalkSpells
namespace Go.Proofs.Yteohgmmenlinbaa
open Go.ChangeShapes Go.WideShapes Go.ChangeAt Go.RowKit
set_option linter.unusedVariables false

def midI (lo hi : Int) : Int := lo + gapI lo hi / 2

theorem mid_bounds {lo hi : Int} (h1 : (Lit.int .i64 lo).wf = true) (h2 : (Lit.int .i64 hi).wf = true) : lo ≤ midI lo hi ∧ (lo ≤ hi → midI lo hi ≤ hi) ∧ (Lit.int .i64 (midI lo hi)).wf = true := by
  have a1 := i64_bounds h1
  have a2 := i64_bounds h2
  unfold midI gapI
  split
  · exact ⟨by omega, by omega, i64_wf (by omega) (by omega)⟩
  · exact ⟨by omega, by omega, i64_wf (by omega) (by omega)⟩

theorem mid_eq {lo hi : Int} (h1 : (Lit.int .i64 lo).wf = true) (h2 : (Lit.int .i64 hi).wf = true) :
    wrap64 (lo + wrap64 (IntKind.u64.wrap ((gapI lo hi).tdiv 2))) = midI lo hi := by
  have a1 := i64_bounds (mid_bounds h1 h2).2.2
  have a2 := gap_bounds h1 h2
  have a3 := i64_bounds h1
  rw [IntKind.wrap_u64, Int.tdiv_eq_ediv_of_nonneg a2.1]
  unfold midI at a1 ⊢
  unfold wrap64
  omega

theorem implMid (w : World) (lo hi : Int) (h1 : (Lit.int .i64 lo).wf = true) (h2 : (Lit.int .i64 hi).wf = true) :
    Calls Try.prog 33 #[.int .i64 lo, .int .i64 hi] w fun e w' => e = .returned (.int .i64 (midI lo hi)) ∧ w = w' := by
  have hg := implGap w lo hi h1 h2
  rw [← mid_eq h1 h2]
  generalize gapI lo hi = g at hg ⊢
  go_enter Try.func33, Try.ntmps33
  go_wp2_with (go_at_call 14; go_must (refine hg.mono ?_); clear hg; rintro e w1 ⟨rfl, rfl⟩)
  go_ret
  exact ⟨rfl, rfl⟩

end Go.Proofs.Yteohgmmenlinbaa
