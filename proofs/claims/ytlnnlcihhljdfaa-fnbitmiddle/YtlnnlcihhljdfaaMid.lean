/- BitGap and BitMiddle of the program, BitGap of the model: contracts. -/
import Derived.Test.YtlnnlcihhljdfaaRows
import Derived.WalkKit
import Derived.ProofKit
import Derived.OpenShut
import Derived.Below
import Derived.WalkSpells
namespace Go.Proofs.Ytlnnlcihhljdfaa
open Go.ChangeShapes Go.WideShapes Go.ChangeAt Go.RowKit
set_option linter.unusedVariables false

def gapI (lo hi : Int) : Int := if hi < lo then 0 else hi - lo
def midI (lo hi : Int) : Int := lo + gapI lo hi / 2

theorem i64_bounds {n : Int} (h : (Lit.int .i64 n).wf = true) : -9223372036854775808 ≤ n ∧ n ≤ 9223372036854775807 := by
  simpa [Lit.wf, IntKind.min, IntKind.max, IntKind.signed, IntKind.bits, Bool.and_eq_true, decide_eq_true_eq] using h

theorem i64_wf {n : Int} (h1 : -9223372036854775808 ≤ n) (h2 : n ≤ 9223372036854775807) : (Lit.int .i64 n).wf = true := by
  simp only [Lit.wf, IntKind.min, IntKind.max, IntKind.signed, IntKind.bits, Bool.and_eq_true, decide_eq_true_eq, if_true]
  omega

theorem gap_eq {lo hi : Int} (h1 : (Lit.int .i64 lo).wf = true) (h2 : (Lit.int .i64 hi).wf = true) (h : ¬ hi < lo) :
    IntKind.u64.wrap (IntKind.u64.wrap hi - IntKind.u64.wrap lo) = gapI lo hi := by
  have a1 := i64_bounds h1
  have a2 := i64_bounds h2
  unfold gapI
  rw [if_neg h, IntKind.wrap_u64, IntKind.wrap_u64, IntKind.wrap_u64]
  omega

theorem implGap (w : World) (lo hi : Int) (h1 : (Lit.int .i64 lo).wf = true) (h2 : (Lit.int .i64 hi).wf = true) :
    Calls Try.prog 6 #[.int .i64 lo, .int .i64 hi] w fun e w' => e = .returned (.int .u64 (gapI lo hi)) ∧ w = w' := by
  by_cases h : hi < lo
  · have e : gapI lo hi = 0 := by unfold gapI; rw [if_pos h]
    rw [e]
    clear e
    go_enter Try.func6, Try.ntmps6
    go_wp2
    go_ret
    exact ⟨rfl, rfl⟩
  · rw [← gap_eq h1 h2 h]
    go_enter Try.func6, Try.ntmps6
    go_wp2
    go_ret
    exact ⟨rfl, rfl⟩

theorem specGap (w : World) (lo hi : Int) (h1 : (Lit.int .i64 lo).wf = true) (h2 : (Lit.int .i64 hi).wf = true) :
    Calls Try.prog 7 #[.int .i64 lo, .int .i64 hi] w fun e w' => e = .returned (.int .u64 (gapI lo hi)) ∧ w = w' := by
  by_cases h : hi < lo
  · have e : gapI lo hi = 0 := by unfold gapI; rw [if_pos h]
    rw [e]
    clear e
    go_enter Try.func7, Try.ntmps7
    go_wp2
    go_ret
    exact ⟨rfl, rfl⟩
  · rw [← gap_eq h1 h2 h]
    go_enter Try.func7, Try.ntmps7
    go_wp2
    go_ret
    exact ⟨rfl, rfl⟩

theorem gap_bounds {lo hi : Int} (h1 : (Lit.int .i64 lo).wf = true) (h2 : (Lit.int .i64 hi).wf = true) : 0 ≤ gapI lo hi ∧ gapI lo hi ≤ 18446744073709551615 := by
  have a1 := i64_bounds h1
  have a2 := i64_bounds h2
  unfold gapI
  split <;> omega

theorem mid_bounds {lo hi : Int} (h1 : (Lit.int .i64 lo).wf = true) (h2 : (Lit.int .i64 hi).wf = true) : lo ≤ midI lo hi ∧ (lo ≤ hi → midI lo hi ≤ hi) ∧ (Lit.int .i64 (midI lo hi)).wf = true := by
  have a1 := i64_bounds h1
  have a2 := i64_bounds h2
  unfold midI gapI
  split
  · exact ⟨by omega, by omega, i64_wf (by omega) (by omega)⟩
  · exact ⟨by omega, by omega, i64_wf (by omega) (by omega)⟩

theorem mid_eq {lo hi : Int} (h1 : (Lit.int .i64 lo).wf = true) (h2 : (Lit.int .i64 hi).wf = true) :
    wrap64 (lo + wrap64 (IntKind.u64.wrap ((gapI lo hi).tdiv 2))) = midI lo hi := by
  have a1 := i64_bounds (mid_bounds h1 h2).2.2
  have a2 := gap_bounds h1 h2
  have a3 := i64_bounds h1
  rw [IntKind.wrap_u64, Int.tdiv_eq_ediv_of_nonneg a2.1]
  unfold midI at a1 ⊢
  unfold wrap64
  omega

theorem implMid (w : World) (lo hi : Int) (h1 : (Lit.int .i64 lo).wf = true) (h2 : (Lit.int .i64 hi).wf = true) :
    Calls Try.prog 5 #[.int .i64 lo, .int .i64 hi] w fun e w' => e = .returned (.int .i64 (midI lo hi)) ∧ w = w' := by
  have hg := implGap w lo hi h1 h2
  rw [← mid_eq h1 h2]
  generalize gapI lo hi = g at hg ⊢
  go_enter Try.func5, Try.ntmps5
  go_wp2_with (go_at_call 6; go_must (refine hg.mono ?_); clear hg; rintro e w1 ⟨rfl, rfl⟩)
  go_ret
  exact ⟨rfl, rfl⟩

end Go.Proofs.Ytlnnlcihhljdfaa
