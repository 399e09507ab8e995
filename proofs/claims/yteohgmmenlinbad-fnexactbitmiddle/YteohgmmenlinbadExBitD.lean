/- The walks of the exact laws of BitGap and BitMiddle: each returns true. -/
import Derived.Test.YteohgmmenlinbadMid
namespace Go.Proofs.Yteohgmmenlinbad
open Go.ChangeShapes Go.WideShapes Go.ChangeAt Go.RowKit
set_option linter.unusedVariables false

theorem spec_mid_eq {lo hi : Int} (h1 : (Lit.int .i64 lo).wf = true) (h2 : (Lit.int .i64 hi).wf = true) :
    wrap64 (IntKind.u64.wrap (IntKind.u64.wrap lo + IntKind.u64.wrap ((gapI lo hi).tdiv 2))) = midI lo hi := by
  have a1 := i64_bounds (mid_bounds h1 h2).2.2
  have a2 := gap_bounds h1 h2
  have a3 := i64_bounds h1
  rw [IntKind.wrap_u64, IntKind.wrap_u64, IntKind.wrap_u64, Int.tdiv_eq_ediv_of_nonneg a2.1]
  unfold midI at a1 ⊢
  unfold wrap64
  omega

theorem specMid (w : World) (lo hi : Int) (h1 : (Lit.int .i64 lo).wf = true) (h2 : (Lit.int .i64 hi).wf = true) :
    Calls Try.prog 17 #[.int .i64 lo, .int .i64 hi] w fun e w' => e = .returned (.int .i64 (midI lo hi)) ∧ w = w' := by
  have hg := specGap w lo hi h1 h2
  rw [← spec_mid_eq h1 h2]
  generalize gapI lo hi = g at hg ⊢
  go_enter Try.func17, Try.ntmps17
  go_wp2_with (go_at_call 15; go_must (refine hg.mono ?_); clear hg; rintro e w1 ⟨rfl, rfl⟩)
  go_ret
  exact ⟨rfl, rfl⟩

theorem walkExGap (n : Int) (hn : (Lit.int .i64 n).wf = true) (x : Int) (hx : (Lit.int .i64 x).wf = true) (w : World) :
    Calls Try.prog 6 #[.int .i64 n, .int .i64 x] w fun e w' => e = .returned (.bool true) ∧ Below w.heap.size w w' := by
  have hs := specGap w n x hn hx
  have hi := implGap w n x hn hx
  generalize gapI n x = v at *
  go_enter Try.func6, Try.ntmps6
  go_wp2_with first
    | (go_at_call 15; go_must (refine hs.mono ?_); clear hs; rintro e w1 ⟨rfl, rfl⟩)
    | (go_at_call 16; go_must (refine hi.mono ?_); clear hi; rintro e w2 ⟨rfl, rfl⟩)
  go_ret
  exact ⟨rfl, Below.refl _ _⟩

theorem walkExMid (n : Int) (hn : (Lit.int .i64 n).wf = true) (x : Int) (hx : (Lit.int .i64 x).wf = true) (w : World) :
    Calls Try.prog 7 #[.int .i64 n, .int .i64 x] w fun e w' => e = .returned (.bool true) ∧ Below w.heap.size w w' := by
  have hs := specMid w n x hn hx
  have hi := implMid w n x hn hx
  generalize midI n x = v at *
  go_enter Try.func7, Try.ntmps7
  go_wp2_with first
    | (go_at_call 17; go_must (refine hs.mono ?_); clear hs; rintro e w1 ⟨rfl, rfl⟩)
    | (go_at_call 18; go_must (refine hi.mono ?_); clear hi; rintro e w2 ⟨rfl, rfl⟩)
  go_ret
  exact ⟨rfl, Below.refl _ _⟩

end Go.Proofs.Yteohgmmenlinbad
