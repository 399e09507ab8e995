/- The model's halvings: its contract. -/
import Derived.Test.YteohgmmenlinbaaHalv
namespace Go.Proofs.Yteohgmmenlinbaa
open Go.ChangeShapes Go.WideShapes Go.ChangeAt Go.RowKit
set_option linter.unusedVariables false

theorem l4halv (w : World) (x : Int) (h0 : 0 ≤ x) (h1 : x ≤ 18446744073709551615) :
    Calls Try.prog 46 #[.int .u64 x] w fun e w' => e = .returned (.int .i64 (halvI x)) ∧ w' = w := by
  have hb := halv_bounds h0 h1
  go_enter Try.func46, Try.ntmps46
  go_wp2
  go_loopw [0, 3] (fun gv nv wr => ∃ g n : Int, gv = .int .u64 g ∧ nv = .int .i64 n ∧ 0 ≤ g ∧ g ≤ 18446744073709551615 ∧ 0 ≤ n ∧ n + halvI g = halvI x ∧ wr = w)
    (fun gv _ _ => (intOf gv).toNat)
  case atStart => exact ⟨x, 0, rfl, rfl, h0, h1, by omega, by omega, rfl⟩
  case round =>
    obtain ⟨g, n, rfl, rfl, g0, g1, n0, hs, rfl⟩ := hrel
    have gb := halv_bounds g0 g1
    by_cases hg : 0 < g
    · have st := halv_step hg g1
      go_wp2
      go_roundw
      case rel => exact ⟨g / 2, n + 1, by go_num, by go_num, by omega, by omega, by omega, by omega, trivial⟩
      case measure => simp [intOf]; omega
    · obtain rfl : g = 0 := by omega
      rw [halv_zero] at hs
      go_wp2
      go_ret
      refine ⟨?_, rfl⟩
      rw [← hs, Int.add_zero]
      rfl

end Go.Proofs.Yteohgmmenlinbaa
