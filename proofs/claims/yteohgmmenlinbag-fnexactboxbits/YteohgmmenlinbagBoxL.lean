/- What the exact laws of boxes call besides: contracts. -/
import Derived.Test.YteohgmmenlinbagBoxA
import Derived.Test.YteohgmmenlinbagPairL
namespace Go.Proofs.Yteohgmmenlinbag
open Go.ChangeShapes Go.WideShapes Go.ChangeAt Go.RowKit
set_option linter.unusedVariables false

theorem szBox (w : World) (a : Option Addr) (len cap : Nat) (left : Int) (h1 : 0 ≤ left) (h2 : left ≤ 1048576) (hm : len ≤ maxLen) :
    Calls Try.prog 8 #[.agg #[.slice a len cap], .int .i64 left] w fun e w' => e = .returned (.int .i64 (if left < len then -1 else left - len)) ∧ Below w.heap.size w w' := by
  unfold maxLen at hm
  by_cases h : left < len
  · rw [if_pos h]
    have h3 : left - (len : Int) < 0 := by omega
    go_enter Try.func8, Try.ntmps8
    go_wp2
    go_ret
    exact ⟨rfl, by repeat (first | exact Below.refl _ _ | refine Below.drew ?_ | refine Below.alloc ?_ (by simp; try omega) _)⟩
  · rw [if_neg h]
    have h3 : ¬ left - (len : Int) < 0 := by omega
    go_enter Try.func8, Try.ntmps8
    go_wp2
    go_ret
    exact ⟨rfl, by repeat (first | exact Below.refl _ _ | refine Below.drew ?_ | refine Below.alloc ?_ (by simp; try omega) _)⟩

end Go.Proofs.Yteohgmmenlinbag
