/- The model's BitTop. -/
import Derived.Test.YteohgmmenlinbagDoorRows
import Derived.WalkKit
import Derived.ProofKit
import Derived.OpenShut
import Derived.Below
import Derived.WalkSpells
namespace Go.Proofs.YteohgmmenlinbagDoor
open Go.ChangeShapes Go.WideShapes Go.ChangeAt Go.RowKit
set_option linter.unusedVariables false

/-- The order number of the infinite one, as the model has it. -/
def topI (w : Int) : Int := if w = 32 then 2139095040 else if w = 64 then 9218868437227405312 else 0

theorem bitTop (w : World) (n : Int) :
    Calls Tryd.prog 20 #[.int .i64 n] w fun e w' => e = .returned (.int .i64 (topI n)) ∧ w' = w := by
  unfold topI
  by_cases h1 : n = 32
  · subst h1
    go_enter Tryd.func20, Tryd.ntmps20
    go_wp2
    go_ret
    exact ⟨rfl, rfl⟩
  · by_cases h2 : n = 64
    · subst h2
      go_enter Tryd.func20, Tryd.ntmps20
      go_wp2
      go_ret
      exact ⟨rfl, rfl⟩
    · have e1 : (n == 32) = false := by simp; exact h1
      have e2 : (n == 64) = false := by simp; exact h2
      rw [if_neg h1, if_neg h2]
      go_enter Tryd.func20, Tryd.ntmps20
      go_wp2
      go_ret
      exact ⟨rfl, rfl⟩

theorem topI_bounds (n : Int) : 0 ≤ topI n ∧ topI n ≤ 9218868437227405312 := by
  unfold topI
  split
  · omega
  · split <;> omega

end Go.Proofs.YteohgmmenlinbagDoor
