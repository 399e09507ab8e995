/- The model's count of halvings: the same number. -/
import Derived.Test.YteohgmmenlinbaaJA
import Derived.Test.YteohgmmenlinbaaLen64
namespace Go.Proofs.Yteohgmmenlinbaa
open Go.ChangeShapes Go.WideShapes Go.ChangeAt Go.RowKit
set_option linter.unusedVariables false

theorem halvings (w : World) (x : Int) (h0 : 0 ≤ x) (h1 : x ≤ 18446744073709551615) :
    Calls Try.prog 43 #[.int .u64 x] w fun e w' => e = .returned (.int .i64 (halvI x)) ∧ w' = w := by
  have hk := fun W => len64 W x h0 h1
  generalize halvI x = h at *
  go_enter Try.func43, Try.ntmps43
  go_wp2_with (go_at_call 81; refine (hk _).mono ?_; clear hk; rintro e w2 ⟨rfl, rfl⟩)
  go_ret
  exact ⟨rfl, rfl⟩

end Go.Proofs.Yteohgmmenlinbaa
