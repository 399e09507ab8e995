/- The contract of the model's 'GoodPair': a pair that is ok, of a width. -/
import Derived.Test.YteohgmmenlinbaaDrawI
import Derived.Test.YteohgmmenlinbaaJA
import Derived.RegionTactic
namespace Go.Proofs.Yteohgmmenlinbaa
open Go.ChangeShapes Go.WideShapes Go.ChangeAt Go.RowKit
set_option linter.unusedVariables false

def GoodOut (w : World) (e : Ending) (w' : World) : Prop :=
  ∃ n lo hi, e = .returned (.tuple #[.int .i64 n, .agg #[.int .i64 lo, .int .i64 hi]]) ∧ (n = 32 ∨ n = 64) ∧ pokI n lo hi = true ∧ Nr lo ∧ Nr hi ∧ Below w.heap.size w w'

theorem width_at {w w2 : World} {b : Nat} {l r : Int} (hb : b < w.heap.size) (h : St (w.alloc (.cells #[.int .i64 32, .int .i64 64] 3)) b l w2) (h0 : 0 ≤ r) (h1 : r < 2) :
    ∃ v : Int, w2.cell? ⟨w.heap.size, r.toNat, none⟩ = some (.int .i64 v) ∧ (v = 32 ∨ v = 64) := by
  have e : r = 0 ∨ r = 1 := by omega
  rcases e with rfl | rfl
  · exact ⟨32, (h.laid hb 0 _ rfl).1, .inl rfl⟩
  · exact ⟨64, (h.laid hb 1 _ rfl).1, .inr rfl⟩

end Go.Proofs.Yteohgmmenlinbaa
