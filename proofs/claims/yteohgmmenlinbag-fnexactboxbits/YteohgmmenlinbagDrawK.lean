/- The contract of the reader's 'within'. -/
import Derived.Test.YteohgmmenlinbagDrawE
import Derived.Test.YteohgmmenlinbagOwn
import Derived.Test.YteohgmmenlinbagGap
namespace Go.Proofs.Yteohgmmenlinbag
open Go.ChangeShapes Go.WideShapes Go.ChangeAt Go.RowKit
set_option linter.unusedVariables false

/-- What 'within' leaves: two ints, the reader further on. -/
def WithinOut (w : World) (b : Nat) (lim : Int) (e : Ending) (w' : World) : Prop :=
  ∃ x y, e = .returned (.agg #[.int .i64 x, .int .i64 y]) ∧ (Lit.int .i64 x).wf = true ∧ (Lit.int .i64 y).wf = true ∧ Rd w' b lim ∧ Keep b w w'

/-- What the walk of 'within' reads again behind each call. -/
theorem within_cells {w w1 : World} {b : Nat} {l lo hi : Int} (hb : b < w.heap.size)
    (h : St ((w.alloc (.cells #[.int .i64 lo, .int .i64 hi] 49)).alloc (.cells #[.int .i64 0, .int .i64 0] 49)) b l w1) :
    w1.cell? ⟨w.heap.size, 0, none⟩ = some (.int .i64 lo) ∧ w1.cell? ⟨w.heap.size + 1, 0, none⟩ = some (.int .i64 0) ∧ w1.cell? ⟨w.heap.size + 1, 1, none⟩ = some (.int .i64 0) ∧
      w1.frozen? ⟨w.heap.size + 1, 0, none⟩ = false ∧ w1.frozen? ⟨w.heap.size + 1, 1, none⟩ = false := by
  have o0 : Own ((w.alloc (.cells #[.int .i64 lo, .int .i64 hi] 49)).alloc (.cells #[.int .i64 0, .int .i64 0] 49)) (w.heap.size + 1) [.int .i64 0, .int .i64 0] := by
    have := Own.new (w.alloc (.cells #[.int .i64 lo, .int .i64 hi] 49)) #[.int .i64 0, .int .i64 0] 49
    simpa using this
  have o := o0.keep h.2 (by omega)
  have p := ((Own.new w #[.int .i64 lo, .int .i64 hi] 49).alloc (.cells #[.int .i64 0, .int .i64 0] 49)).keep h.2 (by omega)
  exact ⟨p.cell 0 _ rfl, o.cell 0 _ rfl, o.cell 1 _ rfl, o.frz 0 _ rfl, o.frz 1 _ rfl⟩

end Go.Proofs.Yteohgmmenlinbag
