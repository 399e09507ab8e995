/- The contract of the reader's 'within'. -/
import Derived.Test.YteohgmmenlinbacDoorJA
namespace Go.Proofs.YteohgmmenlinbacDoor
open Go.ChangeShapes Go.WideShapes Go.ChangeAt Go.RowKit
set_option linter.unusedVariables false

/-- What 'within' leaves: two ints, the reader further on. -/
def WithinOut (w : World) (b : Nat) (lim : Int) (e : Ending) (w' : World) : Prop :=
  ∃ x y, e = .returned (.agg #[.int .i64 x, .int .i64 y]) ∧ (Lit.int .i64 x).wf = true ∧ (Lit.int .i64 y).wf = true ∧ Rd w' b lim ∧ Keep b w w'

/-- What the walk of 'within' reads again behind each call. -/
theorem within_cells {w w1 : World} {b : Nat} {l lo hi : Int} (hb : b < w.heap.size)
    (h : St ((w.alloc (.cells #[.int .i64 lo, .int .i64 hi] 40)).alloc (.cells #[.int .i64 0, .int .i64 0] 40)) b l w1) :
    w1.cell? ⟨w.heap.size, 0, none⟩ = some (.int .i64 lo) ∧ w1.cell? ⟨w.heap.size + 1, 0, none⟩ = some (.int .i64 0) ∧ w1.cell? ⟨w.heap.size + 1, 1, none⟩ = some (.int .i64 0) ∧
      w1.frozen? ⟨w.heap.size + 1, 0, none⟩ = false ∧ w1.frozen? ⟨w.heap.size + 1, 1, none⟩ = false := by
  have o0 : Own ((w.alloc (.cells #[.int .i64 lo, .int .i64 hi] 40)).alloc (.cells #[.int .i64 0, .int .i64 0] 40)) (w.heap.size + 1) [.int .i64 0, .int .i64 0] := by
    have := Own.new (w.alloc (.cells #[.int .i64 lo, .int .i64 hi] 40)) #[.int .i64 0, .int .i64 0] 40
    simpa using this
  have o := o0.keep h.2 (by omega)
  have p := ((Own.new w #[.int .i64 lo, .int .i64 hi] 40).alloc (.cells #[.int .i64 0, .int .i64 0] 40)).keep h.2 (by omega)
  exact ⟨p.cell 0 _ rfl, o.cell 0 _ rfl, o.cell 1 _ rfl, o.frz 0 _ rfl, o.frz 1 _ rfl⟩

theorem pairStW {w0 w : World} {b : Nat} {lim n : Int} (h : St w0 b lim w) (hl : lim ≤ 999800) :
    Calls Tryd.prog 48 #[.pointer (some ⟨b, 0, none⟩), .int .i64 n] w fun e w' => ∃ x y, e = .returned (.agg #[.int .i64 x, .int .i64 y]) ∧ (Lit.int .i64 x).wf = true ∧ (Lit.int .i64 y).wf = true ∧ St w0 b (lim + 50) w' :=
  (pair w b lim n h.1 hl).mono fun _ _ ⟨x, y, he, hx, hy, hr, hk⟩ => ⟨x, y, he, hx.wf, hy.wf, hr, h.2.trans hk⟩

end Go.Proofs.YteohgmmenlinbacDoor
