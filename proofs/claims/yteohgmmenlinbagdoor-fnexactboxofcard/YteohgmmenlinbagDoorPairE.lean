/- The end of a function that returns a pair and a bool, or two pairs and a bool. -/
import Derived.Test.YteohgmmenlinbagDoorQuiet
import Derived.Test.YteohgmmenlinbagDoorOwn
namespace Go.Proofs.YteohgmmenlinbagDoor
open Go.ChangeShapes Go.WideShapes Go.ChangeAt Go.RowKit
set_option linter.unusedVariables false

def TwoOut2 (w : World) (x y x' y' : Int) (k : Bool) (e : Ending) (w' : World) : Prop := e = .returned (.tuple #[.agg #[.int .i64 x, .int .i64 y], .agg #[.int .i64 x', .int .i64 y'], .bool k]) ∧ Below w.heap.size w w'

/-- Two pairs of the caller's own lie there, as they were laid. -/
theorem two_pairs (w : World) (x0 y0 x1 y1 : Int) (t : TypeId) :
    Own ((w.alloc (.cells #[.int .i64 x0, .int .i64 y0] t)).alloc (.cells #[.int .i64 x1, .int .i64 y1] t)) w.heap.size [.int .i64 x0, .int .i64 y0] ∧
    Own ((w.alloc (.cells #[.int .i64 x0, .int .i64 y0] t)).alloc (.cells #[.int .i64 x1, .int .i64 y1] t)) (w.heap.size + 1) [.int .i64 x1, .int .i64 y1] := by
  refine ⟨(Own.new w _ _).alloc _, ?_⟩
  have := Own.new (w.alloc (.cells #[.int .i64 x0, .int .i64 y0] t)) #[.int .i64 x1, .int .i64 y1] t
  rwa [World.size_alloc] at this

def PairOut (w : World) (x y : Int) (k : Bool) (e : Ending) (w' : World) : Prop := e = .returned (.tuple #[.agg #[.int .i64 x, .int .i64 y], .bool k]) ∧ Below w.heap.size w w'

/-- The end of a function that returns a pair and a bool. -/
theorem pairEnd {fn : Func} {p u : Tmp} (hres : fn.results = #[.cell p 39, .tmp u]) {w W : World} {T : Array Value} {R : Nat} {a b : Value} {x y : Int} {ok : Bool} (rs : Own W R [a, b]) (hb : Below w.heap.size w W) (hR : w.heap.size ≤ R)
    (ht : T.getD p undef = .pointer (some ⟨R, 0, none⟩)) (hk : T.getD u undef = .bool ok) :
    bodyPost Tryd.prog fn (PairOut w x y ok) Exit.ret { tmps := T, defers := [] } ((W.setCell ⟨R, 0, none⟩ (.int .i64 x)).setCell ⟨R, 1, none⟩ (.int .i64 y)) := by
  have o := (rs.set (i := 0) (.int .i64 x) (by simp)).set (i := 1) (.int .i64 y) (by simp)
  have c0 := o.cell 0 _ rfl
  have c1 := o.cell 1 _ rfl
  have bel := (hb.setCell (p := ⟨R, 0, none⟩) hR (.int .i64 x)).setCell (p := ⟨R, 1, none⟩) hR (.int .i64 y)
  generalize (W.setCell ⟨R, 0, none⟩ (.int .i64 x)).setCell ⟨R, 1, none⟩ (.int .i64 y) = V at *
  refine bodyPost_ret (v := .tuple #[.agg #[.int .i64 x, .int .i64 y], .bool ok]) ?_ rfl ⟨rfl, bel⟩
  rw [results_cell_tmp hres, ht, hk]
  simp [go_sem, c0, c1]

theorem pairEndO {fn : Func} {p u : Tmp} (hres : fn.results = #[.cell p 39, .tmp u]) {w W : World} {T : Array Value} {R : Nat} {x y : Int} {ok : Bool} (rs : Own W R [.int .i64 x, .int .i64 y]) (hb : Below w.heap.size w W)
    (ht : T.getD p undef = .pointer (some ⟨R, 0, none⟩)) (hk : T.getD u undef = .bool ok) :
    bodyPost Tryd.prog fn (PairOut w x y ok) Exit.ret { tmps := T, defers := [] } W := by
  have c0 := rs.cell 0 _ rfl
  have c1 := rs.cell 1 _ rfl
  refine bodyPost_ret (v := .tuple #[.agg #[.int .i64 x, .int .i64 y], .bool ok]) ?_ rfl ⟨rfl, hb⟩
  rw [results_cell_tmp hres, ht, hk]
  simp [go_sem, c0, c1]

end Go.Proofs.YteohgmmenlinbagDoor
