/- The contract of the reader's 'pair'. -/
import Derived.Test.YteohgmmenlinbabDrawD
namespace Go.Proofs.Yteohgmmenlinbab
open Go.ChangeShapes Go.WideShapes Go.ChangeAt Go.RowKit
set_option linter.unusedVariables false

/-- What 'pair' leaves: two ints, the reader further on, all other old blocks as they were. -/
def DPairOut (w : World) (b : Nat) (lim : Int) (e : Ending) (w' : World) : Prop :=
  ∃ x y, e = .returned (.agg #[.int .i64 x, .int .i64 y]) ∧ Nr x ∧ Nr y ∧ Rd w' b lim ∧ Keep b w w'

theorem run_results_cell {fn : Func} {p : Tmp} {ty : TypeId} (h : fn.results = #[.cell p ty]) (tmps : Array Value) (P : Program) (w : World) :
    (results fn tmps).run P w = ((asAddr (tmps.getD p undef)).run P w).andThen fun a w₁ => (loadVar ty a).run P w₁ := by
  simp only [results, h]
  simp [Sem.run_bind, Result.andThen]

theorem pair_end {w w1 : World} {b : Nat} {lim l x y : Int} {T : Array Value} (hb : b < w.heap.size) (h : St (w.alloc (.cells #[.int .i64 0, .int .i64 0] 24)) b l w1) (hl : l ≤ lim)
    (wx : Nr x) (wy : Nr y) (ht : T.getD 4 undef = .pointer (some ⟨w.heap.size, 0, none⟩)) :
    bodyPost Try.prog Try.f79 (DPairOut w b lim) Exit.ret { tmps := T, defers := [] } ((w1.setCell ⟨w.heap.size, 0, none⟩ (.int .i64 x)).setCell ⟨w.heap.size, 1, none⟩ (.int .i64 y)) := by
  have c0 := (h.laid hb 0 _ rfl).1
  have c1 := (h.laid hb 1 _ rfl).1
  have d0 : ((w1.setCell ⟨w.heap.size, 0, none⟩ (.int .i64 x)).setCell ⟨w.heap.size, 1, none⟩ (.int .i64 y)).cell? ⟨w.heap.size, 0, none⟩ = some (.int .i64 x) :=
    (World.cell?_setCell_other _ _ _ _ (by simp)).trans (World.cell?_setCell_same _ _ _ c0)
  have d1 : ((w1.setCell ⟨w.heap.size, 0, none⟩ (.int .i64 x)).setCell ⟨w.heap.size, 1, none⟩ (.int .i64 y)).cell? ⟨w.heap.size, 1, none⟩ = some (.int .i64 y) :=
    World.cell?_setCell_same _ _ _ ((World.cell?_setCell_other _ _ _ _ (by simp)).trans c1)
  have kk : Keep b w w1 := ((Keep.refl b w).alloc _).trans h.2
  have rr : Rd ((w1.setCell ⟨w.heap.size, 0, none⟩ (.int .i64 x)).setCell ⟨w.heap.size, 1, none⟩ (.int .i64 y)) b lim :=
    (h.1.mono hl).keep (c := w.heap.size) (((Keep.refl w.heap.size w1).setCell (p := ⟨w.heap.size, 0, none⟩) rfl _).setCell (p := ⟨w.heap.size, 1, none⟩) rfl _) hb
  have k2 : Keep b w ((w1.setCell ⟨w.heap.size, 0, none⟩ (.int .i64 x)).setCell ⟨w.heap.size, 1, none⟩ (.int .i64 y)) := (kk.new (Nat.le_refl _) _).new (Nat.le_refl _) _
  refine bodyPost_ret (v := .agg #[.int .i64 x, .int .i64 y]) ?_ rfl ⟨x, y, rfl, wx, wy, rr, k2⟩
  generalize ((w1.setCell ⟨w.heap.size, 0, none⟩ (.int .i64 x)).setCell ⟨w.heap.size, 1, none⟩ (.int .i64 y)) = W at d0 d1
  rw [run_results_cell rfl, ht]
  simp [go_sem, d0, d1]

theorem pair (w : World) (b : Nat) (lim n : Int) (h : Rd w b lim) (hl : lim ≤ 999800) :
    Calls Try.prog 79 #[.pointer (some ⟨b, 0, none⟩), .int .i64 n] w (DPairOut w b (lim + 50)) := by
  have hb := h.1
  have hk0 : Keep b w (w.alloc (.cells #[.int .i64 0, .int .i64 0] 24)) := (Keep.refl b w).alloc _
  replace h : St (w.alloc (.cells #[.int .i64 0, .int .i64 0] 24)) b lim (w.alloc (.cells #[.int .i64 0, .int .i64 0] 24)) := St.start (h.alloc _)
  go_enter Try.func79, Try.ntmps79
  go_wp2_with first | (go_at_call 98; go_must (refine (ordSt (by assumption) (by omega)).mono ?_); clear h; rintro e w1 ⟨r, rfl, rlo, rhi, h⟩; have c0 := (h.laid hb 0 _ rfl).1; have c1 := (h.laid hb 1 _ rfl).1; have f0 := (h.laid hb 0 _ rfl).2; have f1 := (h.laid hb 1 _ rfl).2) | (go_at_call 42; go_must (refine (pickSt (by assumption) (by omega)).mono ?_); clear h; rintro e w1 ⟨r, rfl, r0, r1, h⟩; replace r1 := r1 (by omega); have c0 := (h.laid hb 0 _ rfl).1; have c1 := (h.laid hb 1 _ rfl).1; have f0 := (h.laid hb 0 _ rfl).2; have f1 := (h.laid hb 1 _ rfl).2)
  all_goals exact pair_end hb h (by omega) ⟨by omega, by omega⟩ ⟨by omega, by omega⟩ rfl

end Go.Proofs.Yteohgmmenlinbab
