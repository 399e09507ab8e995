/- The contract of the reader's 'within'. -/
import Derived.Test.YteohgmmenlinbabJA
namespace Go.Proofs.Yteohgmmenlinbab
open Go.ChangeShapes Go.WideShapes Go.ChangeAt Go.RowKit
set_option linter.unusedVariables false

/-- What 'within' leaves: two ints, the reader further on. -/
def WithinOut (w : World) (b : Nat) (lim : Int) (e : Ending) (w' : World) : Prop :=
  ∃ x y, e = .returned (.agg #[.int .i64 x, .int .i64 y]) ∧ (Lit.int .i64 x).wf = true ∧ (Lit.int .i64 y).wf = true ∧ Rd w' b lim ∧ Keep b w w'

theorem within_end {w w1 : World} {b : Nat} {lim l x y lo hi : Int} {T : Array Value} (hb : b < w.heap.size)
    (h : St ((w.alloc (.cells #[.int .i64 lo, .int .i64 hi] 24)).alloc (.cells #[.int .i64 0, .int .i64 0] 24)) b l w1) (hl : l ≤ lim)
    (wx : (Lit.int .i64 x).wf = true) (wy : (Lit.int .i64 y).wf = true) (ht : T.getD 6 undef = .pointer (some ⟨w.heap.size + 1, 0, none⟩)) :
    bodyPost Try.prog Try.f63 (WithinOut w b lim) Exit.ret { tmps := T, defers := [] } ((w1.setCell ⟨w.heap.size + 1, 0, none⟩ (.int .i64 x)).setCell ⟨w.heap.size + 1, 1, none⟩ (.int .i64 y)) := by
  have o0 : Own ((w.alloc (.cells #[.int .i64 lo, .int .i64 hi] 24)).alloc (.cells #[.int .i64 0, .int .i64 0] 24)) (w.heap.size + 1) [.int .i64 0, .int .i64 0] := by
    have := Own.new (w.alloc (.cells #[.int .i64 lo, .int .i64 hi] 24)) #[.int .i64 0, .int .i64 0] 24
    simpa using this
  have o := (o0.keep h.2 (by omega)).set2 (.int .i64 x) (.int .i64 y)
  have d0 := o.cell 0 _ rfl
  have d1 := o.cell 1 _ rfl
  have kk : Keep b w w1 := (((Keep.refl b w).alloc _).alloc _).trans h.2
  have rr : Rd ((w1.setCell ⟨w.heap.size + 1, 0, none⟩ (.int .i64 x)).setCell ⟨w.heap.size + 1, 1, none⟩ (.int .i64 y)) b lim := ((h.1.mono hl).own _ (by omega)).own _ (by omega)
  have k2 : Keep b w ((w1.setCell ⟨w.heap.size + 1, 0, none⟩ (.int .i64 x)).setCell ⟨w.heap.size + 1, 1, none⟩ (.int .i64 y)) := (kk.new (p := ⟨w.heap.size + 1, 0, none⟩) (Nat.le_succ _) _).new (p := ⟨w.heap.size + 1, 1, none⟩) (Nat.le_succ _) _
  refine bodyPost_ret (v := .agg #[.int .i64 x, .int .i64 y]) ?_ rfl ⟨x, y, rfl, wx, wy, rr, k2⟩
  generalize ((w1.setCell ⟨w.heap.size + 1, 0, none⟩ (.int .i64 x)).setCell ⟨w.heap.size + 1, 1, none⟩ (.int .i64 y)) = W at d0 d1
  rw [run_results_cell rfl, ht]
  simp [go_sem, d0, d1]

/-- What the walk of 'within' reads again behind each call. -/
theorem within_cells {w w1 : World} {b : Nat} {l lo hi : Int} (hb : b < w.heap.size)
    (h : St ((w.alloc (.cells #[.int .i64 lo, .int .i64 hi] 24)).alloc (.cells #[.int .i64 0, .int .i64 0] 24)) b l w1) :
    w1.cell? ⟨w.heap.size, 0, none⟩ = some (.int .i64 lo) ∧ w1.cell? ⟨w.heap.size + 1, 0, none⟩ = some (.int .i64 0) ∧ w1.cell? ⟨w.heap.size + 1, 1, none⟩ = some (.int .i64 0) ∧
      w1.frozen? ⟨w.heap.size + 1, 0, none⟩ = false ∧ w1.frozen? ⟨w.heap.size + 1, 1, none⟩ = false := by
  have o0 : Own ((w.alloc (.cells #[.int .i64 lo, .int .i64 hi] 24)).alloc (.cells #[.int .i64 0, .int .i64 0] 24)) (w.heap.size + 1) [.int .i64 0, .int .i64 0] := by
    have := Own.new (w.alloc (.cells #[.int .i64 lo, .int .i64 hi] 24)) #[.int .i64 0, .int .i64 0] 24
    simpa using this
  have o := o0.keep h.2 (by omega)
  have p := ((Own.new w #[.int .i64 lo, .int .i64 hi] 24).alloc (.cells #[.int .i64 0, .int .i64 0] 24)).keep h.2 (by omega)
  exact ⟨p.cell 0 _ rfl, o.cell 0 _ rfl, o.cell 1 _ rfl, o.frz 0 _ rfl, o.frz 1 _ rfl⟩

theorem pairStW {w0 w : World} {b : Nat} {lim n : Int} (h : St w0 b lim w) (hl : lim ≤ 999800) :
    Calls Try.prog 79 #[.pointer (some ⟨b, 0, none⟩), .int .i64 n] w fun e w' => ∃ x y, e = .returned (.agg #[.int .i64 x, .int .i64 y]) ∧ (Lit.int .i64 x).wf = true ∧ (Lit.int .i64 y).wf = true ∧ St w0 b (lim + 50) w' :=
  (pair w b lim n h.1 hl).mono fun _ _ ⟨x, y, he, hx, hy, hr, hk⟩ => ⟨x, y, he, hx.wf, hy.wf, hr, h.2.trans hk⟩

set_option maxHeartbeats 4000000 in
theorem within (w : World) (b : Nat) (lim n lo hi : Int) (h : Rd w b lim) (hl : lim ≤ 999000) (hlo : Nr lo) (hhi : Nr hi) :
    Calls Try.prog 63 #[.pointer (some ⟨b, 0, none⟩), .int .i64 n, .agg #[.int .i64 lo, .int .i64 hi]] w (WithinOut w b (lim + 100)) := by
  have hb := h.1
  have hg := fun W => specGap W lo hi hlo.wf hhi.wf
  have g0 : 0 ≤ gapI lo hi := (gap_bounds hlo.wf hhi.wf).1
  have g1 : gapI lo hi ≤ 18437736874454812800 := by
    have := hlo.1; have := hhi.2
    unfold gapI; split <;> omega
  generalize gapI lo hi = g at hg g0 g1
  replace h : St ((w.alloc (.cells #[.int .i64 lo, .int .i64 hi] 24)).alloc (.cells #[.int .i64 0, .int .i64 0] 24)) b lim ((w.alloc (.cells #[.int .i64 lo, .int .i64 hi] 24)).alloc (.cells #[.int .i64 0, .int .i64 0] 24)) := St.start ((h.alloc _).alloc _)
  clear hlo hhi
  by_cases gz : g = 0
  · subst gz
    go_enter Try.func63, Try.ntmps63
    go_wp2_with first
      | (go_at_call 11; go_must (refine (hg _).mono ?_); clear hg; rintro e w1 ⟨rfl, rfl⟩)
      | (go_at_call 79; go_must (refine (pairStW (by assumption) (by omega)).mono ?_); clear h; rintro e w1 ⟨x, y, rfl, wx, wy, h⟩; obtain ⟨-, r0, r1, f0, f1⟩ := within_cells hb h)
    exact within_end hb h (by omega) wx wy rfl
  · have gz' : (g == 0) = false := by simp; exact gz
    go_enter Try.func63, Try.ntmps63
    go_wp2_with first
      | (go_at_call 11; go_must (refine (hg _).mono ?_); clear hg; rintro e w1 ⟨rfl, rfl⟩)
      | (go_at_call 79; go_must (refine (pairStW (by assumption) (by omega)).mono ?_); clear h; rintro e w1 ⟨x, y, rfl, wx, wy, h⟩; obtain ⟨p0, r0, r1, f0, f1⟩ := within_cells hb h)
      | (go_at_call 42; go_must (refine (pickSt (by assumption) (by omega)).mono ?_); clear h; rintro e w1 ⟨q, rfl, q0, q1, h⟩; replace q1 := q1 (by omega); obtain ⟨p0, r0, r1, f0, f1⟩ := within_cells hb h)
      | (go_at_call 90; go_must (refine (bigSt (by assumption) (by omega)).mono ?_); clear h; rintro e w1 ⟨u, rfl, u0, u1, h⟩; obtain ⟨p0, r0, r1, f0, f1⟩ := within_cells hb h)
    all_goals exact within_end hb h (by omega) (by first | exact wrap64_wf _ | assumption) (by first | exact wrap64_wf _ | assumption) rfl

end Go.Proofs.Yteohgmmenlinbab
