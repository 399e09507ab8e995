/- The contract of the reader's 'pair'. -/
import Derived.Test.YtlnnlcihhljdfaaDrawD
namespace Go.Proofs.Ytlnnlcihhljdfaa
open Go.ChangeShapes Go.WideShapes Go.ChangeAt Go.RowKit
set_option linter.unusedVariables false

theorem Rd.alloc {w : World} {b : Nat} {l : Int} (h : Rd w b l) (o : Obj) : Rd (w.alloc o) b l :=
  h.keep (c := w.heap.size) ((Keep.refl _ w).alloc o) h.1

theorem Keep.new {b : Nat} {u w : World} (h : Keep b u w) {p : Addr} (hp : u.heap.size ≤ p.block) (v : Value) : Keep b u (w.setCell p v) :=
  ⟨h.os, h.tape, h.output, by simpa [World.setCell] using h.size, fun k hk hb => (Below.heap_setCell _ _ _ _ (by omega)).trans (h.block k hk hb)⟩

/-- A block of cells that was laid ahead of the calls stands as it was laid. -/
theorem St.laid {w w1 : World} {b : Nat} {l : Int} {c : Array Value} {t : TypeId} (hb : b < w.heap.size) (h : St (w.alloc (.cells c t)) b l w1) (i : Nat) (v : Value) (hv : c[i]? = some v) :
    w1.cell? ⟨w.heap.size, i, none⟩ = some v ∧ w1.frozen? ⟨w.heap.size, i, none⟩ = false := by
  have hs : w.heap.size < (w.alloc (.cells c t)).heap.size := by simp
  refine ⟨?_, ?_⟩
  · rw [h.2.cell (p := ⟨w.heap.size, i, none⟩) hs (by show w.heap.size ≠ b; omega)]
    rw [World.cell?_alloc_new]
    exact hv
  · rw [h.2.frozen (p := ⟨w.heap.size, i, none⟩) hs (by show w.heap.size ≠ b; omega)]
    simp

/-- What 'pair' leaves: two ints, the reader further on, all other old blocks as they were. -/
def PairOut (w : World) (b : Nat) (lim : Int) (e : Ending) (w' : World) : Prop :=
  ∃ x y, e = .returned (.agg #[.int .i64 x, .int .i64 y]) ∧ (Lit.int .i64 x).wf = true ∧ (Lit.int .i64 y).wf = true ∧ Rd w' b lim ∧ Keep b w w'

theorem ordSt {w0 w : World} {b : Nat} {lim n : Int} (h : St w0 b lim w) (hl : lim ≤ 999900) :
    Calls Try.prog 13 #[.pointer (some ⟨b, 0, none⟩), .int .i64 n] w fun e w' => ∃ r, e = .returned (.int .i64 r) ∧ (Lit.int .i64 r).wf = true ∧ St w0 b (lim + 20) w' := by
  refine (ord w0 w b lim n h hl).mono ?_
  rintro e w' ⟨r, rfl, h1, h2, h3⟩
  have hB := topI_bounds n
  refine ⟨r, rfl, ?_, h3⟩
  simp only [Lit.wf, IntKind.min, IntKind.max, IntKind.signed, IntKind.bits, Bool.and_eq_true, decide_eq_true_eq, if_true]
  omega

theorem run_results_cell {fn : Func} {p : Tmp} {ty : TypeId} (h : fn.results = #[.cell p ty]) (tmps : Array Value) (P : Program) (w : World) :
    (results fn tmps).run P w = ((asAddr (tmps.getD p undef)).run P w).andThen fun a w₁ => (loadVar ty a).run P w₁ := by
  simp only [results, h]
  simp [Sem.run_bind, Result.andThen]

theorem pair_end {w w1 : World} {b : Nat} {lim l x y : Int} {T : Array Value} (hb : b < w.heap.size) (h : St (w.alloc (.cells #[.int .i64 0, .int .i64 0] 32)) b l w1) (hl : l ≤ lim)
    (wx : (Lit.int .i64 x).wf = true) (wy : (Lit.int .i64 y).wf = true) (ht : T.getD 4 undef = .pointer (some ⟨w.heap.size, 0, none⟩)) :
    bodyPost Try.prog Try.f10 (PairOut w b lim) Exit.ret { tmps := T, defers := [] } ((w1.setCell ⟨w.heap.size, 0, none⟩ (.int .i64 x)).setCell ⟨w.heap.size, 1, none⟩ (.int .i64 y)) := by
  have c0 := (h.laid hb 0 _ rfl).1
  have c1 := (h.laid hb 1 _ rfl).1
  have d0 : ((w1.setCell ⟨w.heap.size, 0, none⟩ (.int .i64 x)).setCell ⟨w.heap.size, 1, none⟩ (.int .i64 y)).cell? ⟨w.heap.size, 0, none⟩ = some (.int .i64 x) :=
    (World.cell?_setCell_other _ _ _ _ (by simp)).trans (World.cell?_setCell_same _ _ _ c0)
  have d1 : ((w1.setCell ⟨w.heap.size, 0, none⟩ (.int .i64 x)).setCell ⟨w.heap.size, 1, none⟩ (.int .i64 y)).cell? ⟨w.heap.size, 1, none⟩ = some (.int .i64 y) :=
    World.cell?_setCell_same _ _ _ ((World.cell?_setCell_other _ _ _ _ (by simp)).trans c1)
  have kk : Keep b w w1 := ((Keep.refl b w).alloc _).trans h.2
  have rr : Rd ((w1.setCell ⟨w.heap.size, 0, none⟩ (.int .i64 x)).setCell ⟨w.heap.size, 1, none⟩ (.int .i64 y)) b lim :=
    (h.1.mono hl).keep (c := w.heap.size) (((Keep.refl w.heap.size w1).setCell (p := ⟨w.heap.size, 0, none⟩) rfl _).setCell (p := ⟨w.heap.size, 1, none⟩) rfl _) hb
  have k2 : Keep b w ((w1.setCell ⟨w.heap.size, 0, none⟩ (.int .i64 x)).setCell ⟨w.heap.size, 1, none⟩ (.int .i64 y)) := (kk.new (Nat.le_refl _) _).new (Nat.le_refl _) _
  refine bodyPost_ret (v := .agg #[.int .i64 x, .int .i64 y]) ?_ rfl ⟨x, y, rfl, wx, wy, rr, k2⟩
  generalize ((w1.setCell ⟨w.heap.size, 0, none⟩ (.int .i64 x)).setCell ⟨w.heap.size, 1, none⟩ (.int .i64 y)) = W at d0 d1
  rw [run_results_cell rfl, ht]
  simp [go_sem, d0, d1]

theorem pair (w : World) (b : Nat) (lim n : Int) (h : Rd w b lim) (hl : lim ≤ 999800) :
    Calls Try.prog 10 #[.pointer (some ⟨b, 0, none⟩), .int .i64 n] w (PairOut w b (lim + 50)) := by
  have hb := h.1
  have hk0 : Keep b w (w.alloc (.cells #[.int .i64 0, .int .i64 0] 32)) := (Keep.refl b w).alloc _
  replace h : St (w.alloc (.cells #[.int .i64 0, .int .i64 0] 32)) b lim (w.alloc (.cells #[.int .i64 0, .int .i64 0] 32)) := St.start (h.alloc _)
  go_enter Try.func10, Try.ntmps10
  go_wp2_with first | (go_at_call 13; go_must (refine (ordSt (by assumption) (by omega)).mono ?_); clear h; rintro e w1 ⟨r, rfl, rwf, h⟩; have c0 := (h.laid hb 0 _ rfl).1; have c1 := (h.laid hb 1 _ rfl).1; have f0 := (h.laid hb 0 _ rfl).2; have f1 := (h.laid hb 1 _ rfl).2) | (go_at_call 11; go_must (refine (pickSt (by assumption) (by omega)).mono ?_); clear h; rintro e w1 ⟨r, rfl, r0, r1, h⟩; replace r1 := r1 (by omega); have c0 := (h.laid hb 0 _ rfl).1; have c1 := (h.laid hb 1 _ rfl).1; have f0 := (h.laid hb 0 _ rfl).2; have f1 := (h.laid hb 1 _ rfl).2)
  all_goals exact pair_end hb h (by omega) (by first | exact wrap64_wf _ | assumption) (by first | exact wrap64_wf _ | assumption) rfl

end Go.Proofs.Ytlnnlcihhljdfaa
