/- The contract of the reader's 'ord'. -/
import Derived.Test.YteohgmmenlinbagDrawC
namespace Go.Proofs.Yteohgmmenlinbag
open Go.ChangeShapes Go.WideShapes Go.ChangeAt Go.RowKit
set_option linter.unusedVariables false

/-- Since the world w0 only the reader at b has been written to, and new blocks have come; it has picked at most 'lim' times. -/
def St (w0 : World) (b : Nat) (lim : Int) (w : World) : Prop := Rd w b lim ∧ Keep b w0 w

theorem St.start {w : World} {b : Nat} {lim : Int} (h : Rd w b lim) : St w b lim w := ⟨h, Keep.refl b w⟩
theorem St.mono {w0 w : World} {b : Nat} {l l' : Int} (h : St w0 b l w) (hl : l ≤ l') : St w0 b l' w := ⟨h.1.mono hl, h.2⟩

theorem neg_mod (x t : Int) (t0 : 0 ≤ t) (t1 : t ≤ 9218868437227405312) :
    -(t + 5) ≤ wrap64 (-(x % (t + 1))) ∧ wrap64 (-(x % (t + 1))) ≤ t + 5 ∧ -(t + 5) ≤ x % (t + 1) ∧ x % (t + 1) ≤ t + 5 := by
  have h0 : 0 ≤ x % (t + 1) := Int.emod_nonneg _ (by omega)
  have h1 : x % (t + 1) < t + 1 := Int.emod_lt_of_pos _ (by omega)
  generalize x % (t + 1) = y at h0 h1
  rw [IntWalk.wrap64_in _ (by omega)]
  omega

/-- A block of cells that was laid ahead of the calls stands as it was laid. -/
theorem St.laid {w w1 : World} {b : Nat} {l : Int} {c : Array Value} {t : TypeId} (hb : b < w.heap.size) (h : St (w.alloc (.cells c t)) b l w1) (i : Nat) (v : Value) (hv : c[i]? = some v) :
    w1.cell? ⟨w.heap.size, i, none⟩ = some v ∧ w1.frozen? ⟨w.heap.size, i, none⟩ = false := by
  have hs : w.heap.size < (w.alloc (.cells c t)).heap.size := by simp
  refine ⟨?_, ?_⟩
  · rw [h.2.cell (p := ⟨w.heap.size, i, none⟩) hs (by show w.heap.size ≠ b; omega)]
    rw [World.cell?_alloc_new]
    exact hv
  · rw [h.2.frozen (p := ⟨w.heap.size, i, none⟩) hs (by show w.heap.size ≠ b; omega)]
    simp

/-- A number that is an order number of a width, or not far beyond. -/
def Nr (x : Int) : Prop := -9218868437227406400 ≤ x ∧ x ≤ 9218868437227406400

theorem Nr.wf {x : Int} (h : Nr x) : (Lit.int .i64 x).wf = true := by
  obtain ⟨h1, h2⟩ := h
  simp only [Lit.wf, IntKind.min, IntKind.max, IntKind.signed, IntKind.bits, Bool.and_eq_true, decide_eq_true_eq, if_true]
  omega

end Go.Proofs.Yteohgmmenlinbag
