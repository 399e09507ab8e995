/- The contract of the reader's 'ord'. -/
import Derived.Test.YteohgmmenlinbaaDoorDrawC
namespace Go.Proofs.YteohgmmenlinbaaDoor
open Go.ChangeShapes Go.WideShapes Go.ChangeAt Go.RowKit
set_option linter.unusedVariables false

/-- Since the world w0 only the reader at b has been written to, and new blocks have come; it has picked at most 'lim' times. -/
def St (w0 : World) (b : Nat) (lim : Int) (w : World) : Prop := Rd w b lim ∧ Keep b w0 w

theorem St.start {w : World} {b : Nat} {lim : Int} (h : Rd w b lim) : St w b lim w := ⟨h, Keep.refl b w⟩
theorem St.mono {w0 w : World} {b : Nat} {l l' : Int} (h : St w0 b l w) (hl : l ≤ l') : St w0 b l' w := ⟨h.1.mono hl, h.2⟩

theorem pickSt {w0 w : World} {b : Nat} {lim n : Int} (h : St w0 b lim w) (hl : lim ≤ 1000000) :
    Calls Tryd.prog 16 #[.pointer (some ⟨b, 0, none⟩), .int .i64 n] w fun e w' => ∃ r, e = .returned (.int .i64 r) ∧ 0 ≤ r ∧ (1 ≤ n → r < n) ∧ St w0 b (lim + 1) w' :=
  (pick w b lim n h.1 hl).mono fun _ _ ⟨r, he, h0, h1, _, hr, hk⟩ => ⟨r, he, h0, h1, hr, h.2.trans hk⟩

theorem bigSt {w0 w : World} {b : Nat} {lim : Int} (h : St w0 b lim w) (hl : lim ≤ 999990) :
    Calls Tryd.prog 17 #[.pointer (some ⟨b, 0, none⟩)] w fun e w' => ∃ r, e = .returned (.int .u64 r) ∧ 0 ≤ r ∧ r ≤ 18446744073709551615 ∧ St w0 b (lim + 8) w' :=
  (big w b lim h.1 hl).mono fun _ _ ⟨r, he, h0, h1, hr, hk⟩ => ⟨r, he, h0, h1, hr, h.2.trans hk⟩

theorem neg_mod (x t : Int) (t0 : 0 ≤ t) (t1 : t ≤ 9218868437227405312) :
    -(t + 5) ≤ wrap64 (-(x % (t + 1))) ∧ wrap64 (-(x % (t + 1))) ≤ t + 5 ∧ -(t + 5) ≤ x % (t + 1) ∧ x % (t + 1) ≤ t + 5 := by
  have h0 : 0 ≤ x % (t + 1) := Int.emod_nonneg _ (by omega)
  have h1 : x % (t + 1) < t + 1 := Int.emod_lt_of_pos _ (by omega)
  generalize x % (t + 1) = y at h0 h1
  rw [IntWalk.wrap64_in _ (by omega)]
  omega

theorem ord (w0 w : World) (b : Nat) (lim n : Int) (h : St w0 b lim w) (hl : lim ≤ 999900) :
    Calls Tryd.prog 15 #[.pointer (some ⟨b, 0, none⟩), .int .i64 n] w fun e w' => ∃ r, e = .returned (.int .i64 r) ∧ -(topI n + 5) ≤ r ∧ r ≤ topI n + 5 ∧ St w0 b (lim + 20) w' := by
  have hT := bitTop w n
  have hB := topI_bounds n
  generalize topI n = t at hT hB ⊢
  obtain ⟨t0, t1⟩ := hB
  go_enter Tryd.func15, Tryd.ntmps15
  go_wp2_with first | (go_at_call 23; go_must (refine hT.mono ?_); rintro e w1 ⟨rfl, rfl⟩; clear hT) | (go_at_call 16; go_must (refine (pickSt (by assumption) (by omega)).mono ?_); clear h; rintro e w1 ⟨r, rfl, r0, r1, h⟩; replace r1 := r1 (by omega)) | (go_at_call 17; go_must (refine (bigSt (by assumption) (by omega)).mono ?_); clear h; rintro e w1 ⟨r, rfl, r0, r1, h⟩)
  all_goals go_ret
  all_goals refine ⟨_, rfl, ?_, ?_, h.mono (by omega)⟩
  all_goals first | omega | exact (neg_mod _ t t0 t1).1 | exact (neg_mod _ t t0 t1).2.1 | exact (neg_mod _ t t0 t1).2.2.1 | exact (neg_mod _ t t0 t1).2.2.2

/-- A block of cells that was laid ahead of the calls stands as it was laid. -/
theorem St.laid {w w1 : World} {b : Nat} {l : Int} {c : Array Value} {t : TypeId} (hb : b < w.heap.size) (h : St (w.alloc (.cells c t)) b l w1) (i : Nat) (v : Value) (hv : c[i]? = some v) :
    w1.cell? ⟨w.heap.size, i, none⟩ = some v ∧ w1.frozen? ⟨w.heap.size, i, none⟩ = false := by
  have hs : w.heap.size < (w.alloc (.cells c t)).heap.size := by simp
  refine ⟨?_, ?_⟩
  · rw [h.2.cell (p := ⟨w.heap.size, i, none⟩) hs (by show w.heap.size ≠ b; omega)]
    rw [World.cell?_alloc_new]
    exact hv
  · rw [h.2.frozen (p := ⟨w.heap.size, i, none⟩) hs (by show w.heap.size ≠ b; omega)]
    simp

/-- A number that is an order number of a width, or not far beyond. -/
def Nr (x : Int) : Prop := -9218868437227406400 ≤ x ∧ x ≤ 9218868437227406400

theorem Nr.wf {x : Int} (h : Nr x) : (Lit.int .i64 x).wf = true := by
  obtain ⟨h1, h2⟩ := h
  simp only [Lit.wf, IntKind.min, IntKind.max, IntKind.signed, IntKind.bits, Bool.and_eq_true, decide_eq_true_eq, if_true]
  omega

theorem ordSt {w0 w : World} {b : Nat} {lim n : Int} (h : St w0 b lim w) (hl : lim ≤ 999900) :
    Calls Tryd.prog 15 #[.pointer (some ⟨b, 0, none⟩), .int .i64 n] w fun e w' => ∃ r, e = .returned (.int .i64 r) ∧ -9218868437227405317 ≤ r ∧ r ≤ 9218868437227405317 ∧ St w0 b (lim + 20) w' := by
  refine (ord w0 w b lim n h hl).mono ?_
  rintro e w' ⟨r, rfl, h1, h2, h3⟩
  have hB := topI_bounds n
  exact ⟨r, rfl, by omega, by omega, h3⟩

end Go.Proofs.YteohgmmenlinbaaDoor
