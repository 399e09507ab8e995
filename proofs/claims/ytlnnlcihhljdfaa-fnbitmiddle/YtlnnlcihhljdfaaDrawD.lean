/- The contract of the reader's 'ord'. -/
import Derived.Test.YtlnnlcihhljdfaaDrawC
namespace Go.Proofs.Ytlnnlcihhljdfaa
open Go.ChangeShapes Go.WideShapes Go.ChangeAt Go.RowKit
set_option linter.unusedVariables false

/-- Since the world w0 only the reader at b has been written to, and new blocks have come; it has picked at most 'lim' times. -/
def St (w0 : World) (b : Nat) (lim : Int) (w : World) : Prop := Rd w b lim ∧ Keep b w0 w

theorem St.start {w : World} {b : Nat} {lim : Int} (h : Rd w b lim) : St w b lim w := ⟨h, Keep.refl b w⟩
theorem St.mono {w0 w : World} {b : Nat} {l l' : Int} (h : St w0 b l w) (hl : l ≤ l') : St w0 b l' w := ⟨h.1.mono hl, h.2⟩

theorem pickSt {w0 w : World} {b : Nat} {lim n : Int} (h : St w0 b lim w) (hl : lim ≤ 1000000) :
    Calls Try.prog 11 #[.pointer (some ⟨b, 0, none⟩), .int .i64 n] w fun e w' => ∃ r, e = .returned (.int .i64 r) ∧ 0 ≤ r ∧ (1 ≤ n → r < n) ∧ St w0 b (lim + 1) w' :=
  (pick w b lim n h.1 hl).mono fun _ _ ⟨r, he, h0, h1, _, hr, hk⟩ => ⟨r, he, h0, h1, hr, h.2.trans hk⟩

theorem bigSt {w0 w : World} {b : Nat} {lim : Int} (h : St w0 b lim w) (hl : lim ≤ 999990) :
    Calls Try.prog 12 #[.pointer (some ⟨b, 0, none⟩)] w fun e w' => ∃ r, e = .returned (.int .u64 r) ∧ 0 ≤ r ∧ r ≤ 18446744073709551615 ∧ St w0 b (lim + 8) w' :=
  (big w b lim h.1 hl).mono fun _ _ ⟨r, he, h0, h1, hr, hk⟩ => ⟨r, he, h0, h1, hr, h.2.trans hk⟩

theorem neg_mod (x t : Int) (t0 : 0 ≤ t) (t1 : t ≤ 9218868437227405312) :
    -(t + 5) ≤ wrap64 (-(x % (t + 1))) ∧ wrap64 (-(x % (t + 1))) ≤ t + 5 ∧ -(t + 5) ≤ x % (t + 1) ∧ x % (t + 1) ≤ t + 5 := by
  have h0 : 0 ≤ x % (t + 1) := Int.emod_nonneg _ (by omega)
  have h1 : x % (t + 1) < t + 1 := Int.emod_lt_of_pos _ (by omega)
  generalize x % (t + 1) = y at h0 h1
  rw [IntWalk.wrap64_in _ (by omega)]
  omega

theorem ord (w0 w : World) (b : Nat) (lim n : Int) (h : St w0 b lim w) (hl : lim ≤ 999900) :
    Calls Try.prog 13 #[.pointer (some ⟨b, 0, none⟩), .int .i64 n] w fun e w' => ∃ r, e = .returned (.int .i64 r) ∧ -(topI n + 5) ≤ r ∧ r ≤ topI n + 5 ∧ St w0 b (lim + 20) w' := by
  have hT := bitTop w n
  have hB := topI_bounds n
  generalize topI n = t at hT hB ⊢
  obtain ⟨t0, t1⟩ := hB
  go_enter Try.func13, Try.ntmps13
  go_wp2_with first | (go_at_call 14; go_must (refine hT.mono ?_); rintro e w1 ⟨rfl, rfl⟩; clear hT) | (go_at_call 11; go_must (refine (pickSt (by assumption) (by omega)).mono ?_); clear h; rintro e w1 ⟨r, rfl, r0, r1, h⟩; replace r1 := r1 (by omega)) | (go_at_call 12; go_must (refine (bigSt (by assumption) (by omega)).mono ?_); clear h; rintro e w1 ⟨r, rfl, r0, r1, h⟩)
  all_goals go_ret
  all_goals refine ⟨_, rfl, ?_, ?_, h.mono (by omega)⟩
  all_goals first | omega | exact (neg_mod _ t t0 t1).1 | exact (neg_mod _ t t0 t1).2.1 | exact (neg_mod _ t t0 t1).2.2.1 | exact (neg_mod _ t t0 t1).2.2.2

end Go.Proofs.Ytlnnlcihhljdfaa
