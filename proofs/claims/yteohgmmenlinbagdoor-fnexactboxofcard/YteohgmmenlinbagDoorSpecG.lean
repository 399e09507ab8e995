/- The model's PairOk: its contract. -/
import Derived.Test.YteohgmmenlinbagDoorSpecA
namespace Go.Proofs.YteohgmmenlinbagDoor
open Go.ChangeShapes Go.WideShapes Go.ChangeAt Go.RowKit
set_option linter.unusedVariables false

/-- A pair is ok. -/
def pokI (n lo hi : Int) : Bool := okI n lo && (okI n hi && (decide (lo ≤ hi) && (decide (lo < topI n) && decide (-(topI n) < hi))))

theorem specPairOk (w : World) (n lo hi : Int) (h1 : (Lit.int .i64 lo).wf = true) (h2 : (Lit.int .i64 hi).wf = true) :
    Calls Tryd.prog 21 #[.int .i64 n, .agg #[.int .i64 lo, .int .i64 hi]] w fun e w' => e = .returned (.bool (pokI n lo hi)) ∧ Below w.heap.size w w' := by
  have ht := fun W => bitTop W n
  have ha := fun W => specOk W n lo h1
  have hb := fun W => specOk W n hi h2
  have tb := topI_bounds n
  unfold pokI
  generalize topI n = t at *
  generalize okI n lo = A at *
  generalize okI n hi = B at *
  have bel : Hid (Below w.heap.size w (w.alloc (.cells #[.int .i64 lo, .int .i64 hi] 39))) := (Below.refl _ _).alloc (Nat.le_refl _) _
  cases A
  · go_enter Tryd.func21, Tryd.ntmps21
    go_wp2_with first
      | (go_at_call 20; go_must (refine (ht _).mono ?_); rintro e w1 ⟨rfl, rfl⟩)
      | (go_at_call 29; refine (ha _).mono ?_; clear ha; rintro e w1 ⟨rfl, rfl⟩)
    go_ret
    exact ⟨by simp, bel.out⟩
  · cases B
    · go_enter Tryd.func21, Tryd.ntmps21
      go_wp2_with first
        | (go_at_call 20; go_must (refine (ht _).mono ?_); rintro e w1 ⟨rfl, rfl⟩)
        | (go_at_call 29; refine (ha _).mono ?_; clear ha; rintro e w1 ⟨rfl, rfl⟩)
        | (go_at_call 29; refine (hb _).mono ?_; clear hb; rintro e w1 ⟨rfl, rfl⟩)
      go_ret
      exact ⟨by simp, bel.out⟩
    · by_cases k1 : lo ≤ hi
      · by_cases k2 : lo < t
        · by_cases k3 : -t < hi
          · go_enter Tryd.func21, Tryd.ntmps21
            go_wp2_with first
              | (go_at_call 20; go_must (refine (ht _).mono ?_); rintro e w1 ⟨rfl, rfl⟩)
              | (go_at_call 29; refine (ha _).mono ?_; clear ha; rintro e w1 ⟨rfl, rfl⟩)
              | (go_at_call 29; refine (hb _).mono ?_; clear hb; rintro e w1 ⟨rfl, rfl⟩)
            go_ret
            exact ⟨by simp [k1, k2, k3], bel.out⟩
          · have d : decide (-t < hi) = false := by simp; omega
            go_enter Tryd.func21, Tryd.ntmps21
            go_wp2_with first
              | (go_at_call 20; go_must (refine (ht _).mono ?_); rintro e w1 ⟨rfl, rfl⟩)
              | (go_at_call 29; refine (ha _).mono ?_; clear ha; rintro e w1 ⟨rfl, rfl⟩)
              | (go_at_call 29; refine (hb _).mono ?_; clear hb; rintro e w1 ⟨rfl, rfl⟩)
            go_ret
            exact ⟨by simp [d], bel.out⟩
        · have d : decide (lo < t) = false := by simp; omega
          go_enter Tryd.func21, Tryd.ntmps21
          go_wp2_with first
            | (go_at_call 20; go_must (refine (ht _).mono ?_); rintro e w1 ⟨rfl, rfl⟩)
            | (go_at_call 29; refine (ha _).mono ?_; clear ha; rintro e w1 ⟨rfl, rfl⟩)
            | (go_at_call 29; refine (hb _).mono ?_; clear hb; rintro e w1 ⟨rfl, rfl⟩)
          go_ret
          exact ⟨by simp [d], bel.out⟩
      · have d : decide (lo ≤ hi) = false := by simp; omega
        go_enter Tryd.func21, Tryd.ntmps21
        go_wp2_with first
          | (go_at_call 20; go_must (refine (ht _).mono ?_); rintro e w1 ⟨rfl, rfl⟩)
          | (go_at_call 29; refine (ha _).mono ?_; clear ha; rintro e w1 ⟨rfl, rfl⟩)
          | (go_at_call 29; refine (hb _).mono ?_; clear hb; rintro e w1 ⟨rfl, rfl⟩)
        go_ret
        exact ⟨by simp [d], bel.out⟩

end Go.Proofs.YteohgmmenlinbagDoor
