/- The program's BitTop at every argument: its contract. -/
import Derived.Test.YteohgmmenlinbagDoorImplA
namespace Go.Proofs.YteohgmmenlinbagDoor
open Go.ChangeShapes Go.WideShapes Go.ChangeAt Go.RowKit
set_option linter.unusedVariables false

theorem implTop (w : World) (n : Int) : Calls Tryd.prog 42 #[.int .i64 n] w fun e w' => e = .returned (.int .i64 (topI n)) ∧ Below w.heap.size w w' := by
  by_cases h1 : n = 32
  · subst h1
    have hf := format32 w
    have ht := topOf32
    rw [show topI 32 = 2139095040 from rfl]
    go_enter Tryd.func42, Tryd.ntmps42
    go_wp2_with first | (go_at_call 22; go_must (refine hf.mono ?_); clear hf; rintro e w1 ⟨rfl, rfl⟩) | (go_at_call 31; go_must (refine (ht _).mono ?_); rintro e w1 ⟨rfl, hb⟩)
    go_ret
    exact ⟨rfl, hb⟩
  · by_cases h2 : n = 64
    · subst h2
      have hf := format64 w
      have ht := topOf64
      rw [show topI 64 = 9218868437227405312 from rfl]
      go_enter Tryd.func42, Tryd.ntmps42
      go_wp2_with first | (go_at_call 22; go_must (refine hf.mono ?_); clear hf; rintro e w1 ⟨rfl, rfl⟩) | (go_at_call 31; go_must (refine (ht _).mono ?_); rintro e w1 ⟨rfl, hb⟩)
      go_ret
      exact ⟨rfl, hb⟩
    · have hf := formatNo w n h1 h2
      have e : topI n = 0 := by unfold topI; rw [if_neg h1, if_neg h2]
      rw [e]
      clear e
      go_enter Tryd.func42, Tryd.ntmps42
      go_wp2_with (go_at_call 22; go_must (refine hf.mono ?_); clear hf; rintro e w1 ⟨rfl, rfl⟩)
      go_ret
      exact ⟨rfl, Below.refl _ _⟩

theorem okI_bounds {n x : Int} (h : okI n x = true) : -(topI n) ≤ x ∧ x ≤ topI n := by
  unfold okI at h
  simp only [Bool.and_eq_true, decide_eq_true_eq] at h
  exact h.2

end Go.Proofs.YteohgmmenlinbagDoor
