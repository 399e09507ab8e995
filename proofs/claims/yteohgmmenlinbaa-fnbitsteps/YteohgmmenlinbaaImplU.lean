/- The program's BitTop, BitUp and BitDown at every argument: contracts. -/
import Derived.Test.YteohgmmenlinbaaImplA
namespace Go.Proofs.Yteohgmmenlinbaa
open Go.ChangeShapes Go.WideShapes Go.ChangeAt Go.RowKit
set_option linter.unusedVariables false

theorem implTop (w : World) (n : Int) : Calls Try.prog 26 #[.int .i64 n] w fun e w' => e = .returned (.int .i64 (topI n)) ∧ Below w.heap.size w w' := by
  by_cases h1 : n = 32
  · subst h1
    have hf := format32 w
    have ht := topOf32
    rw [show topI 32 = 2139095040 from rfl]
    go_enter Try.func26, Try.ntmps26
    go_wp2_with first | (go_at_call 57; go_must (refine hf.mono ?_); clear hf; rintro e w1 ⟨rfl, rfl⟩) | (go_at_call 60; go_must (refine (ht _).mono ?_); rintro e w1 ⟨rfl, hb⟩)
    go_ret
    exact ⟨rfl, hb⟩
  · by_cases h2 : n = 64
    · subst h2
      have hf := format64 w
      have ht := topOf64
      rw [show topI 64 = 9218868437227405312 from rfl]
      go_enter Try.func26, Try.ntmps26
      go_wp2_with first | (go_at_call 57; go_must (refine hf.mono ?_); clear hf; rintro e w1 ⟨rfl, rfl⟩) | (go_at_call 60; go_must (refine (ht _).mono ?_); rintro e w1 ⟨rfl, hb⟩)
      go_ret
      exact ⟨rfl, hb⟩
    · have hf := formatNo w n h1 h2
      have e : topI n = 0 := by unfold topI; rw [if_neg h1, if_neg h2]
      rw [e]
      clear e
      go_enter Try.func26, Try.ntmps26
      go_wp2_with (go_at_call 57; go_must (refine hf.mono ?_); clear hf; rintro e w1 ⟨rfl, rfl⟩)
      go_ret
      exact ⟨rfl, Below.refl _ _⟩

theorem okI_bounds {n x : Int} (h : okI n x = true) : -(topI n) ≤ x ∧ x ≤ topI n := by
  unfold okI at h
  simp only [Bool.and_eq_true, decide_eq_true_eq] at h
  exact h.2

def upI (n x : Int) : Int := if okI n x = true then (if x = topI n then x else x + 1) else 0
def downI (n x : Int) : Int := if okI n x = true then (if x = -(topI n) then x else x - 1) else 0

theorem implUp (w : World) (n x : Int) (hx : (Lit.int .i64 x).wf = true) :
    Calls Try.prog 23 #[.int .i64 n, .int .i64 x] w fun e w' => e = .returned (.int .i64 (upI n x)) ∧ Below w.heap.size w w' := by
  have ho := implOk w n x hx
  have hT := fun W => implTop W n
  have tb := topI_bounds n
  unfold upI
  by_cases h : okI n x = true
  · rw [if_pos h]
    rw [h] at ho
    have hb := okI_bounds h
    generalize topI n = t at *
    clear h hx
    go_enter Try.func23, Try.ntmps23
    go_wp2_with first | (go_at_call 58; go_must (refine ho.mono ?_); clear ho; rintro e w1 ⟨rfl, q⟩) | (go_at_call 26; go_must (refine (hT _).mono ?_); clear hT; rintro e w2 ⟨rfl, q2⟩)
    all_goals
      go_ret
      refine ⟨?_, q.trans (q2.mono q.size)⟩
      congr 2
      all_goals (split <;> omega)
  · rw [if_neg h]
    rw [Bool.not_eq_true] at h
    rw [h] at ho
    clear h tb
    go_enter Try.func23, Try.ntmps23
    go_wp2_with (go_at_call 58; go_must (refine ho.mono ?_); clear ho; rintro e w1 ⟨rfl, q⟩)
    go_ret
    exact ⟨rfl, q⟩

theorem implDown (w : World) (n x : Int) (hx : (Lit.int .i64 x).wf = true) :
    Calls Try.prog 24 #[.int .i64 n, .int .i64 x] w fun e w' => e = .returned (.int .i64 (downI n x)) ∧ Below w.heap.size w w' := by
  have ho := implOk w n x hx
  have hT := fun W => implTop W n
  have tb := topI_bounds n
  unfold downI
  by_cases h : okI n x = true
  · rw [if_pos h]
    rw [h] at ho
    have hb := okI_bounds h
    generalize topI n = t at *
    clear h hx
    go_enter Try.func24, Try.ntmps24
    go_wp2_with first | (go_at_call 58; go_must (refine ho.mono ?_); clear ho; rintro e w1 ⟨rfl, q⟩) | (go_at_call 26; go_must (refine (hT _).mono ?_); clear hT; rintro e w2 ⟨rfl, q2⟩)
    all_goals
      go_ret
      refine ⟨?_, q.trans (q2.mono q.size)⟩
      congr 2
      all_goals (split <;> omega)
  · rw [if_neg h]
    rw [Bool.not_eq_true] at h
    rw [h] at ho
    clear h tb
    go_enter Try.func24, Try.ntmps24
    go_wp2_with (go_at_call 58; go_must (refine ho.mono ?_); clear ho; rintro e w1 ⟨rfl, q⟩)
    go_ret
    exact ⟨rfl, q⟩

end Go.Proofs.Yteohgmmenlinbaa
