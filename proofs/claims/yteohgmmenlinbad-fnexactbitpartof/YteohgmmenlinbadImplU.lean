/- The program's BitUp and BitDown at every argument: contracts. -/
import Derived.Test.YteohgmmenlinbadImplT
namespace Go.Proofs.Yteohgmmenlinbad
open Go.ChangeShapes Go.WideShapes Go.ChangeAt Go.RowKit
set_option linter.unusedVariables false

def upI (n x : Int) : Int := if okI n x = true then (if x = topI n then x else x + 1) else 0
def downI (n x : Int) : Int := if okI n x = true then (if x = -(topI n) then x else x - 1) else 0

theorem implUp (w : World) (n x : Int) (hx : (Lit.int .i64 x).wf = true) :
    Calls Try.prog 9 #[.int .i64 n, .int .i64 x] w fun e w' => e = .returned (.int .i64 (upI n x)) ∧ Below w.heap.size w w' := by
  have ho := implOk w n x hx
  have hT := fun W => implTop W n
  have tb := topI_bounds n
  unfold upI
  by_cases h : okI n x = true
  · rw [if_pos h]
    rw [h] at ho
    have hb := okI_bounds h
    generalize topI n = t at *
    clear h hx
    go_enter Try.func9, Try.ntmps9
    go_wp2_with first | (go_at_call 21; go_must (refine ho.mono ?_); clear ho; rintro e w1 ⟨rfl, q⟩) | (go_at_call 22; go_must (refine (hT _).mono ?_); clear hT; rintro e w2 ⟨rfl, q2⟩)
    all_goals
      go_ret
      refine ⟨?_, q.trans (q2.mono q.size)⟩
      congr 2
      all_goals (split <;> omega)
  · rw [if_neg h]
    rw [Bool.not_eq_true] at h
    rw [h] at ho
    clear h tb
    go_enter Try.func9, Try.ntmps9
    go_wp2_with (go_at_call 21; go_must (refine ho.mono ?_); clear ho; rintro e w1 ⟨rfl, q⟩)
    go_ret
    exact ⟨rfl, q⟩

theorem implDown (w : World) (n x : Int) (hx : (Lit.int .i64 x).wf = true) :
    Calls Try.prog 11 #[.int .i64 n, .int .i64 x] w fun e w' => e = .returned (.int .i64 (downI n x)) ∧ Below w.heap.size w w' := by
  have ho := implOk w n x hx
  have hT := fun W => implTop W n
  have tb := topI_bounds n
  unfold downI
  by_cases h : okI n x = true
  · rw [if_pos h]
    rw [h] at ho
    have hb := okI_bounds h
    generalize topI n = t at *
    clear h hx
    go_enter Try.func11, Try.ntmps11
    go_wp2_with first | (go_at_call 21; go_must (refine ho.mono ?_); clear ho; rintro e w1 ⟨rfl, q⟩) | (go_at_call 22; go_must (refine (hT _).mono ?_); clear hT; rintro e w2 ⟨rfl, q2⟩)
    all_goals
      go_ret
      refine ⟨?_, q.trans (q2.mono q.size)⟩
      congr 2
      all_goals (split <;> omega)
  · rw [if_neg h]
    rw [Bool.not_eq_true] at h
    rw [h] at ho
    clear h tb
    go_enter Try.func11, Try.ntmps11
    go_wp2_with (go_at_call 21; go_must (refine ho.mono ?_); clear ho; rintro e w1 ⟨rfl, q⟩)
    go_ret
    exact ⟨rfl, q⟩

end Go.Proofs.Yteohgmmenlinbad
