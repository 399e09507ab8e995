/- The program's overlap and PairIs: contracts. -/
import Derived.Test.YteohgmmenlinbacDoorPairIsB
import Derived.Test.YteohgmmenlinbacDoorJB
namespace Go.Proofs.YteohgmmenlinbacDoor
open Go.RowKit
set_option linter.unusedVariables false

theorem overlap (w : World) (x0 y0 x1 y1 : Int) : Calls Tryd.prog 46 #[.agg #[.int .i64 x0, .int .i64 y0], .agg #[.int .i64 x1, .int .i64 y1]] w fun e w' => e = .returned (.agg #[.int .i64 (max x0 x1), .int .i64 (min y0 y1)]) ∧ Below w.heap.size w w' := by
  go_enter Tryd.func46, Tryd.ntmps46
  go_wp2
  all_goals
    refine bodyPost_ret (v := .agg #[.int .i64 (max x0 x1), .int .i64 (min y0 y1)]) ?_ rfl ⟨rfl, by repeat (first | exact Below.refl _ _ | refine Below.drew ?_ | refine Below.alloc ?_ (by simp; try omega) _)⟩
    simp [results, Tryd.f46, go_sem]
    omega

set_option maxHeartbeats 1000000 in
theorem implIs (w : World) (x0 y0 x1 y1 : Int) : Calls Tryd.prog 21 #[.agg #[.int .i64 x0, .int .i64 y0], .agg #[.int .i64 x1, .int .i64 y1]] w fun e w' => e = .returned (.bool (isB x0 y0 x1 y1)) ∧ Below w.heap.size w w' := by
  have ho := fun W => overlap W x0 y0 x1 y1
  have hv : isB x0 y0 x1 y1 = ((max x0 x1 == x0) && (min y0 y1 == y0)) := by
    unfold isB
    rw [Bool.eq_iff_iff]
    simp only [Bool.and_eq_true, decide_eq_true_eq, beq_iff_eq]
    omega
  rw [hv]
  generalize max x0 x1 = u at *
  generalize min y0 y1 = v at *
  clear hv
  cases hu : (u == x0) <;> cases hv : (v == y0)
  all_goals
    obtain ⟨o0, o1⟩ := two_pairs w x0 y0 x1 y1 40
    have hb := ((Below.refl _ w).alloc (Nat.le_refl _) (.cells #[.int .i64 x0, .int .i64 y0] 40)).alloc (by simp) (.cells #[.int .i64 x1, .int .i64 y1] 40)
    go_enter Tryd.func21, Tryd.ntmps21
    go_wp2
    generalize (w.alloc (.cells #[.int .i64 x0, .int .i64 y0] 40)).alloc (.cells #[.int .i64 x1, .int .i64 y1] 40) = WA at *
    have c0 := o0.cell 0 _ rfl
    have c1 := o0.cell 1 _ rfl
    have d0 := o1.cell 0 _ rfl
    have d1 := o1.cell 1 _ rfl
    have l0 := o0.lt
    have l1 := o1.lt
    refine region_below (by kernel_rfl) (by kernel_rfl) ?_
    repeat (first
      | go_big_quiet_step (first
        | (intro _; rfl)
        | (intro hC; go_at_call 46; exact Calls.qb hC (ho _)))
      | (go_big_quiet_want
         go_big_quiet_op
         refine ⟨.agg #[.int .i64 x0, .int .i64 y0], ?_, ?_⟩
         · intro W hC
           have r0 := (hC.cell (p := ⟨w.heap.size, 0, none⟩) l0).trans c0
           have r1 := (hC.cell (p := ⟨w.heap.size, 1, none⟩) l0).trans c1
           go_simp
         go_big_quiet_on)
      | (go_big_quiet_want
         go_big_quiet_op
         refine ⟨.agg #[.int .i64 x1, .int .i64 y1], ?_, ?_⟩
         · intro W hC
           have r0 := (hC.cell (p := ⟨w.heap.size + 1, 0, none⟩) l1).trans d0
           have r1 := (hC.cell (p := ⟨w.heap.size + 1, 1, none⟩) l1).trans d1
           go_simp
         go_big_quiet_on))
    refine wpQuiet_nil ?_
    intro w4 q4
    replace hb := hb.trans (q4.mono hb.size)
    go_wp2
    go_ret
    exact ⟨rfl, hb⟩

end Go.Proofs.YteohgmmenlinbacDoor
