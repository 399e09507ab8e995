/- The walks of the exact laws of PairOk and PairIs: each returns true. -/
import Derived.Test.YteohgmmenlinbaePairA
import Derived.Test.YteohgmmenlinbaePairL
import Derived.Test.YteohgmmenlinbaePairC
import Derived.Test.YteohgmmenlinbaePairIsS
namespace Go.Proofs.Yteohgmmenlinbae
open Go.RowKit
set_option linter.unusedVariables false

theorem walkExPairOk (n : Int) (hn : (Lit.int .i64 n).wf = true) (x y : Int) (wx : (Lit.int .i64 x).wf = true) (wy : (Lit.int .i64 y).wf = true) (w : World) :
    Calls Try.prog 6 #[.int .i64 n, .agg #[.int .i64 x, .int .i64 y]] w fun e w' => e = .returned (.bool true) ∧ Below w.heap.size w w' := by
  have hs := fun W => specPairOk W n x y wx wy
  have hi := fun W => implPairOk W n x y wx wy
  have hp := fun W => toPair W x y
  generalize pokI n x y = k at *
  clear hn wx wy
  have o := Own.new w #[.int .i64 x, .int .i64 y] 26
  have hb := (Below.refl _ w).alloc (Nat.le_refl _) (.cells #[.int .i64 x, .int .i64 y] 26)
  go_enter Try.func6, Try.ntmps6
  go_wp2_with first
    | (go_at_call 16; refine (hp _).mono ?_; rintro e w1 ⟨rfl, q⟩; replace o := o.below q; replace hb := hb.trans (q.mono hb.size); clear q; have c0 := o.cell 0 _ rfl; have c1 := o.cell 1 _ rfl)
    | (go_at_call 15; refine (hs _).mono ?_; clear hs; rintro e w2 ⟨rfl, q⟩; replace o := o.below q; replace hb := hb.trans (q.mono hb.size); clear q; have c0 := o.cell 0 _ rfl; have c1 := o.cell 1 _ rfl)
    | (go_at_call 17; refine (hi _).mono ?_; clear hi; rintro e w3 ⟨rfl, q⟩; replace hb := hb.trans (q.mono hb.size); clear q)
  go_ret
  exact ⟨rfl, hb⟩

set_option maxHeartbeats 1000000 in
theorem walkExPairIs (x0 y0 : Int) (wx0 : (Lit.int .i64 x0).wf = true) (wy0 : (Lit.int .i64 y0).wf = true) (x1 y1 : Int) (wx1 : (Lit.int .i64 x1).wf = true) (wy1 : (Lit.int .i64 y1).wf = true) (w : World) :
    Calls Try.prog 7 #[.agg #[.int .i64 x0, .int .i64 y0], .agg #[.int .i64 x1, .int .i64 y1]] w fun e w' => e = .returned (.bool true) ∧ Below w.heap.size w w' := by
  have hs := fun W => specIs W x0 y0 x1 y1
  have hi := fun W => implIs W x0 y0 x1 y1
  generalize isB x0 y0 x1 y1 = k at *
  clear wx0 wy0 wx1 wy1
  obtain ⟨o0, o1⟩ := two_pairs w x0 y0 x1 y1 26
  have hb := ((Below.refl _ w).alloc (Nat.le_refl _) (.cells #[.int .i64 x0, .int .i64 y0] 26)).alloc (by simp) (.cells #[.int .i64 x1, .int .i64 y1] 26)
  go_enter Try.func7, Try.ntmps7
  go_wp2
  generalize (w.alloc (.cells #[.int .i64 x0, .int .i64 y0] 26)).alloc (.cells #[.int .i64 x1, .int .i64 y1] 26) = WA at *
  have c0 := o0.cell 0 _ rfl
  have c1 := o0.cell 1 _ rfl
  have d0 := o1.cell 0 _ rfl
  have d1 := o1.cell 1 _ rfl
  have l0 := o0.lt
  have l1 := o1.lt
  refine region_below (by kernel_rfl) (by kernel_rfl) ?_
  repeat (first
    | go_big_quiet_step (first
      | (intro _; rfl)
        | (intro hC; go_at_call 16; exact Calls.qb hC (toPair _ _ _))
      | (intro hC; go_at_call 18; exact Calls.qb hC (hs _))
      | (intro hC; go_at_call 19; exact Calls.qb hC (hi _)))
    | (go_big_quiet_want
       go_big_quiet_op
       refine ⟨.agg #[.int .i64 x0, .int .i64 y0], ?_, ?_⟩
       · intro W hC
         have r0 := (hC.cell (p := ⟨w.heap.size, 0, none⟩) l0).trans c0
         have r1 := (hC.cell (p := ⟨w.heap.size, 1, none⟩) l0).trans c1
         go_simp
       go_big_quiet_on)
    | (go_big_quiet_want
       go_big_quiet_op
       refine ⟨.agg #[.int .i64 x1, .int .i64 y1], ?_, ?_⟩
       · intro W hC
         have r0 := (hC.cell (p := ⟨w.heap.size + 1, 0, none⟩) l1).trans d0
         have r1 := (hC.cell (p := ⟨w.heap.size + 1, 1, none⟩) l1).trans d1
         go_simp
       go_big_quiet_on))
  refine wpQuiet_nil ?_
  intro w4 q4
  replace hb := hb.trans (q4.mono hb.size)
  replace o0 := o0.below q4
  replace o1 := o1.below q4
  clear c0 c1 d0 d1 l0 l1 q4
  go_wp2
  have c0 := o0.cell 0 _ rfl
  have c1 := o0.cell 1 _ rfl
  have d0 := o1.cell 0 _ rfl
  have d1 := o1.cell 1 _ rfl
  have l0 := o0.lt
  have l1 := o1.lt
  refine region_below (by kernel_rfl) (by kernel_rfl) ?_
  repeat (first
    | go_big_quiet_step (first
      | (intro _; rfl)
        | (intro hC; go_at_call 16; exact Calls.qb hC (toPair _ _ _))
      | (intro hC; go_at_call 18; exact Calls.qb hC (hs _))
      | (intro hC; go_at_call 19; exact Calls.qb hC (hi _)))
    | (go_big_quiet_want
       go_big_quiet_op
       refine ⟨.agg #[.int .i64 x0, .int .i64 y0], ?_, ?_⟩
       · intro W hC
         have r0 := (hC.cell (p := ⟨w.heap.size, 0, none⟩) l0).trans c0
         have r1 := (hC.cell (p := ⟨w.heap.size, 1, none⟩) l0).trans c1
         go_simp
       go_big_quiet_on)
    | (go_big_quiet_want
       go_big_quiet_op
       refine ⟨.agg #[.int .i64 x1, .int .i64 y1], ?_, ?_⟩
       · intro W hC
         have r0 := (hC.cell (p := ⟨w.heap.size + 1, 0, none⟩) l1).trans d0
         have r1 := (hC.cell (p := ⟨w.heap.size + 1, 1, none⟩) l1).trans d1
         go_simp
       go_big_quiet_on))
  refine wpQuiet_nil ?_
  intro w5 q4
  replace hb := hb.trans (q4.mono hb.size)
  go_wp2
  go_ret
  exact ⟨rfl, hb⟩

end Go.Proofs.Yteohgmmenlinbae
