/- PairMore and PairLess of the model and of the program: contracts. -/
import Derived.Test.YteohgmmenlinbabJB
import Derived.Test.YteohgmmenlinbabJA
import Derived.Test.YteohgmmenlinbabImplC
import Derived.Test.YteohgmmenlinbabSpecW
import Derived.Test.YteohgmmenlinbabPokOk
namespace Go.Proofs.Yteohgmmenlinbab
open Go.ChangeShapes Go.WideShapes Go.ChangeAt Go.RowKit
set_option linter.unusedVariables false

set_option maxHeartbeats 2000000 in
theorem implMore (w : World) (x y : Int) (a1 : (Lit.int .i64 x).wf = true) (a2 : (Lit.int .i64 y).wf = true) :
    Calls Try.prog 77 #[.agg #[.int .i64 x, .int .i64 y]] w (PairOut w (if pokI 32 x y = true then widI x else 0) (if pokI 32 x y = true then widI y else 0) (pokI 32 x y)) := by
  have p0 := fun W => implPairOk W 32 x y a1 a2
  have o0 := (Own.new w #[.int .i64 x, .int .i64 y] 24).alloc (.cells #[.int .i64 0, .int .i64 0] 24)
  have o2 := Own.new (w.alloc (.cells #[.int .i64 x, .int .i64 y] 24)) #[.int .i64 0, .int .i64 0] 24
  rw [World.size_alloc] at o2
  have hb := ((Below.refl _ w).alloc (Nat.le_refl _) (.cells #[.int .i64 x, .int .i64 y] 24)).alloc (by simp) (.cells #[.int .i64 0, .int .i64 0] 24)
  have c0 := o0.cell 0 _ rfl
  have c1 := o0.cell 1 _ rfl
  by_cases hk : pokI 32 x y = true
  · rw [if_pos hk, if_pos hk]
    rw [hk] at p0 ⊢
    have hx := (okI_32 x).1 (pok_ok hk).1
    have hy := (okI_32 y).1 (pok_ok hk).2
    have m0 := fun W => implWidenOk W x hx.1 hx.2
    have m1 := fun W => implWidenOk W y hy.1 hy.2
    generalize widI x = u at *
    generalize widI y = v at *
    go_enter Try.func77, Try.ntmps77
    go_wp2_with first
      | (go_at_call 13; refine (p0 _).mono ?_; clear p0; rintro e w2 ⟨rfl, q⟩; replace o0 := o0.below q; replace o2 := o2.below q; replace hb := hb.trans (q.mono hb.size); clear q; have c0 := o0.cell 0 _ rfl; have c1 := o0.cell 1 _ rfl)
      | (go_at_call 97; refine (m0 _).mono ?_; clear m0; rintro e w3 ⟨rfl, q⟩; replace o0 := o0.below q; replace o2 := o2.below q; replace hb := hb.trans (q.mono hb.size); clear q; have c0 := o0.cell 0 _ rfl; have c1 := o0.cell 1 _ rfl)
      | (go_at_call 97; refine (m1 _).mono ?_; clear m1; rintro e w4 ⟨rfl, q⟩; replace o0 := o0.below q; replace o2 := o2.below q; replace hb := hb.trans (q.mono hb.size); clear q; have r0 := o2.cell 0 _ rfl; have r1 := o2.cell 1 _ rfl; have f0 := o2.frz 0 _ rfl; have f1 := o2.frz 1 _ rfl)
    exact pairEnd rfl o2 hb (by omega) rfl rfl
  · rw [if_neg hk, if_neg hk]
    rw [Bool.not_eq_true] at hk
    rw [hk] at p0 ⊢
    go_enter Try.func77, Try.ntmps77
    go_wp2_with (go_at_call 13; refine (p0 _).mono ?_; clear p0; rintro e w2 ⟨rfl, q⟩; replace o0 := o0.below q; replace o2 := o2.below q; replace hb := hb.trans (q.mono hb.size); clear q; have r0 := o2.cell 0 _ rfl; have r1 := o2.cell 1 _ rfl; have f0 := o2.frz 0 _ rfl; have f1 := o2.frz 1 _ rfl)
    exact pairEnd rfl o2 hb (by omega) rfl rfl

end Go.Proofs.Yteohgmmenlinbab
