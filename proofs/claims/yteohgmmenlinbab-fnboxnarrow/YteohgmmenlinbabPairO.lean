/- PairLess of the model and of the program: contracts. -/
import Derived.Test.YteohgmmenlinbabJB
import Derived.Test.YteohgmmenlinbabJA
import Derived.Test.YteohgmmenlinbabImplF
import Derived.Test.YteohgmmenlinbabSpecF
import Derived.Test.YteohgmmenlinbabPairN0
import Derived.Test.YteohgmmenlinbabPokOk
namespace Go.Proofs.Yteohgmmenlinbab
open Go.ChangeShapes Go.WideShapes Go.ChangeAt Go.RowKit
set_option linter.unusedVariables false

theorem implBelowAt (w : World) (x a : Int) (h1 : -9218868437227405312 ≤ x) (h2 : x ≤ 9218868437227405312) (h : IsBelow x a) :
    Calls Try.prog 95 #[.int .i64 x] w fun e w' => e = .returned (.tuple #[.int .i64 a, .bool true]) ∧ Below w.heap.size w w' := by
  refine (implBelow w x h1 h2).mono ?_
  rintro e w' ⟨m, rfl, hm, q⟩
  rw [isBelow_unique hm h]
  exact ⟨rfl, q⟩

theorem implAboveAt (w : World) (x a : Int) (h1 : -9218868437227405312 ≤ x) (h2 : x ≤ 9218868437227405312) (h : IsBelow (-x) a) :
    Calls Try.prog 96 #[.int .i64 x] w fun e w' => e = .returned (.tuple #[.int .i64 (-a), .bool true]) ∧ Below w.heap.size w w' := by
  refine (implAbove w x h1 h2).mono ?_
  rintro e w' ⟨m, rfl, hm, q⟩
  rw [isBelow_unique hm h]
  exact ⟨rfl, q⟩

set_option maxHeartbeats 2000000 in
theorem implLess (w : World) (x y a m : Int) (a1 : (Lit.int .i64 x).wf = true) (a2 : (Lit.int .i64 y).wf = true) (hk : pokI 64 x y = true) (hx : IsBelow x a) (hy : IsBelow (-y) m) :
    Calls Try.prog 75 #[.agg #[.int .i64 x, .int .i64 y]] w (PairOut w a (-m) true) := by
  have p0 := fun W => implPairOk W 64 x y a1 a2
  rw [hk] at p0
  have o0 := (Own.new w #[.int .i64 x, .int .i64 y] 24).alloc (.cells #[.int .i64 0, .int .i64 0] 24)
  have o2 := Own.new (w.alloc (.cells #[.int .i64 x, .int .i64 y] 24)) #[.int .i64 0, .int .i64 0] 24
  rw [World.size_alloc] at o2
  have hb := ((Below.refl _ w).alloc (Nat.le_refl _) (.cells #[.int .i64 x, .int .i64 y] 24)).alloc (by simp) (.cells #[.int .i64 0, .int .i64 0] 24)
  have c0 := o0.cell 0 _ rfl
  have c1 := o0.cell 1 _ rfl
  have kx := (okI_64 x).1 (pok_ok hk).1
  have ky := (okI_64 y).1 (pok_ok hk).2
  have m0 := fun W => implBelowAt W x a kx.1 kx.2 hx
  have m1 := fun W => implAboveAt W y m ky.1 ky.2 hy
  clear hx hy hk
  go_enter Try.func75, Try.ntmps75
  go_wp2_with first
    | (go_at_call 13; refine (p0 _).mono ?_; clear p0; rintro e w2 ⟨rfl, q⟩; replace o0 := o0.below q; replace o2 := o2.below q; replace hb := hb.trans (q.mono hb.size); clear q; have c0 := o0.cell 0 _ rfl; have c1 := o0.cell 1 _ rfl)
    | (go_at_call 95; refine (m0 _).mono ?_; clear m0; rintro e w3 ⟨rfl, q⟩; replace o0 := o0.below q; replace o2 := o2.below q; replace hb := hb.trans (q.mono hb.size); clear q; have c0 := o0.cell 0 _ rfl; have c1 := o0.cell 1 _ rfl)
    | (go_at_call 96; refine (m1 _).mono ?_; clear m1; rintro e w4 ⟨rfl, q⟩; replace o0 := o0.below q; replace o2 := o2.below q; replace hb := hb.trans (q.mono hb.size); clear q; have r0 := o2.cell 0 _ rfl; have r1 := o2.cell 1 _ rfl; have f0 := o2.frz 0 _ rfl; have f1 := o2.frz 1 _ rfl)
  exact pairEnd rfl o2 hb (by omega) rfl rfl

theorem implLessNo (w : World) (x y : Int) (a1 : (Lit.int .i64 x).wf = true) (a2 : (Lit.int .i64 y).wf = true) (hk : pokI 64 x y = false) :
    Calls Try.prog 75 #[.agg #[.int .i64 x, .int .i64 y]] w (PairOut w 0 0 false) := by
  have p0 := fun W => implPairOk W 64 x y a1 a2
  rw [hk] at p0
  have o0 := (Own.new w #[.int .i64 x, .int .i64 y] 24).alloc (.cells #[.int .i64 0, .int .i64 0] 24)
  have o2 := Own.new (w.alloc (.cells #[.int .i64 x, .int .i64 y] 24)) #[.int .i64 0, .int .i64 0] 24
  rw [World.size_alloc] at o2
  have hb := ((Below.refl _ w).alloc (Nat.le_refl _) (.cells #[.int .i64 x, .int .i64 y] 24)).alloc (by simp) (.cells #[.int .i64 0, .int .i64 0] 24)
  have c0 := o0.cell 0 _ rfl
  have c1 := o0.cell 1 _ rfl
  clear hk
  go_enter Try.func75, Try.ntmps75
  go_wp2_with (go_at_call 13; refine (p0 _).mono ?_; clear p0; rintro e w2 ⟨rfl, q⟩; replace o0 := o0.below q; replace o2 := o2.below q; replace hb := hb.trans (q.mono hb.size); clear q; have r0 := o2.cell 0 _ rfl; have r1 := o2.cell 1 _ rfl; have f0 := o2.frz 0 _ rfl; have f1 := o2.frz 1 _ rfl)
  exact pairEnd rfl o2 hb (by omega) rfl rfl

end Go.Proofs.Yteohgmmenlinbab
