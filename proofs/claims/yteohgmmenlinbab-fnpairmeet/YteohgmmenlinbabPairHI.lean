/- PairHull of the program: its contract. -/
import Derived.Test.YteohgmmenlinbabPairA
import Derived.Test.YteohgmmenlinbabPairE
namespace Go.Proofs.Yteohgmmenlinbab
open Go.ChangeShapes Go.WideShapes Go.ChangeAt Go.RowKit
set_option linter.unusedVariables false

def hullB (n x0 y0 x1 y1 : Int) : Bool := pokI n x0 y0 && pokI n x1 y1

set_option maxHeartbeats 4000000 in
theorem implHull (w : World) (n x0 y0 x1 y1 : Int) (a1 : (Lit.int .i64 x0).wf = true) (a2 : (Lit.int .i64 y0).wf = true) (a3 : (Lit.int .i64 x1).wf = true) (a4 : (Lit.int .i64 y1).wf = true) :
    Calls Try.prog 20 #[.int .i64 n, .agg #[.int .i64 x0, .int .i64 y0], .agg #[.int .i64 x1, .int .i64 y1]] w (PairOut w (if hullB n x0 y0 x1 y1 = true then min x0 x1 else 0) (if hullB n x0 y0 x1 y1 = true then max y0 y1 else 0) (hullB n x0 y0 x1 y1)) := by
  have p0 := fun W => implPairOk W n x0 y0 a1 a2
  have p1 := fun W => implPairOk W n x1 y1 a3 a4
  obtain ⟨o0, o1⟩ := two_pairs w x0 y0 x1 y1 24
  replace o0 := o0.alloc (.cells #[.int .i64 0, .int .i64 0] 24)
  replace o1 := o1.alloc (.cells #[.int .i64 0, .int .i64 0] 24)
  have o2 := Own.new ((w.alloc (.cells #[.int .i64 x0, .int .i64 y0] 24)).alloc (.cells #[.int .i64 x1, .int .i64 y1] 24)) #[.int .i64 0, .int .i64 0] 24
  have hb := (((Below.refl _ w).alloc (Nat.le_refl _) (.cells #[.int .i64 x0, .int .i64 y0] 24)).alloc (by simp) (.cells #[.int .i64 x1, .int .i64 y1] 24)).alloc (by simp; omega) (.cells #[.int .i64 0, .int .i64 0] 24)
  rw [World.size_alloc, World.size_alloc] at o2
  have c0 := o0.cell 0 _ rfl
  have c1 := o0.cell 1 _ rfl
  unfold hullB
  generalize pokI n x0 y0 = A at *
  generalize pokI n x1 y1 = B at *
  cases A
  · rw [show (false && B) = false by rfl]
    rw [if_neg (by decide), if_neg (by decide)]
    go_enter Try.func20, Try.ntmps20
    go_wp2_with first
      | (go_at_call 13; refine (p0 _).mono ?_; clear p0; rintro e w2 ⟨rfl, q⟩; replace o0 := o0.below q; replace o1 := o1.below q; replace o2 := o2.below q; replace hb := hb.trans (q.mono hb.size); clear q; have d0 := o1.cell 0 _ rfl; have d1 := o1.cell 1 _ rfl; have r0 := o2.cell 0 _ rfl; have r1 := o2.cell 1 _ rfl; have f0 := o2.frz 0 _ rfl; have f1 := o2.frz 1 _ rfl)
      | (go_at_call 13; refine (p1 _).mono ?_; clear p1; rintro e w3 ⟨rfl, q⟩; replace o0 := o0.below q; replace o1 := o1.below q; replace o2 := o2.below q; replace hb := hb.trans (q.mono hb.size); clear q; have c0 := o0.cell 0 _ rfl; have c1 := o0.cell 1 _ rfl; have d0 := o1.cell 0 _ rfl; have d1 := o1.cell 1 _ rfl; have r0 := o2.cell 0 _ rfl; have r1 := o2.cell 1 _ rfl; have f0 := o2.frz 0 _ rfl; have f1 := o2.frz 1 _ rfl)
    exact pairEnd rfl o2 hb (by omega) rfl rfl
  · cases B
    · rw [show (true && false) = false by rfl]
      rw [if_neg (by decide), if_neg (by decide)]
      go_enter Try.func20, Try.ntmps20
      go_wp2_with first
        | (go_at_call 13; refine (p0 _).mono ?_; clear p0; rintro e w2 ⟨rfl, q⟩; replace o0 := o0.below q; replace o1 := o1.below q; replace o2 := o2.below q; replace hb := hb.trans (q.mono hb.size); clear q; have d0 := o1.cell 0 _ rfl; have d1 := o1.cell 1 _ rfl; have r0 := o2.cell 0 _ rfl; have r1 := o2.cell 1 _ rfl; have f0 := o2.frz 0 _ rfl; have f1 := o2.frz 1 _ rfl)
        | (go_at_call 13; refine (p1 _).mono ?_; clear p1; rintro e w3 ⟨rfl, q⟩; replace o0 := o0.below q; replace o1 := o1.below q; replace o2 := o2.below q; replace hb := hb.trans (q.mono hb.size); clear q; have c0 := o0.cell 0 _ rfl; have c1 := o0.cell 1 _ rfl; have d0 := o1.cell 0 _ rfl; have d1 := o1.cell 1 _ rfl; have r0 := o2.cell 0 _ rfl; have r1 := o2.cell 1 _ rfl; have f0 := o2.frz 0 _ rfl; have f1 := o2.frz 1 _ rfl)
      exact pairEnd rfl o2 hb (by omega) rfl rfl
    · rw [show (true && true) = true by rfl]
      rw [if_pos rfl, if_pos rfl]
      by_cases k1 : x1 < x0 <;> by_cases k2 : y0 < y1
      · rw [show min x0 x1 = x1 by omega, show max y0 y1 = y1 by omega]
        go_enter Try.func20, Try.ntmps20
        go_wp2_with first
          | (go_at_call 13; refine (p0 _).mono ?_; clear p0; rintro e w2 ⟨rfl, q⟩; replace o0 := o0.below q; replace o1 := o1.below q; replace o2 := o2.below q; replace hb := hb.trans (q.mono hb.size); clear q; have d0 := o1.cell 0 _ rfl; have d1 := o1.cell 1 _ rfl; have r0 := o2.cell 0 _ rfl; have r1 := o2.cell 1 _ rfl; have f0 := o2.frz 0 _ rfl; have f1 := o2.frz 1 _ rfl)
          | (go_at_call 13; refine (p1 _).mono ?_; clear p1; rintro e w3 ⟨rfl, q⟩; replace o0 := o0.below q; replace o1 := o1.below q; replace o2 := o2.below q; replace hb := hb.trans (q.mono hb.size); clear q; have c0 := o0.cell 0 _ rfl; have c1 := o0.cell 1 _ rfl; have d0 := o1.cell 0 _ rfl; have d1 := o1.cell 1 _ rfl; have r0 := o2.cell 0 _ rfl; have r1 := o2.cell 1 _ rfl; have f0 := o2.frz 0 _ rfl; have f1 := o2.frz 1 _ rfl)
        all_goals try (exfalso; omega)
        exact pairEnd rfl o2 hb (by omega) rfl rfl
      · rw [show min x0 x1 = x1 by omega, show max y0 y1 = y0 by omega]
        go_enter Try.func20, Try.ntmps20
        go_wp2_with first
          | (go_at_call 13; refine (p0 _).mono ?_; clear p0; rintro e w2 ⟨rfl, q⟩; replace o0 := o0.below q; replace o1 := o1.below q; replace o2 := o2.below q; replace hb := hb.trans (q.mono hb.size); clear q; have d0 := o1.cell 0 _ rfl; have d1 := o1.cell 1 _ rfl; have r0 := o2.cell 0 _ rfl; have r1 := o2.cell 1 _ rfl; have f0 := o2.frz 0 _ rfl; have f1 := o2.frz 1 _ rfl)
          | (go_at_call 13; refine (p1 _).mono ?_; clear p1; rintro e w3 ⟨rfl, q⟩; replace o0 := o0.below q; replace o1 := o1.below q; replace o2 := o2.below q; replace hb := hb.trans (q.mono hb.size); clear q; have c0 := o0.cell 0 _ rfl; have c1 := o0.cell 1 _ rfl; have d0 := o1.cell 0 _ rfl; have d1 := o1.cell 1 _ rfl; have r0 := o2.cell 0 _ rfl; have r1 := o2.cell 1 _ rfl; have f0 := o2.frz 0 _ rfl; have f1 := o2.frz 1 _ rfl)
        all_goals try (exfalso; omega)
        exact pairEnd rfl o2 hb (by omega) rfl rfl
      · rw [show min x0 x1 = x0 by omega, show max y0 y1 = y1 by omega]
        go_enter Try.func20, Try.ntmps20
        go_wp2_with first
          | (go_at_call 13; refine (p0 _).mono ?_; clear p0; rintro e w2 ⟨rfl, q⟩; replace o0 := o0.below q; replace o1 := o1.below q; replace o2 := o2.below q; replace hb := hb.trans (q.mono hb.size); clear q; have d0 := o1.cell 0 _ rfl; have d1 := o1.cell 1 _ rfl; have r0 := o2.cell 0 _ rfl; have r1 := o2.cell 1 _ rfl; have f0 := o2.frz 0 _ rfl; have f1 := o2.frz 1 _ rfl)
          | (go_at_call 13; refine (p1 _).mono ?_; clear p1; rintro e w3 ⟨rfl, q⟩; replace o0 := o0.below q; replace o1 := o1.below q; replace o2 := o2.below q; replace hb := hb.trans (q.mono hb.size); clear q; have c0 := o0.cell 0 _ rfl; have c1 := o0.cell 1 _ rfl; have d0 := o1.cell 0 _ rfl; have d1 := o1.cell 1 _ rfl; have r0 := o2.cell 0 _ rfl; have r1 := o2.cell 1 _ rfl; have f0 := o2.frz 0 _ rfl; have f1 := o2.frz 1 _ rfl)
        all_goals try (exfalso; omega)
        exact pairEnd rfl o2 hb (by omega) rfl rfl
      · rw [show min x0 x1 = x0 by omega, show max y0 y1 = y0 by omega]
        go_enter Try.func20, Try.ntmps20
        go_wp2_with first
          | (go_at_call 13; refine (p0 _).mono ?_; clear p0; rintro e w2 ⟨rfl, q⟩; replace o0 := o0.below q; replace o1 := o1.below q; replace o2 := o2.below q; replace hb := hb.trans (q.mono hb.size); clear q; have d0 := o1.cell 0 _ rfl; have d1 := o1.cell 1 _ rfl; have r0 := o2.cell 0 _ rfl; have r1 := o2.cell 1 _ rfl; have f0 := o2.frz 0 _ rfl; have f1 := o2.frz 1 _ rfl)
          | (go_at_call 13; refine (p1 _).mono ?_; clear p1; rintro e w3 ⟨rfl, q⟩; replace o0 := o0.below q; replace o1 := o1.below q; replace o2 := o2.below q; replace hb := hb.trans (q.mono hb.size); clear q; have c0 := o0.cell 0 _ rfl; have c1 := o0.cell 1 _ rfl; have d0 := o1.cell 0 _ rfl; have d1 := o1.cell 1 _ rfl; have r0 := o2.cell 0 _ rfl; have r1 := o2.cell 1 _ rfl; have f0 := o2.frz 0 _ rfl; have f1 := o2.frz 1 _ rfl)
        all_goals try (exfalso; omega)
        exact pairEnd rfl o2 hb (by omega) rfl rfl

end Go.Proofs.Yteohgmmenlinbab
