/- The walk of the exact law of PairLess: it returns true. -/
import Derived.Test.YteohgmmenlinbafPairO
import Derived.Test.YteohgmmenlinbafPairL
namespace Go.Proofs.Yteohgmmenlinbaf
open Go.RowKit
set_option linter.unusedVariables false

set_option maxHeartbeats 4000000 in
theorem walkExPairLess (x y : Int) (wx : (Lit.int .i64 x).wf = true) (wy : (Lit.int .i64 y).wf = true) (w : World) :
    Calls Try.prog 6 #[.agg #[.int .i64 x, .int .i64 y]] w fun e w' => e = .returned (.bool true) ∧ Below w.heap.size w w' := by
  have hex : ∃ a b k, (∀ W, Calls Try.prog 17 #[.agg #[.int .i64 x, .int .i64 y]] W (PairOut W a b k)) ∧ (∀ W, Calls Try.prog 18 #[.agg #[.int .i64 x, .int .i64 y]] W (PairOut W a b k)) := lessBoth x y wx wy
  obtain ⟨a, b, k, hs, hi⟩ := hex
  clear wx wy
  have hp := fun W => toPair W x y
  have hp2 := fun W => toPair W x y
  have ea := fun W => eqPairSame W a b
  have o0 := Own.new w #[.int .i64 x, .int .i64 y] 23
  have hb := (Below.refl _ w).alloc (Nat.le_refl _) (.cells #[.int .i64 x, .int .i64 y] 23)
  go_enter Try.func6, Try.ntmps6
  go_wp2_with first
    | (go_at_call 10; refine (hp _).mono ?_; clear hp; rintro e w1 ⟨rfl, q⟩; replace o0 := o0.below q; replace hb := hb.trans (q.mono hb.size); clear q)
    | (go_at_call 17; refine (hs _).mono ?_; clear hs; rintro e w2 ⟨rfl, q⟩; replace o0 := o0.below q; replace hb := hb.trans (q.mono hb.size); clear q; have c0 := (o0.alloc (.cells #[.int .i64 a, .int .i64 b] 24)).cell 0 _ rfl; have c1 := (o0.alloc (.cells #[.int .i64 a, .int .i64 b] 24)).cell 1 _ rfl)
    | (go_at_call 10; refine (hp2 _).mono ?_; clear hp2; rintro e w3 ⟨rfl, q⟩; have sA := (Own.new w2 _ _).below q; have hz := hb.size; replace hb := (hb.alloc hb.size _).trans (q.mono (by simp; omega)); clear q)
    | (go_at_call 18; refine (hi _).mono ?_; clear hi; rintro e w4 ⟨rfl, q⟩; replace sA := sA.below q; replace hb := hb.trans (q.mono hb.size); clear q; replace sA := sA.alloc (.cells #[.int .i64 a, .int .i64 b] 24); have hz := hb.size; replace hb := hb.alloc hb.size (.cells #[.int .i64 a, .int .i64 b] 24); have a0 := sA.cell 0 _ rfl; have a1 := sA.cell 1 _ rfl)
    | (go_at_call 12; refine (ea _).mono ?_; clear ea; rintro e w5 ⟨rfl, q⟩; replace hb := hb.trans (q.mono hb.size); clear q)
  go_ret
  exact ⟨rfl, hb⟩

end Go.Proofs.Yteohgmmenlinbaf
