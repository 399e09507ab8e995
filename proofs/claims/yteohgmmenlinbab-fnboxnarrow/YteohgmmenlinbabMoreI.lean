/- PairMore of both, as a function of a pair. -/
import Derived.Test.YteohgmmenlinbabPairN
import Derived.Test.YteohgmmenlinbabJA
namespace Go.Proofs.Yteohgmmenlinbab
open Go.RowKit
set_option linter.unusedVariables false

def moreI (p : Int × Int) : (Int × Int) × Bool := ((if pokI 32 p.1 p.2 = true then widI p.1 else 0, if pokI 32 p.1 p.2 = true then widI p.2 else 0), pokI 32 p.1 p.2)

theorem implMoreI (w : World) (x y : Int) (a1 : (Lit.int .i64 x).wf = true) (a2 : (Lit.int .i64 y).wf = true) :
    Calls Try.prog 77 #[.agg #[.int .i64 x, .int .i64 y]] w (PairOut w (moreI (x, y)).1.1 (moreI (x, y)).1.2 (moreI (x, y)).2) := implMore w x y a1 a2
theorem more_wf (x y : Int) : (Lit.int .i64 (moreI (x, y)).1.1).wf = true ∧ (Lit.int .i64 (moreI (x, y)).1.2).wf = true := by
  unfold moreI
  by_cases h : pokI 32 x y = true
  · simp only [if_pos h]
    have kx := (okI_32 x).1 (pok_ok h).1
    have ky := (okI_32 y).1 (pok_ok h).2
    have bx := widI_bounds kx.1 kx.2
    have bY := widI_bounds ky.1 ky.2
    exact ⟨i64_wf (by omega) (by omega), i64_wf (by omega) (by omega)⟩
  · simp only [if_neg h]
    exact ⟨rfl, rfl⟩

end Go.Proofs.Yteohgmmenlinbab
