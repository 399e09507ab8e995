/- The contract of the model's 'l5WidthOrd'. -/
import Derived.Test.YteohgmmenlinbaaDoorDrawH
namespace Go.Proofs.YteohgmmenlinbaaDoor
open Go.ChangeShapes Go.WideShapes Go.ChangeAt Go.RowKit
set_option linter.unusedVariables false

def WOrdOut (w : World) (e : Ending) (w' : World) : Prop :=
  ∃ x y, e = .returned (.tuple #[.int .i64 x, .int .i64 y]) ∧ -64 ≤ x ∧ x ≤ 64 ∧ (Lit.int .i64 y).wf = true ∧ Below w.heap.size w w'

theorem widthOrd (w : World) (a : Option Addr) (len cap : Nat) (hc : Code8 w a len) (hl : len ≤ cap) (hm : len ≤ 1048576) :
    Calls Tryd.prog 26 #[.slice a len cap] w (WOrdOut w) := by
  have ho := opened w a len cap hc hl hm
  go_enter Tryd.func26, Tryd.ntmps26
  go_wp2_with first
    | (go_at_call 12; go_must (refine ho.mono ?_); clear ho hc; rintro e w1 ⟨rfl, hr, hk⟩)
    | (go_at_call 13; go_must (refine (width _ _ _ hr (by omega)).mono ?_); clear hr; rintro e w2 ⟨x, rfl, x0, x1, hr, hk2⟩; replace hk := hk.trans hk2; clear hk2)
    | (go_at_call 15; go_must (refine (ordSt (St.start hr) (by omega)).mono ?_); clear hr; rintro e w3 ⟨y, rfl, ylo, yhi, h3⟩; replace hk := hk.trans h3.2)
  go_ret2
  exact ⟨_, _, rfl, x0, x1, Nr.wf ⟨by omega, by omega⟩, hk.below (Nat.le_refl _) (Nat.le_refl _)⟩

end Go.Proofs.YteohgmmenlinbaaDoor
