/- The contracts of the model's 'DrawBitOrd' and 'DrawBitOk'. -/
import Derived.Test.YteohgmmenlinbaaDoorDrawJ
import Derived.Test.YteohgmmenlinbaaDoorPureB
namespace Go.Proofs.YteohgmmenlinbaaDoor
open Go.ChangeShapes Go.WideShapes Go.ChangeAt Go.RowKit
set_option linter.unusedVariables false

/-- A number and a pattern. -/
def OrdIn (w : World) (e : Ending) (w' : World) : Prop :=
  ∃ n x, e = .returned (.tuple #[.int .i64 n, .int .u64 x]) ∧ -64 ≤ n ∧ n ≤ 64 ∧ 0 ≤ x ∧ x ≤ 18446744073709551615 ∧ Below w.heap.size w w'

theorem wrapU (y : Int) : 0 ≤ IntKind.u64.wrap y ∧ IntKind.u64.wrap y ≤ 18446744073709551615 := by
  rw [IntKind.wrap_u64]
  omega

set_option maxHeartbeats 2000000 in
theorem drawBitOrd (w : World) (a : Option Addr) (len cap : Nat) (hc : Code8 w a len) (hl : len ≤ cap) (hm : len ≤ 1048576) :
    Calls Tryd.prog 4 #[.slice a len cap] w (OrdIn w) := by
  have ho := opened w a len cap hc hl hm
  go_enter Tryd.func4, Tryd.ntmps4
  go_wp2_with first
    | (go_at_call 12; go_must (refine ho.mono ?_); clear ho hc; rintro e w1 ⟨rfl, hr, hk⟩; have h : St w w.heap.size 0 w1 := ⟨hr, hk⟩; clear hr hk)
    | (go_at_call 13; go_must (refine (width _ _ _ h.1 (by omega)).mono ?_); rintro e w2 ⟨n, rfl, n0, n1, hr, hk2⟩; replace h : St w w.heap.size 2 w2 := ⟨hr.mono (by omega), h.2.trans hk2⟩; clear hk2 hr)
    | (go_at_call 15; go_must (refine (ordSt h (by omega)).mono ?_); clear h; rintro e w3 ⟨y, rfl, ylo, yhi, h⟩)
    | (go_at_call 14; go_must (refine (specBits _ n y (Nr.wf ⟨by omega, by omega⟩)).mono ?_); rintro e w4 ⟨rfl, hw⟩; subst hw; have hb := bits_in n y; generalize bitsI n y = v at *; clear ylo yhi)
    | (go_at_call 16; go_must (refine (pickSt h (by omega)).mono ?_); clear h; rintro e w5 ⟨r, rfl, r0, r1, h⟩; replace r1 := r1 (by omega))
    | (go_at_call 17; go_must (refine (bigSt h (by omega)).mono ?_); clear h; rintro e w6 ⟨u, rfl, u0, u1, h⟩)
  all_goals go_ret2
  all_goals refine ⟨n, _, rfl, n0, n1, ?_, ?_, h.2.below (Nat.le_refl _) (Nat.le_refl _)⟩
  all_goals first | omega | exact (wrapU _).1 | exact (wrapU _).2

theorem drawBitOk (w : World) (a : Option Addr) (len cap : Nat) (hc : Code8 w a len) (hl : len ≤ cap) (hm : len ≤ 1048576) :
    Calls Tryd.prog 8 #[.slice a len cap] w (WOrdOut w) := by
  have ho := widthOrd w a len cap hc hl hm
  go_enter Tryd.func8, Tryd.ntmps8
  go_wp2_with (go_at_call 26; go_must (refine ho.mono ?_); clear ho hc; rintro e w1 ⟨x, y, rfl, x0, x1, wy, hb⟩)
  go_ret2
  exact ⟨x, y, rfl, x0, x1, wy, hb⟩

end Go.Proofs.YteohgmmenlinbaaDoor
