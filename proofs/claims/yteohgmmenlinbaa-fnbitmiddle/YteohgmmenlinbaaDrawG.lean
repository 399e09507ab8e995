/- The contract of the model's 'l5Two'. -/
import Derived.Test.YteohgmmenlinbaaDrawE
import Derived.Test.YteohgmmenlinbaaDrawF
namespace Go.Proofs.Yteohgmmenlinbaa
open Go.ChangeShapes Go.WideShapes Go.ChangeAt Go.RowKit
set_option linter.unusedVariables false

def TwoOut (w : World) (e : Ending) (w' : World) : Prop :=
  ∃ x y, e = .returned (.tuple #[.int .i64 x, .int .i64 y]) ∧ (Lit.int .i64 x).wf = true ∧ (Lit.int .i64 y).wf = true ∧ Below w.heap.size w w'

theorem two_at {w w2 : World} {b : Nat} {l r : Int} (hb : b < w.heap.size) (h : St (w.alloc (.cells #[.int .i64 32, .int .i64 64] 3)) b l w2) (h0 : 0 ≤ r) (h1 : r < 2) :
    ∃ v : Int, w2.cell? ⟨w.heap.size, r.toNat, none⟩ = some (.int .i64 v) := by
  have e : r = 0 ∨ r = 1 := by omega
  rcases e with rfl | rfl
  · exact ⟨_, (h.laid hb 0 _ rfl).1⟩
  · exact ⟨_, (h.laid hb 1 _ rfl).1⟩

theorem two (w : World) (a : Option Addr) (len cap : Nat) (hc : Code8 w a len) (hl : len ≤ cap) (hm : len ≤ 1048576) :
    Calls Try.prog 76 #[.slice a len cap] w (TwoOut w) := by
  have ho := opened w a len cap hc hl hm
  go_enter Try.func76, Try.ntmps76
  go_wp2_with (go_at_call 35; go_must (refine ho.mono ?_); clear ho hc; rintro e w1 ⟨rfl, hr, hk⟩)
  have hr0 := hr.alloc (.cells #[.int .i64 32, .int .i64 64] 3)
  have hb1 := hr.1
  go_wp2_with first
    | (go_at_call 36; refine (pickSt (St.start hr0) (by omega)).mono ?_; clear hr0 hr; rintro e w2 ⟨r, rfl, r0, r1, h⟩; replace r1 := r1 (by omega); obtain ⟨v, hv⟩ := two_at hb1 h r0 r1; have hk2 := (hk.alloc _).trans h.2; have hr2 := h.1; clear hk h)
    | (go_at_call 94; refine (pair _ _ _ _ hr2 (by omega)).mono ?_; rintro e w3 ⟨x, y, rfl, wx, wy, hr3, hk3⟩; replace hk3 := hk2.trans hk3; clear hr2 hk2)
  clear hv
  have hb3 := hr3.1
  have hr4 := hr3.alloc (.cells #[.int .i64 x, .int .i64 y] 33)
  go_wp2_with first
    | (go_at_call 36; refine (pickSt (St.start hr4) (by omega)).mono ?_; clear hr4 hr3; rintro e w4 ⟨q, rfl, q0, -, h⟩; have d0 := (h.laid hb3 0 _ rfl).1; have d1 := (h.laid hb3 1 _ rfl).1; simp only [List.getElem_toArray, List.getElem_cons_zero, List.getElem_cons_succ] at d0 d1; have hk4 := (hk3.alloc _).trans h.2)
    | (go_at_call 93; refine (bigSt h (by omega)).mono ?_; clear h; rintro e w5 ⟨u, rfl, -, -, h⟩; have hk5 := (hk3.alloc _).trans h.2)
  · go_ret2
    exact ⟨_, _, rfl, wrap64_wf _, wrap64_wf _, hk5.below (Nat.le_refl _) (Nat.le_refl _)⟩
  · go_quiet (fail)
    go_wp2
    go_ret2
    exact ⟨_, _, rfl, wx.wf, wy.wf, (hk4.drewN _).below (Nat.le_refl _) (Nat.le_refl _)⟩

end Go.Proofs.Yteohgmmenlinbaa
