/- The contract of the reader's 'width'. -/
import Derived.Test.YteohgmmenlinbacDoorJA
namespace Go.Proofs.YteohgmmenlinbacDoor
open Go.ChangeShapes Go.WideShapes Go.ChangeAt Go.RowKit
set_option linter.unusedVariables false

theorem four_at {w w2 : World} {b : Nat} {l r : Int} (hb : b < w.heap.size) (h : St (w.alloc (.cells #[.int .i64 0, .int .i64 63, .int .i64 16, .int .i64 (-64)] 3)) b l w2) (h0 : 0 ≤ r) (h1 : r < 4) :
    ∃ v : Int, w2.cell? ⟨w.heap.size, r.toNat, none⟩ = some (.int .i64 v) ∧ -64 ≤ v ∧ v ≤ 63 := by
  have e : r = 0 ∨ r = 1 ∨ r = 2 ∨ r = 3 := by omega
  rcases e with rfl | rfl | rfl | rfl
  · exact ⟨_, (h.laid hb 0 _ rfl).1, by decide, by decide⟩
  · exact ⟨_, (h.laid hb 1 _ rfl).1, by decide, by decide⟩
  · exact ⟨_, (h.laid hb 2 _ rfl).1, by decide, by decide⟩
  · exact ⟨_, (h.laid hb 3 _ rfl).1, by decide, by decide⟩

def WidthOut (w : World) (b : Nat) (lim : Int) (e : Ending) (w' : World) : Prop := ∃ r, e = .returned (.int .i64 r) ∧ -64 ≤ r ∧ r ≤ 64 ∧ Rd w' b lim ∧ Keep b w w'

theorem width (w : World) (b : Nat) (lim : Int) (h : Rd w b lim) (hl : lim ≤ 999990) :
    Calls Tryd.prog 24 #[.pointer (some ⟨b, 0, none⟩)] w (WidthOut w b (lim + 2)) := by
  have hb := h.1
  have hs := St.start h
  have hk := Keep.refl b w
  go_enter Tryd.func24, Tryd.ntmps24
  go_wp2_with (go_at_call 27; refine (pickSt hs (by omega)).mono ?_; clear hs h; rintro e w1 ⟨r, rfl, r0, r1, h⟩; replace r1 := r1 (by omega))
  all_goals try (go_ret; exact ⟨_, rfl, by omega, by omega, h.1.mono (by omega), h.2⟩)
  have hb1 := h.1.1
  have hr0 := h.1.alloc (.cells #[.int .i64 0, .int .i64 63, .int .i64 16, .int .i64 (-64)] 3)
  go_wp2_with (go_at_call 27; refine (pickSt (St.start hr0) (by omega)).mono ?_; clear hr0; rintro e w2 ⟨q, rfl, q0, q1, h2⟩; replace q1 := q1 (by omega); obtain ⟨v, hv, v0, v1⟩ := four_at hb1 h2 q0 q1)
  go_ret
  exact ⟨v, rfl, by omega, by omega, h2.1.mono (by omega), (h.2.alloc _).trans h2.2⟩

end Go.Proofs.YteohgmmenlinbacDoor
