/- The contracts of the reader's 'wide', and of the drawing of a wide and of a narrow number. -/
import Derived.Test.YteohgmmenlinbabJA
import Derived.Test.YteohgmmenlinbabSpecE
namespace Go.Proofs.Yteohgmmenlinbab
open Go.ChangeShapes Go.WideShapes Go.ChangeAt Go.RowKit
set_option linter.unusedVariables false

def NumOut (w : World) (e : Ending) (w' : World) : Prop := ∃ y, e = .returned (.int .i64 y) ∧ (Lit.int .i64 y).wf = true ∧ Below w.heap.size w w'

def WideOut (w : World) (b : Nat) (e : Ending) (w' : World) : Prop := ∃ y, e = .returned (.int .i64 y) ∧ (Lit.int .i64 y).wf = true ∧ Keep b w w'

theorem widenB (w : World) (n : Int) (hx : (Lit.int .i64 n).wf = true) :
    Calls Try.prog 102 #[.int .i64 n] w fun e w' => ∃ v k, e = .returned (.tuple #[.int .i64 v, .bool k]) ∧ -9218868437227405312 ≤ v ∧ v ≤ 9218868437227405312 ∧ Below w.heap.size w w' := by
  refine (specWiden w n hx).mono ?_
  rintro e w' ⟨rfl, q⟩
  refine ⟨_, _, rfl, ?_, ?_, q⟩
  · by_cases h : okI 32 n = true
    · rw [if_pos h]; have := (okI_32 n).1 h; exact (widI_bounds this.1 this.2).1
    · rw [if_neg h]; decide
  · by_cases h : okI 32 n = true
    · rw [if_pos h]; have := (okI_32 n).1 h; exact (widI_bounds this.1 this.2).2
    · rw [if_neg h]; decide

theorem wide (w : World) (b : Nat) (lim : Int) (h : Rd w b lim) (hl : lim ≤ 900000) :
    Calls Try.prog 94 #[.pointer (some ⟨b, 0, none⟩)] w (WideOut w b) := by
  have hs := St.start h
  go_enter Try.func94, Try.ntmps94
  go_wp2_with first
    | (go_at_call 42; refine (pickSt hs (by omega)).mono ?_; clear hs h; rintro e w1 ⟨r, rfl, r0, r1, h⟩; replace r1 := r1 (by omega))
    | (go_at_call 98; refine (ordSt h (by omega)).mono ?_; clear h; rintro e w2 ⟨y, rfl, y0, y1, h2⟩)
    | (go_at_call 102; refine (widenB _ y (wf64 (by omega) (by omega))).mono ?_; rintro e w3 ⟨v, k, rfl, v0, v1, q⟩; have h3 : St w b (lim + 1 + 20) w3 := ⟨h2.1.below q, h2.2.trans (Keep.of_below b q)⟩; clear q h2)
    | (go_at_call 42; refine (pickSt h3 (by omega)).mono ?_; clear h3; rintro e w4 ⟨z, rfl, z0, z1, h4⟩; replace z1 := z1 (by omega))
  · go_ret
    exact ⟨_, rfl, wf64 (by omega) (by omega), h4.2⟩
  · go_ret
    exact ⟨_, rfl, wf64 (by omega) (by omega), h2.2⟩

theorem Code8.below' {w w' : World} {a : Option Addr} {len : Nat} (h : Code8 w a len) (q : Below w.heap.size w w') : Code8 w' a len := by
  rcases h with h | ⟨rb, ro, ha, hlt, hcell⟩
  · exact .inl h
  · refine .inr ⟨rb, ro, ha, Nat.lt_of_lt_of_le hlt q.size, fun j hj => ?_⟩
    obtain ⟨z, z0, z1, hz⟩ := hcell j hj
    exact ⟨z, z0, z1, (q.cell (p := ⟨rb, ro + j, none⟩) hlt).trans hz⟩

end Go.Proofs.Yteohgmmenlinbab
