/- The walk of laws.FnBitMiddle: it returns true, whatever bytes come in. -/
import Derived.Test.YteohgmmenlinbaaDrawG
import Derived.Test.YteohgmmenlinbaaMid
namespace Go.Proofs.Yteohgmmenlinbaa
open Go.ChangeShapes Go.WideShapes Go.ChangeAt Go.RowKit
set_option linter.unusedVariables false

theorem drawMid (w : World) (a : Option Addr) (len cap : Nat) (hc : Code8 w a len) (hl : len ≤ cap) (hm : len ≤ 1048576) :
    Calls Try.prog 32 #[.slice a len cap] w (TwoOut w) := by
  have ho := two w a len cap hc hl hm
  go_enter Try.func32, Try.ntmps32
  go_wp2_with (go_at_call 76; go_must (refine ho.mono ?_); clear ho hc; rintro e w1 ⟨x, y, rfl, wx, wy, hb⟩)
  go_ret2
  exact ⟨x, y, rfl, wx, wy, hb⟩

theorem halves {lo hi : Int} (h1 : (Lit.int .i64 lo).wf = true) (h2 : (Lit.int .i64 hi).wf = true) (h : lo ≤ hi) :
    (IntKind.u64.wrap (gapI lo (midI lo hi) + gapI (midI lo hi) hi) == gapI lo hi) = true ∧ gapI lo (midI lo hi) ≤ gapI (midI lo hi) hi ∧
      IntKind.u64.wrap (gapI (midI lo hi) hi - gapI lo (midI lo hi)) ≤ 1 := by
  obtain ⟨m1, m2, _⟩ := mid_bounds h1 h2
  have m3 := m2 h
  have a1 := i64_bounds h1
  have a2 := i64_bounds h2
  have e : midI lo hi = lo + (hi - lo) / 2 := by unfold midI gapI; rw [if_neg (by omega)]
  generalize midI lo hi = m at *
  unfold gapI
  rw [if_neg (by omega), if_neg (by omega), if_neg (by omega), IntKind.wrap_u64, IntKind.wrap_u64]
  simp only [beq_iff_eq]
  omega

theorem walkMid (w : World) (a : Option Addr) (len cap : Nat) (hc : len ≤ 1048576 → Code8 w a len) (hl : len ≤ cap) (hm : len ≤ maxLen) :
    Calls Try.prog 7 #[.slice a len cap] w fun e w' => e = .returned (.bool true) ∧ Below w.heap.size w w' := by
  by_cases hbig : 1048576 < len
  · have hbig' : 1048576 < (len : Int) := by omega
    unfold maxLen at hm
    go_enter Try.func7, Try.ntmps7
    go_wp2
    go_ret
    exact ⟨rfl, Below.refl _ _⟩
  · have ho := drawMid w a len cap (hc (by omega)) hl (by omega)
    have hbig' : ¬ 1048576 < (len : Int) := by omega
    clear hc hm
    go_enter Try.func7, Try.ntmps7
    go_wp2_with (go_at_call 32; go_must (refine ho.mono ?_); clear ho; rintro e w1 ⟨lo, hi, rfl, wx, wy, hb⟩)
    have hB : Hid (Below w.heap.size w w1) := hb
    clear hb
    by_cases h : hi < lo
    · have e1 : gapI lo hi = 0 := by unfold gapI; rw [if_pos h]
      have e2 : midI lo hi = lo := by unfold midI; rw [e1]; simp
      have g1 := implGap w1 lo hi wx wy
      have g2 := specGap w1 lo hi wx wy
      have g3 := implMid w1 lo hi wx wy
      rw [e1] at g1 g2
      rw [e2] at g3
      clear e1 e2
      go_wp2_with first
        | (go_at_call 14; go_must (refine g1.mono ?_); clear g1; rintro e w2 ⟨rfl, rfl⟩)
        | (go_at_call 34; go_must (refine g2.mono ?_); clear g2; rintro e w2 ⟨rfl, rfl⟩)
        | (go_at_call 33; go_must (refine g3.mono ?_); clear g3; rintro e w2 ⟨rfl, rfl⟩)
      go_ret
      exact ⟨rfl, hB.out⟩
    · have g1 := implGap w1 lo hi wx wy
      have g2 := specGap w1 lo hi wx wy
      have g3 := implMid w1 lo hi wx wy
      obtain ⟨m1, m2, wm⟩ := mid_bounds wx wy
      have m3 := m2 (by omega)
      obtain ⟨s1, s2, s3⟩ := halves wx wy (by omega)
      clear m2
      have g4 := implGap w1 lo (midI lo hi) wx wm
      have g5 := implGap w1 (midI lo hi) hi wm wy
      generalize midI lo hi = m at *
      generalize gapI lo hi = g at *
      generalize gapI lo m = x at *
      generalize gapI m hi = y at *
      go_wp2_with first
        | (go_at_call 34; go_must (refine g2.mono ?_); clear g2; rintro e w2 ⟨rfl, rfl⟩)
        | (go_at_call 33; go_must (refine g3.mono ?_); clear g3; rintro e w2 ⟨rfl, rfl⟩)
        | (go_at_call 14; refine g1.mono ?_; clear g1; rintro e w2 ⟨rfl, rfl⟩)
        | (go_at_call 14; refine g4.mono ?_; clear g4; rintro e w2 ⟨rfl, rfl⟩)
        | (go_at_call 14; refine g5.mono ?_; clear g5; rintro e w2 ⟨rfl, rfl⟩)
      go_ret
      exact ⟨rfl, hB.out⟩

end Go.Proofs.Yteohgmmenlinbaa
