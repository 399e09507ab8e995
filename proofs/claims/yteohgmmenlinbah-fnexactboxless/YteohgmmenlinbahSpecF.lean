/- The model's BitBelow and BitAbove: contracts. -/
import Derived.Test.YteohgmmenlinbahSpecE
namespace Go.Proofs.Yteohgmmenlinbah
open Go.ChangeShapes Go.WideShapes Go.ChangeAt Go.RowKit
set_option linter.unusedVariables false

theorem specWide (w : World) (n : Int) (h1 : -2139095040 ≤ n) (h2 : n ≤ 2139095040) :
    Calls Try.prog 83 #[.int .i64 n] w fun e w' => e = .returned (.int .i64 (widI n)) ∧ Below w.heap.size w w' := by
  have hw := specWiden w n (wf64 (by omega) (by omega))
  rw [(okI_32 n).2 ⟨h1, h2⟩, if_pos rfl] at hw
  generalize widI n = v at *
  go_enter Try.func83, Try.ntmps83
  go_wp2_with (go_at_call 94; go_must (refine hw.mono ?_); clear hw; rintro e w1 ⟨rfl, hb⟩)
  go_ret
  exact ⟨rfl, hb⟩

theorem specBelowNo (w : World) (x : Int) (hx : (Lit.int .i64 x).wf = true) (h : okI 64 x = false) :
    Calls Try.prog 72 #[.int .i64 x] w (WidOut w 0 false) := by
  have ho := specOk w 64 x hx
  rw [h] at ho
  go_enter Try.func72, Try.ntmps72
  go_wp2_with (go_at_call 77; go_must (refine ho.mono ?_); clear ho; rintro e w1 ⟨rfl, rfl⟩)
  go_ret2
  exact ⟨rfl, Below.refl _ _⟩

theorem specBelow (w : World) (x : Int) (h1 : -9218868437227405312 ≤ x) (h2 : x ≤ 9218868437227405312) :
    Calls Try.prog 72 #[.int .i64 x] w (BelOut w x) := by
  have ho := specOk w 64 x (wf64 (by omega) (by omega))
  rw [(okI_64 x).2 ⟨h1, h2⟩] at ho
  have hstart : widI (-2139095040) ≤ x := by rw [widI_neg, widI_top]; exact h1
  have HS : Hid (widI (-2139095040) ≤ x) := hstart
  clear hstart
  go_enter Try.func72, Try.ntmps72
  go_wp2_with first | (go_at_call 77; go_must (refine ho.mono ?_); clear ho; rintro e w1 ⟨rfl, rfl⟩) | go_in
  go_loopg [4, 5] 4278190080 (fun g lv hv wr => ∃ lo hi : Int, (hi - lo).toNat ≤ g ∧ lv = .int .i64 lo ∧ hv = .int .i64 hi ∧ -2139095040 ≤ lo ∧ lo ≤ hi ∧ hi ≤ 2139095040 ∧
    Hid (widI lo ≤ x ∧ (hi < 2139095040 → x < widI (hi + 1)) ∧ Below w.heap.size w wr))
  case atStart => exact ⟨-2139095040, 2139095040, by decide, rfl, rfl, by omega, by omega, by omega, ⟨HS.out, fun h => by omega, Below.refl _ _⟩⟩
  case round =>
    clear HS
    obtain ⟨lo, hi, hg, rfl, rfl, hlo, hle, hhi, HR⟩ := hrel
    by_cases c : lo < hi
    · have hm := specWide wr (hi - (hi - lo) / 2) (by omega) (by omega)
      have M : Hid (lo < hi - (hi - lo) / 2 ∧ hi - (hi - lo) / 2 ≤ hi) := ⟨by omega, by omega⟩
      by_cases c2 : widI (hi - (hi - lo) / 2) ≤ x
      · have C2 : Hid (widI (hi - (hi - lo) / 2) ≤ x) := c2
        generalize widI (hi - (hi - lo) / 2) = v at hm c2
        go_wp2_with (go_at_call 83; go_must (refine hm.mono ?_); clear hm; rintro e w1 ⟨rfl, hb⟩)
        go_roundg (hi - (hi - (hi - lo) / 2)).toNat
        case measure => omega
        case rel =>
          obtain ⟨q1, q2, q3⟩ := HR.out
          obtain ⟨m1, m2⟩ := M.out
          exact ⟨hi - (hi - lo) / 2, hi, Nat.le_refl _, rfl, rfl, by omega, by omega, by omega, ⟨C2.out, q2, q3.trans (hb.mono q3.size)⟩⟩
      · have C2 : Hid (x < widI (hi - (hi - lo) / 2)) := Int.not_le.1 c2
        generalize widI (hi - (hi - lo) / 2) = v at hm c2
        have c3 : ¬ v ≤ x := c2
        go_wp2_with (go_at_call 83; go_must (refine hm.mono ?_); clear hm; rintro e w1 ⟨rfl, hb⟩)
        go_roundg (hi - (hi - lo) / 2 - 1 - lo).toNat
        case measure => omega
        case rel =>
          obtain ⟨q1, q2, q3⟩ := HR.out
          obtain ⟨m1, m2⟩ := M.out
          refine ⟨lo, hi - (hi - lo) / 2 - 1, Nat.le_refl _, rfl, rfl, by omega, by omega, by omega, ⟨q1, fun _ => ?_, q3.trans (hb.mono q3.size)⟩⟩
          rw [show hi - (hi - lo) / 2 - 1 + 1 = hi - (hi - lo) / 2 by omega]
          exact C2.out
    · have e : lo = hi := by omega
      subst e
      go_wp2
      go_ret2
      obtain ⟨q1, q2, q3⟩ := HR.out
      exact ⟨lo, rfl, ⟨hlo, hhi, q1, q2⟩, q3⟩

theorem specAbove (w : World) (x : Int) (h1 : -9218868437227405312 ≤ x) (h2 : x ≤ 9218868437227405312) :
    Calls Try.prog 73 #[.int .i64 x] w fun e w' => ∃ n, e = .returned (.tuple #[.int .i64 (-n), .bool true]) ∧ IsBelow (-x) n ∧ Below w.heap.size w w' := by
  have hb := specBelow w (-x) (by omega) (by omega)
  go_enter Try.func73, Try.ntmps73
  go_wp2_with (go_at_call 72; go_must (refine hb.mono ?_); clear hb; rintro e w1 ⟨n, rfl, hn, hb⟩; have hn1 := hn.1; have hn2 := hn.2.1)
  go_ret2
  exact ⟨n, rfl, hn, hb⟩

end Go.Proofs.Yteohgmmenlinbah
