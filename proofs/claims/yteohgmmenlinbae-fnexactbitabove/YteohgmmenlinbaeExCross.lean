/- The walks of the exact laws of BitWiden, BitBelow and BitAbove: each returns true. -/
import Derived.Test.YteohgmmenlinbaeImplE
import Derived.Test.YteohgmmenlinbaeSpecF
namespace Go.Proofs.Yteohgmmenlinbae
open Go.ChangeShapes Go.WideShapes Go.ChangeAt Go.RowKit
set_option linter.unusedVariables false

theorem i64b {n : Int} (h : (Lit.int .i64 n).wf = true) : -9223372036854775808 ≤ n ∧ n ≤ 9223372036854775807 := by
  simpa [Lit.wf, IntKind.min, IntKind.max, IntKind.signed, IntKind.bits, Bool.and_eq_true, decide_eq_true_eq] using h

theorem walkWiden (n : Int) (hx : (Lit.int .i64 n).wf = true) (w : World) :
    Calls Try.prog 3 #[.int .i64 n] w fun e w' => e = .returned (.bool true) ∧ Below w.heap.size w w' := by
  have hs := specWiden w n hx
  have hi := fun W => implWiden W n hx
  generalize (if okI 32 n = true then widI n else 0) = v at *
  generalize okI 32 n = k at *
  go_enter Try.func3, Try.ntmps3
  go_wp2_with first
    | (go_at_call 9; go_must (refine hs.mono ?_); clear hs; rintro e w1 ⟨rfl, q⟩)
    | (go_at_call 10; go_must (refine (hi _).mono ?_); clear hi; rintro e w2 ⟨rfl, q2⟩)
  all_goals
    go_ret
    exact ⟨rfl, q.trans (q2.mono q.size)⟩

theorem implAbove (w : World) (x : Int) (h1 : -9218868437227405312 ≤ x) (h2 : x ≤ 9218868437227405312) :
    Calls Try.prog 14 #[.int .i64 x] w fun e w' => ∃ n, e = .returned (.tuple #[.int .i64 (-n), .bool true]) ∧ IsBelow (-x) n ∧ Below w.heap.size w w' := by
  have ho := implOk64 w x (wf64 (by omega) (by omega))
  rw [(okI_64 x).2 ⟨h1, h2⟩] at ho
  have hb := fun W => implBelow W (-x) (by omega) (by omega)
  go_enter Try.func14, Try.ntmps14
  go_wp2_with first
    | (go_at_call 27; go_must (refine ho.mono ?_); clear ho; rintro e w1 ⟨rfl, q⟩)
    | (go_at_call 12; go_must (refine (hb _).mono ?_); clear hb; rintro e w2 ⟨n, rfl, hn, q2⟩; have n1 := hn.1; have n2 := hn.2.1)
  go_ret2
  exact ⟨n, rfl, hn, q.trans (q2.mono q.size)⟩

theorem implAboveNo (w : World) (x : Int) (hx : (Lit.int .i64 x).wf = true) (h : okI 64 x = false) :
    Calls Try.prog 14 #[.int .i64 x] w (WidOut w 0 false) := by
  have ho := implOk64 w x hx
  rw [h] at ho
  go_enter Try.func14, Try.ntmps14
  go_wp2_with (go_at_call 27; go_must (refine ho.mono ?_); clear ho; rintro e w1 ⟨rfl, q⟩)
  go_ret2
  exact ⟨rfl, q⟩

theorem specAboveNo (w : World) (x : Int) (hx : (Lit.int .i64 x).wf = true) (h : okI 64 x = false) :
    Calls Try.prog 13 #[.int .i64 x] w (WidOut w 0 false) := by
  have hw : (Lit.int .i64 (wrap64 (-x))).wf = true := wrap64_wf _
  have hn : okI 64 (wrap64 (-x)) = false := by
    rw [Bool.eq_false_iff, Ne, okI_64] at h ⊢
    have := i64b hx
    intro hq
    apply h
    unfold wrap64 at hq
    omega
  have hb := specBelowNo w (wrap64 (-x)) hw hn
  clear h hn hw
  go_enter Try.func13, Try.ntmps13
  go_wp2_with (go_at_call 11; go_must (refine hb.mono ?_); clear hb; rintro e w1 ⟨rfl, q⟩)
  go_ret2
  exact ⟨rfl, q⟩

theorem walkBelow (x : Int) (hx : (Lit.int .i64 x).wf = true) (w : World) :
    Calls Try.prog 4 #[.int .i64 x] w fun e w' => e = .returned (.bool true) ∧ Below w.heap.size w w' := by
  by_cases h : okI 64 x = true
  · have hb := (okI_64 x).1 h
    have hs := specBelow w x hb.1 hb.2
    have hi := fun W => implBelow W x hb.1 hb.2
    clear h hb
    go_enter Try.func4, Try.ntmps4
    go_wp2_with first
      | (go_at_call 11; go_must (refine hs.mono ?_); clear hs; rintro e w1 ⟨n, rfl, hn, q⟩; have Hn : Hid (IsBelow x n) := hn; clear hn)
      | (go_at_call 12; go_must (refine (hi _).mono ?_); clear hi; rintro e w2 ⟨m, rfl, hm, q2⟩; obtain rfl := isBelow_unique Hn.out hm; clear hm)
    all_goals
      go_ret
      exact ⟨rfl, q.trans (q2.mono q.size)⟩
  · rw [Bool.not_eq_true] at h
    have hs := specBelowNo w x hx h
    have hi := fun W => implBelowNo W x hx h
    clear h
    go_enter Try.func4, Try.ntmps4
    go_wp2_with first
      | (go_at_call 11; go_must (refine hs.mono ?_); clear hs; rintro e w1 ⟨rfl, q⟩)
      | (go_at_call 12; go_must (refine (hi _).mono ?_); clear hi; rintro e w2 ⟨rfl, q2⟩)
    all_goals
      go_ret
      exact ⟨rfl, q.trans (q2.mono q.size)⟩

theorem walkAbove (x : Int) (hx : (Lit.int .i64 x).wf = true) (w : World) :
    Calls Try.prog 5 #[.int .i64 x] w fun e w' => e = .returned (.bool true) ∧ Below w.heap.size w w' := by
  by_cases h : okI 64 x = true
  · have hb := (okI_64 x).1 h
    have hs := specAbove w x hb.1 hb.2
    have hi := fun W => implAbove W x hb.1 hb.2
    clear h hb
    go_enter Try.func5, Try.ntmps5
    go_wp2_with first
      | (go_at_call 13; go_must (refine hs.mono ?_); clear hs; rintro e w1 ⟨n, rfl, hn, q⟩; have Hn : Hid (IsBelow (-x) n) := hn; clear hn)
      | (go_at_call 14; go_must (refine (hi _).mono ?_); clear hi; rintro e w2 ⟨m, rfl, hm, q2⟩; obtain rfl := isBelow_unique Hn.out hm; clear hm)
    all_goals
      go_ret
      exact ⟨rfl, q.trans (q2.mono q.size)⟩
  · rw [Bool.not_eq_true] at h
    have hs := specAboveNo w x hx h
    have hi := fun W => implAboveNo W x hx h
    clear h
    go_enter Try.func5, Try.ntmps5
    go_wp2_with first
      | (go_at_call 13; go_must (refine hs.mono ?_); clear hs; rintro e w1 ⟨rfl, q⟩)
      | (go_at_call 14; go_must (refine (hi _).mono ?_); clear hi; rintro e w2 ⟨rfl, q2⟩)
    all_goals
      go_ret
      exact ⟨rfl, q.trans (q2.mono q.size)⟩

end Go.Proofs.Yteohgmmenlinbae
