/- The walks of the exact laws of BitUp, BitDown and BitPartOf: each returns true. -/
import Derived.Test.YteohgmmenlinbadImplU
import Derived.Test.YteohgmmenlinbadImplP
import Derived.Test.YteohgmmenlinbadSpecP
namespace Go.Proofs.Yteohgmmenlinbad
open Go.ChangeShapes Go.WideShapes Go.ChangeAt Go.RowKit
set_option linter.unusedVariables false

theorem specUp (w : World) (n x : Int) (hx : (Lit.int .i64 x).wf = true) :
    Calls Try.prog 8 #[.int .i64 n, .int .i64 x] w fun e w' => e = .returned (.int .i64 (upI n x)) ∧ w = w' := by
  have ho := specOk w n x hx
  have hT := bitTop w n
  have tb := topI_bounds n
  unfold upI
  by_cases h : okI n x = true
  · rw [if_pos h]
    rw [h] at ho
    have hb := okI_bounds h
    generalize topI n = t at *
    clear h hx
    by_cases k : x = t
    · rw [if_pos k]
      have k' : (x == t) = true := by simp; exact k
      clear k
      go_enter Try.func8, Try.ntmps8
      go_wp2_with first | (go_at_call 19; go_must (refine ho.mono ?_); clear ho; rintro e w1 ⟨rfl, rfl⟩) | (go_at_call 20; go_must (refine hT.mono ?_); clear hT; rintro e w2 ⟨rfl, rfl⟩)
      go_ret
      exact ⟨rfl, rfl⟩
    · rw [if_neg k]
      have k' : (x == t) = false := by simp; exact k
      have k2 : x < t := by omega
      clear k
      go_enter Try.func8, Try.ntmps8
      go_wp2_with first | (go_at_call 19; go_must (refine ho.mono ?_); clear ho; rintro e w1 ⟨rfl, rfl⟩) | (go_at_call 20; go_must (refine hT.mono ?_); clear hT; rintro e w2 ⟨rfl, rfl⟩)
      go_ret
      exact ⟨rfl, rfl⟩
  · rw [if_neg h]
    rw [Bool.not_eq_true] at h
    rw [h] at ho
    clear h tb
    go_enter Try.func8, Try.ntmps8
    go_wp2_with (go_at_call 19; go_must (refine ho.mono ?_); clear ho; rintro e w1 ⟨rfl, rfl⟩)
    go_ret
    exact ⟨rfl, rfl⟩

theorem okI_neg {n x : Int} : okI n (-x) = okI n x := by
  unfold okI
  rw [Bool.eq_iff_iff]
  simp only [Bool.and_eq_true, decide_eq_true_eq]
  constructor <;> intro ⟨a, b, c⟩ <;> exact ⟨a, by omega, by omega⟩

theorem wrap_neg {x : Int} (h1 : -9223372036854775808 ≤ x) (h2 : x ≤ 9223372036854775807) : wrap64 (-x) = if x = -9223372036854775808 then x else -x := by
  unfold wrap64
  split <;> omega

theorem down_up {n x : Int} (hx : (Lit.int .i64 x).wf = true) : wrap64 (-(upI n (wrap64 (-x)))) = downI n x := by
  have hb : -9223372036854775808 ≤ x ∧ x ≤ 9223372036854775807 := by
    simpa [Lit.wf, IntKind.min, IntKind.max, IntKind.signed, IntKind.bits, Bool.and_eq_true, decide_eq_true_eq] using hx
  have tb := topI_bounds n
  rw [wrap_neg hb.1 hb.2]
  by_cases k : x = -9223372036854775808
  · rw [if_pos k]
    have : okI n x = false := by
      rw [Bool.eq_false_iff]
      intro h
      have := okI_bounds h
      omega
    unfold upI downI
    rw [this]
    simp [wrap64]
  · rw [if_neg k]
    unfold upI downI
    rw [okI_neg]
    by_cases h : okI n x = true
    · rw [if_pos h, if_pos h]
      have := okI_bounds h
      unfold wrap64
      by_cases e : x = -(topI n)
      · rw [if_pos (by omega), if_pos e]; omega
      · rw [if_neg (by omega), if_neg e]; omega
    · rw [if_neg h, if_neg h]
      simp [wrap64]

theorem specDown (w : World) (n x : Int) (hx : (Lit.int .i64 x).wf = true) :
    Calls Try.prog 10 #[.int .i64 n, .int .i64 x] w fun e w' => e = .returned (.int .i64 (downI n x)) ∧ w = w' := by
  have hu := specUp w n (wrap64 (-x)) (wrap64_wf _)
  rw [← down_up hx]
  generalize upI n (wrap64 (-x)) = u at *
  go_enter Try.func10, Try.ntmps10
  go_wp2_with (go_at_call 8; go_must (refine hu.mono ?_); clear hu; rintro e w1 ⟨rfl, rfl⟩)
  go_ret
  exact ⟨rfl, rfl⟩

theorem walkExUp (n : Int) (hn : (Lit.int .i64 n).wf = true) (x : Int) (hx : (Lit.int .i64 x).wf = true) (w : World) :
    Calls Try.prog 3 #[.int .i64 n, .int .i64 x] w fun e w' => e = .returned (.bool true) ∧ Below w.heap.size w w' := by
  have hs := specUp w n x hx
  have hi := fun W => implUp W n x hx
  generalize upI n x = v at *
  go_enter Try.func3, Try.ntmps3
  go_wp2_with first
    | (go_at_call 8; go_must (refine hs.mono ?_); clear hs; rintro e w1 ⟨rfl, rfl⟩)
    | (go_at_call 9; go_must (refine (hi _).mono ?_); clear hi; rintro e w2 ⟨rfl, q2⟩)
  go_ret
  exact ⟨rfl, q2⟩

theorem walkExDown (n : Int) (hn : (Lit.int .i64 n).wf = true) (x : Int) (hx : (Lit.int .i64 x).wf = true) (w : World) :
    Calls Try.prog 4 #[.int .i64 n, .int .i64 x] w fun e w' => e = .returned (.bool true) ∧ Below w.heap.size w w' := by
  have hs := specDown w n x hx
  have hi := fun W => implDown W n x hx
  generalize downI n x = v at *
  go_enter Try.func4, Try.ntmps4
  go_wp2_with first
    | (go_at_call 10; go_must (refine hs.mono ?_); clear hs; rintro e w1 ⟨rfl, rfl⟩)
    | (go_at_call 11; go_must (refine (hi _).mono ?_); clear hi; rintro e w2 ⟨rfl, q2⟩)
  go_ret
  exact ⟨rfl, q2⟩

theorem eqPart (w : World) (b : Bool) (s p : Int) :
    Calls Try.prog 14 #[.agg #[.bool b, .int .u64 s, .int .i64 p], .agg #[.bool b, .int .u64 s, .int .i64 p]] w fun e w' => e = .returned (.bool true) ∧ Below w.heap.size w w' := by
  go_enter Try.func14, Try.ntmps14
  go_wp2
  go_ret
  exact ⟨rfl, by repeat (first | exact Below.refl _ _ | refine Below.drew ?_ | refine Below.alloc ?_ (by simp; try omega) _)⟩

theorem walkExPart (n : Int) (hn : (Lit.int .i64 n).wf = true) (x : Int) (hx : (Lit.int .i64 x).wf = true) (w : World) :
    Calls Try.prog 5 #[.int .i64 n, .int .i64 x] w fun e w' => e = .returned (.bool true) ∧ Below w.heap.size w w' := by
  have hs := specPart w n x hx
  have hi := fun W => implPart W n x hx
  have gv : ∃ b s p, (if finI n x = true then partV n x else noPart) = .agg #[.bool b, .int .u64 s, .int .i64 p] := by split <;> exact ⟨_, _, _, rfl⟩
  obtain ⟨b, s, p, ev⟩ := gv
  rw [ev] at hs hi
  have he := fun W => eqPart W b s p
  generalize finI n x = k at *
  clear ev
  go_enter Try.func5, Try.ntmps5
  go_wp2_with first
    | (go_at_call 12; go_must (refine hs.mono ?_); clear hs; rintro e w1 ⟨rfl, q1⟩)
    | (go_at_call 13; go_must (refine (hi _).mono ?_); clear hi; rintro e w2 ⟨rfl, q2⟩; have o1 := (Own.new w1 _ _).below q2; have hb : Below w.heap.size w w2 := (q1.alloc q1.size _).trans (q2.mono (by have := q1.size; simp; omega)); have c0 := (o1.alloc (.cells #[.bool b, .int .u64 s, .int .i64 p] 26)).cell 0 _ rfl; have c1 := (o1.alloc (.cells #[.bool b, .int .u64 s, .int .i64 p] 26)).cell 1 _ rfl; have c2 := (o1.alloc (.cells #[.bool b, .int .u64 s, .int .i64 p] 26)).cell 2 _ rfl)
    | (go_at_call 14; go_must (refine (he _).mono ?_); clear he; rintro e w3 ⟨rfl, q3⟩)
  all_goals
    go_ret
    exact ⟨rfl, (hb.alloc hb.size _).trans (q3.mono (by have := hb.size; simp; omega))⟩

end Go.Proofs.Yteohgmmenlinbad
