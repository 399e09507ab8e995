/- The program's BitAbove: its contract. -/
import Derived.Test.YteohgmmenlinbabImplE
namespace Go.Proofs.Yteohgmmenlinbab
open Go.ChangeShapes Go.WideShapes Go.ChangeAt Go.RowKit
set_option linter.unusedVariables false

theorem implAbove (w : World) (x : Int) (h1 : -9218868437227405312 ≤ x) (h2 : x ≤ 9218868437227405312) :
    Calls Try.prog 96 #[.int .i64 x] w fun e w' => ∃ n, e = .returned (.tuple #[.int .i64 (-n), .bool true]) ∧ IsBelow (-x) n ∧ Below w.heap.size w w' := by
  have ho := implOk64 w x (wf64 (by omega) (by omega))
  rw [(okI_64 x).2 ⟨h1, h2⟩] at ho
  have hb := fun W => implBelow W (-x) (by omega) (by omega)
  go_enter Try.func96, Try.ntmps96
  go_wp2_with first
    | (go_at_call 46; go_must (refine ho.mono ?_); clear ho; rintro e w1 ⟨rfl, q⟩)
    | (go_at_call 95; go_must (refine (hb _).mono ?_); clear hb; rintro e w2 ⟨n, rfl, hn, q2⟩; have n1 := hn.1; have n2 := hn.2.1)
  go_ret2
  exact ⟨n, rfl, hn, q.trans (q2.mono q.size)⟩

theorem implAboveNo (w : World) (x : Int) (hx : (Lit.int .i64 x).wf = true) (h : okI 64 x = false) :
    Calls Try.prog 96 #[.int .i64 x] w (WidOut w 0 false) := by
  have ho := implOk64 w x hx
  rw [h] at ho
  go_enter Try.func96, Try.ntmps96
  go_wp2_with (go_at_call 46; go_must (refine ho.mono ?_); clear ho; rintro e w1 ⟨rfl, q⟩)
  go_ret2
  exact ⟨rfl, q⟩

/-- Both neighbours of a wide number, in numbers. -/
theorem cross_facts {n lo m : Int} (h1 : -9218868437227405312 ≤ n) (h2 : n ≤ 9218868437227405312) (hl : IsBelow n lo) (hm : IsBelow (-n) m) :
    widI lo ≤ n ∧ n ≤ widI (-m) ∧ lo ≤ -m ∧ -m - lo ≤ 1 ∧ (widI lo = n → lo = -m) := by
  obtain ⟨l1, l2, l3, l4⟩ := hl
  obtain ⟨m1, m2, m3, m4⟩ := hm
  have a1 : n ≤ widI (-m) := by rw [widI_neg]; omega
  have a2 : lo ≤ -m := by
    by_cases k : lo ≤ -m
    · exact k
    · have := widI_lt (a := -m) (b := lo) (by omega) (by omega) l2
      omega
  have a3 : m < 2139095040 → widI (-m - 1) < n := by
    intro k
    have := m4 k
    rw [show -m - 1 = -(m + 1) by omega, widI_neg]
    omega
  refine ⟨l3, a1, a2, ?_, ?_⟩
  · by_cases k : -m - lo ≤ 1
    · exact k
    · have b1 := l4 (by omega)
      have b2 := a3 (by omega)
      have b3 := widI_le (a := lo + 1) (b := -m - 1) (by omega) (by omega) (by omega)
      omega
  · intro e
    by_cases k : lo = -m
    · exact k
    · have b2 := a3 (by omega)
      have b3 := widI_le (a := lo) (b := -m - 1) (by omega) (by omega) (by omega)
      omega

theorem isBelow_self {s : Int} (h1 : -2139095040 ≤ s) (h2 : s ≤ 2139095040) : IsBelow (widI s) s :=
  ⟨h1, h2, Int.le_refl _, fun h => widI_lt (by omega) h1 (by omega)⟩

theorem widI_lt_iff {s t : Int} (s1 : -2139095040 ≤ s) (s2 : s ≤ 2139095040) (t1 : -2139095040 ≤ t) (t2 : t ≤ 2139095040) : (decide (s < t) == decide (widI s < widI t)) = true := by
  by_cases h : s < t
  · have := widI_lt h s1 t2
    simp [h, this]
  · have := widI_le (a := t) (b := s) (by omega) t1 s2
    have : ¬ widI s < widI t := by omega
    simp [h, this]

end Go.Proofs.Yteohgmmenlinbab
