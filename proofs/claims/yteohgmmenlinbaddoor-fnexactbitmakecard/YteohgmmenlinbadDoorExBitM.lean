/- The walk of the exact law of BitMake: it returns true, where the library's table lies in its variable. -/
import Derived.Test.YteohgmmenlinbadDoorImplM
namespace Go.Proofs.YteohgmmenlinbadDoor
open Go.ChangeShapes Go.WideShapes Go.ChangeAt Go.RowKit
set_option linter.unusedVariables false

theorem specMakeOff (w : World) (n : Int) (bl : Bool) (s0 : Nat) (p0 : Int) (hp : (Lit.int .i64 p0).wf = true) (h : ¬ ((n = 32 ∨ n = 64) ∧ -2000 ≤ p0 ∧ p0 ≤ 2000)) :
    Calls Tryd.prog 4 #[.int .i64 n, .agg #[.bool bl, .int .u64 s0, .int .i64 p0]] w (BMOut w n bl s0 p0) := by
  have hb : Below w.heap.size w (w.alloc (.cells #[.bool bl, .int .u64 s0, .int .i64 p0] 27)) := (Below.refl _ w).alloc (Nat.le_refl _) _
  have hB : Hid (BM n bl s0 p0 0 false) := by show BM n bl s0 p0 0 false; unfold BM; rw [if_neg h]; exact ⟨rfl, rfl⟩
  by_cases c1 : n = 32
  · subst c1
    by_cases c2 : p0 < -2000
    · clear h
      go_enter Tryd.func4, Tryd.ntmps4
      go_wp2
      go_ret2
      exact ⟨0, false, rfl, hb, hB.out⟩
    · have c3 : 2000 < p0 := by omega
      clear h
      go_enter Tryd.func4, Tryd.ntmps4
      go_wp2
      go_ret2
      exact ⟨0, false, rfl, hb, hB.out⟩
  · by_cases c1' : n = 64
    · subst c1'
      by_cases c2 : p0 < -2000
      · clear h
        go_enter Tryd.func4, Tryd.ntmps4
        go_wp2
        go_ret2
        exact ⟨0, false, rfl, hb, hB.out⟩
      · have c3 : 2000 < p0 := by omega
        clear h
        go_enter Tryd.func4, Tryd.ntmps4
        go_wp2
        go_ret2
        exact ⟨0, false, rfl, hb, hB.out⟩
    · clear h
      have e1 : (n == 32) = false := by simpa using c1
      have e2 : (n == 64) = false := by simpa using c1'
      go_enter Tryd.func4, Tryd.ntmps4
      go_wp2
      go_ret2
      exact ⟨0, false, rfl, hb, hB.out⟩

theorem specMakeZero (w : World) (n : Int) (hn : n = 32 ∨ n = 64) (bl : Bool) (p0 : Int) (h1 : -2000 ≤ p0) (h2 : p0 ≤ 2000) :
    Calls Tryd.prog 4 #[.int .i64 n, .agg #[.bool bl, .int .u64 ((0 : Nat) : Int), .int .i64 p0]] w (BMOut w n bl 0 p0) := by
  have hb : Below w.heap.size w (w.alloc (.cells #[.bool bl, .int .u64 0, .int .i64 p0] 27)) := (Below.refl _ w).alloc (Nat.le_refl _) _
  have hB : Hid (BM n bl 0 p0 0 true) := by show BM n bl 0 p0 0 true; unfold BM; rw [if_pos ⟨hn, h1, h2⟩, if_pos rfl]; exact ⟨rfl, rfl⟩
  rcases hn with rfl | rfl
  · go_enter Tryd.func4, Tryd.ntmps4
    go_wp2
    go_ret2
    exact ⟨0, true, rfl, hb, hB.out⟩
  · go_enter Tryd.func4, Tryd.ntmps4
    go_wp2
    go_ret2
    exact ⟨0, true, rfl, hb, hB.out⟩

theorem specMake (w : World) (n : Int) (bl : Bool) (s0 : Nat) (p0 : Int) (h2 : s0 < 18446744073709551616) (hp : (Lit.int .i64 p0).wf = true) :
    Calls Tryd.prog 4 #[.int .i64 n, .agg #[.bool bl, .int .u64 s0, .int .i64 p0]] w (BMOut w n bl s0 p0) := by
  by_cases c : (n = 32 ∨ n = 64) ∧ -2000 ≤ p0 ∧ p0 ≤ 2000
  · by_cases c3 : s0 = 0
    · subst c3
      exact specMakeZero w n c.1 bl p0 c.2.1 c.2.2
    · by_cases c1 : n = 32
      · subst c1
        refine (specMake32 w bl s0 p0 (by omega) (by omega) c.2.1 c.2.2).mono ?_
        rintro e w' ⟨o, k, rfl, q, h⟩
        refine ⟨o, k, rfl, q, ?_⟩
        unfold BM
        rw [if_pos c, if_neg c3, if_pos rfl]
        exact h
      · obtain rfl : n = 64 := by omega
        refine (specMake64 w bl s0 p0 (by omega) (by omega) c.2.1 c.2.2).mono ?_
        rintro e w' ⟨o, k, rfl, q, h⟩
        refine ⟨o, k, rfl, q, ?_⟩
        unfold BM
        rw [if_pos c, if_neg c3, if_neg c1]
        exact h
  · exact specMakeOff w n bl s0 p0 hp c

theorem toPart (w : World) (bl : Bool) (s p : Int) :
    Calls Tryd.prog 5 #[.agg #[.bool bl, .int .u64 s, .int .i64 p]] w fun e w' => e = .returned (.agg #[.bool bl, .int .u64 s, .int .i64 p]) ∧ Below w.heap.size w w' := by
  go_enter Tryd.func5, Tryd.ntmps5
  go_wp2
  refine bodyPost_ret (v := .agg #[.bool bl, .int .u64 s, .int .i64 p]) ?_ rfl ⟨rfl, ?_⟩
  · simp [results, Tryd.f5, go_sem]
  · repeat (first | exact Below.refl _ _ | refine Below.drew ?_ | refine Below.alloc ?_ (by simp; try omega) _)

set_option maxHeartbeats 1000000 in
theorem walkExMake (w : World) (n : Int) (bl : Bool) (s0 : Nat) (p0 : Int) (h2 : s0 < 18446744073709551616) (hp : (Lit.int .i64 p0).wf = true) (hT : TabAt 0 Lib.deBruijn64tab w) (hg : 0 < w.heap.size) :
    Calls Tryd.prog 3 #[.int .i64 n, .agg #[.bool bl, .int .u64 s0, .int .i64 p0]] w fun e w' => e = .returned (.bool true) ∧ Below w.heap.size w w' := by
  have hb : Below w.heap.size w (w.alloc (.cells #[.bool bl, .int .u64 s0, .int .i64 p0] 24)) := (Below.refl _ w).alloc (Nat.le_refl _) _
  have o1 := Own.new w #[.bool bl, .int .u64 s0, .int .i64 p0] 24
  have t1 := fun W => toPart W bl s0 p0
  have t2 := t1
  have sp := fun W => specMake W n bl s0 p0 h2 hp
  have im := fun W (q : Below w.heap.size w W) => implMake W n bl s0 p0 h2 hp (TabAt.below hT q hg) (Nat.lt_of_lt_of_le hg q.size)
  clear hT
  go_enter Tryd.func3, Tryd.ntmps3
  go_wp2_with first
    | (go_at_call 5; refine (t1 _).mono ?_; clear t1; rintro e w1 ⟨rfl, q⟩; replace o1 := o1.below q; replace hb := hb.trans (q.mono hb.size); clear q)
    | (go_at_call 4; refine (sp _).mono ?_; clear sp; rintro e w2 ⟨o, k, rfl, q, hA⟩; have HA : Hid (BM n bl s0 p0 o k) := hA; clear hA; replace o1 := o1.below q; replace hb := hb.trans (q.mono hb.size); clear q; have d0 := o1.cell 0 _ rfl; have d1 := o1.cell 1 _ rfl; have d2 := o1.cell 2 _ rfl)
    | (go_at_call 5; refine (t2 _).mono ?_; clear t2; rintro e w3 ⟨rfl, q⟩; replace hb := hb.trans (q.mono hb.size); clear q)
    | (go_at_call 6; refine (im _ hb).mono ?_; clear im; rintro e w4 ⟨o', k', rfl, q, hA'⟩; obtain ⟨e1, e2⟩ := BM_same HA.out hA'; subst e1 e2; replace hb := hb.trans (q.mono hb.size); clear q hA' HA)
  go_ret
  exact ⟨rfl, hb⟩

end Go.Proofs.YteohgmmenlinbadDoor
