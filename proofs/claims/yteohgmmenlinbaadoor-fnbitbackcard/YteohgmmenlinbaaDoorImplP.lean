/- The program's BitPartOf: its contract. -/
import Derived.Test.YteohgmmenlinbaaDoorImplA
import Derived.Test.YteohgmmenlinbaaDoorSpecB
import Derived.Test.YteohgmmenlinbaaDoorQuiet
import Derived.Test.YteohgmmenlinbaaDoorOwn
import Derived.Test.YteohgmmenlinbaaDoorNumF
namespace Go.Proofs.YteohgmmenlinbaaDoor
open Go.ChangeShapes Go.WideShapes Go.ChangeAt Go.RowKit
set_option linter.unusedVariables false

theorem cne (w : World) : Calls Tryd.prog 49 #[.agg #[]] w fun e w' => e = .returned (.int .i64 8) ∧ Below w.heap.size w w' := by
  go_enter Tryd.func49, Tryd.ntmps49
  go_wp2
  go_ret
  exact ⟨rfl, (Below.refl _ _).alloc (Nat.le_refl _) _⟩
theorem cnf (w : World) : Calls Tryd.prog 50 #[.agg #[]] w fun e w' => e = .returned (.int .i64 23) ∧ Below w.heap.size w w' := by
  go_enter Tryd.func50, Tryd.ntmps50
  go_wp2
  go_ret
  exact ⟨rfl, (Below.refl _ _).alloc (Nat.le_refl _) _⟩

theorem least32 (w : World) : Calls Tryd.prog 27 #[.iface 57 (.agg #[])] w fun e w' => e = .returned (.int .i64 (-149)) ∧ Below w.heap.size w w' := by
  have m1 := meth_ne
  have m2 := meth_nf
  go_enter Tryd.func27, Tryd.ntmps27
  go_wp2
  refine region_below (by kernel_rfl) (by kernel_rfl) ?_
  repeat (go_big_quiet_step (first
    | (intro _; rfl)
    | (intro hC; go_at_call 49; exact Calls.qb hC (cne _))
    | (intro hC; go_at_call 50; exact Calls.qb hC (cnf _))))
  refine wpQuiet_nil ?_
  intro W q
  go_wp2
  go_ret
  exact ⟨rfl, q⟩

theorem lead32 (w : World) : Calls Tryd.prog 28 #[.iface 57 (.agg #[])] w fun e w' => e = .returned (.int .i64 8388608) ∧ Below w.heap.size w w' := by
  have m2 := meth_nf
  go_enter Tryd.func28, Tryd.ntmps28
  go_wp2
  go_ret
  exact ⟨rfl, ((Below.refl _ _).alloc (Nat.le_refl _) _)⟩

theorem sizeOf_ (w : World) (x : Int) (h : -9223372036854775808 < x) (h2 : x ≤ 9223372036854775807) : Calls Tryd.prog 25 #[.int .i64 x] w fun e w' => e = .returned (.int .i64 (x.natAbs : Nat)) ∧ w = w' := by
  by_cases hn : x < 0
  · obtain ⟨m, rfl⟩ : ∃ m, x = -m := ⟨-x, by omega⟩
    rw [show (((-m).natAbs : Nat) : Int) = m by omega]
    go_enter Tryd.func25, Tryd.ntmps25
    go_wp2
    go_ret
    exact ⟨rfl, rfl⟩
  · rw [show ((x.natAbs : Nat) : Int) = x by omega]
    go_enter Tryd.func25, Tryd.ntmps25
    go_wp2
    go_ret
    exact ⟨rfl, rfl⟩

theorem part32_small {n m : Int} (hm : m = n.natAbs) (h : m < 8388608) : partV 32 n = .agg #[.bool (decide (n < 0)), .int .u64 m, .int .i64 (-149)] := by
  have e1 : fracI 32 = 23 := by decide
  have e2 : leastI 32 = -149 := by decide
  unfold partV magN expN
  rw [e1, e2, show 2 ^ 23 = 8388608 by decide, if_pos (by omega), ← hm, show -149 + ((n.natAbs / 8388608 - 1 : Nat) : Int) = -149 by omega]

theorem part32_big {n m : Int} (hm : m = n.natAbs) (h : ¬ m < 8388608) : partV 32 n = .agg #[.bool (decide (n < 0)), .int .u64 (8388608 + m % 8388608), .int .i64 (-149 + (m / 8388608 - 1))] := by
  have e1 : fracI 32 = 23 := by decide
  have e2 : leastI 32 = -149 := by decide
  unfold partV magN expN
  rw [e1, e2, show 2 ^ 23 = 8388608 by decide, if_neg (by omega), show ((8388608 + n.natAbs % 8388608 : Nat) : Int) = 8388608 + m % 8388608 by omega, show -149 + ((n.natAbs / 8388608 - 1 : Nat) : Int) = -149 + (m / 8388608 - 1) by omega]

theorem partEnd {w W : World} {T : Array Value} {a b c x y z : Value} {ok : Bool} (rs : Own W w.heap.size [a, b, c]) (hb : Below w.heap.size w W)
    (ht : T.getD 4 undef = .pointer (some ⟨w.heap.size, 0, none⟩)) (hk : T.getD 5 undef = .bool ok) :
    bodyPost Tryd.prog Tryd.f10 (PartOut w (.agg #[x, y, z]) ok) Exit.ret { tmps := T, defers := [] } (((W.setCell ⟨w.heap.size, 0, none⟩ x).setCell ⟨w.heap.size, 1, none⟩ y).setCell ⟨w.heap.size, 2, none⟩ z) := by
  have o := ((rs.set (i := 0) x (by simp)).set (i := 1) y (by simp)).set (i := 2) z (by simp)
  have c0 := o.cell 0 x rfl
  have c1 := o.cell 1 y rfl
  have c2 := o.cell 2 z rfl
  have bel := ((hb.setCell (p := ⟨w.heap.size, 0, none⟩) (Nat.le_refl _) x).setCell (p := ⟨w.heap.size, 1, none⟩) (Nat.le_refl _) y).setCell (p := ⟨w.heap.size, 2, none⟩) (Nat.le_refl _) z
  generalize ((W.setCell ⟨w.heap.size, 0, none⟩ x).setCell ⟨w.heap.size, 1, none⟩ y).setCell ⟨w.heap.size, 2, none⟩ z = V at *
  refine bodyPost_ret (v := .tuple #[.agg #[x, y, z], .bool ok]) ?_ rfl ⟨rfl, bel⟩
  rw [results_cell_tmp (p := 4) (u := 5) (ty := 34) rfl, ht, hk]
  simp [go_sem, c0, c1, c2]

set_option maxHeartbeats 2000000 in
theorem implPart32 (w : World) (n : Int) (h : -2139095040 < n) (h2 : n < 2139095040) :
    Calls Tryd.prog 10 #[.int .i64 32, .int .i64 n] w (PartOut w (partV 32 n) true) := by
  have hf := format32
  have ho := fun W => implOk32 W n (wf64 (by omega) (by omega))
  rw [(okI_32 n).2 (by omega)] at ho
  have hz := fun W => sizeOf_ W n (by omega) (by omega)
  have hT := topOf32
  have hL := least32
  have hD := lead32
  have m2 := meth_nf
  obtain ⟨m, hm⟩ : ∃ m : Int, m = n.natAbs := ⟨_, rfl⟩
  rw [← hm] at hz
  have ht : (m == 2139095040) = false := by simp; omega
  have m0 : 0 ≤ m := by omega
  have m1 : m < 2139095040 := by omega
  by_cases hs : m < 8388608
  · rw [part32_small hm hs]
    have ht0 : decide (0 < m / 8388608) = false := by simp; omega
    clear hm h h2
    go_enter Tryd.func10, Tryd.ntmps10
    go_wp2_with first
      | (go_at_call 18; go_must (refine (hf _).mono ?_); clear hf; rintro e w1 ⟨rfl, rfl⟩)
      | (go_at_call 24; go_must (refine (ho _).mono ?_); clear ho; rintro e w0 ⟨rfl, q⟩; have rs := (Own.new w _ _).below q; have hb := ((Below.refl _ w).alloc (Nat.le_refl _) _).trans (q.mono (by simp)); clear q)
      | (go_at_call 25; go_must (refine (hz _).mono ?_); rintro e w1 ⟨rfl, rfl⟩)
      | (go_at_call 20; go_must (refine (hT _).mono ?_); clear hT; rintro e w1 ⟨rfl, q⟩; replace rs := rs.below q; replace hb := hb.trans (q.mono hb.size); clear q)
      | (go_at_call 27; go_must (refine (hL _).mono ?_); clear hL; rintro e w2 ⟨rfl, q⟩; replace rs := rs.below q; replace hb := hb.trans (q.mono hb.size); clear q)
      | (go_at_call 50; go_must (refine (cnf _).mono ?_); rintro e w3 ⟨rfl, q⟩; have hne : w2.heap.size ≠ w.heap.size := (by have := rs.lt; omega); have hne' : w.heap.size ≠ w2.heap.size := (by have := rs.lt; omega); replace rs := (rs.alloc _).below q; have pw := (Own.new w2 _ _).below q; have hsz := hb.size; replace hb := (hb.alloc hb.size _).trans (q.mono (by simp; omega)); clear q; have c0 := pw.cell 0 _ rfl; have c1 := pw.cell 1 _ rfl; have c2 := pw.cell 2 _ rfl; have r0 := rs.cell 0 _ rfl; have r1 := rs.cell 1 _ rfl; have r2 := rs.cell 2 _ rfl; have f0 := rs.frz 0 _ rfl; have f1 := rs.frz 1 _ rfl; have f2 := rs.frz 2 _ rfl)
    exact partEnd rs hb rfl rfl
  · rw [part32_big hm hs]
    have ht0 : decide (0 < m / 8388608) = true := by simp; omega
    have hA : bits .and .i64 m 8388607 = m % 8388608 := and23 m0 (by omega)
    have hO : bits .or .i64 8388608 (m % 8388608) = 8388608 + m % 8388608 := or23 (by omega) (by omega)
    clear hm h h2
    go_enter Tryd.func10, Tryd.ntmps10
    go_wp2_with first
      | (go_at_call 18; go_must (refine (hf _).mono ?_); clear hf; rintro e w1 ⟨rfl, rfl⟩)
      | (go_at_call 24; go_must (refine (ho _).mono ?_); clear ho; rintro e w0 ⟨rfl, q⟩; have rs := (Own.new w _ _).below q; have hb := ((Below.refl _ w).alloc (Nat.le_refl _) _).trans (q.mono (by simp)); clear q)
      | (go_at_call 25; go_must (refine (hz _).mono ?_); rintro e w1 ⟨rfl, rfl⟩)
      | (go_at_call 20; go_must (refine (hT _).mono ?_); clear hT; rintro e w1 ⟨rfl, q⟩; replace rs := rs.below q; replace hb := hb.trans (q.mono hb.size); clear q)
      | (go_at_call 27; go_must (refine (hL _).mono ?_); clear hL; rintro e w2 ⟨rfl, q⟩; replace rs := rs.below q; replace hb := hb.trans (q.mono hb.size); clear q)
      | (go_at_call 50; go_must (refine (cnf _).mono ?_); rintro e w3 ⟨rfl, q⟩; have hne : w2.heap.size ≠ w.heap.size := (by have := rs.lt; omega); have hne' : w.heap.size ≠ w2.heap.size := (by have := rs.lt; omega); replace rs := (rs.alloc _).below q; have pw := (Own.new w2 _ _).below q; have hsz := hb.size; replace hb := (hb.alloc hb.size _).trans (q.mono (by simp; omega)); clear q)
      | (go_at_call 28; go_must (refine (hD _).mono ?_); rintro e w4 ⟨rfl, q⟩; replace rs := rs.below q; replace pw := pw.below q; replace hb := hb.trans (q.mono hb.size); clear q; have c0 := pw.cell 0 _ rfl; have c1 := pw.cell 1 _ rfl; have c2 := pw.cell 2 _ rfl; have r0 := rs.cell 0 _ rfl; have r1 := rs.cell 1 _ rfl; have r2 := rs.cell 2 _ rfl; have f0 := rs.frz 0 _ rfl; have f1 := rs.frz 1 _ rfl; have f2 := rs.frz 2 _ rfl; have g1 := pw.frz 1 _ rfl; have g2 := pw.frz 2 _ rfl)
    exact partEnd (a := .bool false) (b := .int .u64 0) (c := .int .i64 0) ((rs.other (i := 1) _ hne).other (i := 2) _ hne) ((hb.setCell (p := ⟨w2.heap.size, 1, none⟩) hsz _).setCell (p := ⟨w2.heap.size, 2, none⟩) hsz _) rfl rfl

theorem cwe (w : World) : Calls Tryd.prog 52 #[.agg #[]] w fun e w' => e = .returned (.int .i64 11) ∧ Below w.heap.size w w' := by
  go_enter Tryd.func52, Tryd.ntmps52
  go_wp2
  go_ret
  exact ⟨rfl, (Below.refl _ _).alloc (Nat.le_refl _) _⟩
theorem cwf (w : World) : Calls Tryd.prog 53 #[.agg #[]] w fun e w' => e = .returned (.int .i64 52) ∧ Below w.heap.size w w' := by
  go_enter Tryd.func53, Tryd.ntmps53
  go_wp2
  go_ret
  exact ⟨rfl, (Below.refl _ _).alloc (Nat.le_refl _) _⟩

theorem least64 (w : World) : Calls Tryd.prog 27 #[.iface 58 (.agg #[])] w fun e w' => e = .returned (.int .i64 (-1074)) ∧ Below w.heap.size w w' := by
  have m1 := meth_we
  have m2 := meth_wf
  go_enter Tryd.func27, Tryd.ntmps27
  go_wp2
  refine region_below (by kernel_rfl) (by kernel_rfl) ?_
  repeat (go_big_quiet_step (first
    | (intro _; rfl)
    | (intro hC; go_at_call 52; exact Calls.qb hC (cwe _))
    | (intro hC; go_at_call 53; exact Calls.qb hC (cwf _))))
  refine wpQuiet_nil ?_
  intro W q
  go_wp2
  go_ret
  exact ⟨rfl, q⟩

theorem lead64 (w : World) : Calls Tryd.prog 28 #[.iface 58 (.agg #[])] w fun e w' => e = .returned (.int .i64 4503599627370496) ∧ Below w.heap.size w w' := by
  have m2 := meth_wf
  go_enter Tryd.func28, Tryd.ntmps28
  go_wp2
  go_ret
  exact ⟨rfl, ((Below.refl _ _).alloc (Nat.le_refl _) _)⟩

theorem part64_small {n m : Int} (hm : m = n.natAbs) (h : m < 4503599627370496) : partV 64 n = .agg #[.bool (decide (n < 0)), .int .u64 m, .int .i64 (-1074)] := by
  have e1 : fracI 64 = 52 := by decide
  have e2 : leastI 64 = -1074 := by decide
  unfold partV magN expN
  rw [e1, e2, show 2 ^ 52 = 4503599627370496 by decide, if_pos (by omega), ← hm, show -1074 + ((n.natAbs / 4503599627370496 - 1 : Nat) : Int) = -1074 by omega]

theorem part64_big {n m : Int} (hm : m = n.natAbs) (h : ¬ m < 4503599627370496) : partV 64 n = .agg #[.bool (decide (n < 0)), .int .u64 (4503599627370496 + m % 4503599627370496), .int .i64 (-1074 + (m / 4503599627370496 - 1))] := by
  have e1 : fracI 64 = 52 := by decide
  have e2 : leastI 64 = -1074 := by decide
  unfold partV magN expN
  rw [e1, e2, show 2 ^ 52 = 4503599627370496 by decide, if_neg (by omega), show ((4503599627370496 + n.natAbs % 4503599627370496 : Nat) : Int) = 4503599627370496 + m % 4503599627370496 by omega, show -1074 + ((n.natAbs / 4503599627370496 - 1 : Nat) : Int) = -1074 + (m / 4503599627370496 - 1) by omega]

set_option maxHeartbeats 2000000 in
theorem implPart64 (w : World) (n : Int) (h : -9218868437227405312 < n) (h2 : n < 9218868437227405312) :
    Calls Tryd.prog 10 #[.int .i64 64, .int .i64 n] w (PartOut w (partV 64 n) true) := by
  have hf := format64
  have ho := fun W => implOk64 W n (wf64 (by omega) (by omega))
  rw [(okI_64 n).2 (by omega)] at ho
  have hz := fun W => sizeOf_ W n (by omega) (by omega)
  have hT := topOf64
  have hL := least64
  have hD := lead64
  have m2 := meth_wf
  obtain ⟨m, hm⟩ : ∃ m : Int, m = n.natAbs := ⟨_, rfl⟩
  rw [← hm] at hz
  have ht : (m == 9218868437227405312) = false := by simp; omega
  have m0 : 0 ≤ m := by omega
  have m1 : m < 9218868437227405312 := by omega
  by_cases hs : m < 4503599627370496
  · rw [part64_small hm hs]
    have ht0 : decide (0 < m / 4503599627370496) = false := by simp; omega
    clear hm h h2
    go_enter Tryd.func10, Tryd.ntmps10
    go_wp2_with first
      | (go_at_call 18; go_must (refine (hf _).mono ?_); clear hf; rintro e w1 ⟨rfl, rfl⟩)
      | (go_at_call 24; go_must (refine (ho _).mono ?_); clear ho; rintro e w0 ⟨rfl, q⟩; have rs := (Own.new w _ _).below q; have hb := ((Below.refl _ w).alloc (Nat.le_refl _) _).trans (q.mono (by simp)); clear q)
      | (go_at_call 25; go_must (refine (hz _).mono ?_); rintro e w1 ⟨rfl, rfl⟩)
      | (go_at_call 20; go_must (refine (hT _).mono ?_); clear hT; rintro e w1 ⟨rfl, q⟩; replace rs := rs.below q; replace hb := hb.trans (q.mono hb.size); clear q)
      | (go_at_call 27; go_must (refine (hL _).mono ?_); clear hL; rintro e w2 ⟨rfl, q⟩; replace rs := rs.below q; replace hb := hb.trans (q.mono hb.size); clear q)
      | (go_at_call 53; go_must (refine (cwf _).mono ?_); rintro e w3 ⟨rfl, q⟩; have hne : w2.heap.size ≠ w.heap.size := (by have := rs.lt; omega); have hne' : w.heap.size ≠ w2.heap.size := (by have := rs.lt; omega); replace rs := (rs.alloc _).below q; have pw := (Own.new w2 _ _).below q; have hsz := hb.size; replace hb := (hb.alloc hb.size _).trans (q.mono (by simp; omega)); clear q; have c0 := pw.cell 0 _ rfl; have c1 := pw.cell 1 _ rfl; have c2 := pw.cell 2 _ rfl; have r0 := rs.cell 0 _ rfl; have r1 := rs.cell 1 _ rfl; have r2 := rs.cell 2 _ rfl; have f0 := rs.frz 0 _ rfl; have f1 := rs.frz 1 _ rfl; have f2 := rs.frz 2 _ rfl)
    exact partEnd rs hb rfl rfl
  · rw [part64_big hm hs]
    have ht0 : decide (0 < m / 4503599627370496) = true := by simp; omega
    have hA : bits .and .i64 m 4503599627370495 = m % 4503599627370496 := and52 m0 (by omega)
    have hO : bits .or .i64 4503599627370496 (m % 4503599627370496) = 4503599627370496 + m % 4503599627370496 := or52 (by omega) (by omega)
    clear hm h h2
    go_enter Tryd.func10, Tryd.ntmps10
    go_wp2_with first
      | (go_at_call 18; go_must (refine (hf _).mono ?_); clear hf; rintro e w1 ⟨rfl, rfl⟩)
      | (go_at_call 24; go_must (refine (ho _).mono ?_); clear ho; rintro e w0 ⟨rfl, q⟩; have rs := (Own.new w _ _).below q; have hb := ((Below.refl _ w).alloc (Nat.le_refl _) _).trans (q.mono (by simp)); clear q)
      | (go_at_call 25; go_must (refine (hz _).mono ?_); rintro e w1 ⟨rfl, rfl⟩)
      | (go_at_call 20; go_must (refine (hT _).mono ?_); clear hT; rintro e w1 ⟨rfl, q⟩; replace rs := rs.below q; replace hb := hb.trans (q.mono hb.size); clear q)
      | (go_at_call 27; go_must (refine (hL _).mono ?_); clear hL; rintro e w2 ⟨rfl, q⟩; replace rs := rs.below q; replace hb := hb.trans (q.mono hb.size); clear q)
      | (go_at_call 53; go_must (refine (cwf _).mono ?_); rintro e w3 ⟨rfl, q⟩; have hne : w2.heap.size ≠ w.heap.size := (by have := rs.lt; omega); have hne' : w.heap.size ≠ w2.heap.size := (by have := rs.lt; omega); replace rs := (rs.alloc _).below q; have pw := (Own.new w2 _ _).below q; have hsz := hb.size; replace hb := (hb.alloc hb.size _).trans (q.mono (by simp; omega)); clear q)
      | (go_at_call 28; go_must (refine (hD _).mono ?_); rintro e w4 ⟨rfl, q⟩; replace rs := rs.below q; replace pw := pw.below q; replace hb := hb.trans (q.mono hb.size); clear q; have c0 := pw.cell 0 _ rfl; have c1 := pw.cell 1 _ rfl; have c2 := pw.cell 2 _ rfl; have r0 := rs.cell 0 _ rfl; have r1 := rs.cell 1 _ rfl; have r2 := rs.cell 2 _ rfl; have f0 := rs.frz 0 _ rfl; have f1 := rs.frz 1 _ rfl; have f2 := rs.frz 2 _ rfl; have g1 := pw.frz 1 _ rfl; have g2 := pw.frz 2 _ rfl)
    exact partEnd (a := .bool false) (b := .int .u64 0) (c := .int .i64 0) ((rs.other (i := 1) _ hne).other (i := 2) _ hne) ((hb.setCell (p := ⟨w2.heap.size, 1, none⟩) hsz _).setCell (p := ⟨w2.heap.size, 2, none⟩) hsz _) rfl rfl

theorem finNo {n x : Int} (h1 : n ≠ 32) (h2 : n ≠ 64) : finI n x = false := by
  unfold finI
  rw [okI_no h1 h2]
  rfl

theorem implPartNoW (w : World) (n x : Int) (h1 : n ≠ 32) (h2 : n ≠ 64) :
    Calls Tryd.prog 10 #[.int .i64 n, .int .i64 x] w (PartOut w noPart false) := by
  have hf : ∀ W, Calls Tryd.prog 18 #[.int .i64 n] W fun e w' => e = .returned (.tuple #[.nilIface, .bool false]) ∧ Below W.heap.size W w' := fun W => (formatNo W n h1 h2).mono fun e w' ⟨he, hw⟩ => ⟨he, hw ▸ Below.refl _ _⟩
  go_enter Tryd.func10, Tryd.ntmps10
  go_wp2_with (go_at_call 18; go_must (refine (hf _).mono ?_); clear hf; rintro e w1 ⟨rfl, q⟩; have rs := (Own.new w _ _).below q; have hb := ((Below.refl _ w).alloc (Nat.le_refl _) _).trans (q.mono (by simp)); clear q; have r0 := rs.cell 0 _ rfl; have r1 := rs.cell 1 _ rfl; have r2 := rs.cell 2 _ rfl; have f0 := rs.frz 0 _ rfl; have f1 := rs.frz 1 _ rfl; have f2 := rs.frz 2 _ rfl)
  exact partEnd rs hb rfl rfl

theorem implPartNo32 (w : World) (x : Int) (hx : (Lit.int .i64 x).wf = true) (h : okI 32 x = false) :
    Calls Tryd.prog 10 #[.int .i64 32, .int .i64 x] w (PartOut w noPart false) := by
  have hf := format32
  have ho := fun W => implOk32 W x hx
  rw [h] at ho
  go_enter Tryd.func10, Tryd.ntmps10
  go_wp2_with first
    | (go_at_call 18; go_must (refine (hf _).mono ?_); clear hf; rintro e w1 ⟨rfl, rfl⟩)
    | (go_at_call 24; go_must (refine (ho _).mono ?_); clear ho; rintro e w0 ⟨rfl, q⟩; have rs := (Own.new w _ _).below q; have hb := ((Below.refl _ w).alloc (Nat.le_refl _) _).trans (q.mono (by simp)); clear q; have r0 := rs.cell 0 _ rfl; have r1 := rs.cell 1 _ rfl; have r2 := rs.cell 2 _ rfl; have f0 := rs.frz 0 _ rfl; have f1 := rs.frz 1 _ rfl; have f2 := rs.frz 2 _ rfl)
  exact partEnd rs hb rfl rfl

theorem implPartInf32 (w : World) (x : Int) (h : x.natAbs = 2139095040) :
    Calls Tryd.prog 10 #[.int .i64 32, .int .i64 x] w (PartOut w noPart false) := by
  have hf := format32
  have ho := fun W => implOk32 W x (wf64 (by omega) (by omega))
  rw [(okI_32 x).2 (by omega)] at ho
  have hz := fun W => sizeOf_ W x (by omega) (by omega)
  rw [show ((x.natAbs : Nat) : Int) = 2139095040 by omega] at hz
  have hT := topOf32
  clear h
  go_enter Tryd.func10, Tryd.ntmps10
  go_wp2_with first
    | (go_at_call 18; go_must (refine (hf _).mono ?_); clear hf; rintro e w1 ⟨rfl, rfl⟩)
    | (go_at_call 24; go_must (refine (ho _).mono ?_); clear ho; rintro e w0 ⟨rfl, q⟩; have rs := (Own.new w _ _).below q; have hb := ((Below.refl _ w).alloc (Nat.le_refl _) _).trans (q.mono (by simp)); clear q)
    | (go_at_call 25; go_must (refine (hz _).mono ?_); rintro e w1 ⟨rfl, rfl⟩)
    | (go_at_call 20; go_must (refine (hT _).mono ?_); clear hT; rintro e w1 ⟨rfl, q⟩; replace rs := rs.below q; replace hb := hb.trans (q.mono hb.size); clear q; have r0 := rs.cell 0 _ rfl; have r1 := rs.cell 1 _ rfl; have r2 := rs.cell 2 _ rfl; have f0 := rs.frz 0 _ rfl; have f1 := rs.frz 1 _ rfl; have f2 := rs.frz 2 _ rfl)
  exact partEnd rs hb rfl rfl

theorem implPartNo64 (w : World) (x : Int) (hx : (Lit.int .i64 x).wf = true) (h : okI 64 x = false) :
    Calls Tryd.prog 10 #[.int .i64 64, .int .i64 x] w (PartOut w noPart false) := by
  have hf := format64
  have ho := fun W => implOk64 W x hx
  rw [h] at ho
  go_enter Tryd.func10, Tryd.ntmps10
  go_wp2_with first
    | (go_at_call 18; go_must (refine (hf _).mono ?_); clear hf; rintro e w1 ⟨rfl, rfl⟩)
    | (go_at_call 24; go_must (refine (ho _).mono ?_); clear ho; rintro e w0 ⟨rfl, q⟩; have rs := (Own.new w _ _).below q; have hb := ((Below.refl _ w).alloc (Nat.le_refl _) _).trans (q.mono (by simp)); clear q; have r0 := rs.cell 0 _ rfl; have r1 := rs.cell 1 _ rfl; have r2 := rs.cell 2 _ rfl; have f0 := rs.frz 0 _ rfl; have f1 := rs.frz 1 _ rfl; have f2 := rs.frz 2 _ rfl)
  exact partEnd rs hb rfl rfl

theorem implPartInf64 (w : World) (x : Int) (h : x.natAbs = 9218868437227405312) :
    Calls Tryd.prog 10 #[.int .i64 64, .int .i64 x] w (PartOut w noPart false) := by
  have hf := format64
  have ho := fun W => implOk64 W x (wf64 (by omega) (by omega))
  rw [(okI_64 x).2 (by omega)] at ho
  have hz := fun W => sizeOf_ W x (by omega) (by omega)
  rw [show ((x.natAbs : Nat) : Int) = 9218868437227405312 by omega] at hz
  have hT := topOf64
  clear h
  go_enter Tryd.func10, Tryd.ntmps10
  go_wp2_with first
    | (go_at_call 18; go_must (refine (hf _).mono ?_); clear hf; rintro e w1 ⟨rfl, rfl⟩)
    | (go_at_call 24; go_must (refine (ho _).mono ?_); clear ho; rintro e w0 ⟨rfl, q⟩; have rs := (Own.new w _ _).below q; have hb := ((Below.refl _ w).alloc (Nat.le_refl _) _).trans (q.mono (by simp)); clear q)
    | (go_at_call 25; go_must (refine (hz _).mono ?_); rintro e w1 ⟨rfl, rfl⟩)
    | (go_at_call 20; go_must (refine (hT _).mono ?_); clear hT; rintro e w1 ⟨rfl, q⟩; replace rs := rs.below q; replace hb := hb.trans (q.mono hb.size); clear q; have r0 := rs.cell 0 _ rfl; have r1 := rs.cell 1 _ rfl; have r2 := rs.cell 2 _ rfl; have f0 := rs.frz 0 _ rfl; have f1 := rs.frz 1 _ rfl; have f2 := rs.frz 2 _ rfl)
  exact partEnd rs hb rfl rfl

theorem finI_32 (x : Int) : finI 32 x = true ↔ -2139095040 < x ∧ x < 2139095040 := by
  unfold finI
  simp only [Bool.and_eq_true, okI_32, bne_iff_ne, ne_eq]
  simp only [show topI 32 = 2139095040 from rfl]
  omega
theorem finI_64 (x : Int) : finI 64 x = true ↔ -9218868437227405312 < x ∧ x < 9218868437227405312 := by
  unfold finI
  simp only [Bool.and_eq_true, okI_64, bne_iff_ne, ne_eq]
  simp only [show topI 64 = 9218868437227405312 from rfl]
  omega

/-- The program's BitPartOf at every argument. -/
theorem implPart (w : World) (n x : Int) (hx : (Lit.int .i64 x).wf = true) :
    Calls Tryd.prog 10 #[.int .i64 n, .int .i64 x] w (PartOut w (if finI n x = true then partV n x else noPart) (finI n x)) := by
  by_cases h1 : n = 32
  · subst h1
    by_cases hf : finI 32 x = true
    · have := (finI_32 x).1 hf
      rw [if_pos hf, hf]
      exact implPart32 w x this.1 this.2
    · rw [if_neg hf]
      have hf' := hf
      rw [Bool.not_eq_true] at hf
      rw [hf]
      by_cases ho : okI 32 x = true
      · have := (okI_32 x).1 ho
        rw [finI_32] at hf'
        exact implPartInf32 w x (by omega)
      · rw [Bool.not_eq_true] at ho
        exact implPartNo32 w x hx ho
  · by_cases h2 : n = 64
    · subst h2
      by_cases hf : finI 64 x = true
      · have := (finI_64 x).1 hf
        rw [if_pos hf, hf]
        exact implPart64 w x this.1 this.2
      · rw [if_neg hf]
        have hf' := hf
        rw [Bool.not_eq_true] at hf
        rw [hf]
        by_cases ho : okI 64 x = true
        · have := (okI_64 x).1 ho
          rw [finI_64] at hf'
          exact implPartInf64 w x (by omega)
        · rw [Bool.not_eq_true] at ho
          exact implPartNo64 w x hx ho
    · rw [finNo h1 h2, if_neg (by simp)]
      exact implPartNoW w n x h1 h2

end Go.Proofs.YteohgmmenlinbaaDoor
