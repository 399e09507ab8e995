/- The program's PairOk: its contract. -/
import Derived.Test.YteohgmmenlinbagDoorImplT
import Derived.Test.YteohgmmenlinbagDoorSpecG
import Derived.Test.YteohgmmenlinbagDoorOwn
import Derived.Test.YteohgmmenlinbagDoorQuiet
namespace Go.Proofs.YteohgmmenlinbagDoor
open Go.ChangeShapes Go.WideShapes Go.ChangeAt Go.RowKit
set_option linter.unusedVariables false

set_option maxHeartbeats 1000000 in
theorem implPairOk (w : World) (n lo hi : Int) (h1 : (Lit.int .i64 lo).wf = true) (h2 : (Lit.int .i64 hi).wf = true) :
    Calls Tryd.prog 34 #[.int .i64 n, .agg #[.int .i64 lo, .int .i64 hi]] w fun e w' => e = .returned (.bool (pokI n lo hi)) ∧ Below w.heap.size w w' := by
  have ht := fun W => implTop W n
  have ha := fun W => implOk W n lo h1
  have hB := fun W => implOk W n hi h2
  have tb := topI_bounds n
  have ba : okI n lo = true → lo ≤ topI n := fun h => (okI_bounds h).2
  have bb : okI n hi = true → -(topI n) ≤ hi := fun h => (okI_bounds h).1
  unfold pokI
  generalize topI n = t at *
  generalize okI n lo = A at *
  generalize okI n hi = B at *
  cases A
  · clear ba bb
    go_enter Tryd.func34, Tryd.ntmps34
    go_wp2_with first
      | (go_at_call 41; refine (ha _).mono ?_; clear ha; rintro e w1 ⟨rfl, q⟩; have o := (Own.new w _ _).below q; have hb := ((Below.refl _ w).alloc (Nat.le_refl _) _).trans (q.mono (by simp)); clear q; have c0 := o.cell 0 _ rfl; have c1 := o.cell 1 _ rfl)
      | (go_at_call 41; refine (hB _).mono ?_; clear hB; rintro e w2 ⟨rfl, q⟩; replace o := o.below q; replace hb := hb.trans (q.mono hb.size); clear q; have d0 := o.cell 0 _ rfl; have d1 := o.cell 1 _ rfl)
      | (go_at_call 42; refine (ht _).mono ?_; rintro e w3 ⟨rfl, q⟩; replace o := o.below q; replace hb := hb.trans (q.mono hb.size); clear q; have f0 := o.cell 0 _ rfl; have f1 := o.cell 1 _ rfl)
    go_ret
    exact ⟨by simp, hb⟩
  · cases B
    · clear ba bb
      go_enter Tryd.func34, Tryd.ntmps34
      go_wp2_with first
        | (go_at_call 41; refine (ha _).mono ?_; clear ha; rintro e w1 ⟨rfl, q⟩; have o := (Own.new w _ _).below q; have hb := ((Below.refl _ w).alloc (Nat.le_refl _) _).trans (q.mono (by simp)); clear q; have c0 := o.cell 0 _ rfl; have c1 := o.cell 1 _ rfl)
        | (go_at_call 41; refine (hB _).mono ?_; clear hB; rintro e w2 ⟨rfl, q⟩; replace o := o.below q; replace hb := hb.trans (q.mono hb.size); clear q; have d0 := o.cell 0 _ rfl; have d1 := o.cell 1 _ rfl)
        | (go_at_call 42; refine (ht _).mono ?_; rintro e w3 ⟨rfl, q⟩; replace o := o.below q; replace hb := hb.trans (q.mono hb.size); clear q; have f0 := o.cell 0 _ rfl; have f1 := o.cell 1 _ rfl)
      go_ret
      exact ⟨by simp, hb⟩
    · have ba' := ba rfl
      have bb' := bb rfl
      clear ba bb
      by_cases k1 : lo ≤ hi
      · by_cases k2 : lo < t
        · by_cases k3 : -t < hi
          · have e1 : (lo != t) = true := by simp; omega
            have e2 : (hi != -t) = true := by simp; omega
            go_enter Tryd.func34, Tryd.ntmps34
            go_wp2_with first
              | (go_at_call 41; refine (ha _).mono ?_; clear ha; rintro e w1 ⟨rfl, q⟩; have o := (Own.new w _ _).below q; have hb := ((Below.refl _ w).alloc (Nat.le_refl _) _).trans (q.mono (by simp)); clear q; have c0 := o.cell 0 _ rfl; have c1 := o.cell 1 _ rfl)
              | (go_at_call 41; refine (hB _).mono ?_; clear hB; rintro e w2 ⟨rfl, q⟩; replace o := o.below q; replace hb := hb.trans (q.mono hb.size); clear q; have d0 := o.cell 0 _ rfl; have d1 := o.cell 1 _ rfl)
              | (go_at_call 42; refine (ht _).mono ?_; rintro e w3 ⟨rfl, q⟩; replace o := o.below q; replace hb := hb.trans (q.mono hb.size); clear q; have f0 := o.cell 0 _ rfl; have f1 := o.cell 1 _ rfl)
            have ol := o.lt
            refine region_below (by kernel_rfl) (by kernel_rfl) ?_
            repeat (go_big_quiet_step (first
              | (intro _; rfl)
              | (intro hC; rw [(hC.cell (p := ⟨w.heap.size, 0, none⟩) ol).trans d0]; exact ⟨rfl, rfl⟩)
              | (intro hC; rw [(hC.cell (p := ⟨w.heap.size, 1, none⟩) ol).trans d1]; exact ⟨rfl, rfl⟩)
              | (intro hC; go_at_call 42; exact Calls.qb hC (ht _))))
            refine wpQuiet_nil ?_
            intro w4 q4
            replace hb := hb.trans (q4.mono hb.size)
            go_wp2
            go_ret
            exact ⟨by simp [k1, k2, k3], hb⟩
          · have e1 : (lo != t) = true := by simp; omega
            have e2 : (hi != -t) = false := by simp; omega
            have d : decide (-t < hi) = false := by simp; omega
            go_enter Tryd.func34, Tryd.ntmps34
            go_wp2_with first
              | (go_at_call 41; refine (ha _).mono ?_; clear ha; rintro e w1 ⟨rfl, q⟩; have o := (Own.new w _ _).below q; have hb := ((Below.refl _ w).alloc (Nat.le_refl _) _).trans (q.mono (by simp)); clear q; have c0 := o.cell 0 _ rfl; have c1 := o.cell 1 _ rfl)
              | (go_at_call 41; refine (hB _).mono ?_; clear hB; rintro e w2 ⟨rfl, q⟩; replace o := o.below q; replace hb := hb.trans (q.mono hb.size); clear q; have d0 := o.cell 0 _ rfl; have d1 := o.cell 1 _ rfl)
              | (go_at_call 42; refine (ht _).mono ?_; rintro e w3 ⟨rfl, q⟩; replace o := o.below q; replace hb := hb.trans (q.mono hb.size); clear q; have f0 := o.cell 0 _ rfl; have f1 := o.cell 1 _ rfl)
            have ol := o.lt
            refine region_below (by kernel_rfl) (by kernel_rfl) ?_
            repeat (go_big_quiet_step (first
              | (intro _; rfl)
              | (intro hC; rw [(hC.cell (p := ⟨w.heap.size, 0, none⟩) ol).trans d0]; exact ⟨rfl, rfl⟩)
              | (intro hC; rw [(hC.cell (p := ⟨w.heap.size, 1, none⟩) ol).trans d1]; exact ⟨rfl, rfl⟩)
              | (intro hC; go_at_call 42; exact Calls.qb hC (ht _))))
            refine wpQuiet_nil ?_
            intro w4 q4
            replace hb := hb.trans (q4.mono hb.size)
            go_wp2
            go_ret
            exact ⟨by simp [d], hb⟩
        · have e1 : (lo != t) = false := by simp; omega
          have d : decide (lo < t) = false := by simp; omega
          go_enter Tryd.func34, Tryd.ntmps34
          go_wp2_with first
            | (go_at_call 41; refine (ha _).mono ?_; clear ha; rintro e w1 ⟨rfl, q⟩; have o := (Own.new w _ _).below q; have hb := ((Below.refl _ w).alloc (Nat.le_refl _) _).trans (q.mono (by simp)); clear q; have c0 := o.cell 0 _ rfl; have c1 := o.cell 1 _ rfl)
            | (go_at_call 41; refine (hB _).mono ?_; clear hB; rintro e w2 ⟨rfl, q⟩; replace o := o.below q; replace hb := hb.trans (q.mono hb.size); clear q; have d0 := o.cell 0 _ rfl; have d1 := o.cell 1 _ rfl)
            | (go_at_call 42; refine (ht _).mono ?_; rintro e w3 ⟨rfl, q⟩; replace o := o.below q; replace hb := hb.trans (q.mono hb.size); clear q; have f0 := o.cell 0 _ rfl; have f1 := o.cell 1 _ rfl)
          have ol := o.lt
          refine region_below (by kernel_rfl) (by kernel_rfl) ?_
          repeat (go_big_quiet_step (first
            | (intro _; rfl)
            | (intro hC; rw [(hC.cell (p := ⟨w.heap.size, 0, none⟩) ol).trans d0]; exact ⟨rfl, rfl⟩)
            | (intro hC; rw [(hC.cell (p := ⟨w.heap.size, 1, none⟩) ol).trans d1]; exact ⟨rfl, rfl⟩)
            | (intro hC; go_at_call 42; exact Calls.qb hC (ht _))))
          refine wpQuiet_nil ?_
          intro w4 q4
          replace hb := hb.trans (q4.mono hb.size)
          go_wp2
          go_ret
          exact ⟨by simp [d], hb⟩
      · have d : decide (lo ≤ hi) = false := by simp; omega
        go_enter Tryd.func34, Tryd.ntmps34
        go_wp2_with first
          | (go_at_call 41; refine (ha _).mono ?_; clear ha; rintro e w1 ⟨rfl, q⟩; have o := (Own.new w _ _).below q; have hb := ((Below.refl _ w).alloc (Nat.le_refl _) _).trans (q.mono (by simp)); clear q; have c0 := o.cell 0 _ rfl; have c1 := o.cell 1 _ rfl)
          | (go_at_call 41; refine (hB _).mono ?_; clear hB; rintro e w2 ⟨rfl, q⟩; replace o := o.below q; replace hb := hb.trans (q.mono hb.size); clear q; have d0 := o.cell 0 _ rfl; have d1 := o.cell 1 _ rfl)
          | (go_at_call 42; refine (ht _).mono ?_; rintro e w3 ⟨rfl, q⟩; replace o := o.below q; replace hb := hb.trans (q.mono hb.size); clear q; have f0 := o.cell 0 _ rfl; have f1 := o.cell 1 _ rfl)
        go_ret
        exact ⟨by simp [d], hb⟩

end Go.Proofs.YteohgmmenlinbagDoor
