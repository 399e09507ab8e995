/- PairHull of the model and of the program: contracts. -/
import Derived.Test.YteohgmmenlinbafPairA
import Derived.Test.YteohgmmenlinbafRegInv
import Derived.Test.YteohgmmenlinbafPairE
import Derived.Test.YteohgmmenlinbafL3
namespace Go.Proofs.Yteohgmmenlinbaf
open Go.ChangeShapes Go.WideShapes Go.ChangeAt Go.RowKit
set_option linter.unusedVariables false

def hullB (n x0 y0 x1 y1 : Int) : Bool := pokI n x0 y0 && pokI n x1 y1

set_option maxHeartbeats 4000000 in
theorem implHull (w : World) (n x0 y0 x1 y1 : Int) (a1 : (Lit.int .i64 x0).wf = true) (a2 : (Lit.int .i64 y0).wf = true) (a3 : (Lit.int .i64 x1).wf = true) (a4 : (Lit.int .i64 y1).wf = true) :
    Calls Try.prog 11 #[.int .i64 n, .agg #[.int .i64 x0, .int .i64 y0], .agg #[.int .i64 x1, .int .i64 y1]] w (PairOut w (if hullB n x0 y0 x1 y1 = true then min x0 x1 else 0) (if hullB n x0 y0 x1 y1 = true then max y0 y1 else 0) (hullB n x0 y0 x1 y1)) := by
  have p0 := fun W => implPairOk W n x0 y0 a1 a2
  have p1 := fun W => implPairOk W n x1 y1 a3 a4
  obtain ⟨o0, o1⟩ := two_pairs w x0 y0 x1 y1 24
  replace o0 := o0.alloc (.cells #[.int .i64 0, .int .i64 0] 24)
  replace o1 := o1.alloc (.cells #[.int .i64 0, .int .i64 0] 24)
  have o2 := Own.new ((w.alloc (.cells #[.int .i64 x0, .int .i64 y0] 24)).alloc (.cells #[.int .i64 x1, .int .i64 y1] 24)) #[.int .i64 0, .int .i64 0] 24
  have hb := (((Below.refl _ w).alloc (Nat.le_refl _) (.cells #[.int .i64 x0, .int .i64 y0] 24)).alloc (by simp) (.cells #[.int .i64 x1, .int .i64 y1] 24)).alloc (by simp; omega) (.cells #[.int .i64 0, .int .i64 0] 24)
  rw [World.size_alloc, World.size_alloc] at o2
  have c0 := o0.cell 0 _ rfl
  have c1 := o0.cell 1 _ rfl
  unfold hullB
  generalize pokI n x0 y0 = A at *
  generalize pokI n x1 y1 = B at *
  cases A
  · rw [show (false && B) = false by rfl]
    rw [if_neg (by decide), if_neg (by decide)]
    go_enter Try.func11, Try.ntmps11
    go_wp2_with first
      | (go_at_call 29; refine (p0 _).mono ?_; clear p0; rintro e w2 ⟨rfl, q⟩; replace o0 := o0.below q; replace o1 := o1.below q; replace o2 := o2.below q; replace hb := hb.trans (q.mono hb.size); clear q; have d0 := o1.cell 0 _ rfl; have d1 := o1.cell 1 _ rfl; have r0 := o2.cell 0 _ rfl; have r1 := o2.cell 1 _ rfl; have f0 := o2.frz 0 _ rfl; have f1 := o2.frz 1 _ rfl)
      | (go_at_call 29; refine (p1 _).mono ?_; clear p1; rintro e w3 ⟨rfl, q⟩; replace o0 := o0.below q; replace o1 := o1.below q; replace o2 := o2.below q; replace hb := hb.trans (q.mono hb.size); clear q; have c0 := o0.cell 0 _ rfl; have c1 := o0.cell 1 _ rfl; have d0 := o1.cell 0 _ rfl; have d1 := o1.cell 1 _ rfl; have r0 := o2.cell 0 _ rfl; have r1 := o2.cell 1 _ rfl; have f0 := o2.frz 0 _ rfl; have f1 := o2.frz 1 _ rfl)
    exact pairEnd rfl o2 hb (by omega) rfl rfl
  · cases B
    · rw [show (true && false) = false by rfl]
      rw [if_neg (by decide), if_neg (by decide)]
      go_enter Try.func11, Try.ntmps11
      go_wp2_with first
        | (go_at_call 29; refine (p0 _).mono ?_; clear p0; rintro e w2 ⟨rfl, q⟩; replace o0 := o0.below q; replace o1 := o1.below q; replace o2 := o2.below q; replace hb := hb.trans (q.mono hb.size); clear q; have d0 := o1.cell 0 _ rfl; have d1 := o1.cell 1 _ rfl; have r0 := o2.cell 0 _ rfl; have r1 := o2.cell 1 _ rfl; have f0 := o2.frz 0 _ rfl; have f1 := o2.frz 1 _ rfl)
        | (go_at_call 29; refine (p1 _).mono ?_; clear p1; rintro e w3 ⟨rfl, q⟩; replace o0 := o0.below q; replace o1 := o1.below q; replace o2 := o2.below q; replace hb := hb.trans (q.mono hb.size); clear q; have c0 := o0.cell 0 _ rfl; have c1 := o0.cell 1 _ rfl; have d0 := o1.cell 0 _ rfl; have d1 := o1.cell 1 _ rfl; have r0 := o2.cell 0 _ rfl; have r1 := o2.cell 1 _ rfl; have f0 := o2.frz 0 _ rfl; have f1 := o2.frz 1 _ rfl)
      exact pairEnd rfl o2 hb (by omega) rfl rfl
    · rw [show (true && true) = true by rfl]
      rw [if_pos rfl, if_pos rfl]
      by_cases k1 : x1 < x0 <;> by_cases k2 : y0 < y1
      · rw [show min x0 x1 = x1 by omega, show max y0 y1 = y1 by omega]
        go_enter Try.func11, Try.ntmps11
        go_wp2_with first
          | (go_at_call 29; refine (p0 _).mono ?_; clear p0; rintro e w2 ⟨rfl, q⟩; replace o0 := o0.below q; replace o1 := o1.below q; replace o2 := o2.below q; replace hb := hb.trans (q.mono hb.size); clear q; have d0 := o1.cell 0 _ rfl; have d1 := o1.cell 1 _ rfl; have r0 := o2.cell 0 _ rfl; have r1 := o2.cell 1 _ rfl; have f0 := o2.frz 0 _ rfl; have f1 := o2.frz 1 _ rfl)
          | (go_at_call 29; refine (p1 _).mono ?_; clear p1; rintro e w3 ⟨rfl, q⟩; replace o0 := o0.below q; replace o1 := o1.below q; replace o2 := o2.below q; replace hb := hb.trans (q.mono hb.size); clear q; have c0 := o0.cell 0 _ rfl; have c1 := o0.cell 1 _ rfl; have d0 := o1.cell 0 _ rfl; have d1 := o1.cell 1 _ rfl; have r0 := o2.cell 0 _ rfl; have r1 := o2.cell 1 _ rfl; have f0 := o2.frz 0 _ rfl; have f1 := o2.frz 1 _ rfl)
        all_goals try (exfalso; omega)
        exact pairEnd rfl o2 hb (by omega) rfl rfl
      · rw [show min x0 x1 = x1 by omega, show max y0 y1 = y0 by omega]
        go_enter Try.func11, Try.ntmps11
        go_wp2_with first
          | (go_at_call 29; refine (p0 _).mono ?_; clear p0; rintro e w2 ⟨rfl, q⟩; replace o0 := o0.below q; replace o1 := o1.below q; replace o2 := o2.below q; replace hb := hb.trans (q.mono hb.size); clear q; have d0 := o1.cell 0 _ rfl; have d1 := o1.cell 1 _ rfl; have r0 := o2.cell 0 _ rfl; have r1 := o2.cell 1 _ rfl; have f0 := o2.frz 0 _ rfl; have f1 := o2.frz 1 _ rfl)
          | (go_at_call 29; refine (p1 _).mono ?_; clear p1; rintro e w3 ⟨rfl, q⟩; replace o0 := o0.below q; replace o1 := o1.below q; replace o2 := o2.below q; replace hb := hb.trans (q.mono hb.size); clear q; have c0 := o0.cell 0 _ rfl; have c1 := o0.cell 1 _ rfl; have d0 := o1.cell 0 _ rfl; have d1 := o1.cell 1 _ rfl; have r0 := o2.cell 0 _ rfl; have r1 := o2.cell 1 _ rfl; have f0 := o2.frz 0 _ rfl; have f1 := o2.frz 1 _ rfl)
        all_goals try (exfalso; omega)
        exact pairEnd rfl o2 hb (by omega) rfl rfl
      · rw [show min x0 x1 = x0 by omega, show max y0 y1 = y1 by omega]
        go_enter Try.func11, Try.ntmps11
        go_wp2_with first
          | (go_at_call 29; refine (p0 _).mono ?_; clear p0; rintro e w2 ⟨rfl, q⟩; replace o0 := o0.below q; replace o1 := o1.below q; replace o2 := o2.below q; replace hb := hb.trans (q.mono hb.size); clear q; have d0 := o1.cell 0 _ rfl; have d1 := o1.cell 1 _ rfl; have r0 := o2.cell 0 _ rfl; have r1 := o2.cell 1 _ rfl; have f0 := o2.frz 0 _ rfl; have f1 := o2.frz 1 _ rfl)
          | (go_at_call 29; refine (p1 _).mono ?_; clear p1; rintro e w3 ⟨rfl, q⟩; replace o0 := o0.below q; replace o1 := o1.below q; replace o2 := o2.below q; replace hb := hb.trans (q.mono hb.size); clear q; have c0 := o0.cell 0 _ rfl; have c1 := o0.cell 1 _ rfl; have d0 := o1.cell 0 _ rfl; have d1 := o1.cell 1 _ rfl; have r0 := o2.cell 0 _ rfl; have r1 := o2.cell 1 _ rfl; have f0 := o2.frz 0 _ rfl; have f1 := o2.frz 1 _ rfl)
        all_goals try (exfalso; omega)
        exact pairEnd rfl o2 hb (by omega) rfl rfl
      · rw [show min x0 x1 = x0 by omega, show max y0 y1 = y0 by omega]
        go_enter Try.func11, Try.ntmps11
        go_wp2_with first
          | (go_at_call 29; refine (p0 _).mono ?_; clear p0; rintro e w2 ⟨rfl, q⟩; replace o0 := o0.below q; replace o1 := o1.below q; replace o2 := o2.below q; replace hb := hb.trans (q.mono hb.size); clear q; have d0 := o1.cell 0 _ rfl; have d1 := o1.cell 1 _ rfl; have r0 := o2.cell 0 _ rfl; have r1 := o2.cell 1 _ rfl; have f0 := o2.frz 0 _ rfl; have f1 := o2.frz 1 _ rfl)
          | (go_at_call 29; refine (p1 _).mono ?_; clear p1; rintro e w3 ⟨rfl, q⟩; replace o0 := o0.below q; replace o1 := o1.below q; replace o2 := o2.below q; replace hb := hb.trans (q.mono hb.size); clear q; have c0 := o0.cell 0 _ rfl; have c1 := o0.cell 1 _ rfl; have d0 := o1.cell 0 _ rfl; have d1 := o1.cell 1 _ rfl; have r0 := o2.cell 0 _ rfl; have r1 := o2.cell 1 _ rfl; have f0 := o2.frz 0 _ rfl; have f1 := o2.frz 1 _ rfl)
        all_goals try (exfalso; omega)
        exact pairEnd rfl o2 hb (by omega) rfl rfl

set_option maxHeartbeats 4000000 in
theorem specHull (w : World) (n x0 y0 x1 y1 : Int) (a1 : (Lit.int .i64 x0).wf = true) (a2 : (Lit.int .i64 y0).wf = true) (a3 : (Lit.int .i64 x1).wf = true) (a4 : (Lit.int .i64 y1).wf = true) :
    Calls Try.prog 9 #[.int .i64 n, .agg #[.int .i64 x0, .int .i64 y0], .agg #[.int .i64 x1, .int .i64 y1]] w (PairOut w (if hullB n x0 y0 x1 y1 = true then min x0 x1 else 0) (if hullB n x0 y0 x1 y1 = true then max y0 y1 else 0) (hullB n x0 y0 x1 y1)) := by
  have p0 := fun W => specPairOk W n x0 y0 a1 a2
  have p1 := fun W => specPairOk W n x1 y1 a3 a4
  obtain ⟨o0, o1⟩ := two_pairs w x0 y0 x1 y1 24
  replace o0 := o0.alloc (.cells #[.int .i64 0, .int .i64 0] 24)
  replace o1 := o1.alloc (.cells #[.int .i64 0, .int .i64 0] 24)
  have o2 := Own.new ((w.alloc (.cells #[.int .i64 x0, .int .i64 y0] 24)).alloc (.cells #[.int .i64 x1, .int .i64 y1] 24)) #[.int .i64 0, .int .i64 0] 24
  have hb := (((Below.refl _ w).alloc (Nat.le_refl _) (.cells #[.int .i64 x0, .int .i64 y0] 24)).alloc (by simp) (.cells #[.int .i64 x1, .int .i64 y1] 24)).alloc (by simp; omega) (.cells #[.int .i64 0, .int .i64 0] 24)
  rw [World.size_alloc, World.size_alloc] at o2
  have c0 := o0.cell 0 _ rfl
  have c1 := o0.cell 1 _ rfl
  unfold hullB
  generalize pokI n x0 y0 = A at *
  generalize pokI n x1 y1 = B at *
  have m0 := fun W => l3min W x0 x1
  have m1 := fun W => l3max W y0 y1
  cases A
  · rw [show (false && B) = false by rfl]
    rw [if_neg (by decide), if_neg (by decide)]
    go_enter Try.func9, Try.ntmps9
    go_wp2_with first
      | (go_at_call 26; refine (p0 _).mono ?_; clear p0; rintro e w2 ⟨rfl, q⟩; replace o0 := o0.below q; replace o1 := o1.below q; replace o2 := o2.below q; replace hb := hb.trans (q.mono hb.size); clear q; have d0 := o1.cell 0 _ rfl; have d1 := o1.cell 1 _ rfl; have r0 := o2.cell 0 _ rfl; have r1 := o2.cell 1 _ rfl; have f0 := o2.frz 0 _ rfl; have f1 := o2.frz 1 _ rfl)
      | (go_at_call 26; refine (p1 _).mono ?_; clear p1; rintro e w3 ⟨rfl, q⟩; replace o0 := o0.below q; replace o1 := o1.below q; replace o2 := o2.below q; replace hb := hb.trans (q.mono hb.size); clear q; have c0 := o0.cell 0 _ rfl; have c1 := o0.cell 1 _ rfl; have d0 := o1.cell 0 _ rfl; have d1 := o1.cell 1 _ rfl; have r0 := o2.cell 0 _ rfl; have r1 := o2.cell 1 _ rfl; have f0 := o2.frz 0 _ rfl; have f1 := o2.frz 1 _ rfl)
    exact pairEnd rfl o2 hb (by omega) rfl rfl
  · cases B
    · rw [show (true && false) = false by rfl]
      rw [if_neg (by decide), if_neg (by decide)]
      go_enter Try.func9, Try.ntmps9
      go_wp2_with first
        | (go_at_call 26; refine (p0 _).mono ?_; clear p0; rintro e w2 ⟨rfl, q⟩; replace o0 := o0.below q; replace o1 := o1.below q; replace o2 := o2.below q; replace hb := hb.trans (q.mono hb.size); clear q; have d0 := o1.cell 0 _ rfl; have d1 := o1.cell 1 _ rfl; have r0 := o2.cell 0 _ rfl; have r1 := o2.cell 1 _ rfl; have f0 := o2.frz 0 _ rfl; have f1 := o2.frz 1 _ rfl)
        | (go_at_call 26; refine (p1 _).mono ?_; clear p1; rintro e w3 ⟨rfl, q⟩; replace o0 := o0.below q; replace o1 := o1.below q; replace o2 := o2.below q; replace hb := hb.trans (q.mono hb.size); clear q; have c0 := o0.cell 0 _ rfl; have c1 := o0.cell 1 _ rfl; have d0 := o1.cell 0 _ rfl; have d1 := o1.cell 1 _ rfl; have r0 := o2.cell 0 _ rfl; have r1 := o2.cell 1 _ rfl; have f0 := o2.frz 0 _ rfl; have f1 := o2.frz 1 _ rfl)
      exact pairEnd rfl o2 hb (by omega) rfl rfl
    · rw [show (true && true) = true by rfl]
      rw [if_pos rfl, if_pos rfl]
      generalize min x0 x1 = u at *
      generalize max y0 y1 = v at *
      go_enter Try.func9, Try.ntmps9
      go_wp2_with first
        | (go_at_call 26; refine (p0 _).mono ?_; clear p0; rintro e w2 ⟨rfl, q⟩; replace o0 := o0.below q; replace o1 := o1.below q; replace o2 := o2.below q; replace hb := hb.trans (q.mono hb.size); clear q; have d0 := o1.cell 0 _ rfl; have d1 := o1.cell 1 _ rfl; have r0 := o2.cell 0 _ rfl; have r1 := o2.cell 1 _ rfl; have f0 := o2.frz 0 _ rfl; have f1 := o2.frz 1 _ rfl)
        | (go_at_call 26; refine (p1 _).mono ?_; clear p1; rintro e w3 ⟨rfl, q⟩; replace o0 := o0.below q; replace o1 := o1.below q; replace o2 := o2.below q; replace hb := hb.trans (q.mono hb.size); clear q; have c0 := o0.cell 0 _ rfl; have c1 := o0.cell 1 _ rfl; have d0 := o1.cell 0 _ rfl; have d1 := o1.cell 1 _ rfl; have r0 := o2.cell 0 _ rfl; have r1 := o2.cell 1 _ rfl; have f0 := o2.frz 0 _ rfl; have f1 := o2.frz 1 _ rfl)
      have l0 := o0.lt
      have l1 := o1.lt
      have l2 := o2.lt
      refine region_steps (by kernel_rfl) (by kernel_rfl) (by kernel_rfl) (fun A0 f a W => ∃ (x19 : Value) (x20 : Value) (x21 : Value) (x22 : Value) (x23 : Value) (x24 : Value) (x25 : Value) (x26 : Value) (x27 : Value) (x28 : Value) (x29 : Value) (x7 : Value), a = { tmps := #[.int .i64 n, .agg #[.int .i64 x0, .int .i64 y0], .agg #[.int .i64 x1, .int .i64 y1], undef, .pointer (some ⟨w.heap.size, 0, none⟩), .pointer (some ⟨w.heap.size + 1, 0, none⟩), .pointer (some ⟨w.heap.size + 1 + 1, 0, none⟩), x7, .int .i64 n, .agg #[.int .i64 x0, .int .i64 y0], .bool true, .bool false, .bool false, .int .i64 n, .agg #[.int .i64 x1, .int .i64 y1], .bool true, .bool false, .bool false, undef, x19, x20, x21, x22, x23, x24, x25, x26, x27, x28, x29], defers := [] } ∧ (f 0 = true → x19 = .pointer (some ⟨w.heap.size, 0, none⟩)) ∧ (f 1 = true → x20 = .int .i64 x0) ∧ (f 2 = true → x21 = .pointer (some ⟨w.heap.size + 1, 0, none⟩)) ∧ (f 3 = true → x22 = .int .i64 x1) ∧ (f 4 = true → x23 = .int .i64 u) ∧ (f 5 = true → x24 = .pointer (some ⟨w.heap.size, 1, none⟩)) ∧ (f 6 = true → x25 = .int .i64 y0) ∧ (f 7 = true → x26 = .pointer (some ⟨w.heap.size + 1, 1, none⟩)) ∧ (f 8 = true → x27 = .int .i64 y1) ∧ (f 9 = true → x28 = .int .i64 v) ∧ (f 10 = true → x29 = .agg #[.int .i64 u, .int .i64 v]) ∧ (f 12 = true → x7 = .bool true) ∧ ((f 11 = false → Own W (w.heap.size + 1 + 1) [.int .i64 0, .int .i64 0]) ∧ (f 11 = true → Own W (w.heap.size + 1 + 1) [.int .i64 u, .int .i64 v])) ∧ Keep (w.heap.size + 1 + 1) w3 W) ?_ ⟨?_, ?_, ?_, ?_, ?_, ?_, ?_, ?_, ?_, ?_, ?_, ?_, ?_, trivial⟩ ?_
      · exact ⟨undef, undef, undef, undef, undef, undef, undef, undef, undef, undef, undef, .bool false, rfl, (fun h => (by cases h)), (fun h => (by cases h)), (fun h => (by cases h)), (fun h => (by cases h)), (fun h => (by cases h)), (fun h => (by cases h)), (fun h => (by cases h)), (fun h => (by cases h)), (fun h => (by cases h)), (fun h => (by cases h)), (fun h => (by cases h)), (fun h => (by cases h)), ⟨fun _ => o2.drew, (fun h => (by cases h))⟩, (Keep.refl _ _).drew⟩
      · rintro f a W ⟨x19, x20, x21, x22, x23, x24, x25, x26, x27, x28, x29, x7, rfl, h0, h1, h2, h3, h4, h5, h6, h7, h8, h9, h10, h12, rz, hB⟩ hf hd K hK
        go_simp
        refine hK _ _ ?_
        exact ⟨_, x20, x21, x22, x23, x24, x25, x26, x27, x28, x29, x7, rfl, fun _ => rfl, fun h => h1 (upd_ne (by decide) h), fun h => h2 (upd_ne (by decide) h), fun h => h3 (upd_ne (by decide) h), fun h => h4 (upd_ne (by decide) h), fun h => h5 (upd_ne (by decide) h), fun h => h6 (upd_ne (by decide) h), fun h => h7 (upd_ne (by decide) h), fun h => h8 (upd_ne (by decide) h), fun h => h9 (upd_ne (by decide) h), fun h => h10 (upd_ne (by decide) h), fun h => h12 (upd_ne (by decide) h), (by obtain ⟨p4, p5⟩ := rz; exact ⟨fun h' => p4 (by rw [upd_same (by decide)] at h'; exact h'), fun h' => p5 (upd_ne (by decide) h')⟩), hB⟩
      · rintro f a W ⟨x19, x20, x21, x22, x23, x24, x25, x26, x27, x28, x29, x7, rfl, h0, h1, h2, h3, h4, h5, h6, h7, h8, h9, h10, h12, rz, hB⟩ hf hd K hK
        have e0 := h0 (dep_of hd (e := ⟨0, .data⟩) (by simp) rfl)
        subst e0
        have r0 := (hB.cell (p := ⟨w.heap.size, 0, none⟩) l0 (show (w.heap.size : Nat) ≠ w.heap.size + 1 + 1 by omega)).trans c0
        go_simp
        refine hK _ _ ?_
        exact ⟨_, _, x21, x22, x23, x24, x25, x26, x27, x28, x29, x7, rfl, fun _ => rfl, fun _ => rfl, fun h => h2 (upd_ne (by decide) h), fun h => h3 (upd_ne (by decide) h), fun h => h4 (upd_ne (by decide) h), fun h => h5 (upd_ne (by decide) h), fun h => h6 (upd_ne (by decide) h), fun h => h7 (upd_ne (by decide) h), fun h => h8 (upd_ne (by decide) h), fun h => h9 (upd_ne (by decide) h), fun h => h10 (upd_ne (by decide) h), fun h => h12 (upd_ne (by decide) h), (by obtain ⟨p4, p5⟩ := rz; exact ⟨fun h' => p4 (by rw [upd_same (by decide)] at h'; exact h'), fun h' => p5 (upd_ne (by decide) h')⟩), hB⟩
      · rintro f a W ⟨x19, x20, x21, x22, x23, x24, x25, x26, x27, x28, x29, x7, rfl, h0, h1, h2, h3, h4, h5, h6, h7, h8, h9, h10, h12, rz, hB⟩ hf hd K hK
        go_simp
        refine hK _ _ ?_
        exact ⟨x19, x20, _, x22, x23, x24, x25, x26, x27, x28, x29, x7, rfl, fun h => h0 (upd_ne (by decide) h), fun h => h1 (upd_ne (by decide) h), fun _ => rfl, fun h => h3 (upd_ne (by decide) h), fun h => h4 (upd_ne (by decide) h), fun h => h5 (upd_ne (by decide) h), fun h => h6 (upd_ne (by decide) h), fun h => h7 (upd_ne (by decide) h), fun h => h8 (upd_ne (by decide) h), fun h => h9 (upd_ne (by decide) h), fun h => h10 (upd_ne (by decide) h), fun h => h12 (upd_ne (by decide) h), (by obtain ⟨p4, p5⟩ := rz; exact ⟨fun h' => p4 (by rw [upd_same (by decide)] at h'; exact h'), fun h' => p5 (upd_ne (by decide) h')⟩), hB⟩
      · rintro f a W ⟨x19, x20, x21, x22, x23, x24, x25, x26, x27, x28, x29, x7, rfl, h0, h1, h2, h3, h4, h5, h6, h7, h8, h9, h10, h12, rz, hB⟩ hf hd K hK
        have e2 := h2 (dep_of hd (e := ⟨2, .data⟩) (by simp) rfl)
        subst e2
        have r0 := (hB.cell (p := ⟨w.heap.size + 1, 0, none⟩) l1 (show (w.heap.size + 1 : Nat) ≠ w.heap.size + 1 + 1 by omega)).trans d0
        go_simp
        refine hK _ _ ?_
        exact ⟨x19, x20, _, _, x23, x24, x25, x26, x27, x28, x29, x7, rfl, fun h => h0 (upd_ne (by decide) h), fun h => h1 (upd_ne (by decide) h), fun _ => rfl, fun _ => rfl, fun h => h4 (upd_ne (by decide) h), fun h => h5 (upd_ne (by decide) h), fun h => h6 (upd_ne (by decide) h), fun h => h7 (upd_ne (by decide) h), fun h => h8 (upd_ne (by decide) h), fun h => h9 (upd_ne (by decide) h), fun h => h10 (upd_ne (by decide) h), fun h => h12 (upd_ne (by decide) h), (by obtain ⟨p4, p5⟩ := rz; exact ⟨fun h' => p4 (by rw [upd_same (by decide)] at h'; exact h'), fun h' => p5 (upd_ne (by decide) h')⟩), hB⟩
      · rintro f a W ⟨x19, x20, x21, x22, x23, x24, x25, x26, x27, x28, x29, x7, rfl, h0, h1, h2, h3, h4, h5, h6, h7, h8, h9, h10, h12, rz, hB⟩ hf hd K hK
        have e1 := h1 (dep_of hd (e := ⟨1, .data⟩) (by simp) rfl)
        subst e1
        have e3 := h3 (dep_of hd (e := ⟨3, .data⟩) (by simp) rfl)
        subst e3
        go_simp
        refine (m0 _).mono ?_
        rintro e W2 ⟨rfl, rfl⟩
        refine hK _ _ ?_
        exact ⟨x19, _, x21, _, _, x24, x25, x26, x27, x28, x29, x7, rfl, fun h => h0 (upd_ne (by decide) h), fun _ => rfl, fun h => h2 (upd_ne (by decide) h), fun _ => rfl, fun _ => rfl, fun h => h5 (upd_ne (by decide) h), fun h => h6 (upd_ne (by decide) h), fun h => h7 (upd_ne (by decide) h), fun h => h8 (upd_ne (by decide) h), fun h => h9 (upd_ne (by decide) h), fun h => h10 (upd_ne (by decide) h), fun h => h12 (upd_ne (by decide) h), (by obtain ⟨p4, p5⟩ := rz; exact ⟨fun h' => p4 (by rw [upd_same (by decide)] at h'; exact h'), fun h' => p5 (upd_ne (by decide) h')⟩), hB⟩
      · rintro f a W ⟨x19, x20, x21, x22, x23, x24, x25, x26, x27, x28, x29, x7, rfl, h0, h1, h2, h3, h4, h5, h6, h7, h8, h9, h10, h12, rz, hB⟩ hf hd K hK
        go_simp
        refine hK _ _ ?_
        exact ⟨x19, x20, x21, x22, x23, _, x25, x26, x27, x28, x29, x7, rfl, fun h => h0 (upd_ne (by decide) h), fun h => h1 (upd_ne (by decide) h), fun h => h2 (upd_ne (by decide) h), fun h => h3 (upd_ne (by decide) h), fun h => h4 (upd_ne (by decide) h), fun _ => rfl, fun h => h6 (upd_ne (by decide) h), fun h => h7 (upd_ne (by decide) h), fun h => h8 (upd_ne (by decide) h), fun h => h9 (upd_ne (by decide) h), fun h => h10 (upd_ne (by decide) h), fun h => h12 (upd_ne (by decide) h), (by obtain ⟨p4, p5⟩ := rz; exact ⟨fun h' => p4 (by rw [upd_same (by decide)] at h'; exact h'), fun h' => p5 (upd_ne (by decide) h')⟩), hB⟩
      · rintro f a W ⟨x19, x20, x21, x22, x23, x24, x25, x26, x27, x28, x29, x7, rfl, h0, h1, h2, h3, h4, h5, h6, h7, h8, h9, h10, h12, rz, hB⟩ hf hd K hK
        have e5 := h5 (dep_of hd (e := ⟨5, .data⟩) (by simp) rfl)
        subst e5
        have r0 := (hB.cell (p := ⟨w.heap.size, 1, none⟩) l0 (show (w.heap.size : Nat) ≠ w.heap.size + 1 + 1 by omega)).trans c1
        go_simp
        refine hK _ _ ?_
        exact ⟨x19, x20, x21, x22, x23, _, _, x26, x27, x28, x29, x7, rfl, fun h => h0 (upd_ne (by decide) h), fun h => h1 (upd_ne (by decide) h), fun h => h2 (upd_ne (by decide) h), fun h => h3 (upd_ne (by decide) h), fun h => h4 (upd_ne (by decide) h), fun _ => rfl, fun _ => rfl, fun h => h7 (upd_ne (by decide) h), fun h => h8 (upd_ne (by decide) h), fun h => h9 (upd_ne (by decide) h), fun h => h10 (upd_ne (by decide) h), fun h => h12 (upd_ne (by decide) h), (by obtain ⟨p4, p5⟩ := rz; exact ⟨fun h' => p4 (by rw [upd_same (by decide)] at h'; exact h'), fun h' => p5 (upd_ne (by decide) h')⟩), hB⟩
      · rintro f a W ⟨x19, x20, x21, x22, x23, x24, x25, x26, x27, x28, x29, x7, rfl, h0, h1, h2, h3, h4, h5, h6, h7, h8, h9, h10, h12, rz, hB⟩ hf hd K hK
        go_simp
        refine hK _ _ ?_
        exact ⟨x19, x20, x21, x22, x23, x24, x25, _, x27, x28, x29, x7, rfl, fun h => h0 (upd_ne (by decide) h), fun h => h1 (upd_ne (by decide) h), fun h => h2 (upd_ne (by decide) h), fun h => h3 (upd_ne (by decide) h), fun h => h4 (upd_ne (by decide) h), fun h => h5 (upd_ne (by decide) h), fun h => h6 (upd_ne (by decide) h), fun _ => rfl, fun h => h8 (upd_ne (by decide) h), fun h => h9 (upd_ne (by decide) h), fun h => h10 (upd_ne (by decide) h), fun h => h12 (upd_ne (by decide) h), (by obtain ⟨p4, p5⟩ := rz; exact ⟨fun h' => p4 (by rw [upd_same (by decide)] at h'; exact h'), fun h' => p5 (upd_ne (by decide) h')⟩), hB⟩
      · rintro f a W ⟨x19, x20, x21, x22, x23, x24, x25, x26, x27, x28, x29, x7, rfl, h0, h1, h2, h3, h4, h5, h6, h7, h8, h9, h10, h12, rz, hB⟩ hf hd K hK
        have e7 := h7 (dep_of hd (e := ⟨7, .data⟩) (by simp) rfl)
        subst e7
        have r0 := (hB.cell (p := ⟨w.heap.size + 1, 1, none⟩) l1 (show (w.heap.size + 1 : Nat) ≠ w.heap.size + 1 + 1 by omega)).trans d1
        go_simp
        refine hK _ _ ?_
        exact ⟨x19, x20, x21, x22, x23, x24, x25, _, _, x28, x29, x7, rfl, fun h => h0 (upd_ne (by decide) h), fun h => h1 (upd_ne (by decide) h), fun h => h2 (upd_ne (by decide) h), fun h => h3 (upd_ne (by decide) h), fun h => h4 (upd_ne (by decide) h), fun h => h5 (upd_ne (by decide) h), fun h => h6 (upd_ne (by decide) h), fun _ => rfl, fun _ => rfl, fun h => h9 (upd_ne (by decide) h), fun h => h10 (upd_ne (by decide) h), fun h => h12 (upd_ne (by decide) h), (by obtain ⟨p4, p5⟩ := rz; exact ⟨fun h' => p4 (by rw [upd_same (by decide)] at h'; exact h'), fun h' => p5 (upd_ne (by decide) h')⟩), hB⟩
      · rintro f a W ⟨x19, x20, x21, x22, x23, x24, x25, x26, x27, x28, x29, x7, rfl, h0, h1, h2, h3, h4, h5, h6, h7, h8, h9, h10, h12, rz, hB⟩ hf hd K hK
        have e6 := h6 (dep_of hd (e := ⟨6, .data⟩) (by simp) rfl)
        subst e6
        have e8 := h8 (dep_of hd (e := ⟨8, .data⟩) (by simp) rfl)
        subst e8
        go_simp
        refine (m1 _).mono ?_
        rintro e W2 ⟨rfl, rfl⟩
        refine hK _ _ ?_
        exact ⟨x19, x20, x21, x22, x23, x24, _, x26, _, _, x29, x7, rfl, fun h => h0 (upd_ne (by decide) h), fun h => h1 (upd_ne (by decide) h), fun h => h2 (upd_ne (by decide) h), fun h => h3 (upd_ne (by decide) h), fun h => h4 (upd_ne (by decide) h), fun h => h5 (upd_ne (by decide) h), fun _ => rfl, fun h => h7 (upd_ne (by decide) h), fun _ => rfl, fun _ => rfl, fun h => h10 (upd_ne (by decide) h), fun h => h12 (upd_ne (by decide) h), (by obtain ⟨p4, p5⟩ := rz; exact ⟨fun h' => p4 (by rw [upd_same (by decide)] at h'; exact h'), fun h' => p5 (upd_ne (by decide) h')⟩), hB⟩
      · rintro f a W ⟨x19, x20, x21, x22, x23, x24, x25, x26, x27, x28, x29, x7, rfl, h0, h1, h2, h3, h4, h5, h6, h7, h8, h9, h10, h12, rz, hB⟩ hf hd K hK
        have e4 := h4 (dep_of hd (e := ⟨4, .data⟩) (by simp) rfl)
        subst e4
        have e9 := h9 (dep_of hd (e := ⟨9, .data⟩) (by simp) rfl)
        subst e9
        go_simp
        refine hK _ _ ?_
        exact ⟨x19, x20, x21, x22, _, x24, x25, x26, x27, _, _, x7, rfl, fun h => h0 (upd_ne (by decide) h), fun h => h1 (upd_ne (by decide) h), fun h => h2 (upd_ne (by decide) h), fun h => h3 (upd_ne (by decide) h), fun _ => rfl, fun h => h5 (upd_ne (by decide) h), fun h => h6 (upd_ne (by decide) h), fun h => h7 (upd_ne (by decide) h), fun h => h8 (upd_ne (by decide) h), fun _ => rfl, fun _ => rfl, fun h => h12 (upd_ne (by decide) h), (by obtain ⟨p4, p5⟩ := rz; exact ⟨fun h' => p4 (by rw [upd_same (by decide)] at h'; exact h'), fun h' => p5 (upd_ne (by decide) h')⟩), hB⟩
      · rintro f a W ⟨x19, x20, x21, x22, x23, x24, x25, x26, x27, x28, x29, x7, rfl, h0, h1, h2, h3, h4, h5, h6, h7, h8, h9, h10, h12, rz, hB⟩ hf hd K hK
        have e10 := h10 (dep_of hd (e := ⟨10, .data⟩) (by simp) rfl)
        subst e10
        have oz := rz.1 hf
        have r0 := oz.cell 0 _ rfl
        have o0 := oz.frz 0 _ rfl
        have r1 := oz.cell 1 _ rfl
        have o1 := oz.frz 1 _ rfl
        go_simp
        refine hK _ _ ?_
        exact ⟨x19, x20, x21, x22, x23, x24, x25, x26, x27, x28, _, x7, rfl, fun h => h0 (upd_ne (by decide) h), fun h => h1 (upd_ne (by decide) h), fun h => h2 (upd_ne (by decide) h), fun h => h3 (upd_ne (by decide) h), fun h => h4 (upd_ne (by decide) h), fun h => h5 (upd_ne (by decide) h), fun h => h6 (upd_ne (by decide) h), fun h => h7 (upd_ne (by decide) h), fun h => h8 (upd_ne (by decide) h), fun h => h9 (upd_ne (by decide) h), fun _ => rfl, fun h => h12 (upd_ne (by decide) h), ⟨fun h' => (by rw [upd_self] at h'; cases h'), fun _ => Own.set (i := 1) (Own.set (i := 0) (oz) _ (by simp)) _ (by simp)⟩, ((hB.setCell (p := ⟨w.heap.size + 1 + 1, 0, none⟩) rfl _).setCell (p := ⟨w.heap.size + 1 + 1, 1, none⟩) rfl _)⟩
      · rintro f a W ⟨x19, x20, x21, x22, x23, x24, x25, x26, x27, x28, x29, x7, rfl, h0, h1, h2, h3, h4, h5, h6, h7, h8, h9, h10, h12, rz, hB⟩ hf hd K hK
        go_simp
        refine hK _ _ ?_
        exact ⟨x19, x20, x21, x22, x23, x24, x25, x26, x27, x28, x29, _, rfl, fun h => h0 (upd_ne (by decide) h), fun h => h1 (upd_ne (by decide) h), fun h => h2 (upd_ne (by decide) h), fun h => h3 (upd_ne (by decide) h), fun h => h4 (upd_ne (by decide) h), fun h => h5 (upd_ne (by decide) h), fun h => h6 (upd_ne (by decide) h), fun h => h7 (upd_ne (by decide) h), fun h => h8 (upd_ne (by decide) h), fun h => h9 (upd_ne (by decide) h), fun h => h10 (upd_ne (by decide) h), fun _ => rfl, (by obtain ⟨p4, p5⟩ := rz; exact ⟨fun h' => p4 (by rw [upd_same (by decide)] at h'; exact h'), fun h' => p5 (upd_ne (by decide) h')⟩), hB⟩
      rintro f a WC ⟨x19, x20, x21, x22, x23, x24, x25, x26, x27, x28, x29, x7, rfl, h0, h1, h2, h3, h4, h5, h6, h7, h8, h9, h10, h12, rz, qB⟩ hall
      have e0 := h0 (hall 0 (by decide))
      subst e0
      have e1 := h1 (hall 1 (by decide))
      subst e1
      have e2 := h2 (hall 2 (by decide))
      subst e2
      have e3 := h3 (hall 3 (by decide))
      subst e3
      have e4 := h4 (hall 4 (by decide))
      subst e4
      have e5 := h5 (hall 5 (by decide))
      subst e5
      have e6 := h6 (hall 6 (by decide))
      subst e6
      have e7 := h7 (hall 7 (by decide))
      subst e7
      have e8 := h8 (hall 8 (by decide))
      subst e8
      have e9 := h9 (hall 9 (by decide))
      subst e9
      have e10 := h10 (hall 10 (by decide))
      subst e10
      have e12 := h12 (hall 12 (by decide))
      subst e12
      replace rz := rz.2 (hall 11 (by decide))
      clear hall h0 h1 h2 h3 h4 h5 h6 h7 h8 h9 h10 h12
      try dsimp only
      go_wp2
      exact pairEndO rfl rz (hb.trans (qB.below (by omega) hb.size)) rfl rfl

end Go.Proofs.Yteohgmmenlinbaf
