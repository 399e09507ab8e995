/- The contract of the model's 'l5Pairs'. -/
import Derived.Test.YteohgmmenlinbabDrawH
import Derived.Test.YteohgmmenlinbabDrawK
import Derived.Test.YteohgmmenlinbabDrawI
import Derived.Test.YteohgmmenlinbabOwns
import Derived.Test.YteohgmmenlinbabRegInv
namespace Go.Proofs.Yteohgmmenlinbab
open Go.ChangeShapes Go.WideShapes Go.ChangeAt Go.RowKit
set_option linter.unusedVariables false

def PairsOut (w : World) (e : Ending) (w' : World) : Prop :=
  ∃ n x y x' y', e = .returned (.tuple #[.int .i64 n, .agg #[.int .i64 x, .int .i64 y], .agg #[.int .i64 x', .int .i64 y']]) ∧ (Lit.int .i64 x).wf = true ∧ (Lit.int .i64 y).wf = true ∧ (Lit.int .i64 x').wf = true ∧ (Lit.int .i64 y').wf = true ∧ Below w.heap.size w w'

theorem pairsEnd {w W : World} {T : Array Value} {n x y x' y' : Int} (rs : Own W w.heap.size [.int .i64 x, .int .i64 y]) (rs' : Own W (w.heap.size + 1) [.int .i64 x', .int .i64 y']) (hb : Below w.heap.size w W)
    (a1 : (Lit.int .i64 x).wf = true) (a2 : (Lit.int .i64 y).wf = true) (a3 : (Lit.int .i64 x').wf = true) (a4 : (Lit.int .i64 y').wf = true)
    (h2 : T.getD 2 undef = .int .i64 n) (h3 : T.getD 3 undef = .pointer (some ⟨w.heap.size, 0, none⟩)) (h4 : T.getD 4 undef = .pointer (some ⟨w.heap.size + 1, 0, none⟩)) :
    bodyPost Try.prog Try.f49 (PairsOut w) Exit.ret { tmps := T, defers := [] } W := by
  have c0 := rs.cell 0 _ rfl
  have c1 := rs.cell 1 _ rfl
  have d0 := rs'.cell 0 _ rfl
  have d1 := rs'.cell 1 _ rfl
  refine bodyPost_ret (v := .tuple #[.int .i64 n, .agg #[.int .i64 x, .int .i64 y], .agg #[.int .i64 x', .int .i64 y']]) ?_ rfl ⟨n, x, y, x', y', rfl, a1, a2, a3, a4, hb⟩
  simp at h2 h3 h4
  simp [results, Try.f49, go_sem, h2, h3, h4, c0, c1, d0, d1]

set_option maxHeartbeats 4000000 in
theorem pairs (w : World) (a : Option Addr) (len cap : Nat) (hc : Code8 w a len) (hl : len ≤ cap) (hm : len ≤ 1048576) :
    Calls Try.prog 49 #[.slice a len cap] w (PairsOut w) := by
  have O := owns2 w #[.int .i64 0, .int .i64 0] #[.int .i64 0, .int .i64 0] 24
  have hb0 := ((Below.refl _ w).alloc (Nat.le_refl _) (.cells #[.int .i64 0, .int .i64 0] 24)).alloc (by simp) (.cells #[.int .i64 0, .int .i64 0] 24)
  have hc1 : Code8 ((w.alloc (.cells #[.int .i64 0, .int .i64 0] 24)).alloc (.cells #[.int .i64 0, .int .i64 0] 24)) a len := by
    rcases hc with hc | ⟨rb, ro, ha, hlt, hcell⟩
    · exact .inl hc
    · refine .inr ⟨rb, ro, ha, by simp; omega, fun j hj => ?_⟩
      obtain ⟨z, z0, z1, hz⟩ := hcell j hj
      exact ⟨z, z0, z1, (hb0.cell (p := ⟨rb, ro + j, none⟩) hlt).trans hz⟩
  have ho := opened _ a len cap hc1 hl hm
  clear hc hc1
  go_enter Try.func49, Try.ntmps49
  go_wp2_with first
    | (go_at_call 41; go_must (refine ho.mono ?_); clear ho; rintro e w1 ⟨rfl, hr, hk⟩)
  have hsz : ((w.alloc (.cells #[.int .i64 0, .int .i64 0] 24)).alloc (.cells #[.int .i64 0, .int .i64 0] 24)).heap.size = w.heap.size + 1 + 1 := by simp
  rw [hsz] at hr hk
  have hkw : Keep (w.heap.size + 1 + 1) w w1 := (((Keep.refl _ w).alloc _).alloc _).trans hk
  have p0 : Own w1 w.heap.size _ := (O.get 0 _ rfl).keep hk (by show w.heap.size + 0 ≠ _; omega)
  have p1 : Own w1 (w.heap.size + 1) _ := (O.get 1 _ rfl).keep hk (by show w.heap.size + 1 ≠ _; omega)
  clear hk O hb0 hsz
  go_wp2_with first
    | (go_at_call 83; refine (width _ _ _ hr (by omega)).mono ?_; clear hr; rintro e w2 ⟨n, rfl, n0, n1, hr, hk2⟩; replace hkw := hkw.trans hk2; replace p0 := p0.keep hk2 (by omega); replace p1 := p1.keep hk2 (by omega); clear hk2)
    | (go_at_call 43; refine (good _ _ _ _ hr (by omega)).mono ?_; clear hr; rintro e w3 ⟨x, y, rfl, nx, ny, hr, hk3⟩; replace hkw := hkw.trans hk3; replace p0 := p0.keep hk3 (by omega); replace p1 := p1.keep hk3 (by omega); clear hk3; have hl3 : w.heap.size + 1 + 1 < w3.heap.size := hr.1; replace hr := hr.alloc (.cells #[.int .i64 x, .int .i64 y] 24); replace p0 := p0.alloc (.cells #[.int .i64 x, .int .i64 y] 24); replace p1 := p1.alloc (.cells #[.int .i64 x, .int .i64 y] 24); have p2 := Own.new w3 #[.int .i64 x, .int .i64 y] 24; replace hkw := hkw.alloc (.cells #[.int .i64 x, .int .i64 y] 24))
    | (go_at_call 42; refine (pickSt (St.start hr) (by omega)).mono ?_; clear hr; rintro e w4 ⟨r, rfl, r0, r1, h4⟩; replace r1 := r1 (by omega); have hr := h4.1; replace hkw := hkw.trans h4.2; replace p0 := p0.keep h4.2 (by omega); replace p1 := p1.keep h4.2 (by omega); replace p2 := p2.keep h4.2 (by omega); clear h4)
  · have hbw := hkw.below (B := w.heap.size) (by omega) (Nat.le_refl _)
    have hz : (r == 0) = true := by assumption
    rw [hz]
    refine region_steps (by kernel_rfl) (by kernel_rfl) (by kernel_rfl) (fun A0 f act W => ∃ (x18 : Value) (x19 : Value) (x20 : Value) (x21 : Value) (x22 : Value) (x23 : Value) (x2 : Value) (va vb : Int), act = { tmps := #[.slice a len cap, undef, x2, .pointer (some ⟨w.heap.size, 0, none⟩), .pointer (some ⟨w.heap.size + 1, 0, none⟩), .pointer (some ⟨w.heap.size + 1 + 1, 0, none⟩), .int .i64 n, .pointer (some ⟨w3.heap.size, 0, none⟩), .slice a len cap, .pointer (some ⟨w.heap.size + 1 + 1, 0, none⟩), .pointer (some ⟨w.heap.size + 1 + 1, 0, none⟩), .int .i64 n, .pointer (some ⟨w.heap.size + 1 + 1, 0, none⟩), .int .i64 n, .agg #[.int .i64 x, .int .i64 y], .pointer (some ⟨w.heap.size + 1 + 1, 0, none⟩), .int .i64 r, .bool true, x18, x19, x20, x21, x22, x23, undef, undef, undef, undef, undef], defers := [] } ∧ (f 0 = true → x18 = .int .i64 n) ∧ (f 1 = true → x19 = .pointer (some ⟨w.heap.size + 1 + 1, 0, none⟩)) ∧ (f 2 = true → x20 = .int .i64 n) ∧ (f 3 = true → x21 = .agg #[.int .i64 x, .int .i64 y]) ∧ (f 4 = true → x22 = .agg #[.int .i64 va, .int .i64 vb]) ∧ (f 5 = true → x23 = .agg #[.int .i64 x, .int .i64 y]) ∧ (f 6 = true → x2 = .int .i64 n) ∧ (f 4 = true → (Lit.int .i64 va).wf = true ∧ (Lit.int .i64 vb).wf = true) ∧ Own W w3.heap.size [.int .i64 x, .int .i64 y] ∧ ((f 7 = false → Own W w.heap.size [.int .i64 0, .int .i64 0]) ∧ (f 7 = true → Own W w.heap.size [.int .i64 va, .int .i64 vb])) ∧ ((f 8 = false → Own W (w.heap.size + 1) [.int .i64 0, .int .i64 0]) ∧ (f 8 = true → Own W (w.heap.size + 1) [.int .i64 x, .int .i64 y])) ∧ (f 4 = false → Rd W (w.heap.size + 1 + 1) (0 + 2 + 300 + 1)) ∧ w.heap.size + 1 + 1 < W.heap.size ∧ (f 6 = true → f 4 = true) ∧ ((f 7 = true → f 4 = true) ∧ (f 8 = true → f 4 = true)) ∧ Below w.heap.size w W) ?_ ⟨?_, ?_, ?_, ?_, ?_, ?_, ?_, ?_, ?_, trivial⟩ ?_
    · exact ⟨undef, undef, undef, undef, undef, undef, .int .i64 0, 0, 0, rfl, (fun h => (by cases h)), (fun h => (by cases h)), (fun h => (by cases h)), (fun h => (by cases h)), (fun h => (by cases h)), (fun h => (by cases h)), (fun h => (by cases h)), (fun h => (by cases h)), p2.drew, ⟨fun _ => p0.drew, (fun h => (by cases h))⟩, ⟨fun _ => p1.drew, (fun h => (by cases h))⟩, fun _ => hr, hr.1, (fun h => (by cases h)), ⟨(fun h => (by cases h)), (fun h => (by cases h))⟩, hbw.drew⟩
    · rintro f act W ⟨x18, x19, x20, x21, x22, x23, x2, va, vb, rfl, h0, h1, h2, h3, h4, h5, h6, wv, k2, k3, k4, k5, k6, k7, k8, hB⟩ hf hd K hK
      go_simp
      refine hK _ _ ?_
      exact ⟨_, x19, x20, x21, x22, x23, x2, va, vb, rfl, fun _ => rfl, fun h => h1 (upd_ne (by decide) h), fun h => h2 (upd_ne (by decide) h), fun h => h3 (upd_ne (by decide) h), fun h => h4 (upd_ne (by decide) h), fun h => h5 (upd_ne (by decide) h), fun h => h6 (upd_ne (by decide) h), fun h => wv (upd_ne (by decide) h), k2, ⟨fun h' => k3.1 (by rw [upd_same (by decide)] at h'; exact h'), fun h' => k3.2 (upd_ne (by decide) h')⟩, ⟨fun h' => k4.1 (by rw [upd_same (by decide)] at h'; exact h'), fun h' => k4.2 (upd_ne (by decide) h')⟩, fun h => k5 (by rw [upd_same (by decide)] at h; exact h), k6, fun h => upd_of (k7 (upd_ne (by decide) h)), ⟨fun h => upd_of (k8.1 (upd_ne (by decide) h)), fun h => upd_of (k8.2 (upd_ne (by decide) h))⟩, hB⟩
    · rintro f act W ⟨x18, x19, x20, x21, x22, x23, x2, va, vb, rfl, h0, h1, h2, h3, h4, h5, h6, wv, k2, k3, k4, k5, k6, k7, k8, hB⟩ hf hd K hK
      go_simp
      refine hK _ _ ?_
      exact ⟨x18, _, x20, x21, x22, x23, x2, va, vb, rfl, fun h => h0 (upd_ne (by decide) h), fun _ => rfl, fun h => h2 (upd_ne (by decide) h), fun h => h3 (upd_ne (by decide) h), fun h => h4 (upd_ne (by decide) h), fun h => h5 (upd_ne (by decide) h), fun h => h6 (upd_ne (by decide) h), fun h => wv (upd_ne (by decide) h), k2, ⟨fun h' => k3.1 (by rw [upd_same (by decide)] at h'; exact h'), fun h' => k3.2 (upd_ne (by decide) h')⟩, ⟨fun h' => k4.1 (by rw [upd_same (by decide)] at h'; exact h'), fun h' => k4.2 (upd_ne (by decide) h')⟩, fun h => k5 (by rw [upd_same (by decide)] at h; exact h), k6, fun h => upd_of (k7 (upd_ne (by decide) h)), ⟨fun h => upd_of (k8.1 (upd_ne (by decide) h)), fun h => upd_of (k8.2 (upd_ne (by decide) h))⟩, hB⟩
    · rintro f act W ⟨x18, x19, x20, x21, x22, x23, x2, va, vb, rfl, h0, h1, h2, h3, h4, h5, h6, wv, k2, k3, k4, k5, k6, k7, k8, hB⟩ hf hd K hK
      go_simp
      refine hK _ _ ?_
      exact ⟨x18, x19, _, x21, x22, x23, x2, va, vb, rfl, fun h => h0 (upd_ne (by decide) h), fun h => h1 (upd_ne (by decide) h), fun _ => rfl, fun h => h3 (upd_ne (by decide) h), fun h => h4 (upd_ne (by decide) h), fun h => h5 (upd_ne (by decide) h), fun h => h6 (upd_ne (by decide) h), fun h => wv (upd_ne (by decide) h), k2, ⟨fun h' => k3.1 (by rw [upd_same (by decide)] at h'; exact h'), fun h' => k3.2 (upd_ne (by decide) h')⟩, ⟨fun h' => k4.1 (by rw [upd_same (by decide)] at h'; exact h'), fun h' => k4.2 (upd_ne (by decide) h')⟩, fun h => k5 (by rw [upd_same (by decide)] at h; exact h), k6, fun h => upd_of (k7 (upd_ne (by decide) h)), ⟨fun h => upd_of (k8.1 (upd_ne (by decide) h)), fun h => upd_of (k8.2 (upd_ne (by decide) h))⟩, hB⟩
    · rintro f act W ⟨x18, x19, x20, x21, x22, x23, x2, va, vb, rfl, h0, h1, h2, h3, h4, h5, h6, wv, k2, k3, k4, k5, k6, k7, k8, hB⟩ hf hd K hK
      have r0 := k2.cell 0 _ rfl
      have r1 := k2.cell 1 _ rfl
      go_simp
      refine hK _ _ ?_
      exact ⟨x18, x19, x20, _, x22, x23, x2, va, vb, rfl, fun h => h0 (upd_ne (by decide) h), fun h => h1 (upd_ne (by decide) h), fun h => h2 (upd_ne (by decide) h), fun _ => rfl, fun h => h4 (upd_ne (by decide) h), fun h => h5 (upd_ne (by decide) h), fun h => h6 (upd_ne (by decide) h), fun h => wv (upd_ne (by decide) h), k2, ⟨fun h' => k3.1 (by rw [upd_same (by decide)] at h'; exact h'), fun h' => k3.2 (upd_ne (by decide) h')⟩, ⟨fun h' => k4.1 (by rw [upd_same (by decide)] at h'; exact h'), fun h' => k4.2 (upd_ne (by decide) h')⟩, fun h => k5 (by rw [upd_same (by decide)] at h; exact h), k6, fun h => upd_of (k7 (upd_ne (by decide) h)), ⟨fun h => upd_of (k8.1 (upd_ne (by decide) h)), fun h => upd_of (k8.2 (upd_ne (by decide) h))⟩, hB⟩
    · rintro f act W ⟨x18, x19, x20, x21, x22, x23, x2, va, vb, rfl, h0, h1, h2, h3, h4, h5, h6, wv, k2, k3, k4, k5, k6, k7, k8, hB⟩ hf hd K hK
      have e1 := h1 (dep_of hd (e := ⟨1, .data⟩) (by simp) rfl)
      subst e1
      have e2 := h2 (dep_of hd (e := ⟨2, .data⟩) (by simp) rfl)
      subst e2
      have e3 := h3 (dep_of hd (e := ⟨3, .data⟩) (by simp) rfl)
      subst e3
      have hr := k5 hf
      go_simp
      refine (within _ _ _ n x y hr (by omega) nx ny).mono ?_
      rintro e W2 ⟨va', vb', rfl, wa, wb, hr', hk'⟩
      refine hK _ _ ?_
      exact ⟨x18, _, _, _, _, x23, x2, va', vb', rfl, fun h => h0 (upd_ne (by decide) h), fun _ => rfl, fun _ => rfl, fun _ => rfl, fun _ => rfl, fun h => h5 (upd_ne (by decide) h), fun h => h6 (upd_ne (by decide) h), fun _ => ⟨wa, wb⟩, k2.keep hk' (by omega), ⟨fun h' => (k3.1 (by rw [upd_same (by decide)] at h'; exact h')).keep hk' (by omega), fun h' => absurd (k8.1 (upd_ne (by decide) h')) (by rw [hf]; decide)⟩, ⟨fun h' => (k4.1 (by rw [upd_same (by decide)] at h'; exact h')).keep hk' (by omega), fun h' => absurd (k8.2 (upd_ne (by decide) h')) (by rw [hf]; decide)⟩, fun h => (by rw [upd_self] at h; cases h), Nat.lt_of_lt_of_le k6 hk'.size, fun _ => upd_self, ⟨fun _ => upd_self, fun _ => upd_self⟩, hB.trans (hk'.below (by omega) hB.size)⟩
    · rintro f act W ⟨x18, x19, x20, x21, x22, x23, x2, va, vb, rfl, h0, h1, h2, h3, h4, h5, h6, wv, k2, k3, k4, k5, k6, k7, k8, hB⟩ hf hd K hK
      have r0 := k2.cell 0 _ rfl
      have r1 := k2.cell 1 _ rfl
      go_simp
      refine hK _ _ ?_
      exact ⟨x18, x19, x20, x21, x22, _, x2, va, vb, rfl, fun h => h0 (upd_ne (by decide) h), fun h => h1 (upd_ne (by decide) h), fun h => h2 (upd_ne (by decide) h), fun h => h3 (upd_ne (by decide) h), fun h => h4 (upd_ne (by decide) h), fun _ => rfl, fun h => h6 (upd_ne (by decide) h), fun h => wv (upd_ne (by decide) h), k2, ⟨fun h' => k3.1 (by rw [upd_same (by decide)] at h'; exact h'), fun h' => k3.2 (upd_ne (by decide) h')⟩, ⟨fun h' => k4.1 (by rw [upd_same (by decide)] at h'; exact h'), fun h' => k4.2 (upd_ne (by decide) h')⟩, fun h => k5 (by rw [upd_same (by decide)] at h; exact h), k6, fun h => upd_of (k7 (upd_ne (by decide) h)), ⟨fun h => upd_of (k8.1 (upd_ne (by decide) h)), fun h => upd_of (k8.2 (upd_ne (by decide) h))⟩, hB⟩
    · rintro f act W ⟨x18, x19, x20, x21, x22, x23, x2, va, vb, rfl, h0, h1, h2, h3, h4, h5, h6, wv, k2, k3, k4, k5, k6, k7, k8, hB⟩ hf hd K hK
      have e0 := h0 (dep_of hd (e := ⟨0, .data⟩) (by simp) rfl)
      subst e0
      go_simp
      refine hK _ _ ?_
      exact ⟨_, x19, x20, x21, x22, x23, _, va, vb, rfl, fun _ => rfl, fun h => h1 (upd_ne (by decide) h), fun h => h2 (upd_ne (by decide) h), fun h => h3 (upd_ne (by decide) h), fun h => h4 (upd_ne (by decide) h), fun h => h5 (upd_ne (by decide) h), fun _ => rfl, fun h => wv (upd_ne (by decide) h), k2, ⟨fun h' => k3.1 (by rw [upd_same (by decide)] at h'; exact h'), fun h' => k3.2 (upd_ne (by decide) h')⟩, ⟨fun h' => k4.1 (by rw [upd_same (by decide)] at h'; exact h'), fun h' => k4.2 (upd_ne (by decide) h')⟩, fun h => k5 (by rw [upd_same (by decide)] at h; exact h), k6, fun _ => upd_of (dep_of hd (e := ⟨4, .chain⟩) (by simp) rfl), ⟨fun h => upd_of (k8.1 (upd_ne (by decide) h)), fun h => upd_of (k8.2 (upd_ne (by decide) h))⟩, hB⟩
    · rintro f act W ⟨x18, x19, x20, x21, x22, x23, x2, va, vb, rfl, h0, h1, h2, h3, h4, h5, h6, wv, k2, k3, k4, k5, k6, k7, k8, hB⟩ hf hd K hK
      have e4 := h4 (dep_of hd (e := ⟨4, .data⟩) (by simp) rfl)
      subst e4
      have oz := k3.1 hf
      have r0 := oz.cell 0 _ rfl
      have o0 := oz.frz 0 _ rfl
      have r1 := oz.cell 1 _ rfl
      have o1 := oz.frz 1 _ rfl
      go_simp
      refine hK _ _ ?_
      have fC : f 4 = true := dep_of hd (e := ⟨4, .data⟩) (by simp) rfl
      exact ⟨x18, x19, x20, x21, _, x23, x2, va, vb, rfl, fun h => h0 (upd_ne (by decide) h), fun h => h1 (upd_ne (by decide) h), fun h => h2 (upd_ne (by decide) h), fun h => h3 (upd_ne (by decide) h), fun _ => rfl, fun h => h5 (upd_ne (by decide) h), fun h => h6 (upd_ne (by decide) h), fun h => wv (upd_ne (by decide) h), ((k2).other (j := w.heap.size) (i := 0) _ (by omega)).other (j := w.heap.size) (i := 1) _ (by omega), ⟨fun h' => (by rw [upd_self] at h'; cases h'), fun _ => Own.set2 oz _ _⟩, ⟨fun h' => ((k4.1 (by rw [upd_same (by decide)] at h'; exact h')).other (j := w.heap.size) (i := 0) _ (by omega)).other (j := w.heap.size) (i := 1) _ (by omega), fun h' => ((k4.2 (upd_ne (by decide) h')).other (j := w.heap.size) (i := 0) _ (by omega)).other (j := w.heap.size) (i := 1) _ (by omega)⟩, fun h => (by rw [upd_same (by decide), fC] at h; cases h), (by simpa [World.setCell] using k6), fun h => upd_of (k7 (upd_ne (by decide) h)), ⟨fun _ => upd_of fC, fun _ => upd_of fC⟩, (hB.setCell (p := ⟨w.heap.size, 0, none⟩) (show w.heap.size ≤ w.heap.size by omega) _).setCell (p := ⟨w.heap.size, 1, none⟩) (show w.heap.size ≤ w.heap.size by omega) _⟩
    · rintro f act W ⟨x18, x19, x20, x21, x22, x23, x2, va, vb, rfl, h0, h1, h2, h3, h4, h5, h6, wv, k2, k3, k4, k5, k6, k7, k8, hB⟩ hf hd K hK
      have e5 := h5 (dep_of hd (e := ⟨5, .data⟩) (by simp) rfl)
      subst e5
      have oz := k4.1 hf
      have r0 := oz.cell 0 _ rfl
      have o0 := oz.frz 0 _ rfl
      have r1 := oz.cell 1 _ rfl
      have o1 := oz.frz 1 _ rfl
      go_simp
      refine hK _ _ ?_
      have fC : f 4 = true := dep_of hd (e := ⟨4, .phase⟩) (by simp) rfl
      exact ⟨x18, x19, x20, x21, x22, _, x2, va, vb, rfl, fun h => h0 (upd_ne (by decide) h), fun h => h1 (upd_ne (by decide) h), fun h => h2 (upd_ne (by decide) h), fun h => h3 (upd_ne (by decide) h), fun h => h4 (upd_ne (by decide) h), fun _ => rfl, fun h => h6 (upd_ne (by decide) h), fun h => wv (upd_ne (by decide) h), ((k2).other (j := w.heap.size + 1) (i := 0) _ (by omega)).other (j := w.heap.size + 1) (i := 1) _ (by omega), ⟨fun h' => ((k3.1 (by rw [upd_same (by decide)] at h'; exact h')).other (j := w.heap.size + 1) (i := 0) _ (by omega)).other (j := w.heap.size + 1) (i := 1) _ (by omega), fun h' => ((k3.2 (upd_ne (by decide) h')).other (j := w.heap.size + 1) (i := 0) _ (by omega)).other (j := w.heap.size + 1) (i := 1) _ (by omega)⟩, ⟨fun h' => (by rw [upd_self] at h'; cases h'), fun _ => Own.set2 oz _ _⟩, fun h => (by rw [upd_same (by decide), fC] at h; cases h), (by simpa [World.setCell] using k6), fun h => upd_of (k7 (upd_ne (by decide) h)), ⟨fun _ => upd_of fC, fun _ => upd_of fC⟩, (hB.setCell (p := ⟨w.heap.size + 1, 0, none⟩) (show w.heap.size ≤ w.heap.size + 1 by omega) _).setCell (p := ⟨w.heap.size + 1, 1, none⟩) (show w.heap.size ≤ w.heap.size + 1 by omega) _⟩
    rintro f act WZ ⟨x18, x19, x20, x21, x22, x23, x2, va, vb, rfl, h0, h1, h2, h3, h4, h5, h6, wv, k2, k3, k4, k5, k6, k7, k8, hB⟩ hall
    have e0 := h0 (hall 0 (by decide))
    subst e0
    have e1 := h1 (hall 1 (by decide))
    subst e1
    have e2 := h2 (hall 2 (by decide))
    subst e2
    have e3 := h3 (hall 3 (by decide))
    subst e3
    have e4 := h4 (hall 4 (by decide))
    subst e4
    have e5 := h5 (hall 5 (by decide))
    subst e5
    have e6 := h6 (hall 6 (by decide))
    subst e6
    have q0 := k3.2 (hall 7 (by decide))
    have q1 := k4.2 (hall 8 (by decide))
    have wv := wv (hall 4 (by decide))
    clear hall k2 k3 k4 k5 k6 k7 k8 h0 h1 h2 h3 h4 h5 h6
    try dsimp only
    go_wp2
    exact pairsEnd q0 q1 hB wv.1 wv.2 nx.wf ny.wf rfl rfl rfl
  · have hbw := hkw.below (B := w.heap.size) (by omega) (Nat.le_refl _)
    have hz : (r == 0) = false := by assumption
    rw [hz]
    refine region_steps (by kernel_rfl) (by kernel_rfl) (by kernel_rfl) (fun A0 f act W => ∃ (x24 : Value) (x25 : Value) (x26 : Value) (x27 : Value) (x28 : Value) (x2 : Value) (va vb : Int), act = { tmps := #[.slice a len cap, undef, x2, .pointer (some ⟨w.heap.size, 0, none⟩), .pointer (some ⟨w.heap.size + 1, 0, none⟩), .pointer (some ⟨w.heap.size + 1 + 1, 0, none⟩), .int .i64 n, .pointer (some ⟨w3.heap.size, 0, none⟩), .slice a len cap, .pointer (some ⟨w.heap.size + 1 + 1, 0, none⟩), .pointer (some ⟨w.heap.size + 1 + 1, 0, none⟩), .int .i64 n, .pointer (some ⟨w.heap.size + 1 + 1, 0, none⟩), .int .i64 n, .agg #[.int .i64 x, .int .i64 y], .pointer (some ⟨w.heap.size + 1 + 1, 0, none⟩), .int .i64 r, .bool false, undef, undef, undef, undef, undef, undef, x24, x25, x26, x27, x28], defers := [] } ∧ (f 0 = true → x24 = .int .i64 n) ∧ (f 1 = true → x25 = .agg #[.int .i64 x, .int .i64 y]) ∧ (f 2 = true → x26 = .pointer (some ⟨w.heap.size + 1 + 1, 0, none⟩)) ∧ (f 3 = true → x27 = .int .i64 n) ∧ (f 4 = true → x28 = .agg #[.int .i64 va, .int .i64 vb]) ∧ (f 5 = true → x2 = .int .i64 n) ∧ (f 4 = true → (Lit.int .i64 va).wf = true ∧ (Lit.int .i64 vb).wf = true) ∧ Own W w3.heap.size [.int .i64 x, .int .i64 y] ∧ ((f 6 = false → Own W w.heap.size [.int .i64 0, .int .i64 0]) ∧ (f 6 = true → Own W w.heap.size [.int .i64 x, .int .i64 y])) ∧ ((f 7 = false → Own W (w.heap.size + 1) [.int .i64 0, .int .i64 0]) ∧ (f 7 = true → Own W (w.heap.size + 1) [.int .i64 va, .int .i64 vb])) ∧ (f 4 = false → Rd W (w.heap.size + 1 + 1) (0 + 2 + 300 + 1)) ∧ w.heap.size + 1 + 1 < W.heap.size ∧ (f 5 = true → f 4 = true) ∧ ((f 6 = true → f 4 = true) ∧ (f 7 = true → f 4 = true)) ∧ Below w.heap.size w W) ?_ ⟨?_, ?_, ?_, ?_, ?_, ?_, ?_, ?_, trivial⟩ ?_
    · exact ⟨undef, undef, undef, undef, undef, .int .i64 0, 0, 0, rfl, (fun h => (by cases h)), (fun h => (by cases h)), (fun h => (by cases h)), (fun h => (by cases h)), (fun h => (by cases h)), (fun h => (by cases h)), (fun h => (by cases h)), p2.drew, ⟨fun _ => p0.drew, (fun h => (by cases h))⟩, ⟨fun _ => p1.drew, (fun h => (by cases h))⟩, fun _ => hr, hr.1, (fun h => (by cases h)), ⟨(fun h => (by cases h)), (fun h => (by cases h))⟩, hbw.drew⟩
    · rintro f act W ⟨x24, x25, x26, x27, x28, x2, va, vb, rfl, h0, h1, h2, h3, h4, h5, wv, k2, k3, k4, k5, k6, k7, k8, hB⟩ hf hd K hK
      go_simp
      refine hK _ _ ?_
      exact ⟨_, x25, x26, x27, x28, x2, va, vb, rfl, fun _ => rfl, fun h => h1 (upd_ne (by decide) h), fun h => h2 (upd_ne (by decide) h), fun h => h3 (upd_ne (by decide) h), fun h => h4 (upd_ne (by decide) h), fun h => h5 (upd_ne (by decide) h), fun h => wv (upd_ne (by decide) h), k2, ⟨fun h' => k3.1 (by rw [upd_same (by decide)] at h'; exact h'), fun h' => k3.2 (upd_ne (by decide) h')⟩, ⟨fun h' => k4.1 (by rw [upd_same (by decide)] at h'; exact h'), fun h' => k4.2 (upd_ne (by decide) h')⟩, fun h => k5 (by rw [upd_same (by decide)] at h; exact h), k6, fun h => upd_of (k7 (upd_ne (by decide) h)), ⟨fun h => upd_of (k8.1 (upd_ne (by decide) h)), fun h => upd_of (k8.2 (upd_ne (by decide) h))⟩, hB⟩
    · rintro f act W ⟨x24, x25, x26, x27, x28, x2, va, vb, rfl, h0, h1, h2, h3, h4, h5, wv, k2, k3, k4, k5, k6, k7, k8, hB⟩ hf hd K hK
      have r0 := k2.cell 0 _ rfl
      have r1 := k2.cell 1 _ rfl
      go_simp
      refine hK _ _ ?_
      exact ⟨x24, _, x26, x27, x28, x2, va, vb, rfl, fun h => h0 (upd_ne (by decide) h), fun _ => rfl, fun h => h2 (upd_ne (by decide) h), fun h => h3 (upd_ne (by decide) h), fun h => h4 (upd_ne (by decide) h), fun h => h5 (upd_ne (by decide) h), fun h => wv (upd_ne (by decide) h), k2, ⟨fun h' => k3.1 (by rw [upd_same (by decide)] at h'; exact h'), fun h' => k3.2 (upd_ne (by decide) h')⟩, ⟨fun h' => k4.1 (by rw [upd_same (by decide)] at h'; exact h'), fun h' => k4.2 (upd_ne (by decide) h')⟩, fun h => k5 (by rw [upd_same (by decide)] at h; exact h), k6, fun h => upd_of (k7 (upd_ne (by decide) h)), ⟨fun h => upd_of (k8.1 (upd_ne (by decide) h)), fun h => upd_of (k8.2 (upd_ne (by decide) h))⟩, hB⟩
    · rintro f act W ⟨x24, x25, x26, x27, x28, x2, va, vb, rfl, h0, h1, h2, h3, h4, h5, wv, k2, k3, k4, k5, k6, k7, k8, hB⟩ hf hd K hK
      go_simp
      refine hK _ _ ?_
      exact ⟨x24, x25, _, x27, x28, x2, va, vb, rfl, fun h => h0 (upd_ne (by decide) h), fun h => h1 (upd_ne (by decide) h), fun _ => rfl, fun h => h3 (upd_ne (by decide) h), fun h => h4 (upd_ne (by decide) h), fun h => h5 (upd_ne (by decide) h), fun h => wv (upd_ne (by decide) h), k2, ⟨fun h' => k3.1 (by rw [upd_same (by decide)] at h'; exact h'), fun h' => k3.2 (upd_ne (by decide) h')⟩, ⟨fun h' => k4.1 (by rw [upd_same (by decide)] at h'; exact h'), fun h' => k4.2 (upd_ne (by decide) h')⟩, fun h => k5 (by rw [upd_same (by decide)] at h; exact h), k6, fun h => upd_of (k7 (upd_ne (by decide) h)), ⟨fun h => upd_of (k8.1 (upd_ne (by decide) h)), fun h => upd_of (k8.2 (upd_ne (by decide) h))⟩, hB⟩
    · rintro f act W ⟨x24, x25, x26, x27, x28, x2, va, vb, rfl, h0, h1, h2, h3, h4, h5, wv, k2, k3, k4, k5, k6, k7, k8, hB⟩ hf hd K hK
      go_simp
      refine hK _ _ ?_
      exact ⟨x24, x25, x26, _, x28, x2, va, vb, rfl, fun h => h0 (upd_ne (by decide) h), fun h => h1 (upd_ne (by decide) h), fun h => h2 (upd_ne (by decide) h), fun _ => rfl, fun h => h4 (upd_ne (by decide) h), fun h => h5 (upd_ne (by decide) h), fun h => wv (upd_ne (by decide) h), k2, ⟨fun h' => k3.1 (by rw [upd_same (by decide)] at h'; exact h'), fun h' => k3.2 (upd_ne (by decide) h')⟩, ⟨fun h' => k4.1 (by rw [upd_same (by decide)] at h'; exact h'), fun h' => k4.2 (upd_ne (by decide) h')⟩, fun h => k5 (by rw [upd_same (by decide)] at h; exact h), k6, fun h => upd_of (k7 (upd_ne (by decide) h)), ⟨fun h => upd_of (k8.1 (upd_ne (by decide) h)), fun h => upd_of (k8.2 (upd_ne (by decide) h))⟩, hB⟩
    · rintro f act W ⟨x24, x25, x26, x27, x28, x2, va, vb, rfl, h0, h1, h2, h3, h4, h5, wv, k2, k3, k4, k5, k6, k7, k8, hB⟩ hf hd K hK
      have e2 := h2 (dep_of hd (e := ⟨2, .data⟩) (by simp) rfl)
      subst e2
      have e3 := h3 (dep_of hd (e := ⟨3, .data⟩) (by simp) rfl)
      subst e3
      have hr := k5 hf
      go_simp
      refine (good _ _ _ n hr (by omega)).mono ?_
      rintro e W2 ⟨va', vb', rfl, wa, wb, hr', hk'⟩
      refine hK _ _ ?_
      exact ⟨x24, x25, _, _, _, x2, va', vb', rfl, fun h => h0 (upd_ne (by decide) h), fun h => h1 (upd_ne (by decide) h), fun _ => rfl, fun _ => rfl, fun _ => rfl, fun h => h5 (upd_ne (by decide) h), fun _ => ⟨wa.wf, wb.wf⟩, k2.keep hk' (by omega), ⟨fun h' => (k3.1 (by rw [upd_same (by decide)] at h'; exact h')).keep hk' (by omega), fun h' => absurd (k8.1 (upd_ne (by decide) h')) (by rw [hf]; decide)⟩, ⟨fun h' => (k4.1 (by rw [upd_same (by decide)] at h'; exact h')).keep hk' (by omega), fun h' => absurd (k8.2 (upd_ne (by decide) h')) (by rw [hf]; decide)⟩, fun h => (by rw [upd_self] at h; cases h), Nat.lt_of_lt_of_le k6 hk'.size, fun _ => upd_self, ⟨fun _ => upd_self, fun _ => upd_self⟩, hB.trans (hk'.below (by omega) hB.size)⟩
    · rintro f act W ⟨x24, x25, x26, x27, x28, x2, va, vb, rfl, h0, h1, h2, h3, h4, h5, wv, k2, k3, k4, k5, k6, k7, k8, hB⟩ hf hd K hK
      have e0 := h0 (dep_of hd (e := ⟨0, .data⟩) (by simp) rfl)
      subst e0
      go_simp
      refine hK _ _ ?_
      exact ⟨_, x25, x26, x27, x28, _, va, vb, rfl, fun _ => rfl, fun h => h1 (upd_ne (by decide) h), fun h => h2 (upd_ne (by decide) h), fun h => h3 (upd_ne (by decide) h), fun h => h4 (upd_ne (by decide) h), fun _ => rfl, fun h => wv (upd_ne (by decide) h), k2, ⟨fun h' => k3.1 (by rw [upd_same (by decide)] at h'; exact h'), fun h' => k3.2 (upd_ne (by decide) h')⟩, ⟨fun h' => k4.1 (by rw [upd_same (by decide)] at h'; exact h'), fun h' => k4.2 (upd_ne (by decide) h')⟩, fun h => k5 (by rw [upd_same (by decide)] at h; exact h), k6, fun _ => upd_of (dep_of hd (e := ⟨4, .chain⟩) (by simp) rfl), ⟨fun h => upd_of (k8.1 (upd_ne (by decide) h)), fun h => upd_of (k8.2 (upd_ne (by decide) h))⟩, hB⟩
    · rintro f act W ⟨x24, x25, x26, x27, x28, x2, va, vb, rfl, h0, h1, h2, h3, h4, h5, wv, k2, k3, k4, k5, k6, k7, k8, hB⟩ hf hd K hK
      have e1 := h1 (dep_of hd (e := ⟨1, .data⟩) (by simp) rfl)
      subst e1
      have oz := k3.1 hf
      have r0 := oz.cell 0 _ rfl
      have o0 := oz.frz 0 _ rfl
      have r1 := oz.cell 1 _ rfl
      have o1 := oz.frz 1 _ rfl
      go_simp
      refine hK _ _ ?_
      have fC : f 4 = true := k7 (dep_of hd (e := ⟨5, .chain⟩) (by simp) rfl)
      exact ⟨x24, _, x26, x27, x28, x2, va, vb, rfl, fun h => h0 (upd_ne (by decide) h), fun _ => rfl, fun h => h2 (upd_ne (by decide) h), fun h => h3 (upd_ne (by decide) h), fun h => h4 (upd_ne (by decide) h), fun h => h5 (upd_ne (by decide) h), fun h => wv (upd_ne (by decide) h), ((k2).other (j := w.heap.size) (i := 0) _ (by omega)).other (j := w.heap.size) (i := 1) _ (by omega), ⟨fun h' => (by rw [upd_self] at h'; cases h'), fun _ => Own.set2 oz _ _⟩, ⟨fun h' => ((k4.1 (by rw [upd_same (by decide)] at h'; exact h')).other (j := w.heap.size) (i := 0) _ (by omega)).other (j := w.heap.size) (i := 1) _ (by omega), fun h' => ((k4.2 (upd_ne (by decide) h')).other (j := w.heap.size) (i := 0) _ (by omega)).other (j := w.heap.size) (i := 1) _ (by omega)⟩, fun h => (by rw [upd_same (by decide), fC] at h; cases h), (by simpa [World.setCell] using k6), fun h => upd_of (k7 (upd_ne (by decide) h)), ⟨fun _ => upd_of fC, fun _ => upd_of fC⟩, (hB.setCell (p := ⟨w.heap.size, 0, none⟩) (show w.heap.size ≤ w.heap.size by omega) _).setCell (p := ⟨w.heap.size, 1, none⟩) (show w.heap.size ≤ w.heap.size by omega) _⟩
    · rintro f act W ⟨x24, x25, x26, x27, x28, x2, va, vb, rfl, h0, h1, h2, h3, h4, h5, wv, k2, k3, k4, k5, k6, k7, k8, hB⟩ hf hd K hK
      have e4 := h4 (dep_of hd (e := ⟨4, .data⟩) (by simp) rfl)
      subst e4
      have oz := k4.1 hf
      have r0 := oz.cell 0 _ rfl
      have o0 := oz.frz 0 _ rfl
      have r1 := oz.cell 1 _ rfl
      have o1 := oz.frz 1 _ rfl
      go_simp
      refine hK _ _ ?_
      have fC : f 4 = true := dep_of hd (e := ⟨4, .data⟩) (by simp) rfl
      exact ⟨x24, x25, x26, x27, _, x2, va, vb, rfl, fun h => h0 (upd_ne (by decide) h), fun h => h1 (upd_ne (by decide) h), fun h => h2 (upd_ne (by decide) h), fun h => h3 (upd_ne (by decide) h), fun _ => rfl, fun h => h5 (upd_ne (by decide) h), fun h => wv (upd_ne (by decide) h), ((k2).other (j := w.heap.size + 1) (i := 0) _ (by omega)).other (j := w.heap.size + 1) (i := 1) _ (by omega), ⟨fun h' => ((k3.1 (by rw [upd_same (by decide)] at h'; exact h')).other (j := w.heap.size + 1) (i := 0) _ (by omega)).other (j := w.heap.size + 1) (i := 1) _ (by omega), fun h' => ((k3.2 (upd_ne (by decide) h')).other (j := w.heap.size + 1) (i := 0) _ (by omega)).other (j := w.heap.size + 1) (i := 1) _ (by omega)⟩, ⟨fun h' => (by rw [upd_self] at h'; cases h'), fun _ => Own.set2 oz _ _⟩, fun h => (by rw [upd_same (by decide), fC] at h; cases h), (by simpa [World.setCell] using k6), fun h => upd_of (k7 (upd_ne (by decide) h)), ⟨fun _ => upd_of fC, fun _ => upd_of fC⟩, (hB.setCell (p := ⟨w.heap.size + 1, 0, none⟩) (show w.heap.size ≤ w.heap.size + 1 by omega) _).setCell (p := ⟨w.heap.size + 1, 1, none⟩) (show w.heap.size ≤ w.heap.size + 1 by omega) _⟩
    rintro f act WZ ⟨x24, x25, x26, x27, x28, x2, va, vb, rfl, h0, h1, h2, h3, h4, h5, wv, k2, k3, k4, k5, k6, k7, k8, hB⟩ hall
    have e0 := h0 (hall 0 (by decide))
    subst e0
    have e1 := h1 (hall 1 (by decide))
    subst e1
    have e2 := h2 (hall 2 (by decide))
    subst e2
    have e3 := h3 (hall 3 (by decide))
    subst e3
    have e4 := h4 (hall 4 (by decide))
    subst e4
    have e5 := h5 (hall 5 (by decide))
    subst e5
    have q0 := k3.2 (hall 6 (by decide))
    have q1 := k4.2 (hall 7 (by decide))
    have wv := wv (hall 4 (by decide))
    clear hall k2 k3 k4 k5 k6 k7 k8 h0 h1 h2 h3 h4 h5
    try dsimp only
    go_wp2
    exact pairsEnd q0 q1 hB nx.wf ny.wf wv.1 wv.2 rfl rfl rfl

end Go.Proofs.Yteohgmmenlinbab
