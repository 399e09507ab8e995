/- The walk of the exact law of PairCut: it returns true. -/
import Derived.Test.YteohgmmenlinbafPairJ
import Derived.Test.YteohgmmenlinbafPairL
namespace Go.Proofs.Yteohgmmenlinbaf
open Go.RowKit
set_option linter.unusedVariables false

theorem cutBoth (n x y g h : Int) (a1 : (Lit.int .i64 x).wf = true) (a2 : (Lit.int .i64 y).wf = true) (a3 : (Lit.int .i64 g).wf = true) (a4 : (Lit.int .i64 h).wf = true) :
    ∃ r0 r1 r2 r3 k, (∀ W, Calls Try.prog 15 #[.int .i64 n, .agg #[.int .i64 x, .int .i64 y], .agg #[.int .i64 g, .int .i64 h]] W (TwoOut2 W r0 r1 r2 r3 k)) ∧
      (∀ W, Calls Try.prog 16 #[.int .i64 n, .agg #[.int .i64 x, .int .i64 y], .agg #[.int .i64 g, .int .i64 h]] W (TwoOut2 W r0 r1 r2 r3 k)) := by
  by_cases hk : cutB n x y g h = true
  · have hk' := hk
    unfold cutB at hk'
    simp only [Bool.and_eq_true, decide_eq_true_eq] at hk'
    obtain ⟨k1, k2, k3, k4⟩ := hk'
    by_cases kk : gapI h y < gapI x g
    · refine ⟨h, y, x, g, true, fun W => ?_, fun W => implCut W n x y g h a1 a2 a3 a4 k1 k2 h y x g true ⟨by rw [k3, k4]; rfl, by simp [kk], by simp [kk], by simp [kk], by simp [kk]⟩⟩
      have := specCut W n x y g h a1 a2 a3 a4 k1 k2 k3 k4
      rw [if_pos kk] at this
      exact this
    · refine ⟨x, g, h, y, true, fun W => ?_, fun W => implCut W n x y g h a1 a2 a3 a4 k1 k2 x g h y true ⟨by rw [k3, k4]; rfl, by simp [kk], by simp [kk], by simp [kk], by simp [kk]⟩⟩
      have := specCut W n x y g h a1 a2 a3 a4 k1 k2 k3 k4
      rw [if_neg kk] at this
      exact this
  · rw [Bool.not_eq_true] at hk
    refine ⟨0, 0, 0, 0, false, fun W => specCutNo W n x y g h a1 a2 a3 a4 hk, fun W => ?_⟩
    by_cases hp : pokI n x y = false ∨ h ≤ g
    · exact implCutNo1 W n x y g h a1 a2 a3 a4 hp
    · have k1 : pokI n x y = true := by
        cases hq : pokI n x y
        · exact absurd (.inl hq) hp
        · rfl
      have k2 : g < h := by
        rcases Int.lt_or_le g h with q | q
        · exact q
        · exact absurd (.inr q) hp
      refine implCut W n x y g h a1 a2 a3 a4 k1 k2 0 0 0 0 false ⟨?_, rfl, rfl, rfl, rfl⟩
      unfold cutB at hk
      rw [k1, decide_eq_true k2] at hk
      simpa using hk.symm

set_option maxRecDepth 20000 in
set_option maxHeartbeats 4000000 in
theorem walkExPairCut (n : Int) (hn : (Lit.int .i64 n).wf = true) (x0 y0 : Int) (wx0 : (Lit.int .i64 x0).wf = true) (wy0 : (Lit.int .i64 y0).wf = true) (x1 y1 : Int) (wx1 : (Lit.int .i64 x1).wf = true) (wy1 : (Lit.int .i64 y1).wf = true) (w : World) :
    Calls Try.prog 5 #[.int .i64 n, .agg #[.int .i64 x0, .int .i64 y0], .agg #[.int .i64 x1, .int .i64 y1]] w fun e w' => e = .returned (.bool true) ∧ Below w.heap.size w w' := by
  obtain ⟨ra, rb, rc, rd, k, hs, hi⟩ := cutBoth n x0 y0 x1 y1 wx0 wy0 wx1 wy1
  clear wx0 wy0 wx1 wy1
  obtain ⟨o0, o1⟩ := two_pairs w x0 y0 x1 y1 23
  have hb := ((Below.refl _ w).alloc (Nat.le_refl _) (.cells #[.int .i64 x0, .int .i64 y0] 23)).alloc (by simp) (.cells #[.int .i64 x1, .int .i64 y1] 23)
  go_enter Try.func5, Try.ntmps5
  go_wp2
  generalize (w.alloc (.cells #[.int .i64 x0, .int .i64 y0] 23)).alloc (.cells #[.int .i64 x1, .int .i64 y1] 23) = WA at *
  have c0 := o0.cell 0 _ rfl
  have c1 := o0.cell 1 _ rfl
  have d0 := o1.cell 0 _ rfl
  have d1 := o1.cell 1 _ rfl
  have l0 := o0.lt
  have l1 := o1.lt
  refine region_steps (by kernel_rfl) (by kernel_rfl) (by kernel_rfl) (fun A0 f a W => ∃ (x14 : Value) (x15 : Value) (x16 : Value) (x17 : Value) (x18 : Value) (x19 : Value) (x13 : Value) (x20 : Value) (x21 : Value) (x22 : Value) (x7 : Value) (x8 : Value) (x9 : Value) (k10 : Nat) (k11 : Nat), a = { tmps := #[.int .i64 n, .agg #[.int .i64 x0, .int .i64 y0], .agg #[.int .i64 x1, .int .i64 y1], undef, .pointer (some ⟨w.heap.size, 0, none⟩), .pointer (some ⟨w.heap.size + 1, 0, none⟩), .bool false, x7, x8, x9, undef, undef, undef, x13, x14, x15, x16, x17, x18, x19, x20, x21, x22, undef, undef, undef, undef, undef, undef, undef, undef, undef, undef, undef, undef, undef, undef, undef, undef, undef, undef, undef, undef, undef, undef, undef, undef, undef], defers := [] } ∧ (f 0 = true → x14 = .int .i64 n) ∧ (f 1 = true → x15 = .agg #[.int .i64 x0, .int .i64 y0]) ∧ (f 2 = true → x16 = .agg #[.int .i64 x0, .int .i64 y0]) ∧ (f 3 = true → x17 = .agg #[.int .i64 x1, .int .i64 y1]) ∧ (f 4 = true → x18 = .agg #[.int .i64 x1, .int .i64 y1]) ∧ (f 5 = true → x19 = .tuple #[.agg #[.int .i64 ra, .int .i64 rb], .agg #[.int .i64 rc, .int .i64 rd], .bool k]) ∧ (f 6 = true → x13 = .tuple #[.agg #[.int .i64 ra, .int .i64 rb], .agg #[.int .i64 rc, .int .i64 rd], .bool k]) ∧ (f 7 = true → x20 = .agg #[.int .i64 ra, .int .i64 rb]) ∧ (f 8 = true → x21 = .agg #[.int .i64 rc, .int .i64 rd]) ∧ (f 9 = true → x22 = .bool k) ∧ (f 10 = true → x7 = .pointer (some ⟨k10, 0, none⟩) ∧ WA.heap.size ≤ k10 ∧ k10 < W.heap.size ∧ (f 12 = false → Own W k10 [.int .i64 0, .int .i64 0]) ∧ (f 12 = true → Own W k10 [.int .i64 ra, .int .i64 rb])) ∧ (f 11 = true → x8 = .pointer (some ⟨k11, 0, none⟩) ∧ WA.heap.size ≤ k11 ∧ k11 < W.heap.size ∧ (f 13 = false → Own W k11 [.int .i64 0, .int .i64 0]) ∧ (f 13 = true → Own W k11 [.int .i64 rc, .int .i64 rd])) ∧ (f 14 = true → x9 = .bool k) ∧ (f 12 = true → f 10 = true) ∧ (f 13 = true → f 11 = true) ∧ (f 10 = true → f 11 = true → k10 ≠ k11) ∧ Below WA.heap.size WA W) ?_ ⟨?_, ?_, ?_, ?_, ?_, ?_, ?_, ?_, ?_, ?_, ?_, ?_, ?_, ?_, ?_, trivial⟩ ?_
  · exact ⟨undef, undef, undef, undef, undef, undef, undef, undef, undef, undef, undef, undef, undef, 0, 0, rfl, (fun h => (by cases h)), (fun h => (by cases h)), (fun h => (by cases h)), (fun h => (by cases h)), (fun h => (by cases h)), (fun h => (by cases h)), (fun h => (by cases h)), (fun h => (by cases h)), (fun h => (by cases h)), (fun h => (by cases h)), (fun h => (by cases h)), (fun h => (by cases h)), (fun h => (by cases h)), (fun h => (by cases h)), (fun h => (by cases h)), (fun h => (by cases h)), (Below.refl _ _).drew⟩
  · rintro f a W ⟨x14, x15, x16, x17, x18, x19, x13, x20, x21, x22, x7, x8, x9, k10, k11, rfl, h0, h1, h2, h3, h4, h5, h6, h7, h8, h9, h10, h11, h14, n10, n11, m10_11, hB⟩ hf hd K hK
    go_simp
    refine hK _ _ ?_
    exact ⟨_, x15, x16, x17, x18, x19, x13, x20, x21, x22, x7, x8, x9, k10, k11, rfl, fun _ => rfl, fun h => h1 (upd_ne (by decide) h), fun h => h2 (upd_ne (by decide) h), fun h => h3 (upd_ne (by decide) h), fun h => h4 (upd_ne (by decide) h), fun h => h5 (upd_ne (by decide) h), fun h => h6 (upd_ne (by decide) h), fun h => h7 (upd_ne (by decide) h), fun h => h8 (upd_ne (by decide) h), fun h => h9 (upd_ne (by decide) h), fun h => (by obtain ⟨p1, p2, p3, p4, p5⟩ := h10 (upd_ne (by decide) h); exact ⟨p1, p2, p3, fun h' => p4 (by rw [upd_same (by decide)] at h'; exact h'), fun h' => p5 (upd_ne (by decide) h')⟩), fun h => (by obtain ⟨p1, p2, p3, p4, p5⟩ := h11 (upd_ne (by decide) h); exact ⟨p1, p2, p3, fun h' => p4 (by rw [upd_same (by decide)] at h'; exact h'), fun h' => p5 (upd_ne (by decide) h')⟩), fun h => h14 (upd_ne (by decide) h), fun h => upd_of (n10 (upd_ne (by decide) h)), fun h => upd_of (n11 (upd_ne (by decide) h)), fun h h' => m10_11 (upd_ne (by decide) h) (upd_ne (by decide) h'), hB⟩
  · rintro f a W ⟨x14, x15, x16, x17, x18, x19, x13, x20, x21, x22, x7, x8, x9, k10, k11, rfl, h0, h1, h2, h3, h4, h5, h6, h7, h8, h9, h10, h11, h14, n10, n11, m10_11, hB⟩ hf hd K hK
    have r0 := (hB.cell (p := ⟨w.heap.size, 0, none⟩) l0).trans c0
    have r1 := (hB.cell (p := ⟨w.heap.size, 1, none⟩) l0).trans c1
    go_simp
    refine hK _ _ ?_
    exact ⟨x14, _, x16, x17, x18, x19, x13, x20, x21, x22, x7, x8, x9, k10, k11, rfl, fun h => h0 (upd_ne (by decide) h), fun _ => rfl, fun h => h2 (upd_ne (by decide) h), fun h => h3 (upd_ne (by decide) h), fun h => h4 (upd_ne (by decide) h), fun h => h5 (upd_ne (by decide) h), fun h => h6 (upd_ne (by decide) h), fun h => h7 (upd_ne (by decide) h), fun h => h8 (upd_ne (by decide) h), fun h => h9 (upd_ne (by decide) h), fun h => (by obtain ⟨p1, p2, p3, p4, p5⟩ := h10 (upd_ne (by decide) h); exact ⟨p1, p2, p3, fun h' => p4 (by rw [upd_same (by decide)] at h'; exact h'), fun h' => p5 (upd_ne (by decide) h')⟩), fun h => (by obtain ⟨p1, p2, p3, p4, p5⟩ := h11 (upd_ne (by decide) h); exact ⟨p1, p2, p3, fun h' => p4 (by rw [upd_same (by decide)] at h'; exact h'), fun h' => p5 (upd_ne (by decide) h')⟩), fun h => h14 (upd_ne (by decide) h), fun h => upd_of (n10 (upd_ne (by decide) h)), fun h => upd_of (n11 (upd_ne (by decide) h)), fun h h' => m10_11 (upd_ne (by decide) h) (upd_ne (by decide) h'), hB⟩
  · rintro f a W ⟨x14, x15, x16, x17, x18, x19, x13, x20, x21, x22, x7, x8, x9, k10, k11, rfl, h0, h1, h2, h3, h4, h5, h6, h7, h8, h9, h10, h11, h14, n10, n11, m10_11, hB⟩ hf hd K hK
    have e1 := h1 (dep_of hd (e := ⟨1, .data⟩) (by simp) rfl)
    subst e1
    go_simp
    refine (toPair _ _ _).mono ?_
    rintro e W2 ⟨rfl, q⟩
    refine hK _ _ ?_
    exact ⟨x14, _, _, x17, x18, x19, x13, x20, x21, x22, x7, x8, x9, k10, k11, rfl, fun h => h0 (upd_ne (by decide) h), fun _ => rfl, fun _ => rfl, fun h => h3 (upd_ne (by decide) h), fun h => h4 (upd_ne (by decide) h), fun h => h5 (upd_ne (by decide) h), fun h => h6 (upd_ne (by decide) h), fun h => h7 (upd_ne (by decide) h), fun h => h8 (upd_ne (by decide) h), fun h => h9 (upd_ne (by decide) h), fun h => (by obtain ⟨p1, p2, p3, p4, p5⟩ := h10 (upd_ne (by decide) h); exact ⟨p1, p2, Nat.lt_of_lt_of_le (p3) q.size, fun h' => (p4 (by rw [upd_same (by decide)] at h'; exact h')).below q, fun h' => (p5 (upd_ne (by decide) h')).below q⟩), fun h => (by obtain ⟨p1, p2, p3, p4, p5⟩ := h11 (upd_ne (by decide) h); exact ⟨p1, p2, Nat.lt_of_lt_of_le (p3) q.size, fun h' => (p4 (by rw [upd_same (by decide)] at h'; exact h')).below q, fun h' => (p5 (upd_ne (by decide) h')).below q⟩), fun h => h14 (upd_ne (by decide) h), fun h => upd_of (n10 (upd_ne (by decide) h)), fun h => upd_of (n11 (upd_ne (by decide) h)), fun h h' => m10_11 (upd_ne (by decide) h) (upd_ne (by decide) h'), hB.trans (q.mono hB.size)⟩
  · rintro f a W ⟨x14, x15, x16, x17, x18, x19, x13, x20, x21, x22, x7, x8, x9, k10, k11, rfl, h0, h1, h2, h3, h4, h5, h6, h7, h8, h9, h10, h11, h14, n10, n11, m10_11, hB⟩ hf hd K hK
    have r0 := (hB.cell (p := ⟨w.heap.size + 1, 0, none⟩) l1).trans d0
    have r1 := (hB.cell (p := ⟨w.heap.size + 1, 1, none⟩) l1).trans d1
    go_simp
    refine hK _ _ ?_
    exact ⟨x14, x15, x16, _, x18, x19, x13, x20, x21, x22, x7, x8, x9, k10, k11, rfl, fun h => h0 (upd_ne (by decide) h), fun h => h1 (upd_ne (by decide) h), fun h => h2 (upd_ne (by decide) h), fun _ => rfl, fun h => h4 (upd_ne (by decide) h), fun h => h5 (upd_ne (by decide) h), fun h => h6 (upd_ne (by decide) h), fun h => h7 (upd_ne (by decide) h), fun h => h8 (upd_ne (by decide) h), fun h => h9 (upd_ne (by decide) h), fun h => (by obtain ⟨p1, p2, p3, p4, p5⟩ := h10 (upd_ne (by decide) h); exact ⟨p1, p2, p3, fun h' => p4 (by rw [upd_same (by decide)] at h'; exact h'), fun h' => p5 (upd_ne (by decide) h')⟩), fun h => (by obtain ⟨p1, p2, p3, p4, p5⟩ := h11 (upd_ne (by decide) h); exact ⟨p1, p2, p3, fun h' => p4 (by rw [upd_same (by decide)] at h'; exact h'), fun h' => p5 (upd_ne (by decide) h')⟩), fun h => h14 (upd_ne (by decide) h), fun h => upd_of (n10 (upd_ne (by decide) h)), fun h => upd_of (n11 (upd_ne (by decide) h)), fun h h' => m10_11 (upd_ne (by decide) h) (upd_ne (by decide) h'), hB⟩
  · rintro f a W ⟨x14, x15, x16, x17, x18, x19, x13, x20, x21, x22, x7, x8, x9, k10, k11, rfl, h0, h1, h2, h3, h4, h5, h6, h7, h8, h9, h10, h11, h14, n10, n11, m10_11, hB⟩ hf hd K hK
    have e3 := h3 (dep_of hd (e := ⟨3, .data⟩) (by simp) rfl)
    subst e3
    go_simp
    refine (toPair _ _ _).mono ?_
    rintro e W2 ⟨rfl, q⟩
    refine hK _ _ ?_
    exact ⟨x14, x15, x16, _, _, x19, x13, x20, x21, x22, x7, x8, x9, k10, k11, rfl, fun h => h0 (upd_ne (by decide) h), fun h => h1 (upd_ne (by decide) h), fun h => h2 (upd_ne (by decide) h), fun _ => rfl, fun _ => rfl, fun h => h5 (upd_ne (by decide) h), fun h => h6 (upd_ne (by decide) h), fun h => h7 (upd_ne (by decide) h), fun h => h8 (upd_ne (by decide) h), fun h => h9 (upd_ne (by decide) h), fun h => (by obtain ⟨p1, p2, p3, p4, p5⟩ := h10 (upd_ne (by decide) h); exact ⟨p1, p2, Nat.lt_of_lt_of_le (p3) q.size, fun h' => (p4 (by rw [upd_same (by decide)] at h'; exact h')).below q, fun h' => (p5 (upd_ne (by decide) h')).below q⟩), fun h => (by obtain ⟨p1, p2, p3, p4, p5⟩ := h11 (upd_ne (by decide) h); exact ⟨p1, p2, Nat.lt_of_lt_of_le (p3) q.size, fun h' => (p4 (by rw [upd_same (by decide)] at h'; exact h')).below q, fun h' => (p5 (upd_ne (by decide) h')).below q⟩), fun h => h14 (upd_ne (by decide) h), fun h => upd_of (n10 (upd_ne (by decide) h)), fun h => upd_of (n11 (upd_ne (by decide) h)), fun h h' => m10_11 (upd_ne (by decide) h) (upd_ne (by decide) h'), hB.trans (q.mono hB.size)⟩
  · rintro f a W ⟨x14, x15, x16, x17, x18, x19, x13, x20, x21, x22, x7, x8, x9, k10, k11, rfl, h0, h1, h2, h3, h4, h5, h6, h7, h8, h9, h10, h11, h14, n10, n11, m10_11, hB⟩ hf hd K hK
    have e0 := h0 (dep_of hd (e := ⟨0, .data⟩) (by simp) rfl)
    subst e0
    have e2 := h2 (dep_of hd (e := ⟨2, .data⟩) (by simp) rfl)
    subst e2
    have e4 := h4 (dep_of hd (e := ⟨4, .data⟩) (by simp) rfl)
    subst e4
    go_simp
    refine (hs _).mono ?_
    rintro e W2 ⟨rfl, q⟩
    refine hK _ _ ?_
    exact ⟨_, x15, _, x17, _, _, x13, x20, x21, x22, x7, x8, x9, k10, k11, rfl, fun _ => rfl, fun h => h1 (upd_ne (by decide) h), fun _ => rfl, fun h => h3 (upd_ne (by decide) h), fun _ => rfl, fun _ => rfl, fun h => h6 (upd_ne (by decide) h), fun h => h7 (upd_ne (by decide) h), fun h => h8 (upd_ne (by decide) h), fun h => h9 (upd_ne (by decide) h), fun h => (by obtain ⟨p1, p2, p3, p4, p5⟩ := h10 (upd_ne (by decide) h); exact ⟨p1, p2, Nat.lt_of_lt_of_le (p3) q.size, fun h' => (p4 (by rw [upd_same (by decide)] at h'; exact h')).below q, fun h' => (p5 (upd_ne (by decide) h')).below q⟩), fun h => (by obtain ⟨p1, p2, p3, p4, p5⟩ := h11 (upd_ne (by decide) h); exact ⟨p1, p2, Nat.lt_of_lt_of_le (p3) q.size, fun h' => (p4 (by rw [upd_same (by decide)] at h'; exact h')).below q, fun h' => (p5 (upd_ne (by decide) h')).below q⟩), fun h => h14 (upd_ne (by decide) h), fun h => upd_of (n10 (upd_ne (by decide) h)), fun h => upd_of (n11 (upd_ne (by decide) h)), fun h h' => m10_11 (upd_ne (by decide) h) (upd_ne (by decide) h'), hB.trans (q.mono hB.size)⟩
  · rintro f a W ⟨x14, x15, x16, x17, x18, x19, x13, x20, x21, x22, x7, x8, x9, k10, k11, rfl, h0, h1, h2, h3, h4, h5, h6, h7, h8, h9, h10, h11, h14, n10, n11, m10_11, hB⟩ hf hd K hK
    have e5 := h5 (dep_of hd (e := ⟨5, .data⟩) (by simp) rfl)
    subst e5
    go_simp
    refine hK _ _ ?_
    exact ⟨x14, x15, x16, x17, x18, _, _, x20, x21, x22, x7, x8, x9, k10, k11, rfl, fun h => h0 (upd_ne (by decide) h), fun h => h1 (upd_ne (by decide) h), fun h => h2 (upd_ne (by decide) h), fun h => h3 (upd_ne (by decide) h), fun h => h4 (upd_ne (by decide) h), fun _ => rfl, fun _ => rfl, fun h => h7 (upd_ne (by decide) h), fun h => h8 (upd_ne (by decide) h), fun h => h9 (upd_ne (by decide) h), fun h => (by obtain ⟨p1, p2, p3, p4, p5⟩ := h10 (upd_ne (by decide) h); exact ⟨p1, p2, p3, fun h' => p4 (by rw [upd_same (by decide)] at h'; exact h'), fun h' => p5 (upd_ne (by decide) h')⟩), fun h => (by obtain ⟨p1, p2, p3, p4, p5⟩ := h11 (upd_ne (by decide) h); exact ⟨p1, p2, p3, fun h' => p4 (by rw [upd_same (by decide)] at h'; exact h'), fun h' => p5 (upd_ne (by decide) h')⟩), fun h => h14 (upd_ne (by decide) h), fun h => upd_of (n10 (upd_ne (by decide) h)), fun h => upd_of (n11 (upd_ne (by decide) h)), fun h h' => m10_11 (upd_ne (by decide) h) (upd_ne (by decide) h'), hB⟩
  · rintro f a W ⟨x14, x15, x16, x17, x18, x19, x13, x20, x21, x22, x7, x8, x9, k10, k11, rfl, h0, h1, h2, h3, h4, h5, h6, h7, h8, h9, h10, h11, h14, n10, n11, m10_11, hB⟩ hf hd K hK
    have e6 := h6 (dep_of hd (e := ⟨6, .data⟩) (by simp) rfl)
    subst e6
    go_simp
    refine hK _ _ ?_
    exact ⟨x14, x15, x16, x17, x18, x19, _, _, x21, x22, x7, x8, x9, k10, k11, rfl, fun h => h0 (upd_ne (by decide) h), fun h => h1 (upd_ne (by decide) h), fun h => h2 (upd_ne (by decide) h), fun h => h3 (upd_ne (by decide) h), fun h => h4 (upd_ne (by decide) h), fun h => h5 (upd_ne (by decide) h), fun _ => rfl, fun _ => rfl, fun h => h8 (upd_ne (by decide) h), fun h => h9 (upd_ne (by decide) h), fun h => (by obtain ⟨p1, p2, p3, p4, p5⟩ := h10 (upd_ne (by decide) h); exact ⟨p1, p2, p3, fun h' => p4 (by rw [upd_same (by decide)] at h'; exact h'), fun h' => p5 (upd_ne (by decide) h')⟩), fun h => (by obtain ⟨p1, p2, p3, p4, p5⟩ := h11 (upd_ne (by decide) h); exact ⟨p1, p2, p3, fun h' => p4 (by rw [upd_same (by decide)] at h'; exact h'), fun h' => p5 (upd_ne (by decide) h')⟩), fun h => h14 (upd_ne (by decide) h), fun h => upd_of (n10 (upd_ne (by decide) h)), fun h => upd_of (n11 (upd_ne (by decide) h)), fun h h' => m10_11 (upd_ne (by decide) h) (upd_ne (by decide) h'), hB⟩
  · rintro f a W ⟨x14, x15, x16, x17, x18, x19, x13, x20, x21, x22, x7, x8, x9, k10, k11, rfl, h0, h1, h2, h3, h4, h5, h6, h7, h8, h9, h10, h11, h14, n10, n11, m10_11, hB⟩ hf hd K hK
    have e6 := h6 (dep_of hd (e := ⟨6, .data⟩) (by simp) rfl)
    subst e6
    go_simp
    refine hK _ _ ?_
    exact ⟨x14, x15, x16, x17, x18, x19, _, x20, _, x22, x7, x8, x9, k10, k11, rfl, fun h => h0 (upd_ne (by decide) h), fun h => h1 (upd_ne (by decide) h), fun h => h2 (upd_ne (by decide) h), fun h => h3 (upd_ne (by decide) h), fun h => h4 (upd_ne (by decide) h), fun h => h5 (upd_ne (by decide) h), fun _ => rfl, fun h => h7 (upd_ne (by decide) h), fun _ => rfl, fun h => h9 (upd_ne (by decide) h), fun h => (by obtain ⟨p1, p2, p3, p4, p5⟩ := h10 (upd_ne (by decide) h); exact ⟨p1, p2, p3, fun h' => p4 (by rw [upd_same (by decide)] at h'; exact h'), fun h' => p5 (upd_ne (by decide) h')⟩), fun h => (by obtain ⟨p1, p2, p3, p4, p5⟩ := h11 (upd_ne (by decide) h); exact ⟨p1, p2, p3, fun h' => p4 (by rw [upd_same (by decide)] at h'; exact h'), fun h' => p5 (upd_ne (by decide) h')⟩), fun h => h14 (upd_ne (by decide) h), fun h => upd_of (n10 (upd_ne (by decide) h)), fun h => upd_of (n11 (upd_ne (by decide) h)), fun h h' => m10_11 (upd_ne (by decide) h) (upd_ne (by decide) h'), hB⟩
  · rintro f a W ⟨x14, x15, x16, x17, x18, x19, x13, x20, x21, x22, x7, x8, x9, k10, k11, rfl, h0, h1, h2, h3, h4, h5, h6, h7, h8, h9, h10, h11, h14, n10, n11, m10_11, hB⟩ hf hd K hK
    have e6 := h6 (dep_of hd (e := ⟨6, .data⟩) (by simp) rfl)
    subst e6
    go_simp
    refine hK _ _ ?_
    exact ⟨x14, x15, x16, x17, x18, x19, _, x20, x21, _, x7, x8, x9, k10, k11, rfl, fun h => h0 (upd_ne (by decide) h), fun h => h1 (upd_ne (by decide) h), fun h => h2 (upd_ne (by decide) h), fun h => h3 (upd_ne (by decide) h), fun h => h4 (upd_ne (by decide) h), fun h => h5 (upd_ne (by decide) h), fun _ => rfl, fun h => h7 (upd_ne (by decide) h), fun h => h8 (upd_ne (by decide) h), fun _ => rfl, fun h => (by obtain ⟨p1, p2, p3, p4, p5⟩ := h10 (upd_ne (by decide) h); exact ⟨p1, p2, p3, fun h' => p4 (by rw [upd_same (by decide)] at h'; exact h'), fun h' => p5 (upd_ne (by decide) h')⟩), fun h => (by obtain ⟨p1, p2, p3, p4, p5⟩ := h11 (upd_ne (by decide) h); exact ⟨p1, p2, p3, fun h' => p4 (by rw [upd_same (by decide)] at h'; exact h'), fun h' => p5 (upd_ne (by decide) h')⟩), fun h => h14 (upd_ne (by decide) h), fun h => upd_of (n10 (upd_ne (by decide) h)), fun h => upd_of (n11 (upd_ne (by decide) h)), fun h h' => m10_11 (upd_ne (by decide) h) (upd_ne (by decide) h'), hB⟩
  · rintro f a W ⟨x14, x15, x16, x17, x18, x19, x13, x20, x21, x22, x7, x8, x9, k10, k11, rfl, h0, h1, h2, h3, h4, h5, h6, h7, h8, h9, h10, h11, h14, n10, n11, m10_11, hB⟩ hf hd K hK
    go_simp
    refine hK _ _ ?_
    exact ⟨x14, x15, x16, x17, x18, x19, x13, x20, x21, x22, _, x8, x9, W.heap.size, k11, rfl, fun h => h0 (upd_ne (by decide) h), fun h => h1 (upd_ne (by decide) h), fun h => h2 (upd_ne (by decide) h), fun h => h3 (upd_ne (by decide) h), fun h => h4 (upd_ne (by decide) h), fun h => h5 (upd_ne (by decide) h), fun h => h6 (upd_ne (by decide) h), fun h => h7 (upd_ne (by decide) h), fun h => h8 (upd_ne (by decide) h), fun h => h9 (upd_ne (by decide) h), fun _ => ⟨rfl, hB.size, (by simp), fun _ => Own.new W _ _, fun h' => absurd (n10 (upd_ne (by decide) h')) (by rw [hf]; decide)⟩, fun h => (by obtain ⟨p1, p2, p3, p4, p5⟩ := h11 (upd_ne (by decide) h); exact ⟨p1, p2, (by have := p3; simp; omega), fun h' => (p4 (by rw [upd_same (by decide)] at h'; exact h')).alloc _, fun h' => (p5 (upd_ne (by decide) h')).alloc _⟩), fun h => h14 (upd_ne (by decide) h), fun _ => upd_self, fun h => upd_of (n11 (upd_ne (by decide) h)), fun _ h => (by obtain ⟨-, -, p3, -, -⟩ := h11 (upd_ne (by decide) h); omega), hB.alloc hB.size _⟩
  · rintro f a W ⟨x14, x15, x16, x17, x18, x19, x13, x20, x21, x22, x7, x8, x9, k10, k11, rfl, h0, h1, h2, h3, h4, h5, h6, h7, h8, h9, h10, h11, h14, n10, n11, m10_11, hB⟩ hf hd K hK
    go_simp
    refine hK _ _ ?_
    exact ⟨x14, x15, x16, x17, x18, x19, x13, x20, x21, x22, x7, _, x9, k10, W.heap.size, rfl, fun h => h0 (upd_ne (by decide) h), fun h => h1 (upd_ne (by decide) h), fun h => h2 (upd_ne (by decide) h), fun h => h3 (upd_ne (by decide) h), fun h => h4 (upd_ne (by decide) h), fun h => h5 (upd_ne (by decide) h), fun h => h6 (upd_ne (by decide) h), fun h => h7 (upd_ne (by decide) h), fun h => h8 (upd_ne (by decide) h), fun h => h9 (upd_ne (by decide) h), fun h => (by obtain ⟨p1, p2, p3, p4, p5⟩ := h10 (upd_ne (by decide) h); exact ⟨p1, p2, (by have := p3; simp; omega), fun h' => (p4 (by rw [upd_same (by decide)] at h'; exact h')).alloc _, fun h' => (p5 (upd_ne (by decide) h')).alloc _⟩), fun _ => ⟨rfl, hB.size, (by simp), fun _ => Own.new W _ _, fun h' => absurd (n11 (upd_ne (by decide) h')) (by rw [hf]; decide)⟩, fun h => h14 (upd_ne (by decide) h), fun h => upd_of (n10 (upd_ne (by decide) h)), fun _ => upd_self, fun h _ => (by obtain ⟨-, -, p3, -, -⟩ := h10 (upd_ne (by decide) h); omega), hB.alloc hB.size _⟩
  · rintro f a W ⟨x14, x15, x16, x17, x18, x19, x13, x20, x21, x22, x7, x8, x9, k10, k11, rfl, h0, h1, h2, h3, h4, h5, h6, h7, h8, h9, h10, h11, h14, n10, n11, m10_11, hB⟩ hf hd K hK
    obtain ⟨e10, u10, t10, z10, s10⟩ := h10 (dep_of hd (e := ⟨10, .data⟩) (by simp) rfl)
    subst e10
    have e7 := h7 (dep_of hd (e := ⟨7, .data⟩) (by simp) rfl)
    subst e7
    have oz := z10 hf
    have r0 := oz.cell 0 _ rfl
    have o0 := oz.frz 0 _ rfl
    have r1 := oz.cell 1 _ rfl
    have o1 := oz.frz 1 _ rfl
    go_simp
    refine hK _ _ ?_
    exact ⟨x14, x15, x16, x17, x18, x19, x13, _, x21, x22, _, x8, x9, k10, k11, rfl, fun h => h0 (upd_ne (by decide) h), fun h => h1 (upd_ne (by decide) h), fun h => h2 (upd_ne (by decide) h), fun h => h3 (upd_ne (by decide) h), fun h => h4 (upd_ne (by decide) h), fun h => h5 (upd_ne (by decide) h), fun h => h6 (upd_ne (by decide) h), fun _ => rfl, fun h => h8 (upd_ne (by decide) h), fun h => h9 (upd_ne (by decide) h), fun _ => ⟨rfl, u10, (by simpa [World.setCell] using t10), fun h' => (by rw [upd_self] at h'; cases h'), fun _ => Own.set (i := 1) (Own.set (i := 0) (oz) _ (by simp)) _ (by simp)⟩, fun h => (by obtain ⟨p1, p2, p3, p4, p5⟩ := h11 (upd_ne (by decide) h); have hne : k10 ≠ k11 := (by have := m10_11 (dep_of hd (e := ⟨10, .data⟩) (by simp) rfl) (upd_ne (by decide) h); omega); exact ⟨p1, p2, (by simpa [World.setCell] using p3), fun h' => Own.other (i := 1) (Own.other (i := 0) (p4 (by rw [upd_same (by decide)] at h'; exact h')) _ hne) _ hne, fun h' => Own.other (i := 1) (Own.other (i := 0) (p5 (upd_ne (by decide) h')) _ hne) _ hne⟩), fun h => h14 (upd_ne (by decide) h), fun _ => upd_of (dep_of hd (e := ⟨10, .data⟩) (by simp) rfl), fun h => upd_of (n11 (upd_ne (by decide) h)), fun h h' => m10_11 (upd_ne (by decide) h) (upd_ne (by decide) h'), ((hB.setCell (p := ⟨k10, 0, none⟩) u10 _).setCell (p := ⟨k10, 1, none⟩) u10 _)⟩
  · rintro f a W ⟨x14, x15, x16, x17, x18, x19, x13, x20, x21, x22, x7, x8, x9, k10, k11, rfl, h0, h1, h2, h3, h4, h5, h6, h7, h8, h9, h10, h11, h14, n10, n11, m10_11, hB⟩ hf hd K hK
    obtain ⟨e11, u11, t11, z11, s11⟩ := h11 (dep_of hd (e := ⟨11, .data⟩) (by simp) rfl)
    subst e11
    have e8 := h8 (dep_of hd (e := ⟨8, .data⟩) (by simp) rfl)
    subst e8
    have oz := z11 hf
    have r0 := oz.cell 0 _ rfl
    have o0 := oz.frz 0 _ rfl
    have r1 := oz.cell 1 _ rfl
    have o1 := oz.frz 1 _ rfl
    go_simp
    refine hK _ _ ?_
    exact ⟨x14, x15, x16, x17, x18, x19, x13, x20, _, x22, x7, _, x9, k10, k11, rfl, fun h => h0 (upd_ne (by decide) h), fun h => h1 (upd_ne (by decide) h), fun h => h2 (upd_ne (by decide) h), fun h => h3 (upd_ne (by decide) h), fun h => h4 (upd_ne (by decide) h), fun h => h5 (upd_ne (by decide) h), fun h => h6 (upd_ne (by decide) h), fun h => h7 (upd_ne (by decide) h), fun _ => rfl, fun h => h9 (upd_ne (by decide) h), fun h => (by obtain ⟨p1, p2, p3, p4, p5⟩ := h10 (upd_ne (by decide) h); have hne : k11 ≠ k10 := (by have := m10_11 (upd_ne (by decide) h) (dep_of hd (e := ⟨11, .data⟩) (by simp) rfl); omega); exact ⟨p1, p2, (by simpa [World.setCell] using p3), fun h' => Own.other (i := 1) (Own.other (i := 0) (p4 (by rw [upd_same (by decide)] at h'; exact h')) _ hne) _ hne, fun h' => Own.other (i := 1) (Own.other (i := 0) (p5 (upd_ne (by decide) h')) _ hne) _ hne⟩), fun _ => ⟨rfl, u11, (by simpa [World.setCell] using t11), fun h' => (by rw [upd_self] at h'; cases h'), fun _ => Own.set (i := 1) (Own.set (i := 0) (oz) _ (by simp)) _ (by simp)⟩, fun h => h14 (upd_ne (by decide) h), fun h => upd_of (n10 (upd_ne (by decide) h)), fun _ => upd_of (dep_of hd (e := ⟨11, .data⟩) (by simp) rfl), fun h h' => m10_11 (upd_ne (by decide) h) (upd_ne (by decide) h'), ((hB.setCell (p := ⟨k11, 0, none⟩) u11 _).setCell (p := ⟨k11, 1, none⟩) u11 _)⟩
  · rintro f a W ⟨x14, x15, x16, x17, x18, x19, x13, x20, x21, x22, x7, x8, x9, k10, k11, rfl, h0, h1, h2, h3, h4, h5, h6, h7, h8, h9, h10, h11, h14, n10, n11, m10_11, hB⟩ hf hd K hK
    have e9 := h9 (dep_of hd (e := ⟨9, .data⟩) (by simp) rfl)
    subst e9
    go_simp
    refine hK _ _ ?_
    exact ⟨x14, x15, x16, x17, x18, x19, x13, x20, x21, _, x7, x8, _, k10, k11, rfl, fun h => h0 (upd_ne (by decide) h), fun h => h1 (upd_ne (by decide) h), fun h => h2 (upd_ne (by decide) h), fun h => h3 (upd_ne (by decide) h), fun h => h4 (upd_ne (by decide) h), fun h => h5 (upd_ne (by decide) h), fun h => h6 (upd_ne (by decide) h), fun h => h7 (upd_ne (by decide) h), fun h => h8 (upd_ne (by decide) h), fun _ => rfl, fun h => (by obtain ⟨p1, p2, p3, p4, p5⟩ := h10 (upd_ne (by decide) h); exact ⟨p1, p2, p3, fun h' => p4 (by rw [upd_same (by decide)] at h'; exact h'), fun h' => p5 (upd_ne (by decide) h')⟩), fun h => (by obtain ⟨p1, p2, p3, p4, p5⟩ := h11 (upd_ne (by decide) h); exact ⟨p1, p2, p3, fun h' => p4 (by rw [upd_same (by decide)] at h'; exact h'), fun h' => p5 (upd_ne (by decide) h')⟩), fun _ => rfl, fun h => upd_of (n10 (upd_ne (by decide) h)), fun h => upd_of (n11 (upd_ne (by decide) h)), fun h h' => m10_11 (upd_ne (by decide) h) (upd_ne (by decide) h'), hB⟩
  rintro f a WB ⟨x14, x15, x16, x17, x18, x19, x13, x20, x21, x22, x7, x8, x9, k10, k11, rfl, h0, h1, h2, h3, h4, h5, h6, h7, h8, h9, h10, h11, h14, n10, n11, m10_11, qB⟩ hall
  have e0 := h0 (hall 0 (by decide))
  subst e0
  have e1 := h1 (hall 1 (by decide))
  subst e1
  have e2 := h2 (hall 2 (by decide))
  subst e2
  have e3 := h3 (hall 3 (by decide))
  subst e3
  have e4 := h4 (hall 4 (by decide))
  subst e4
  have e5 := h5 (hall 5 (by decide))
  subst e5
  have e6 := h6 (hall 6 (by decide))
  subst e6
  have e7 := h7 (hall 7 (by decide))
  subst e7
  have e8 := h8 (hall 8 (by decide))
  subst e8
  have e9 := h9 (hall 9 (by decide))
  subst e9
  obtain ⟨e10, u10, -, -, s10⟩ := h10 (hall 10 (by decide))
  replace s10 := s10 (hall 12 (by decide))
  subst e10
  obtain ⟨e11, u11, -, -, s11⟩ := h11 (hall 11 (by decide))
  replace s11 := s11 (hall 13 (by decide))
  subst e11
  have e14 := h14 (hall 14 (by decide))
  subst e14
  replace m10_11 := m10_11 (hall 10 (by decide)) (hall 11 (by decide))
  clear hall h0 h1 h2 h3 h4 h5 h6 h7 h8 h9 h10 h11 h14 n10 n11
  try dsimp only
  replace o0 := o0.below qB
  replace o1 := o1.below qB
  replace hb := hb.trans (qB.mono hb.size)
  have sA := s10
  have sB := s11
  clear c0 c1 d0 d1 l0 l1 qB u10 u11 hs s10 s11 m10_11
  go_wp2
  have c0 := o0.cell 0 _ rfl
  have c1 := o0.cell 1 _ rfl
  have d0 := o1.cell 0 _ rfl
  have d1 := o1.cell 1 _ rfl
  have l0 := o0.lt
  have l1 := o1.lt
  refine region_steps (by kernel_rfl) (by kernel_rfl) (by kernel_rfl) (fun A0 f a W => ∃ (x24 : Value) (x25 : Value) (x26 : Value) (x27 : Value) (x28 : Value) (x29 : Value) (x23 : Value) (x30 : Value) (x31 : Value) (x32 : Value) (x10 : Value) (x11 : Value) (x12 : Value) (j10 : Nat) (j11 : Nat), a = { tmps := #[.int .i64 n, .agg #[.int .i64 x0, .int .i64 y0], .agg #[.int .i64 x1, .int .i64 y1], undef, .pointer (some ⟨w.heap.size, 0, none⟩), .pointer (some ⟨w.heap.size + 1, 0, none⟩), .bool false, .pointer (some ⟨k10, 0, none⟩), .pointer (some ⟨k11, 0, none⟩), .bool k, x10, x11, x12, .tuple #[.agg #[.int .i64 ra, .int .i64 rb], .agg #[.int .i64 rc, .int .i64 rd], .bool k], .int .i64 n, .agg #[.int .i64 x0, .int .i64 y0], .agg #[.int .i64 x0, .int .i64 y0], .agg #[.int .i64 x1, .int .i64 y1], .agg #[.int .i64 x1, .int .i64 y1], .tuple #[.agg #[.int .i64 ra, .int .i64 rb], .agg #[.int .i64 rc, .int .i64 rd], .bool k], .agg #[.int .i64 ra, .int .i64 rb], .agg #[.int .i64 rc, .int .i64 rd], .bool k, x23, x24, x25, x26, x27, x28, x29, x30, x31, x32, undef, undef, undef, undef, undef, undef, undef, undef, undef, undef, undef, undef, undef, undef, undef], defers := [] } ∧ (f 0 = true → x24 = .int .i64 n) ∧ (f 1 = true → x25 = .agg #[.int .i64 x0, .int .i64 y0]) ∧ (f 2 = true → x26 = .agg #[.int .i64 x0, .int .i64 y0]) ∧ (f 3 = true → x27 = .agg #[.int .i64 x1, .int .i64 y1]) ∧ (f 4 = true → x28 = .agg #[.int .i64 x1, .int .i64 y1]) ∧ (f 5 = true → x29 = .tuple #[.agg #[.int .i64 ra, .int .i64 rb], .agg #[.int .i64 rc, .int .i64 rd], .bool k]) ∧ (f 6 = true → x23 = .tuple #[.agg #[.int .i64 ra, .int .i64 rb], .agg #[.int .i64 rc, .int .i64 rd], .bool k]) ∧ (f 7 = true → x30 = .agg #[.int .i64 ra, .int .i64 rb]) ∧ (f 8 = true → x31 = .agg #[.int .i64 rc, .int .i64 rd]) ∧ (f 9 = true → x32 = .bool k) ∧ (f 10 = true → x10 = .pointer (some ⟨j10, 0, none⟩) ∧ WB.heap.size ≤ j10 ∧ j10 < W.heap.size ∧ (f 12 = false → Own W j10 [.int .i64 0, .int .i64 0]) ∧ (f 12 = true → Own W j10 [.int .i64 ra, .int .i64 rb])) ∧ (f 11 = true → x11 = .pointer (some ⟨j11, 0, none⟩) ∧ WB.heap.size ≤ j11 ∧ j11 < W.heap.size ∧ (f 13 = false → Own W j11 [.int .i64 0, .int .i64 0]) ∧ (f 13 = true → Own W j11 [.int .i64 rc, .int .i64 rd])) ∧ (f 14 = true → x12 = .bool k) ∧ (f 12 = true → f 10 = true) ∧ (f 13 = true → f 11 = true) ∧ (f 10 = true → f 11 = true → j10 ≠ j11) ∧ Below WB.heap.size WB W) ?_ ⟨?_, ?_, ?_, ?_, ?_, ?_, ?_, ?_, ?_, ?_, ?_, ?_, ?_, ?_, ?_, trivial⟩ ?_
  · exact ⟨undef, undef, undef, undef, undef, undef, undef, undef, undef, undef, undef, undef, undef, 0, 0, rfl, (fun h => (by cases h)), (fun h => (by cases h)), (fun h => (by cases h)), (fun h => (by cases h)), (fun h => (by cases h)), (fun h => (by cases h)), (fun h => (by cases h)), (fun h => (by cases h)), (fun h => (by cases h)), (fun h => (by cases h)), (fun h => (by cases h)), (fun h => (by cases h)), (fun h => (by cases h)), (fun h => (by cases h)), (fun h => (by cases h)), (fun h => (by cases h)), (Below.refl _ _).drew⟩
  · rintro f a W ⟨x24, x25, x26, x27, x28, x29, x23, x30, x31, x32, x10, x11, x12, j10, j11, rfl, h0, h1, h2, h3, h4, h5, h6, h7, h8, h9, h10, h11, h14, n10, n11, m10_11, hB⟩ hf hd K hK
    go_simp
    refine hK _ _ ?_
    exact ⟨_, x25, x26, x27, x28, x29, x23, x30, x31, x32, x10, x11, x12, j10, j11, rfl, fun _ => rfl, fun h => h1 (upd_ne (by decide) h), fun h => h2 (upd_ne (by decide) h), fun h => h3 (upd_ne (by decide) h), fun h => h4 (upd_ne (by decide) h), fun h => h5 (upd_ne (by decide) h), fun h => h6 (upd_ne (by decide) h), fun h => h7 (upd_ne (by decide) h), fun h => h8 (upd_ne (by decide) h), fun h => h9 (upd_ne (by decide) h), fun h => (by obtain ⟨p1, p2, p3, p4, p5⟩ := h10 (upd_ne (by decide) h); exact ⟨p1, p2, p3, fun h' => p4 (by rw [upd_same (by decide)] at h'; exact h'), fun h' => p5 (upd_ne (by decide) h')⟩), fun h => (by obtain ⟨p1, p2, p3, p4, p5⟩ := h11 (upd_ne (by decide) h); exact ⟨p1, p2, p3, fun h' => p4 (by rw [upd_same (by decide)] at h'; exact h'), fun h' => p5 (upd_ne (by decide) h')⟩), fun h => h14 (upd_ne (by decide) h), fun h => upd_of (n10 (upd_ne (by decide) h)), fun h => upd_of (n11 (upd_ne (by decide) h)), fun h h' => m10_11 (upd_ne (by decide) h) (upd_ne (by decide) h'), hB⟩
  · rintro f a W ⟨x24, x25, x26, x27, x28, x29, x23, x30, x31, x32, x10, x11, x12, j10, j11, rfl, h0, h1, h2, h3, h4, h5, h6, h7, h8, h9, h10, h11, h14, n10, n11, m10_11, hB⟩ hf hd K hK
    have r0 := (hB.cell (p := ⟨w.heap.size, 0, none⟩) l0).trans c0
    have r1 := (hB.cell (p := ⟨w.heap.size, 1, none⟩) l0).trans c1
    go_simp
    refine hK _ _ ?_
    exact ⟨x24, _, x26, x27, x28, x29, x23, x30, x31, x32, x10, x11, x12, j10, j11, rfl, fun h => h0 (upd_ne (by decide) h), fun _ => rfl, fun h => h2 (upd_ne (by decide) h), fun h => h3 (upd_ne (by decide) h), fun h => h4 (upd_ne (by decide) h), fun h => h5 (upd_ne (by decide) h), fun h => h6 (upd_ne (by decide) h), fun h => h7 (upd_ne (by decide) h), fun h => h8 (upd_ne (by decide) h), fun h => h9 (upd_ne (by decide) h), fun h => (by obtain ⟨p1, p2, p3, p4, p5⟩ := h10 (upd_ne (by decide) h); exact ⟨p1, p2, p3, fun h' => p4 (by rw [upd_same (by decide)] at h'; exact h'), fun h' => p5 (upd_ne (by decide) h')⟩), fun h => (by obtain ⟨p1, p2, p3, p4, p5⟩ := h11 (upd_ne (by decide) h); exact ⟨p1, p2, p3, fun h' => p4 (by rw [upd_same (by decide)] at h'; exact h'), fun h' => p5 (upd_ne (by decide) h')⟩), fun h => h14 (upd_ne (by decide) h), fun h => upd_of (n10 (upd_ne (by decide) h)), fun h => upd_of (n11 (upd_ne (by decide) h)), fun h h' => m10_11 (upd_ne (by decide) h) (upd_ne (by decide) h'), hB⟩
  · rintro f a W ⟨x24, x25, x26, x27, x28, x29, x23, x30, x31, x32, x10, x11, x12, j10, j11, rfl, h0, h1, h2, h3, h4, h5, h6, h7, h8, h9, h10, h11, h14, n10, n11, m10_11, hB⟩ hf hd K hK
    have e1 := h1 (dep_of hd (e := ⟨1, .data⟩) (by simp) rfl)
    subst e1
    go_simp
    refine (toPair _ _ _).mono ?_
    rintro e W2 ⟨rfl, q⟩
    refine hK _ _ ?_
    exact ⟨x24, _, _, x27, x28, x29, x23, x30, x31, x32, x10, x11, x12, j10, j11, rfl, fun h => h0 (upd_ne (by decide) h), fun _ => rfl, fun _ => rfl, fun h => h3 (upd_ne (by decide) h), fun h => h4 (upd_ne (by decide) h), fun h => h5 (upd_ne (by decide) h), fun h => h6 (upd_ne (by decide) h), fun h => h7 (upd_ne (by decide) h), fun h => h8 (upd_ne (by decide) h), fun h => h9 (upd_ne (by decide) h), fun h => (by obtain ⟨p1, p2, p3, p4, p5⟩ := h10 (upd_ne (by decide) h); exact ⟨p1, p2, Nat.lt_of_lt_of_le (p3) q.size, fun h' => (p4 (by rw [upd_same (by decide)] at h'; exact h')).below q, fun h' => (p5 (upd_ne (by decide) h')).below q⟩), fun h => (by obtain ⟨p1, p2, p3, p4, p5⟩ := h11 (upd_ne (by decide) h); exact ⟨p1, p2, Nat.lt_of_lt_of_le (p3) q.size, fun h' => (p4 (by rw [upd_same (by decide)] at h'; exact h')).below q, fun h' => (p5 (upd_ne (by decide) h')).below q⟩), fun h => h14 (upd_ne (by decide) h), fun h => upd_of (n10 (upd_ne (by decide) h)), fun h => upd_of (n11 (upd_ne (by decide) h)), fun h h' => m10_11 (upd_ne (by decide) h) (upd_ne (by decide) h'), hB.trans (q.mono hB.size)⟩
  · rintro f a W ⟨x24, x25, x26, x27, x28, x29, x23, x30, x31, x32, x10, x11, x12, j10, j11, rfl, h0, h1, h2, h3, h4, h5, h6, h7, h8, h9, h10, h11, h14, n10, n11, m10_11, hB⟩ hf hd K hK
    have r0 := (hB.cell (p := ⟨w.heap.size + 1, 0, none⟩) l1).trans d0
    have r1 := (hB.cell (p := ⟨w.heap.size + 1, 1, none⟩) l1).trans d1
    go_simp
    refine hK _ _ ?_
    exact ⟨x24, x25, x26, _, x28, x29, x23, x30, x31, x32, x10, x11, x12, j10, j11, rfl, fun h => h0 (upd_ne (by decide) h), fun h => h1 (upd_ne (by decide) h), fun h => h2 (upd_ne (by decide) h), fun _ => rfl, fun h => h4 (upd_ne (by decide) h), fun h => h5 (upd_ne (by decide) h), fun h => h6 (upd_ne (by decide) h), fun h => h7 (upd_ne (by decide) h), fun h => h8 (upd_ne (by decide) h), fun h => h9 (upd_ne (by decide) h), fun h => (by obtain ⟨p1, p2, p3, p4, p5⟩ := h10 (upd_ne (by decide) h); exact ⟨p1, p2, p3, fun h' => p4 (by rw [upd_same (by decide)] at h'; exact h'), fun h' => p5 (upd_ne (by decide) h')⟩), fun h => (by obtain ⟨p1, p2, p3, p4, p5⟩ := h11 (upd_ne (by decide) h); exact ⟨p1, p2, p3, fun h' => p4 (by rw [upd_same (by decide)] at h'; exact h'), fun h' => p5 (upd_ne (by decide) h')⟩), fun h => h14 (upd_ne (by decide) h), fun h => upd_of (n10 (upd_ne (by decide) h)), fun h => upd_of (n11 (upd_ne (by decide) h)), fun h h' => m10_11 (upd_ne (by decide) h) (upd_ne (by decide) h'), hB⟩
  · rintro f a W ⟨x24, x25, x26, x27, x28, x29, x23, x30, x31, x32, x10, x11, x12, j10, j11, rfl, h0, h1, h2, h3, h4, h5, h6, h7, h8, h9, h10, h11, h14, n10, n11, m10_11, hB⟩ hf hd K hK
    have e3 := h3 (dep_of hd (e := ⟨3, .data⟩) (by simp) rfl)
    subst e3
    go_simp
    refine (toPair _ _ _).mono ?_
    rintro e W2 ⟨rfl, q⟩
    refine hK _ _ ?_
    exact ⟨x24, x25, x26, _, _, x29, x23, x30, x31, x32, x10, x11, x12, j10, j11, rfl, fun h => h0 (upd_ne (by decide) h), fun h => h1 (upd_ne (by decide) h), fun h => h2 (upd_ne (by decide) h), fun _ => rfl, fun _ => rfl, fun h => h5 (upd_ne (by decide) h), fun h => h6 (upd_ne (by decide) h), fun h => h7 (upd_ne (by decide) h), fun h => h8 (upd_ne (by decide) h), fun h => h9 (upd_ne (by decide) h), fun h => (by obtain ⟨p1, p2, p3, p4, p5⟩ := h10 (upd_ne (by decide) h); exact ⟨p1, p2, Nat.lt_of_lt_of_le (p3) q.size, fun h' => (p4 (by rw [upd_same (by decide)] at h'; exact h')).below q, fun h' => (p5 (upd_ne (by decide) h')).below q⟩), fun h => (by obtain ⟨p1, p2, p3, p4, p5⟩ := h11 (upd_ne (by decide) h); exact ⟨p1, p2, Nat.lt_of_lt_of_le (p3) q.size, fun h' => (p4 (by rw [upd_same (by decide)] at h'; exact h')).below q, fun h' => (p5 (upd_ne (by decide) h')).below q⟩), fun h => h14 (upd_ne (by decide) h), fun h => upd_of (n10 (upd_ne (by decide) h)), fun h => upd_of (n11 (upd_ne (by decide) h)), fun h h' => m10_11 (upd_ne (by decide) h) (upd_ne (by decide) h'), hB.trans (q.mono hB.size)⟩
  · rintro f a W ⟨x24, x25, x26, x27, x28, x29, x23, x30, x31, x32, x10, x11, x12, j10, j11, rfl, h0, h1, h2, h3, h4, h5, h6, h7, h8, h9, h10, h11, h14, n10, n11, m10_11, hB⟩ hf hd K hK
    have e0 := h0 (dep_of hd (e := ⟨0, .data⟩) (by simp) rfl)
    subst e0
    have e2 := h2 (dep_of hd (e := ⟨2, .data⟩) (by simp) rfl)
    subst e2
    have e4 := h4 (dep_of hd (e := ⟨4, .data⟩) (by simp) rfl)
    subst e4
    go_simp
    refine (hi _).mono ?_
    rintro e W2 ⟨rfl, q⟩
    refine hK _ _ ?_
    exact ⟨_, x25, _, x27, _, _, x23, x30, x31, x32, x10, x11, x12, j10, j11, rfl, fun _ => rfl, fun h => h1 (upd_ne (by decide) h), fun _ => rfl, fun h => h3 (upd_ne (by decide) h), fun _ => rfl, fun _ => rfl, fun h => h6 (upd_ne (by decide) h), fun h => h7 (upd_ne (by decide) h), fun h => h8 (upd_ne (by decide) h), fun h => h9 (upd_ne (by decide) h), fun h => (by obtain ⟨p1, p2, p3, p4, p5⟩ := h10 (upd_ne (by decide) h); exact ⟨p1, p2, Nat.lt_of_lt_of_le (p3) q.size, fun h' => (p4 (by rw [upd_same (by decide)] at h'; exact h')).below q, fun h' => (p5 (upd_ne (by decide) h')).below q⟩), fun h => (by obtain ⟨p1, p2, p3, p4, p5⟩ := h11 (upd_ne (by decide) h); exact ⟨p1, p2, Nat.lt_of_lt_of_le (p3) q.size, fun h' => (p4 (by rw [upd_same (by decide)] at h'; exact h')).below q, fun h' => (p5 (upd_ne (by decide) h')).below q⟩), fun h => h14 (upd_ne (by decide) h), fun h => upd_of (n10 (upd_ne (by decide) h)), fun h => upd_of (n11 (upd_ne (by decide) h)), fun h h' => m10_11 (upd_ne (by decide) h) (upd_ne (by decide) h'), hB.trans (q.mono hB.size)⟩
  · rintro f a W ⟨x24, x25, x26, x27, x28, x29, x23, x30, x31, x32, x10, x11, x12, j10, j11, rfl, h0, h1, h2, h3, h4, h5, h6, h7, h8, h9, h10, h11, h14, n10, n11, m10_11, hB⟩ hf hd K hK
    have e5 := h5 (dep_of hd (e := ⟨5, .data⟩) (by simp) rfl)
    subst e5
    go_simp
    refine hK _ _ ?_
    exact ⟨x24, x25, x26, x27, x28, _, _, x30, x31, x32, x10, x11, x12, j10, j11, rfl, fun h => h0 (upd_ne (by decide) h), fun h => h1 (upd_ne (by decide) h), fun h => h2 (upd_ne (by decide) h), fun h => h3 (upd_ne (by decide) h), fun h => h4 (upd_ne (by decide) h), fun _ => rfl, fun _ => rfl, fun h => h7 (upd_ne (by decide) h), fun h => h8 (upd_ne (by decide) h), fun h => h9 (upd_ne (by decide) h), fun h => (by obtain ⟨p1, p2, p3, p4, p5⟩ := h10 (upd_ne (by decide) h); exact ⟨p1, p2, p3, fun h' => p4 (by rw [upd_same (by decide)] at h'; exact h'), fun h' => p5 (upd_ne (by decide) h')⟩), fun h => (by obtain ⟨p1, p2, p3, p4, p5⟩ := h11 (upd_ne (by decide) h); exact ⟨p1, p2, p3, fun h' => p4 (by rw [upd_same (by decide)] at h'; exact h'), fun h' => p5 (upd_ne (by decide) h')⟩), fun h => h14 (upd_ne (by decide) h), fun h => upd_of (n10 (upd_ne (by decide) h)), fun h => upd_of (n11 (upd_ne (by decide) h)), fun h h' => m10_11 (upd_ne (by decide) h) (upd_ne (by decide) h'), hB⟩
  · rintro f a W ⟨x24, x25, x26, x27, x28, x29, x23, x30, x31, x32, x10, x11, x12, j10, j11, rfl, h0, h1, h2, h3, h4, h5, h6, h7, h8, h9, h10, h11, h14, n10, n11, m10_11, hB⟩ hf hd K hK
    have e6 := h6 (dep_of hd (e := ⟨6, .data⟩) (by simp) rfl)
    subst e6
    go_simp
    refine hK _ _ ?_
    exact ⟨x24, x25, x26, x27, x28, x29, _, _, x31, x32, x10, x11, x12, j10, j11, rfl, fun h => h0 (upd_ne (by decide) h), fun h => h1 (upd_ne (by decide) h), fun h => h2 (upd_ne (by decide) h), fun h => h3 (upd_ne (by decide) h), fun h => h4 (upd_ne (by decide) h), fun h => h5 (upd_ne (by decide) h), fun _ => rfl, fun _ => rfl, fun h => h8 (upd_ne (by decide) h), fun h => h9 (upd_ne (by decide) h), fun h => (by obtain ⟨p1, p2, p3, p4, p5⟩ := h10 (upd_ne (by decide) h); exact ⟨p1, p2, p3, fun h' => p4 (by rw [upd_same (by decide)] at h'; exact h'), fun h' => p5 (upd_ne (by decide) h')⟩), fun h => (by obtain ⟨p1, p2, p3, p4, p5⟩ := h11 (upd_ne (by decide) h); exact ⟨p1, p2, p3, fun h' => p4 (by rw [upd_same (by decide)] at h'; exact h'), fun h' => p5 (upd_ne (by decide) h')⟩), fun h => h14 (upd_ne (by decide) h), fun h => upd_of (n10 (upd_ne (by decide) h)), fun h => upd_of (n11 (upd_ne (by decide) h)), fun h h' => m10_11 (upd_ne (by decide) h) (upd_ne (by decide) h'), hB⟩
  · rintro f a W ⟨x24, x25, x26, x27, x28, x29, x23, x30, x31, x32, x10, x11, x12, j10, j11, rfl, h0, h1, h2, h3, h4, h5, h6, h7, h8, h9, h10, h11, h14, n10, n11, m10_11, hB⟩ hf hd K hK
    have e6 := h6 (dep_of hd (e := ⟨6, .data⟩) (by simp) rfl)
    subst e6
    go_simp
    refine hK _ _ ?_
    exact ⟨x24, x25, x26, x27, x28, x29, _, x30, _, x32, x10, x11, x12, j10, j11, rfl, fun h => h0 (upd_ne (by decide) h), fun h => h1 (upd_ne (by decide) h), fun h => h2 (upd_ne (by decide) h), fun h => h3 (upd_ne (by decide) h), fun h => h4 (upd_ne (by decide) h), fun h => h5 (upd_ne (by decide) h), fun _ => rfl, fun h => h7 (upd_ne (by decide) h), fun _ => rfl, fun h => h9 (upd_ne (by decide) h), fun h => (by obtain ⟨p1, p2, p3, p4, p5⟩ := h10 (upd_ne (by decide) h); exact ⟨p1, p2, p3, fun h' => p4 (by rw [upd_same (by decide)] at h'; exact h'), fun h' => p5 (upd_ne (by decide) h')⟩), fun h => (by obtain ⟨p1, p2, p3, p4, p5⟩ := h11 (upd_ne (by decide) h); exact ⟨p1, p2, p3, fun h' => p4 (by rw [upd_same (by decide)] at h'; exact h'), fun h' => p5 (upd_ne (by decide) h')⟩), fun h => h14 (upd_ne (by decide) h), fun h => upd_of (n10 (upd_ne (by decide) h)), fun h => upd_of (n11 (upd_ne (by decide) h)), fun h h' => m10_11 (upd_ne (by decide) h) (upd_ne (by decide) h'), hB⟩
  · rintro f a W ⟨x24, x25, x26, x27, x28, x29, x23, x30, x31, x32, x10, x11, x12, j10, j11, rfl, h0, h1, h2, h3, h4, h5, h6, h7, h8, h9, h10, h11, h14, n10, n11, m10_11, hB⟩ hf hd K hK
    have e6 := h6 (dep_of hd (e := ⟨6, .data⟩) (by simp) rfl)
    subst e6
    go_simp
    refine hK _ _ ?_
    exact ⟨x24, x25, x26, x27, x28, x29, _, x30, x31, _, x10, x11, x12, j10, j11, rfl, fun h => h0 (upd_ne (by decide) h), fun h => h1 (upd_ne (by decide) h), fun h => h2 (upd_ne (by decide) h), fun h => h3 (upd_ne (by decide) h), fun h => h4 (upd_ne (by decide) h), fun h => h5 (upd_ne (by decide) h), fun _ => rfl, fun h => h7 (upd_ne (by decide) h), fun h => h8 (upd_ne (by decide) h), fun _ => rfl, fun h => (by obtain ⟨p1, p2, p3, p4, p5⟩ := h10 (upd_ne (by decide) h); exact ⟨p1, p2, p3, fun h' => p4 (by rw [upd_same (by decide)] at h'; exact h'), fun h' => p5 (upd_ne (by decide) h')⟩), fun h => (by obtain ⟨p1, p2, p3, p4, p5⟩ := h11 (upd_ne (by decide) h); exact ⟨p1, p2, p3, fun h' => p4 (by rw [upd_same (by decide)] at h'; exact h'), fun h' => p5 (upd_ne (by decide) h')⟩), fun h => h14 (upd_ne (by decide) h), fun h => upd_of (n10 (upd_ne (by decide) h)), fun h => upd_of (n11 (upd_ne (by decide) h)), fun h h' => m10_11 (upd_ne (by decide) h) (upd_ne (by decide) h'), hB⟩
  · rintro f a W ⟨x24, x25, x26, x27, x28, x29, x23, x30, x31, x32, x10, x11, x12, j10, j11, rfl, h0, h1, h2, h3, h4, h5, h6, h7, h8, h9, h10, h11, h14, n10, n11, m10_11, hB⟩ hf hd K hK
    go_simp
    refine hK _ _ ?_
    exact ⟨x24, x25, x26, x27, x28, x29, x23, x30, x31, x32, _, x11, x12, W.heap.size, j11, rfl, fun h => h0 (upd_ne (by decide) h), fun h => h1 (upd_ne (by decide) h), fun h => h2 (upd_ne (by decide) h), fun h => h3 (upd_ne (by decide) h), fun h => h4 (upd_ne (by decide) h), fun h => h5 (upd_ne (by decide) h), fun h => h6 (upd_ne (by decide) h), fun h => h7 (upd_ne (by decide) h), fun h => h8 (upd_ne (by decide) h), fun h => h9 (upd_ne (by decide) h), fun _ => ⟨rfl, hB.size, (by simp), fun _ => Own.new W _ _, fun h' => absurd (n10 (upd_ne (by decide) h')) (by rw [hf]; decide)⟩, fun h => (by obtain ⟨p1, p2, p3, p4, p5⟩ := h11 (upd_ne (by decide) h); exact ⟨p1, p2, (by have := p3; simp; omega), fun h' => (p4 (by rw [upd_same (by decide)] at h'; exact h')).alloc _, fun h' => (p5 (upd_ne (by decide) h')).alloc _⟩), fun h => h14 (upd_ne (by decide) h), fun _ => upd_self, fun h => upd_of (n11 (upd_ne (by decide) h)), fun _ h => (by obtain ⟨-, -, p3, -, -⟩ := h11 (upd_ne (by decide) h); omega), hB.alloc hB.size _⟩
  · rintro f a W ⟨x24, x25, x26, x27, x28, x29, x23, x30, x31, x32, x10, x11, x12, j10, j11, rfl, h0, h1, h2, h3, h4, h5, h6, h7, h8, h9, h10, h11, h14, n10, n11, m10_11, hB⟩ hf hd K hK
    go_simp
    refine hK _ _ ?_
    exact ⟨x24, x25, x26, x27, x28, x29, x23, x30, x31, x32, x10, _, x12, j10, W.heap.size, rfl, fun h => h0 (upd_ne (by decide) h), fun h => h1 (upd_ne (by decide) h), fun h => h2 (upd_ne (by decide) h), fun h => h3 (upd_ne (by decide) h), fun h => h4 (upd_ne (by decide) h), fun h => h5 (upd_ne (by decide) h), fun h => h6 (upd_ne (by decide) h), fun h => h7 (upd_ne (by decide) h), fun h => h8 (upd_ne (by decide) h), fun h => h9 (upd_ne (by decide) h), fun h => (by obtain ⟨p1, p2, p3, p4, p5⟩ := h10 (upd_ne (by decide) h); exact ⟨p1, p2, (by have := p3; simp; omega), fun h' => (p4 (by rw [upd_same (by decide)] at h'; exact h')).alloc _, fun h' => (p5 (upd_ne (by decide) h')).alloc _⟩), fun _ => ⟨rfl, hB.size, (by simp), fun _ => Own.new W _ _, fun h' => absurd (n11 (upd_ne (by decide) h')) (by rw [hf]; decide)⟩, fun h => h14 (upd_ne (by decide) h), fun h => upd_of (n10 (upd_ne (by decide) h)), fun _ => upd_self, fun h _ => (by obtain ⟨-, -, p3, -, -⟩ := h10 (upd_ne (by decide) h); omega), hB.alloc hB.size _⟩
  · rintro f a W ⟨x24, x25, x26, x27, x28, x29, x23, x30, x31, x32, x10, x11, x12, j10, j11, rfl, h0, h1, h2, h3, h4, h5, h6, h7, h8, h9, h10, h11, h14, n10, n11, m10_11, hB⟩ hf hd K hK
    obtain ⟨e10, u10, t10, z10, s10⟩ := h10 (dep_of hd (e := ⟨10, .data⟩) (by simp) rfl)
    subst e10
    have e7 := h7 (dep_of hd (e := ⟨7, .data⟩) (by simp) rfl)
    subst e7
    have oz := z10 hf
    have r0 := oz.cell 0 _ rfl
    have o0 := oz.frz 0 _ rfl
    have r1 := oz.cell 1 _ rfl
    have o1 := oz.frz 1 _ rfl
    go_simp
    refine hK _ _ ?_
    exact ⟨x24, x25, x26, x27, x28, x29, x23, _, x31, x32, _, x11, x12, j10, j11, rfl, fun h => h0 (upd_ne (by decide) h), fun h => h1 (upd_ne (by decide) h), fun h => h2 (upd_ne (by decide) h), fun h => h3 (upd_ne (by decide) h), fun h => h4 (upd_ne (by decide) h), fun h => h5 (upd_ne (by decide) h), fun h => h6 (upd_ne (by decide) h), fun _ => rfl, fun h => h8 (upd_ne (by decide) h), fun h => h9 (upd_ne (by decide) h), fun _ => ⟨rfl, u10, (by simpa [World.setCell] using t10), fun h' => (by rw [upd_self] at h'; cases h'), fun _ => Own.set (i := 1) (Own.set (i := 0) (oz) _ (by simp)) _ (by simp)⟩, fun h => (by obtain ⟨p1, p2, p3, p4, p5⟩ := h11 (upd_ne (by decide) h); have hne : j10 ≠ j11 := (by have := m10_11 (dep_of hd (e := ⟨10, .data⟩) (by simp) rfl) (upd_ne (by decide) h); omega); exact ⟨p1, p2, (by simpa [World.setCell] using p3), fun h' => Own.other (i := 1) (Own.other (i := 0) (p4 (by rw [upd_same (by decide)] at h'; exact h')) _ hne) _ hne, fun h' => Own.other (i := 1) (Own.other (i := 0) (p5 (upd_ne (by decide) h')) _ hne) _ hne⟩), fun h => h14 (upd_ne (by decide) h), fun _ => upd_of (dep_of hd (e := ⟨10, .data⟩) (by simp) rfl), fun h => upd_of (n11 (upd_ne (by decide) h)), fun h h' => m10_11 (upd_ne (by decide) h) (upd_ne (by decide) h'), ((hB.setCell (p := ⟨j10, 0, none⟩) u10 _).setCell (p := ⟨j10, 1, none⟩) u10 _)⟩
  · rintro f a W ⟨x24, x25, x26, x27, x28, x29, x23, x30, x31, x32, x10, x11, x12, j10, j11, rfl, h0, h1, h2, h3, h4, h5, h6, h7, h8, h9, h10, h11, h14, n10, n11, m10_11, hB⟩ hf hd K hK
    obtain ⟨e11, u11, t11, z11, s11⟩ := h11 (dep_of hd (e := ⟨11, .data⟩) (by simp) rfl)
    subst e11
    have e8 := h8 (dep_of hd (e := ⟨8, .data⟩) (by simp) rfl)
    subst e8
    have oz := z11 hf
    have r0 := oz.cell 0 _ rfl
    have o0 := oz.frz 0 _ rfl
    have r1 := oz.cell 1 _ rfl
    have o1 := oz.frz 1 _ rfl
    go_simp
    refine hK _ _ ?_
    exact ⟨x24, x25, x26, x27, x28, x29, x23, x30, _, x32, x10, _, x12, j10, j11, rfl, fun h => h0 (upd_ne (by decide) h), fun h => h1 (upd_ne (by decide) h), fun h => h2 (upd_ne (by decide) h), fun h => h3 (upd_ne (by decide) h), fun h => h4 (upd_ne (by decide) h), fun h => h5 (upd_ne (by decide) h), fun h => h6 (upd_ne (by decide) h), fun h => h7 (upd_ne (by decide) h), fun _ => rfl, fun h => h9 (upd_ne (by decide) h), fun h => (by obtain ⟨p1, p2, p3, p4, p5⟩ := h10 (upd_ne (by decide) h); have hne : j11 ≠ j10 := (by have := m10_11 (upd_ne (by decide) h) (dep_of hd (e := ⟨11, .data⟩) (by simp) rfl); omega); exact ⟨p1, p2, (by simpa [World.setCell] using p3), fun h' => Own.other (i := 1) (Own.other (i := 0) (p4 (by rw [upd_same (by decide)] at h'; exact h')) _ hne) _ hne, fun h' => Own.other (i := 1) (Own.other (i := 0) (p5 (upd_ne (by decide) h')) _ hne) _ hne⟩), fun _ => ⟨rfl, u11, (by simpa [World.setCell] using t11), fun h' => (by rw [upd_self] at h'; cases h'), fun _ => Own.set (i := 1) (Own.set (i := 0) (oz) _ (by simp)) _ (by simp)⟩, fun h => h14 (upd_ne (by decide) h), fun h => upd_of (n10 (upd_ne (by decide) h)), fun _ => upd_of (dep_of hd (e := ⟨11, .data⟩) (by simp) rfl), fun h h' => m10_11 (upd_ne (by decide) h) (upd_ne (by decide) h'), ((hB.setCell (p := ⟨j11, 0, none⟩) u11 _).setCell (p := ⟨j11, 1, none⟩) u11 _)⟩
  · rintro f a W ⟨x24, x25, x26, x27, x28, x29, x23, x30, x31, x32, x10, x11, x12, j10, j11, rfl, h0, h1, h2, h3, h4, h5, h6, h7, h8, h9, h10, h11, h14, n10, n11, m10_11, hB⟩ hf hd K hK
    have e9 := h9 (dep_of hd (e := ⟨9, .data⟩) (by simp) rfl)
    subst e9
    go_simp
    refine hK _ _ ?_
    exact ⟨x24, x25, x26, x27, x28, x29, x23, x30, x31, _, x10, x11, _, j10, j11, rfl, fun h => h0 (upd_ne (by decide) h), fun h => h1 (upd_ne (by decide) h), fun h => h2 (upd_ne (by decide) h), fun h => h3 (upd_ne (by decide) h), fun h => h4 (upd_ne (by decide) h), fun h => h5 (upd_ne (by decide) h), fun h => h6 (upd_ne (by decide) h), fun h => h7 (upd_ne (by decide) h), fun h => h8 (upd_ne (by decide) h), fun _ => rfl, fun h => (by obtain ⟨p1, p2, p3, p4, p5⟩ := h10 (upd_ne (by decide) h); exact ⟨p1, p2, p3, fun h' => p4 (by rw [upd_same (by decide)] at h'; exact h'), fun h' => p5 (upd_ne (by decide) h')⟩), fun h => (by obtain ⟨p1, p2, p3, p4, p5⟩ := h11 (upd_ne (by decide) h); exact ⟨p1, p2, p3, fun h' => p4 (by rw [upd_same (by decide)] at h'; exact h'), fun h' => p5 (upd_ne (by decide) h')⟩), fun _ => rfl, fun h => upd_of (n10 (upd_ne (by decide) h)), fun h => upd_of (n11 (upd_ne (by decide) h)), fun h h' => m10_11 (upd_ne (by decide) h) (upd_ne (by decide) h'), hB⟩
  rintro f a WC ⟨x24, x25, x26, x27, x28, x29, x23, x30, x31, x32, x10, x11, x12, j10, j11, rfl, h0, h1, h2, h3, h4, h5, h6, h7, h8, h9, h10, h11, h14, n10, n11, m10_11, qB⟩ hall
  have e0 := h0 (hall 0 (by decide))
  subst e0
  have e1 := h1 (hall 1 (by decide))
  subst e1
  have e2 := h2 (hall 2 (by decide))
  subst e2
  have e3 := h3 (hall 3 (by decide))
  subst e3
  have e4 := h4 (hall 4 (by decide))
  subst e4
  have e5 := h5 (hall 5 (by decide))
  subst e5
  have e6 := h6 (hall 6 (by decide))
  subst e6
  have e7 := h7 (hall 7 (by decide))
  subst e7
  have e8 := h8 (hall 8 (by decide))
  subst e8
  have e9 := h9 (hall 9 (by decide))
  subst e9
  obtain ⟨e10, u10, -, -, s10⟩ := h10 (hall 10 (by decide))
  replace s10 := s10 (hall 12 (by decide))
  subst e10
  obtain ⟨e11, u11, -, -, s11⟩ := h11 (hall 11 (by decide))
  replace s11 := s11 (hall 13 (by decide))
  subst e11
  have e14 := h14 (hall 14 (by decide))
  subst e14
  replace m10_11 := m10_11 (hall 10 (by decide)) (hall 11 (by decide))
  clear hall h0 h1 h2 h3 h4 h5 h6 h7 h8 h9 h10 h11 h14 n10 n11
  try dsimp only
  replace sA := sA.below qB
  replace sB := sB.below qB
  replace hb := hb.trans (qB.mono hb.size)
  clear c0 c1 d0 d1 l0 l1 qB u10 u11 hi o0 o1
  have c0 := sA.cell 0 _ rfl
  have c1 := sA.cell 1 _ rfl
  have d0 := s10.cell 0 _ rfl
  have d1 := s10.cell 1 _ rfl
  have ea := fun W => eqPairSame W ra rb
  have eb := fun W => eqPairSame W rc rd
  go_wp2_with first
    | (go_at_call 12; refine (ea _).mono ?_; clear ea; rintro e w5 ⟨rfl, q⟩; replace sB := sB.below q; replace s11 := s11.below q; replace hb := hb.trans (q.mono hb.size); clear q; have b0 := sB.cell 0 _ rfl; have b1 := sB.cell 1 _ rfl; have f0 := s11.cell 0 _ rfl; have f1 := s11.cell 1 _ rfl)
    | (go_at_call 12; refine (eb _).mono ?_; clear eb; rintro e w6 ⟨rfl, q⟩; replace hb := hb.trans (q.mono hb.size); clear q)
  go_ret
  exact ⟨rfl, hb⟩

end Go.Proofs.Yteohgmmenlinbaf
