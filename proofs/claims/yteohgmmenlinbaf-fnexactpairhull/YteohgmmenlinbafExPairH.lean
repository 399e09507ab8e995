/- The walk of the exact law of PairHull: it returns true. -/
import Derived.Test.YteohgmmenlinbafPairH
import Derived.Test.YteohgmmenlinbafPairL
namespace Go.Proofs.Yteohgmmenlinbaf
open Go.RowKit
set_option linter.unusedVariables false

set_option maxHeartbeats 4000000 in
theorem walkExPairHull (n : Int) (hn : (Lit.int .i64 n).wf = true) (x0 y0 : Int) (wx0 : (Lit.int .i64 x0).wf = true) (wy0 : (Lit.int .i64 y0).wf = true) (x1 y1 : Int) (wx1 : (Lit.int .i64 x1).wf = true) (wy1 : (Lit.int .i64 y1).wf = true) (w : World) :
    Calls Try.prog 3 #[.int .i64 n, .agg #[.int .i64 x0, .int .i64 y0], .agg #[.int .i64 x1, .int .i64 y1]] w fun e w' => e = .returned (.bool true) ∧ Below w.heap.size w w' := by
  have hs := fun W => specHull W n x0 y0 x1 y1 wx0 wy0 wx1 wy1
  have hi := fun W => implHull W n x0 y0 x1 y1 wx0 wy0 wx1 wy1
  generalize (if hullB n x0 y0 x1 y1 = true then min x0 x1 else 0) = u at *
  generalize (if hullB n x0 y0 x1 y1 = true then max y0 y1 else 0) = v at *
  generalize hullB n x0 y0 x1 y1 = k at *
  clear wx0 wy0 wx1 wy1
  obtain ⟨o0, o1⟩ := two_pairs w x0 y0 x1 y1 23
  have hb := ((Below.refl _ w).alloc (Nat.le_refl _) (.cells #[.int .i64 x0, .int .i64 y0] 23)).alloc (by simp) (.cells #[.int .i64 x1, .int .i64 y1] 23)
  go_enter Try.func3, Try.ntmps3
  go_wp2
  generalize (w.alloc (.cells #[.int .i64 x0, .int .i64 y0] 23)).alloc (.cells #[.int .i64 x1, .int .i64 y1] 23) = WA at *
  have c0 := o0.cell 0 _ rfl
  have c1 := o0.cell 1 _ rfl
  have d0 := o1.cell 0 _ rfl
  have d1 := o1.cell 1 _ rfl
  have l0 := o0.lt
  have l1 := o1.lt
  refine region_steps (by kernel_rfl) (by kernel_rfl) (by kernel_rfl) (fun A0 f a W => ∃ (x12 : Value) (x13 : Value) (x14 : Value) (x15 : Value) (x16 : Value) (x17 : Value) (x11 : Value) (x18 : Value) (x19 : Value) (x7 : Value) (x8 : Value) (k9 : Nat), a = { tmps := #[.int .i64 n, .agg #[.int .i64 x0, .int .i64 y0], .agg #[.int .i64 x1, .int .i64 y1], undef, .pointer (some ⟨w.heap.size, 0, none⟩), .pointer (some ⟨w.heap.size + 1, 0, none⟩), .bool false, x7, x8, undef, undef, x11, x12, x13, x14, x15, x16, x17, x18, x19, undef, undef, undef, undef, undef, undef, undef, undef, undef, undef, undef, undef, undef, undef, undef, undef, undef, undef], defers := [] } ∧ (f 0 = true → x12 = .int .i64 n) ∧ (f 1 = true → x13 = .agg #[.int .i64 x0, .int .i64 y0]) ∧ (f 2 = true → x14 = .agg #[.int .i64 x0, .int .i64 y0]) ∧ (f 3 = true → x15 = .agg #[.int .i64 x1, .int .i64 y1]) ∧ (f 4 = true → x16 = .agg #[.int .i64 x1, .int .i64 y1]) ∧ (f 5 = true → x17 = .tuple #[.agg #[.int .i64 u, .int .i64 v], .bool k]) ∧ (f 6 = true → x11 = .tuple #[.agg #[.int .i64 u, .int .i64 v], .bool k]) ∧ (f 7 = true → x18 = .agg #[.int .i64 u, .int .i64 v]) ∧ (f 8 = true → x19 = .bool k) ∧ (f 9 = true → x7 = .pointer (some ⟨k9, 0, none⟩) ∧ WA.heap.size ≤ k9 ∧ k9 < W.heap.size ∧ (f 10 = false → Own W k9 [.int .i64 0, .int .i64 0]) ∧ (f 10 = true → Own W k9 [.int .i64 u, .int .i64 v])) ∧ (f 11 = true → x8 = .bool k) ∧ (f 10 = true → f 9 = true) ∧ Below WA.heap.size WA W) ?_ ⟨?_, ?_, ?_, ?_, ?_, ?_, ?_, ?_, ?_, ?_, ?_, ?_, trivial⟩ ?_
  · exact ⟨undef, undef, undef, undef, undef, undef, undef, undef, undef, undef, undef, 0, rfl, (fun h => (by cases h)), (fun h => (by cases h)), (fun h => (by cases h)), (fun h => (by cases h)), (fun h => (by cases h)), (fun h => (by cases h)), (fun h => (by cases h)), (fun h => (by cases h)), (fun h => (by cases h)), (fun h => (by cases h)), (fun h => (by cases h)), (fun h => (by cases h)), (Below.refl _ _).drew⟩
  · rintro f a W ⟨x12, x13, x14, x15, x16, x17, x11, x18, x19, x7, x8, k9, rfl, h0, h1, h2, h3, h4, h5, h6, h7, h8, h9, h11, n9, hB⟩ hf hd K hK
    go_simp
    refine hK _ _ ?_
    exact ⟨_, x13, x14, x15, x16, x17, x11, x18, x19, x7, x8, k9, rfl, fun _ => rfl, fun h => h1 (upd_ne (by decide) h), fun h => h2 (upd_ne (by decide) h), fun h => h3 (upd_ne (by decide) h), fun h => h4 (upd_ne (by decide) h), fun h => h5 (upd_ne (by decide) h), fun h => h6 (upd_ne (by decide) h), fun h => h7 (upd_ne (by decide) h), fun h => h8 (upd_ne (by decide) h), fun h => (by obtain ⟨p1, p2, p3, p4, p5⟩ := h9 (upd_ne (by decide) h); exact ⟨p1, p2, p3, fun h' => p4 (by rw [upd_same (by decide)] at h'; exact h'), fun h' => p5 (upd_ne (by decide) h')⟩), fun h => h11 (upd_ne (by decide) h), fun h => upd_of (n9 (upd_ne (by decide) h)), hB⟩
  · rintro f a W ⟨x12, x13, x14, x15, x16, x17, x11, x18, x19, x7, x8, k9, rfl, h0, h1, h2, h3, h4, h5, h6, h7, h8, h9, h11, n9, hB⟩ hf hd K hK
    have r0 := (hB.cell (p := ⟨w.heap.size, 0, none⟩) l0).trans c0
    have r1 := (hB.cell (p := ⟨w.heap.size, 1, none⟩) l0).trans c1
    go_simp
    refine hK _ _ ?_
    exact ⟨x12, _, x14, x15, x16, x17, x11, x18, x19, x7, x8, k9, rfl, fun h => h0 (upd_ne (by decide) h), fun _ => rfl, fun h => h2 (upd_ne (by decide) h), fun h => h3 (upd_ne (by decide) h), fun h => h4 (upd_ne (by decide) h), fun h => h5 (upd_ne (by decide) h), fun h => h6 (upd_ne (by decide) h), fun h => h7 (upd_ne (by decide) h), fun h => h8 (upd_ne (by decide) h), fun h => (by obtain ⟨p1, p2, p3, p4, p5⟩ := h9 (upd_ne (by decide) h); exact ⟨p1, p2, p3, fun h' => p4 (by rw [upd_same (by decide)] at h'; exact h'), fun h' => p5 (upd_ne (by decide) h')⟩), fun h => h11 (upd_ne (by decide) h), fun h => upd_of (n9 (upd_ne (by decide) h)), hB⟩
  · rintro f a W ⟨x12, x13, x14, x15, x16, x17, x11, x18, x19, x7, x8, k9, rfl, h0, h1, h2, h3, h4, h5, h6, h7, h8, h9, h11, n9, hB⟩ hf hd K hK
    have e1 := h1 (dep_of hd (e := ⟨1, .data⟩) (by simp) rfl)
    subst e1
    go_simp
    refine (toPair _ _ _).mono ?_
    rintro e W2 ⟨rfl, q⟩
    refine hK _ _ ?_
    exact ⟨x12, _, _, x15, x16, x17, x11, x18, x19, x7, x8, k9, rfl, fun h => h0 (upd_ne (by decide) h), fun _ => rfl, fun _ => rfl, fun h => h3 (upd_ne (by decide) h), fun h => h4 (upd_ne (by decide) h), fun h => h5 (upd_ne (by decide) h), fun h => h6 (upd_ne (by decide) h), fun h => h7 (upd_ne (by decide) h), fun h => h8 (upd_ne (by decide) h), fun h => (by obtain ⟨p1, p2, p3, p4, p5⟩ := h9 (upd_ne (by decide) h); exact ⟨p1, p2, Nat.lt_of_lt_of_le (p3) q.size, fun h' => (p4 (by rw [upd_same (by decide)] at h'; exact h')).below q, fun h' => (p5 (upd_ne (by decide) h')).below q⟩), fun h => h11 (upd_ne (by decide) h), fun h => upd_of (n9 (upd_ne (by decide) h)), hB.trans (q.mono hB.size)⟩
  · rintro f a W ⟨x12, x13, x14, x15, x16, x17, x11, x18, x19, x7, x8, k9, rfl, h0, h1, h2, h3, h4, h5, h6, h7, h8, h9, h11, n9, hB⟩ hf hd K hK
    have r0 := (hB.cell (p := ⟨w.heap.size + 1, 0, none⟩) l1).trans d0
    have r1 := (hB.cell (p := ⟨w.heap.size + 1, 1, none⟩) l1).trans d1
    go_simp
    refine hK _ _ ?_
    exact ⟨x12, x13, x14, _, x16, x17, x11, x18, x19, x7, x8, k9, rfl, fun h => h0 (upd_ne (by decide) h), fun h => h1 (upd_ne (by decide) h), fun h => h2 (upd_ne (by decide) h), fun _ => rfl, fun h => h4 (upd_ne (by decide) h), fun h => h5 (upd_ne (by decide) h), fun h => h6 (upd_ne (by decide) h), fun h => h7 (upd_ne (by decide) h), fun h => h8 (upd_ne (by decide) h), fun h => (by obtain ⟨p1, p2, p3, p4, p5⟩ := h9 (upd_ne (by decide) h); exact ⟨p1, p2, p3, fun h' => p4 (by rw [upd_same (by decide)] at h'; exact h'), fun h' => p5 (upd_ne (by decide) h')⟩), fun h => h11 (upd_ne (by decide) h), fun h => upd_of (n9 (upd_ne (by decide) h)), hB⟩
  · rintro f a W ⟨x12, x13, x14, x15, x16, x17, x11, x18, x19, x7, x8, k9, rfl, h0, h1, h2, h3, h4, h5, h6, h7, h8, h9, h11, n9, hB⟩ hf hd K hK
    have e3 := h3 (dep_of hd (e := ⟨3, .data⟩) (by simp) rfl)
    subst e3
    go_simp
    refine (toPair _ _ _).mono ?_
    rintro e W2 ⟨rfl, q⟩
    refine hK _ _ ?_
    exact ⟨x12, x13, x14, _, _, x17, x11, x18, x19, x7, x8, k9, rfl, fun h => h0 (upd_ne (by decide) h), fun h => h1 (upd_ne (by decide) h), fun h => h2 (upd_ne (by decide) h), fun _ => rfl, fun _ => rfl, fun h => h5 (upd_ne (by decide) h), fun h => h6 (upd_ne (by decide) h), fun h => h7 (upd_ne (by decide) h), fun h => h8 (upd_ne (by decide) h), fun h => (by obtain ⟨p1, p2, p3, p4, p5⟩ := h9 (upd_ne (by decide) h); exact ⟨p1, p2, Nat.lt_of_lt_of_le (p3) q.size, fun h' => (p4 (by rw [upd_same (by decide)] at h'; exact h')).below q, fun h' => (p5 (upd_ne (by decide) h')).below q⟩), fun h => h11 (upd_ne (by decide) h), fun h => upd_of (n9 (upd_ne (by decide) h)), hB.trans (q.mono hB.size)⟩
  · rintro f a W ⟨x12, x13, x14, x15, x16, x17, x11, x18, x19, x7, x8, k9, rfl, h0, h1, h2, h3, h4, h5, h6, h7, h8, h9, h11, n9, hB⟩ hf hd K hK
    have e0 := h0 (dep_of hd (e := ⟨0, .data⟩) (by simp) rfl)
    subst e0
    have e2 := h2 (dep_of hd (e := ⟨2, .data⟩) (by simp) rfl)
    subst e2
    have e4 := h4 (dep_of hd (e := ⟨4, .data⟩) (by simp) rfl)
    subst e4
    go_simp
    refine (hs _).mono ?_
    rintro e W2 ⟨rfl, q⟩
    refine hK _ _ ?_
    exact ⟨_, x13, _, x15, _, _, x11, x18, x19, x7, x8, k9, rfl, fun _ => rfl, fun h => h1 (upd_ne (by decide) h), fun _ => rfl, fun h => h3 (upd_ne (by decide) h), fun _ => rfl, fun _ => rfl, fun h => h6 (upd_ne (by decide) h), fun h => h7 (upd_ne (by decide) h), fun h => h8 (upd_ne (by decide) h), fun h => (by obtain ⟨p1, p2, p3, p4, p5⟩ := h9 (upd_ne (by decide) h); exact ⟨p1, p2, Nat.lt_of_lt_of_le (p3) q.size, fun h' => (p4 (by rw [upd_same (by decide)] at h'; exact h')).below q, fun h' => (p5 (upd_ne (by decide) h')).below q⟩), fun h => h11 (upd_ne (by decide) h), fun h => upd_of (n9 (upd_ne (by decide) h)), hB.trans (q.mono hB.size)⟩
  · rintro f a W ⟨x12, x13, x14, x15, x16, x17, x11, x18, x19, x7, x8, k9, rfl, h0, h1, h2, h3, h4, h5, h6, h7, h8, h9, h11, n9, hB⟩ hf hd K hK
    have e5 := h5 (dep_of hd (e := ⟨5, .data⟩) (by simp) rfl)
    subst e5
    go_simp
    refine hK _ _ ?_
    exact ⟨x12, x13, x14, x15, x16, _, _, x18, x19, x7, x8, k9, rfl, fun h => h0 (upd_ne (by decide) h), fun h => h1 (upd_ne (by decide) h), fun h => h2 (upd_ne (by decide) h), fun h => h3 (upd_ne (by decide) h), fun h => h4 (upd_ne (by decide) h), fun _ => rfl, fun _ => rfl, fun h => h7 (upd_ne (by decide) h), fun h => h8 (upd_ne (by decide) h), fun h => (by obtain ⟨p1, p2, p3, p4, p5⟩ := h9 (upd_ne (by decide) h); exact ⟨p1, p2, p3, fun h' => p4 (by rw [upd_same (by decide)] at h'; exact h'), fun h' => p5 (upd_ne (by decide) h')⟩), fun h => h11 (upd_ne (by decide) h), fun h => upd_of (n9 (upd_ne (by decide) h)), hB⟩
  · rintro f a W ⟨x12, x13, x14, x15, x16, x17, x11, x18, x19, x7, x8, k9, rfl, h0, h1, h2, h3, h4, h5, h6, h7, h8, h9, h11, n9, hB⟩ hf hd K hK
    have e6 := h6 (dep_of hd (e := ⟨6, .data⟩) (by simp) rfl)
    subst e6
    go_simp
    refine hK _ _ ?_
    exact ⟨x12, x13, x14, x15, x16, x17, _, _, x19, x7, x8, k9, rfl, fun h => h0 (upd_ne (by decide) h), fun h => h1 (upd_ne (by decide) h), fun h => h2 (upd_ne (by decide) h), fun h => h3 (upd_ne (by decide) h), fun h => h4 (upd_ne (by decide) h), fun h => h5 (upd_ne (by decide) h), fun _ => rfl, fun _ => rfl, fun h => h8 (upd_ne (by decide) h), fun h => (by obtain ⟨p1, p2, p3, p4, p5⟩ := h9 (upd_ne (by decide) h); exact ⟨p1, p2, p3, fun h' => p4 (by rw [upd_same (by decide)] at h'; exact h'), fun h' => p5 (upd_ne (by decide) h')⟩), fun h => h11 (upd_ne (by decide) h), fun h => upd_of (n9 (upd_ne (by decide) h)), hB⟩
  · rintro f a W ⟨x12, x13, x14, x15, x16, x17, x11, x18, x19, x7, x8, k9, rfl, h0, h1, h2, h3, h4, h5, h6, h7, h8, h9, h11, n9, hB⟩ hf hd K hK
    have e6 := h6 (dep_of hd (e := ⟨6, .data⟩) (by simp) rfl)
    subst e6
    go_simp
    refine hK _ _ ?_
    exact ⟨x12, x13, x14, x15, x16, x17, _, x18, _, x7, x8, k9, rfl, fun h => h0 (upd_ne (by decide) h), fun h => h1 (upd_ne (by decide) h), fun h => h2 (upd_ne (by decide) h), fun h => h3 (upd_ne (by decide) h), fun h => h4 (upd_ne (by decide) h), fun h => h5 (upd_ne (by decide) h), fun _ => rfl, fun h => h7 (upd_ne (by decide) h), fun _ => rfl, fun h => (by obtain ⟨p1, p2, p3, p4, p5⟩ := h9 (upd_ne (by decide) h); exact ⟨p1, p2, p3, fun h' => p4 (by rw [upd_same (by decide)] at h'; exact h'), fun h' => p5 (upd_ne (by decide) h')⟩), fun h => h11 (upd_ne (by decide) h), fun h => upd_of (n9 (upd_ne (by decide) h)), hB⟩
  · rintro f a W ⟨x12, x13, x14, x15, x16, x17, x11, x18, x19, x7, x8, k9, rfl, h0, h1, h2, h3, h4, h5, h6, h7, h8, h9, h11, n9, hB⟩ hf hd K hK
    go_simp
    refine hK _ _ ?_
    exact ⟨x12, x13, x14, x15, x16, x17, x11, x18, x19, _, x8, W.heap.size, rfl, fun h => h0 (upd_ne (by decide) h), fun h => h1 (upd_ne (by decide) h), fun h => h2 (upd_ne (by decide) h), fun h => h3 (upd_ne (by decide) h), fun h => h4 (upd_ne (by decide) h), fun h => h5 (upd_ne (by decide) h), fun h => h6 (upd_ne (by decide) h), fun h => h7 (upd_ne (by decide) h), fun h => h8 (upd_ne (by decide) h), fun _ => ⟨rfl, hB.size, (by simp), fun _ => Own.new W _ _, fun h' => absurd (n9 (upd_ne (by decide) h')) (by rw [hf]; decide)⟩, fun h => h11 (upd_ne (by decide) h), fun _ => upd_self, hB.alloc hB.size _⟩
  · rintro f a W ⟨x12, x13, x14, x15, x16, x17, x11, x18, x19, x7, x8, k9, rfl, h0, h1, h2, h3, h4, h5, h6, h7, h8, h9, h11, n9, hB⟩ hf hd K hK
    obtain ⟨e9, u9, t9, z9, s9⟩ := h9 (dep_of hd (e := ⟨9, .data⟩) (by simp) rfl)
    subst e9
    have e7 := h7 (dep_of hd (e := ⟨7, .data⟩) (by simp) rfl)
    subst e7
    have oz := z9 hf
    have r0 := oz.cell 0 _ rfl
    have o0 := oz.frz 0 _ rfl
    have r1 := oz.cell 1 _ rfl
    have o1 := oz.frz 1 _ rfl
    go_simp
    refine hK _ _ ?_
    exact ⟨x12, x13, x14, x15, x16, x17, x11, _, x19, _, x8, k9, rfl, fun h => h0 (upd_ne (by decide) h), fun h => h1 (upd_ne (by decide) h), fun h => h2 (upd_ne (by decide) h), fun h => h3 (upd_ne (by decide) h), fun h => h4 (upd_ne (by decide) h), fun h => h5 (upd_ne (by decide) h), fun h => h6 (upd_ne (by decide) h), fun _ => rfl, fun h => h8 (upd_ne (by decide) h), fun _ => ⟨rfl, u9, (by simpa [World.setCell] using t9), fun h' => (by rw [upd_self] at h'; cases h'), fun _ => Own.set (i := 1) (Own.set (i := 0) (oz) _ (by simp)) _ (by simp)⟩, fun h => h11 (upd_ne (by decide) h), fun _ => upd_of (dep_of hd (e := ⟨9, .data⟩) (by simp) rfl), ((hB.setCell (p := ⟨k9, 0, none⟩) u9 _).setCell (p := ⟨k9, 1, none⟩) u9 _)⟩
  · rintro f a W ⟨x12, x13, x14, x15, x16, x17, x11, x18, x19, x7, x8, k9, rfl, h0, h1, h2, h3, h4, h5, h6, h7, h8, h9, h11, n9, hB⟩ hf hd K hK
    have e8 := h8 (dep_of hd (e := ⟨8, .data⟩) (by simp) rfl)
    subst e8
    go_simp
    refine hK _ _ ?_
    exact ⟨x12, x13, x14, x15, x16, x17, x11, x18, _, x7, _, k9, rfl, fun h => h0 (upd_ne (by decide) h), fun h => h1 (upd_ne (by decide) h), fun h => h2 (upd_ne (by decide) h), fun h => h3 (upd_ne (by decide) h), fun h => h4 (upd_ne (by decide) h), fun h => h5 (upd_ne (by decide) h), fun h => h6 (upd_ne (by decide) h), fun h => h7 (upd_ne (by decide) h), fun _ => rfl, fun h => (by obtain ⟨p1, p2, p3, p4, p5⟩ := h9 (upd_ne (by decide) h); exact ⟨p1, p2, p3, fun h' => p4 (by rw [upd_same (by decide)] at h'; exact h'), fun h' => p5 (upd_ne (by decide) h')⟩), fun _ => rfl, fun h => upd_of (n9 (upd_ne (by decide) h)), hB⟩
  rintro f a WB ⟨x12, x13, x14, x15, x16, x17, x11, x18, x19, x7, x8, k9, rfl, h0, h1, h2, h3, h4, h5, h6, h7, h8, h9, h11, n9, qB⟩ hall
  have e0 := h0 (hall 0 (by decide))
  subst e0
  have e1 := h1 (hall 1 (by decide))
  subst e1
  have e2 := h2 (hall 2 (by decide))
  subst e2
  have e3 := h3 (hall 3 (by decide))
  subst e3
  have e4 := h4 (hall 4 (by decide))
  subst e4
  have e5 := h5 (hall 5 (by decide))
  subst e5
  have e6 := h6 (hall 6 (by decide))
  subst e6
  have e7 := h7 (hall 7 (by decide))
  subst e7
  have e8 := h8 (hall 8 (by decide))
  subst e8
  obtain ⟨e9, u9, -, -, s9⟩ := h9 (hall 9 (by decide))
  replace s9 := s9 (hall 10 (by decide))
  subst e9
  have e11 := h11 (hall 11 (by decide))
  subst e11
  clear hall h0 h1 h2 h3 h4 h5 h6 h7 h8 h9 h11 n9
  try dsimp only
  replace o0 := o0.below qB
  replace o1 := o1.below qB
  replace hb := hb.trans (qB.mono hb.size)
  have g9 : w.heap.size ≤ k9 := Nat.le_trans (Nat.le_of_lt l0) u9
  have sA := s9
  clear c0 c1 d0 d1 l0 l1 qB u9 hs s9
  go_wp2
  have c0 := o0.cell 0 _ rfl
  have c1 := o0.cell 1 _ rfl
  have d0 := o1.cell 0 _ rfl
  have d1 := o1.cell 1 _ rfl
  have l0 := o0.lt
  have l1 := o1.lt
  refine region_steps (by kernel_rfl) (by kernel_rfl) (by kernel_rfl) (fun A0 f a W => ∃ (x21 : Value) (x22 : Value) (x23 : Value) (x24 : Value) (x25 : Value) (x26 : Value) (x20 : Value) (x27 : Value) (x28 : Value) (x9 : Value) (x10 : Value) (j9 : Nat), a = { tmps := #[.int .i64 n, .agg #[.int .i64 x0, .int .i64 y0], .agg #[.int .i64 x1, .int .i64 y1], undef, .pointer (some ⟨w.heap.size, 0, none⟩), .pointer (some ⟨w.heap.size + 1, 0, none⟩), .bool false, .pointer (some ⟨k9, 0, none⟩), .bool k, x9, x10, .tuple #[.agg #[.int .i64 u, .int .i64 v], .bool k], .int .i64 n, .agg #[.int .i64 x0, .int .i64 y0], .agg #[.int .i64 x0, .int .i64 y0], .agg #[.int .i64 x1, .int .i64 y1], .agg #[.int .i64 x1, .int .i64 y1], .tuple #[.agg #[.int .i64 u, .int .i64 v], .bool k], .agg #[.int .i64 u, .int .i64 v], .bool k, x20, x21, x22, x23, x24, x25, x26, x27, x28, undef, undef, undef, undef, undef, undef, undef, undef, undef], defers := [] } ∧ (f 0 = true → x21 = .int .i64 n) ∧ (f 1 = true → x22 = .agg #[.int .i64 x0, .int .i64 y0]) ∧ (f 2 = true → x23 = .agg #[.int .i64 x0, .int .i64 y0]) ∧ (f 3 = true → x24 = .agg #[.int .i64 x1, .int .i64 y1]) ∧ (f 4 = true → x25 = .agg #[.int .i64 x1, .int .i64 y1]) ∧ (f 5 = true → x26 = .tuple #[.agg #[.int .i64 u, .int .i64 v], .bool k]) ∧ (f 6 = true → x20 = .tuple #[.agg #[.int .i64 u, .int .i64 v], .bool k]) ∧ (f 7 = true → x27 = .agg #[.int .i64 u, .int .i64 v]) ∧ (f 8 = true → x28 = .bool k) ∧ (f 9 = true → x9 = .pointer (some ⟨j9, 0, none⟩) ∧ WB.heap.size ≤ j9 ∧ j9 < W.heap.size ∧ (f 10 = false → Own W j9 [.int .i64 0, .int .i64 0]) ∧ (f 10 = true → Own W j9 [.int .i64 u, .int .i64 v])) ∧ (f 11 = true → x10 = .bool k) ∧ (f 10 = true → f 9 = true) ∧ Below WB.heap.size WB W) ?_ ⟨?_, ?_, ?_, ?_, ?_, ?_, ?_, ?_, ?_, ?_, ?_, ?_, trivial⟩ ?_
  · exact ⟨undef, undef, undef, undef, undef, undef, undef, undef, undef, undef, undef, 0, rfl, (fun h => (by cases h)), (fun h => (by cases h)), (fun h => (by cases h)), (fun h => (by cases h)), (fun h => (by cases h)), (fun h => (by cases h)), (fun h => (by cases h)), (fun h => (by cases h)), (fun h => (by cases h)), (fun h => (by cases h)), (fun h => (by cases h)), (fun h => (by cases h)), (Below.refl _ _).drew⟩
  · rintro f a W ⟨x21, x22, x23, x24, x25, x26, x20, x27, x28, x9, x10, j9, rfl, h0, h1, h2, h3, h4, h5, h6, h7, h8, h9, h11, n9, hB⟩ hf hd K hK
    go_simp
    refine hK _ _ ?_
    exact ⟨_, x22, x23, x24, x25, x26, x20, x27, x28, x9, x10, j9, rfl, fun _ => rfl, fun h => h1 (upd_ne (by decide) h), fun h => h2 (upd_ne (by decide) h), fun h => h3 (upd_ne (by decide) h), fun h => h4 (upd_ne (by decide) h), fun h => h5 (upd_ne (by decide) h), fun h => h6 (upd_ne (by decide) h), fun h => h7 (upd_ne (by decide) h), fun h => h8 (upd_ne (by decide) h), fun h => (by obtain ⟨p1, p2, p3, p4, p5⟩ := h9 (upd_ne (by decide) h); exact ⟨p1, p2, p3, fun h' => p4 (by rw [upd_same (by decide)] at h'; exact h'), fun h' => p5 (upd_ne (by decide) h')⟩), fun h => h11 (upd_ne (by decide) h), fun h => upd_of (n9 (upd_ne (by decide) h)), hB⟩
  · rintro f a W ⟨x21, x22, x23, x24, x25, x26, x20, x27, x28, x9, x10, j9, rfl, h0, h1, h2, h3, h4, h5, h6, h7, h8, h9, h11, n9, hB⟩ hf hd K hK
    have r0 := (hB.cell (p := ⟨w.heap.size, 0, none⟩) l0).trans c0
    have r1 := (hB.cell (p := ⟨w.heap.size, 1, none⟩) l0).trans c1
    go_simp
    refine hK _ _ ?_
    exact ⟨x21, _, x23, x24, x25, x26, x20, x27, x28, x9, x10, j9, rfl, fun h => h0 (upd_ne (by decide) h), fun _ => rfl, fun h => h2 (upd_ne (by decide) h), fun h => h3 (upd_ne (by decide) h), fun h => h4 (upd_ne (by decide) h), fun h => h5 (upd_ne (by decide) h), fun h => h6 (upd_ne (by decide) h), fun h => h7 (upd_ne (by decide) h), fun h => h8 (upd_ne (by decide) h), fun h => (by obtain ⟨p1, p2, p3, p4, p5⟩ := h9 (upd_ne (by decide) h); exact ⟨p1, p2, p3, fun h' => p4 (by rw [upd_same (by decide)] at h'; exact h'), fun h' => p5 (upd_ne (by decide) h')⟩), fun h => h11 (upd_ne (by decide) h), fun h => upd_of (n9 (upd_ne (by decide) h)), hB⟩
  · rintro f a W ⟨x21, x22, x23, x24, x25, x26, x20, x27, x28, x9, x10, j9, rfl, h0, h1, h2, h3, h4, h5, h6, h7, h8, h9, h11, n9, hB⟩ hf hd K hK
    have e1 := h1 (dep_of hd (e := ⟨1, .data⟩) (by simp) rfl)
    subst e1
    go_simp
    refine (toPair _ _ _).mono ?_
    rintro e W2 ⟨rfl, q⟩
    refine hK _ _ ?_
    exact ⟨x21, _, _, x24, x25, x26, x20, x27, x28, x9, x10, j9, rfl, fun h => h0 (upd_ne (by decide) h), fun _ => rfl, fun _ => rfl, fun h => h3 (upd_ne (by decide) h), fun h => h4 (upd_ne (by decide) h), fun h => h5 (upd_ne (by decide) h), fun h => h6 (upd_ne (by decide) h), fun h => h7 (upd_ne (by decide) h), fun h => h8 (upd_ne (by decide) h), fun h => (by obtain ⟨p1, p2, p3, p4, p5⟩ := h9 (upd_ne (by decide) h); exact ⟨p1, p2, Nat.lt_of_lt_of_le (p3) q.size, fun h' => (p4 (by rw [upd_same (by decide)] at h'; exact h')).below q, fun h' => (p5 (upd_ne (by decide) h')).below q⟩), fun h => h11 (upd_ne (by decide) h), fun h => upd_of (n9 (upd_ne (by decide) h)), hB.trans (q.mono hB.size)⟩
  · rintro f a W ⟨x21, x22, x23, x24, x25, x26, x20, x27, x28, x9, x10, j9, rfl, h0, h1, h2, h3, h4, h5, h6, h7, h8, h9, h11, n9, hB⟩ hf hd K hK
    have r0 := (hB.cell (p := ⟨w.heap.size + 1, 0, none⟩) l1).trans d0
    have r1 := (hB.cell (p := ⟨w.heap.size + 1, 1, none⟩) l1).trans d1
    go_simp
    refine hK _ _ ?_
    exact ⟨x21, x22, x23, _, x25, x26, x20, x27, x28, x9, x10, j9, rfl, fun h => h0 (upd_ne (by decide) h), fun h => h1 (upd_ne (by decide) h), fun h => h2 (upd_ne (by decide) h), fun _ => rfl, fun h => h4 (upd_ne (by decide) h), fun h => h5 (upd_ne (by decide) h), fun h => h6 (upd_ne (by decide) h), fun h => h7 (upd_ne (by decide) h), fun h => h8 (upd_ne (by decide) h), fun h => (by obtain ⟨p1, p2, p3, p4, p5⟩ := h9 (upd_ne (by decide) h); exact ⟨p1, p2, p3, fun h' => p4 (by rw [upd_same (by decide)] at h'; exact h'), fun h' => p5 (upd_ne (by decide) h')⟩), fun h => h11 (upd_ne (by decide) h), fun h => upd_of (n9 (upd_ne (by decide) h)), hB⟩
  · rintro f a W ⟨x21, x22, x23, x24, x25, x26, x20, x27, x28, x9, x10, j9, rfl, h0, h1, h2, h3, h4, h5, h6, h7, h8, h9, h11, n9, hB⟩ hf hd K hK
    have e3 := h3 (dep_of hd (e := ⟨3, .data⟩) (by simp) rfl)
    subst e3
    go_simp
    refine (toPair _ _ _).mono ?_
    rintro e W2 ⟨rfl, q⟩
    refine hK _ _ ?_
    exact ⟨x21, x22, x23, _, _, x26, x20, x27, x28, x9, x10, j9, rfl, fun h => h0 (upd_ne (by decide) h), fun h => h1 (upd_ne (by decide) h), fun h => h2 (upd_ne (by decide) h), fun _ => rfl, fun _ => rfl, fun h => h5 (upd_ne (by decide) h), fun h => h6 (upd_ne (by decide) h), fun h => h7 (upd_ne (by decide) h), fun h => h8 (upd_ne (by decide) h), fun h => (by obtain ⟨p1, p2, p3, p4, p5⟩ := h9 (upd_ne (by decide) h); exact ⟨p1, p2, Nat.lt_of_lt_of_le (p3) q.size, fun h' => (p4 (by rw [upd_same (by decide)] at h'; exact h')).below q, fun h' => (p5 (upd_ne (by decide) h')).below q⟩), fun h => h11 (upd_ne (by decide) h), fun h => upd_of (n9 (upd_ne (by decide) h)), hB.trans (q.mono hB.size)⟩
  · rintro f a W ⟨x21, x22, x23, x24, x25, x26, x20, x27, x28, x9, x10, j9, rfl, h0, h1, h2, h3, h4, h5, h6, h7, h8, h9, h11, n9, hB⟩ hf hd K hK
    have e0 := h0 (dep_of hd (e := ⟨0, .data⟩) (by simp) rfl)
    subst e0
    have e2 := h2 (dep_of hd (e := ⟨2, .data⟩) (by simp) rfl)
    subst e2
    have e4 := h4 (dep_of hd (e := ⟨4, .data⟩) (by simp) rfl)
    subst e4
    go_simp
    refine (hi _).mono ?_
    rintro e W2 ⟨rfl, q⟩
    refine hK _ _ ?_
    exact ⟨_, x22, _, x24, _, _, x20, x27, x28, x9, x10, j9, rfl, fun _ => rfl, fun h => h1 (upd_ne (by decide) h), fun _ => rfl, fun h => h3 (upd_ne (by decide) h), fun _ => rfl, fun _ => rfl, fun h => h6 (upd_ne (by decide) h), fun h => h7 (upd_ne (by decide) h), fun h => h8 (upd_ne (by decide) h), fun h => (by obtain ⟨p1, p2, p3, p4, p5⟩ := h9 (upd_ne (by decide) h); exact ⟨p1, p2, Nat.lt_of_lt_of_le (p3) q.size, fun h' => (p4 (by rw [upd_same (by decide)] at h'; exact h')).below q, fun h' => (p5 (upd_ne (by decide) h')).below q⟩), fun h => h11 (upd_ne (by decide) h), fun h => upd_of (n9 (upd_ne (by decide) h)), hB.trans (q.mono hB.size)⟩
  · rintro f a W ⟨x21, x22, x23, x24, x25, x26, x20, x27, x28, x9, x10, j9, rfl, h0, h1, h2, h3, h4, h5, h6, h7, h8, h9, h11, n9, hB⟩ hf hd K hK
    have e5 := h5 (dep_of hd (e := ⟨5, .data⟩) (by simp) rfl)
    subst e5
    go_simp
    refine hK _ _ ?_
    exact ⟨x21, x22, x23, x24, x25, _, _, x27, x28, x9, x10, j9, rfl, fun h => h0 (upd_ne (by decide) h), fun h => h1 (upd_ne (by decide) h), fun h => h2 (upd_ne (by decide) h), fun h => h3 (upd_ne (by decide) h), fun h => h4 (upd_ne (by decide) h), fun _ => rfl, fun _ => rfl, fun h => h7 (upd_ne (by decide) h), fun h => h8 (upd_ne (by decide) h), fun h => (by obtain ⟨p1, p2, p3, p4, p5⟩ := h9 (upd_ne (by decide) h); exact ⟨p1, p2, p3, fun h' => p4 (by rw [upd_same (by decide)] at h'; exact h'), fun h' => p5 (upd_ne (by decide) h')⟩), fun h => h11 (upd_ne (by decide) h), fun h => upd_of (n9 (upd_ne (by decide) h)), hB⟩
  · rintro f a W ⟨x21, x22, x23, x24, x25, x26, x20, x27, x28, x9, x10, j9, rfl, h0, h1, h2, h3, h4, h5, h6, h7, h8, h9, h11, n9, hB⟩ hf hd K hK
    have e6 := h6 (dep_of hd (e := ⟨6, .data⟩) (by simp) rfl)
    subst e6
    go_simp
    refine hK _ _ ?_
    exact ⟨x21, x22, x23, x24, x25, x26, _, _, x28, x9, x10, j9, rfl, fun h => h0 (upd_ne (by decide) h), fun h => h1 (upd_ne (by decide) h), fun h => h2 (upd_ne (by decide) h), fun h => h3 (upd_ne (by decide) h), fun h => h4 (upd_ne (by decide) h), fun h => h5 (upd_ne (by decide) h), fun _ => rfl, fun _ => rfl, fun h => h8 (upd_ne (by decide) h), fun h => (by obtain ⟨p1, p2, p3, p4, p5⟩ := h9 (upd_ne (by decide) h); exact ⟨p1, p2, p3, fun h' => p4 (by rw [upd_same (by decide)] at h'; exact h'), fun h' => p5 (upd_ne (by decide) h')⟩), fun h => h11 (upd_ne (by decide) h), fun h => upd_of (n9 (upd_ne (by decide) h)), hB⟩
  · rintro f a W ⟨x21, x22, x23, x24, x25, x26, x20, x27, x28, x9, x10, j9, rfl, h0, h1, h2, h3, h4, h5, h6, h7, h8, h9, h11, n9, hB⟩ hf hd K hK
    have e6 := h6 (dep_of hd (e := ⟨6, .data⟩) (by simp) rfl)
    subst e6
    go_simp
    refine hK _ _ ?_
    exact ⟨x21, x22, x23, x24, x25, x26, _, x27, _, x9, x10, j9, rfl, fun h => h0 (upd_ne (by decide) h), fun h => h1 (upd_ne (by decide) h), fun h => h2 (upd_ne (by decide) h), fun h => h3 (upd_ne (by decide) h), fun h => h4 (upd_ne (by decide) h), fun h => h5 (upd_ne (by decide) h), fun _ => rfl, fun h => h7 (upd_ne (by decide) h), fun _ => rfl, fun h => (by obtain ⟨p1, p2, p3, p4, p5⟩ := h9 (upd_ne (by decide) h); exact ⟨p1, p2, p3, fun h' => p4 (by rw [upd_same (by decide)] at h'; exact h'), fun h' => p5 (upd_ne (by decide) h')⟩), fun h => h11 (upd_ne (by decide) h), fun h => upd_of (n9 (upd_ne (by decide) h)), hB⟩
  · rintro f a W ⟨x21, x22, x23, x24, x25, x26, x20, x27, x28, x9, x10, j9, rfl, h0, h1, h2, h3, h4, h5, h6, h7, h8, h9, h11, n9, hB⟩ hf hd K hK
    go_simp
    refine hK _ _ ?_
    exact ⟨x21, x22, x23, x24, x25, x26, x20, x27, x28, _, x10, W.heap.size, rfl, fun h => h0 (upd_ne (by decide) h), fun h => h1 (upd_ne (by decide) h), fun h => h2 (upd_ne (by decide) h), fun h => h3 (upd_ne (by decide) h), fun h => h4 (upd_ne (by decide) h), fun h => h5 (upd_ne (by decide) h), fun h => h6 (upd_ne (by decide) h), fun h => h7 (upd_ne (by decide) h), fun h => h8 (upd_ne (by decide) h), fun _ => ⟨rfl, hB.size, (by simp), fun _ => Own.new W _ _, fun h' => absurd (n9 (upd_ne (by decide) h')) (by rw [hf]; decide)⟩, fun h => h11 (upd_ne (by decide) h), fun _ => upd_self, hB.alloc hB.size _⟩
  · rintro f a W ⟨x21, x22, x23, x24, x25, x26, x20, x27, x28, x9, x10, j9, rfl, h0, h1, h2, h3, h4, h5, h6, h7, h8, h9, h11, n9, hB⟩ hf hd K hK
    obtain ⟨e9, u9, t9, z9, s9⟩ := h9 (dep_of hd (e := ⟨9, .data⟩) (by simp) rfl)
    subst e9
    have e7 := h7 (dep_of hd (e := ⟨7, .data⟩) (by simp) rfl)
    subst e7
    have oz := z9 hf
    have r0 := oz.cell 0 _ rfl
    have o0 := oz.frz 0 _ rfl
    have r1 := oz.cell 1 _ rfl
    have o1 := oz.frz 1 _ rfl
    go_simp
    refine hK _ _ ?_
    exact ⟨x21, x22, x23, x24, x25, x26, x20, _, x28, _, x10, j9, rfl, fun h => h0 (upd_ne (by decide) h), fun h => h1 (upd_ne (by decide) h), fun h => h2 (upd_ne (by decide) h), fun h => h3 (upd_ne (by decide) h), fun h => h4 (upd_ne (by decide) h), fun h => h5 (upd_ne (by decide) h), fun h => h6 (upd_ne (by decide) h), fun _ => rfl, fun h => h8 (upd_ne (by decide) h), fun _ => ⟨rfl, u9, (by simpa [World.setCell] using t9), fun h' => (by rw [upd_self] at h'; cases h'), fun _ => Own.set (i := 1) (Own.set (i := 0) (oz) _ (by simp)) _ (by simp)⟩, fun h => h11 (upd_ne (by decide) h), fun _ => upd_of (dep_of hd (e := ⟨9, .data⟩) (by simp) rfl), ((hB.setCell (p := ⟨j9, 0, none⟩) u9 _).setCell (p := ⟨j9, 1, none⟩) u9 _)⟩
  · rintro f a W ⟨x21, x22, x23, x24, x25, x26, x20, x27, x28, x9, x10, j9, rfl, h0, h1, h2, h3, h4, h5, h6, h7, h8, h9, h11, n9, hB⟩ hf hd K hK
    have e8 := h8 (dep_of hd (e := ⟨8, .data⟩) (by simp) rfl)
    subst e8
    go_simp
    refine hK _ _ ?_
    exact ⟨x21, x22, x23, x24, x25, x26, x20, x27, _, x9, _, j9, rfl, fun h => h0 (upd_ne (by decide) h), fun h => h1 (upd_ne (by decide) h), fun h => h2 (upd_ne (by decide) h), fun h => h3 (upd_ne (by decide) h), fun h => h4 (upd_ne (by decide) h), fun h => h5 (upd_ne (by decide) h), fun h => h6 (upd_ne (by decide) h), fun h => h7 (upd_ne (by decide) h), fun _ => rfl, fun h => (by obtain ⟨p1, p2, p3, p4, p5⟩ := h9 (upd_ne (by decide) h); exact ⟨p1, p2, p3, fun h' => p4 (by rw [upd_same (by decide)] at h'; exact h'), fun h' => p5 (upd_ne (by decide) h')⟩), fun _ => rfl, fun h => upd_of (n9 (upd_ne (by decide) h)), hB⟩
  rintro f a WC ⟨x21, x22, x23, x24, x25, x26, x20, x27, x28, x9, x10, j9, rfl, h0, h1, h2, h3, h4, h5, h6, h7, h8, h9, h11, n9, qB⟩ hall
  have e0 := h0 (hall 0 (by decide))
  subst e0
  have e1 := h1 (hall 1 (by decide))
  subst e1
  have e2 := h2 (hall 2 (by decide))
  subst e2
  have e3 := h3 (hall 3 (by decide))
  subst e3
  have e4 := h4 (hall 4 (by decide))
  subst e4
  have e5 := h5 (hall 5 (by decide))
  subst e5
  have e6 := h6 (hall 6 (by decide))
  subst e6
  have e7 := h7 (hall 7 (by decide))
  subst e7
  have e8 := h8 (hall 8 (by decide))
  subst e8
  obtain ⟨e9, u9, -, -, s9⟩ := h9 (hall 9 (by decide))
  replace s9 := s9 (hall 10 (by decide))
  subst e9
  have e11 := h11 (hall 11 (by decide))
  subst e11
  clear hall h0 h1 h2 h3 h4 h5 h6 h7 h8 h9 h11 n9
  try dsimp only
  replace sA := sA.below qB
  replace hb := hb.trans (qB.mono hb.size)
  clear c0 c1 d0 d1 l0 l1 qB u9 hi o0 o1
  have c0 := sA.cell 0 _ rfl
  have c1 := sA.cell 1 _ rfl
  have d0 := s9.cell 0 _ rfl
  have d1 := s9.cell 1 _ rfl
  have he := fun W => eqPairSame W u v
  go_wp2_with (go_at_call 12; refine (he _).mono ?_; clear he; rintro e w5 ⟨rfl, q⟩; replace hb := hb.trans (q.mono hb.size); clear q)
  go_ret
  exact ⟨rfl, hb⟩

end Go.Proofs.Yteohgmmenlinbaf
