/- PairMeet of the model and of the program: contracts. -/
import Derived.Test.YteohgmmenlinbabJB
import Derived.Test.YteohgmmenlinbabPairC
import Derived.Test.YteohgmmenlinbabJA
import Derived.Test.YteohgmmenlinbabL3
namespace Go.Proofs.Yteohgmmenlinbab
open Go.ChangeShapes Go.WideShapes Go.ChangeAt Go.RowKit
set_option linter.unusedVariables false

def meetB (n x0 y0 x1 y1 : Int) : Bool := pokI n x0 y0 && (pokI n x1 y1 && decide (max x0 x1 ≤ min y0 y1))

theorem pok_iff {n lo hi : Int} : pokI n lo hi = true ↔ okI n lo = true ∧ okI n hi = true ∧ lo ≤ hi ∧ lo < topI n ∧ -(topI n) < hi := by
  unfold pokI
  simp only [Bool.and_eq_true, decide_eq_true_eq]

theorem max_or (x y : Int) : max x y = x ∨ max x y = y := by omega
theorem min_or (x y : Int) : min x y = x ∨ min x y = y := by omega

theorem pok_both {n x0 y0 x1 y1 : Int} (h0 : pokI n x0 y0 = true) (h1 : pokI n x1 y1 = true) : pokI n (max x0 x1) (min y0 y1) = decide (max x0 x1 ≤ min y0 y1) := by
  rw [Bool.eq_iff_iff, pok_iff, decide_eq_true_eq]
  rw [pok_iff] at h0 h1
  have e1 : okI n (max x0 x1) = true := by rcases max_or x0 x1 with h | h <;> rw [h] <;> simp [h0, h1]
  have e2 : okI n (min y0 y1) = true := by rcases min_or y0 y1 with h | h <;> rw [h] <;> simp [h0, h1]
  constructor
  · intro h; exact h.2.2.1
  · intro h; exact ⟨e1, e2, h, by omega, by omega⟩

set_option maxHeartbeats 1000000 in
theorem specMeet (w : World) (n x0 y0 x1 y1 : Int) (a1 : (Lit.int .i64 x0).wf = true) (a2 : (Lit.int .i64 y0).wf = true) (a3 : (Lit.int .i64 x1).wf = true) (a4 : (Lit.int .i64 y1).wf = true) :
    Calls Try.prog 68 #[.int .i64 n, .agg #[.int .i64 x0, .int .i64 y0], .agg #[.int .i64 x1, .int .i64 y1]] w (PairOut w (if meetB n x0 y0 x1 y1 = true then max x0 x1 else 0) (if meetB n x0 y0 x1 y1 = true then min y0 y1 else 0) (meetB n x0 y0 x1 y1)) := by
  have p0 := fun W => specPairOk W n x0 y0 a1 a2
  have p1 := fun W => specPairOk W n x1 y1 a3 a4
  have m0 := fun W => l3max W x0 x1
  have m1 := fun W => l3min W y0 y1
  unfold meetB
  generalize pokI n x0 y0 = A at *
  generalize pokI n x1 y1 = B at *
  generalize max x0 x1 = u at *
  generalize min y0 y1 = v at *
  go_enter Try.func68, Try.ntmps68
  obtain ⟨o0, o1⟩ := two_pairs w x0 y0 x1 y1 24
  replace o0 := o0.alloc (.cells #[.int .i64 0, .int .i64 0] 24)
  replace o1 := o1.alloc (.cells #[.int .i64 0, .int .i64 0] 24)
  have o2 := Own.new ((w.alloc (.cells #[.int .i64 x0, .int .i64 y0] 24)).alloc (.cells #[.int .i64 x1, .int .i64 y1] 24)) #[.int .i64 0, .int .i64 0] 24
  have hb := (((Below.refl _ w).alloc (Nat.le_refl _) (.cells #[.int .i64 x0, .int .i64 y0] 24)).alloc (by simp) (.cells #[.int .i64 x1, .int .i64 y1] 24)).alloc (by simp; omega) (.cells #[.int .i64 0, .int .i64 0] 24)
  rw [World.size_alloc, World.size_alloc] at o2
  generalize hR0 : (if (A && (B && decide (u ≤ v))) = true then u else 0) = R0
  generalize hR1 : (if (A && (B && decide (u ≤ v))) = true then v else 0) = R1
  generalize hR2 : (A && (B && decide (u ≤ v))) = R2
  have HR : Hid (R0 = (if R2 = true then u else 0) ∧ R1 = (if R2 = true then v else 0) ∧ R2 = (A && (B && decide (u ≤ v)))) := by subst hR2; exact ⟨hR0.symm, hR1.symm, rfl⟩
  clear hR0 hR1 hR2
  go_wp2
  generalize ((w.alloc (.cells #[.int .i64 x0, .int .i64 y0] 24)).alloc (.cells #[.int .i64 x1, .int .i64 y1] 24)).alloc (.cells #[.int .i64 0, .int .i64 0] 24) = WA at *
  have c0 := o0.cell 0 _ rfl
  have c1 := o0.cell 1 _ rfl
  have d0 := o1.cell 0 _ rfl
  have d1 := o1.cell 1 _ rfl
  have l0 := o0.lt
  have l1 := o1.lt
  refine region_steps (by kernel_rfl) (by kernel_rfl) (by kernel_rfl) (fun A0 f a W => ∃ (x9 : Value) (x10 : Value) (x11 : Value) (x12 : Value) (x13 : Value) (x14 : Value) (x15 : Value) (x16 : Value) (x17 : Value) (x18 : Value) (x19 : Value) (x8 : Value) (k11 : Nat), a = { tmps := #[.int .i64 n, .agg #[.int .i64 x0, .int .i64 y0], .agg #[.int .i64 x1, .int .i64 y1], undef, .pointer (some ⟨w.heap.size, 0, none⟩), .pointer (some ⟨w.heap.size + 1, 0, none⟩), .pointer (some ⟨w.heap.size + 1 + 1, 0, none⟩), .bool false, x8, x9, x10, x11, x12, x13, x14, x15, x16, x17, x18, x19, undef, undef, undef, undef, undef, undef, undef, undef, undef, undef, undef, undef, undef, undef, undef, undef, undef, undef, undef], defers := [] } ∧ (f 0 = true → x9 = .pointer (some ⟨w.heap.size, 0, none⟩)) ∧ (f 1 = true → x10 = .int .i64 x0) ∧ (f 2 = true → x11 = .pointer (some ⟨w.heap.size + 1, 0, none⟩)) ∧ (f 3 = true → x12 = .int .i64 x1) ∧ (f 4 = true → x13 = .int .i64 u) ∧ (f 5 = true → x14 = .pointer (some ⟨w.heap.size, 1, none⟩)) ∧ (f 6 = true → x15 = .int .i64 y0) ∧ (f 7 = true → x16 = .pointer (some ⟨w.heap.size + 1, 1, none⟩)) ∧ (f 8 = true → x17 = .int .i64 y1) ∧ (f 9 = true → x18 = .int .i64 v) ∧ (f 10 = true → x19 = .agg #[.int .i64 u, .int .i64 v]) ∧ (f 11 = true → x8 = .pointer (some ⟨k11, 0, none⟩) ∧ WA.heap.size ≤ k11 ∧ k11 < W.heap.size ∧ (f 12 = false → Own W k11 [.int .i64 0, .int .i64 0]) ∧ (f 12 = true → Own W k11 [.int .i64 u, .int .i64 v])) ∧ (f 12 = true → f 11 = true) ∧ Below WA.heap.size WA W) ?_ ⟨?_, ?_, ?_, ?_, ?_, ?_, ?_, ?_, ?_, ?_, ?_, ?_, ?_, trivial⟩ ?_
  · exact ⟨undef, undef, undef, undef, undef, undef, undef, undef, undef, undef, undef, undef, 0, rfl, (fun h => (by cases h)), (fun h => (by cases h)), (fun h => (by cases h)), (fun h => (by cases h)), (fun h => (by cases h)), (fun h => (by cases h)), (fun h => (by cases h)), (fun h => (by cases h)), (fun h => (by cases h)), (fun h => (by cases h)), (fun h => (by cases h)), (fun h => (by cases h)), (fun h => (by cases h)), (Below.refl _ _).drew⟩
  · rintro f a W ⟨x9, x10, x11, x12, x13, x14, x15, x16, x17, x18, x19, x8, k11, rfl, h0, h1, h2, h3, h4, h5, h6, h7, h8, h9, h10, h11, n11, hB⟩ hf hd K hK
    go_simp
    refine hK _ _ ?_
    exact ⟨_, x10, x11, x12, x13, x14, x15, x16, x17, x18, x19, x8, k11, rfl, fun _ => rfl, fun h => h1 (upd_ne (by decide) h), fun h => h2 (upd_ne (by decide) h), fun h => h3 (upd_ne (by decide) h), fun h => h4 (upd_ne (by decide) h), fun h => h5 (upd_ne (by decide) h), fun h => h6 (upd_ne (by decide) h), fun h => h7 (upd_ne (by decide) h), fun h => h8 (upd_ne (by decide) h), fun h => h9 (upd_ne (by decide) h), fun h => h10 (upd_ne (by decide) h), fun h => (by obtain ⟨p1, p2, p3, p4, p5⟩ := h11 (upd_ne (by decide) h); exact ⟨p1, p2, p3, fun h' => p4 (by rw [upd_same (by decide)] at h'; exact h'), fun h' => p5 (upd_ne (by decide) h')⟩), fun h => upd_of (n11 (upd_ne (by decide) h)), hB⟩
  · rintro f a W ⟨x9, x10, x11, x12, x13, x14, x15, x16, x17, x18, x19, x8, k11, rfl, h0, h1, h2, h3, h4, h5, h6, h7, h8, h9, h10, h11, n11, hB⟩ hf hd K hK
    have e0 := h0 (dep_of hd (e := ⟨0, .data⟩) (by simp) rfl)
    subst e0
    have r0 := (hB.cell (p := ⟨w.heap.size, 0, none⟩) l0).trans c0
    go_simp
    refine hK _ _ ?_
    exact ⟨_, _, x11, x12, x13, x14, x15, x16, x17, x18, x19, x8, k11, rfl, fun _ => rfl, fun _ => rfl, fun h => h2 (upd_ne (by decide) h), fun h => h3 (upd_ne (by decide) h), fun h => h4 (upd_ne (by decide) h), fun h => h5 (upd_ne (by decide) h), fun h => h6 (upd_ne (by decide) h), fun h => h7 (upd_ne (by decide) h), fun h => h8 (upd_ne (by decide) h), fun h => h9 (upd_ne (by decide) h), fun h => h10 (upd_ne (by decide) h), fun h => (by obtain ⟨p1, p2, p3, p4, p5⟩ := h11 (upd_ne (by decide) h); exact ⟨p1, p2, p3, fun h' => p4 (by rw [upd_same (by decide)] at h'; exact h'), fun h' => p5 (upd_ne (by decide) h')⟩), fun h => upd_of (n11 (upd_ne (by decide) h)), hB⟩
  · rintro f a W ⟨x9, x10, x11, x12, x13, x14, x15, x16, x17, x18, x19, x8, k11, rfl, h0, h1, h2, h3, h4, h5, h6, h7, h8, h9, h10, h11, n11, hB⟩ hf hd K hK
    go_simp
    refine hK _ _ ?_
    exact ⟨x9, x10, _, x12, x13, x14, x15, x16, x17, x18, x19, x8, k11, rfl, fun h => h0 (upd_ne (by decide) h), fun h => h1 (upd_ne (by decide) h), fun _ => rfl, fun h => h3 (upd_ne (by decide) h), fun h => h4 (upd_ne (by decide) h), fun h => h5 (upd_ne (by decide) h), fun h => h6 (upd_ne (by decide) h), fun h => h7 (upd_ne (by decide) h), fun h => h8 (upd_ne (by decide) h), fun h => h9 (upd_ne (by decide) h), fun h => h10 (upd_ne (by decide) h), fun h => (by obtain ⟨p1, p2, p3, p4, p5⟩ := h11 (upd_ne (by decide) h); exact ⟨p1, p2, p3, fun h' => p4 (by rw [upd_same (by decide)] at h'; exact h'), fun h' => p5 (upd_ne (by decide) h')⟩), fun h => upd_of (n11 (upd_ne (by decide) h)), hB⟩
  · rintro f a W ⟨x9, x10, x11, x12, x13, x14, x15, x16, x17, x18, x19, x8, k11, rfl, h0, h1, h2, h3, h4, h5, h6, h7, h8, h9, h10, h11, n11, hB⟩ hf hd K hK
    have e2 := h2 (dep_of hd (e := ⟨2, .data⟩) (by simp) rfl)
    subst e2
    have r0 := (hB.cell (p := ⟨w.heap.size + 1, 0, none⟩) l1).trans d0
    go_simp
    refine hK _ _ ?_
    exact ⟨x9, x10, _, _, x13, x14, x15, x16, x17, x18, x19, x8, k11, rfl, fun h => h0 (upd_ne (by decide) h), fun h => h1 (upd_ne (by decide) h), fun _ => rfl, fun _ => rfl, fun h => h4 (upd_ne (by decide) h), fun h => h5 (upd_ne (by decide) h), fun h => h6 (upd_ne (by decide) h), fun h => h7 (upd_ne (by decide) h), fun h => h8 (upd_ne (by decide) h), fun h => h9 (upd_ne (by decide) h), fun h => h10 (upd_ne (by decide) h), fun h => (by obtain ⟨p1, p2, p3, p4, p5⟩ := h11 (upd_ne (by decide) h); exact ⟨p1, p2, p3, fun h' => p4 (by rw [upd_same (by decide)] at h'; exact h'), fun h' => p5 (upd_ne (by decide) h')⟩), fun h => upd_of (n11 (upd_ne (by decide) h)), hB⟩
  · rintro f a W ⟨x9, x10, x11, x12, x13, x14, x15, x16, x17, x18, x19, x8, k11, rfl, h0, h1, h2, h3, h4, h5, h6, h7, h8, h9, h10, h11, n11, hB⟩ hf hd K hK
    have e1 := h1 (dep_of hd (e := ⟨1, .data⟩) (by simp) rfl)
    subst e1
    have e3 := h3 (dep_of hd (e := ⟨3, .data⟩) (by simp) rfl)
    subst e3
    go_simp
    refine (m0 _).mono ?_
    rintro e W2 ⟨rfl, rfl⟩
    refine hK _ _ ?_
    exact ⟨x9, _, x11, _, _, x14, x15, x16, x17, x18, x19, x8, k11, rfl, fun h => h0 (upd_ne (by decide) h), fun _ => rfl, fun h => h2 (upd_ne (by decide) h), fun _ => rfl, fun _ => rfl, fun h => h5 (upd_ne (by decide) h), fun h => h6 (upd_ne (by decide) h), fun h => h7 (upd_ne (by decide) h), fun h => h8 (upd_ne (by decide) h), fun h => h9 (upd_ne (by decide) h), fun h => h10 (upd_ne (by decide) h), fun h => (by obtain ⟨p1, p2, p3, p4, p5⟩ := h11 (upd_ne (by decide) h); exact ⟨p1, p2, p3, fun h' => p4 (by rw [upd_same (by decide)] at h'; exact h'), fun h' => p5 (upd_ne (by decide) h')⟩), fun h => upd_of (n11 (upd_ne (by decide) h)), hB⟩
  · rintro f a W ⟨x9, x10, x11, x12, x13, x14, x15, x16, x17, x18, x19, x8, k11, rfl, h0, h1, h2, h3, h4, h5, h6, h7, h8, h9, h10, h11, n11, hB⟩ hf hd K hK
    go_simp
    refine hK _ _ ?_
    exact ⟨x9, x10, x11, x12, x13, _, x15, x16, x17, x18, x19, x8, k11, rfl, fun h => h0 (upd_ne (by decide) h), fun h => h1 (upd_ne (by decide) h), fun h => h2 (upd_ne (by decide) h), fun h => h3 (upd_ne (by decide) h), fun h => h4 (upd_ne (by decide) h), fun _ => rfl, fun h => h6 (upd_ne (by decide) h), fun h => h7 (upd_ne (by decide) h), fun h => h8 (upd_ne (by decide) h), fun h => h9 (upd_ne (by decide) h), fun h => h10 (upd_ne (by decide) h), fun h => (by obtain ⟨p1, p2, p3, p4, p5⟩ := h11 (upd_ne (by decide) h); exact ⟨p1, p2, p3, fun h' => p4 (by rw [upd_same (by decide)] at h'; exact h'), fun h' => p5 (upd_ne (by decide) h')⟩), fun h => upd_of (n11 (upd_ne (by decide) h)), hB⟩
  · rintro f a W ⟨x9, x10, x11, x12, x13, x14, x15, x16, x17, x18, x19, x8, k11, rfl, h0, h1, h2, h3, h4, h5, h6, h7, h8, h9, h10, h11, n11, hB⟩ hf hd K hK
    have e5 := h5 (dep_of hd (e := ⟨5, .data⟩) (by simp) rfl)
    subst e5
    have r0 := (hB.cell (p := ⟨w.heap.size, 1, none⟩) l0).trans c1
    go_simp
    refine hK _ _ ?_
    exact ⟨x9, x10, x11, x12, x13, _, _, x16, x17, x18, x19, x8, k11, rfl, fun h => h0 (upd_ne (by decide) h), fun h => h1 (upd_ne (by decide) h), fun h => h2 (upd_ne (by decide) h), fun h => h3 (upd_ne (by decide) h), fun h => h4 (upd_ne (by decide) h), fun _ => rfl, fun _ => rfl, fun h => h7 (upd_ne (by decide) h), fun h => h8 (upd_ne (by decide) h), fun h => h9 (upd_ne (by decide) h), fun h => h10 (upd_ne (by decide) h), fun h => (by obtain ⟨p1, p2, p3, p4, p5⟩ := h11 (upd_ne (by decide) h); exact ⟨p1, p2, p3, fun h' => p4 (by rw [upd_same (by decide)] at h'; exact h'), fun h' => p5 (upd_ne (by decide) h')⟩), fun h => upd_of (n11 (upd_ne (by decide) h)), hB⟩
  · rintro f a W ⟨x9, x10, x11, x12, x13, x14, x15, x16, x17, x18, x19, x8, k11, rfl, h0, h1, h2, h3, h4, h5, h6, h7, h8, h9, h10, h11, n11, hB⟩ hf hd K hK
    go_simp
    refine hK _ _ ?_
    exact ⟨x9, x10, x11, x12, x13, x14, x15, _, x17, x18, x19, x8, k11, rfl, fun h => h0 (upd_ne (by decide) h), fun h => h1 (upd_ne (by decide) h), fun h => h2 (upd_ne (by decide) h), fun h => h3 (upd_ne (by decide) h), fun h => h4 (upd_ne (by decide) h), fun h => h5 (upd_ne (by decide) h), fun h => h6 (upd_ne (by decide) h), fun _ => rfl, fun h => h8 (upd_ne (by decide) h), fun h => h9 (upd_ne (by decide) h), fun h => h10 (upd_ne (by decide) h), fun h => (by obtain ⟨p1, p2, p3, p4, p5⟩ := h11 (upd_ne (by decide) h); exact ⟨p1, p2, p3, fun h' => p4 (by rw [upd_same (by decide)] at h'; exact h'), fun h' => p5 (upd_ne (by decide) h')⟩), fun h => upd_of (n11 (upd_ne (by decide) h)), hB⟩
  · rintro f a W ⟨x9, x10, x11, x12, x13, x14, x15, x16, x17, x18, x19, x8, k11, rfl, h0, h1, h2, h3, h4, h5, h6, h7, h8, h9, h10, h11, n11, hB⟩ hf hd K hK
    have e7 := h7 (dep_of hd (e := ⟨7, .data⟩) (by simp) rfl)
    subst e7
    have r0 := (hB.cell (p := ⟨w.heap.size + 1, 1, none⟩) l1).trans d1
    go_simp
    refine hK _ _ ?_
    exact ⟨x9, x10, x11, x12, x13, x14, x15, _, _, x18, x19, x8, k11, rfl, fun h => h0 (upd_ne (by decide) h), fun h => h1 (upd_ne (by decide) h), fun h => h2 (upd_ne (by decide) h), fun h => h3 (upd_ne (by decide) h), fun h => h4 (upd_ne (by decide) h), fun h => h5 (upd_ne (by decide) h), fun h => h6 (upd_ne (by decide) h), fun _ => rfl, fun _ => rfl, fun h => h9 (upd_ne (by decide) h), fun h => h10 (upd_ne (by decide) h), fun h => (by obtain ⟨p1, p2, p3, p4, p5⟩ := h11 (upd_ne (by decide) h); exact ⟨p1, p2, p3, fun h' => p4 (by rw [upd_same (by decide)] at h'; exact h'), fun h' => p5 (upd_ne (by decide) h')⟩), fun h => upd_of (n11 (upd_ne (by decide) h)), hB⟩
  · rintro f a W ⟨x9, x10, x11, x12, x13, x14, x15, x16, x17, x18, x19, x8, k11, rfl, h0, h1, h2, h3, h4, h5, h6, h7, h8, h9, h10, h11, n11, hB⟩ hf hd K hK
    have e6 := h6 (dep_of hd (e := ⟨6, .data⟩) (by simp) rfl)
    subst e6
    have e8 := h8 (dep_of hd (e := ⟨8, .data⟩) (by simp) rfl)
    subst e8
    go_simp
    refine (m1 _).mono ?_
    rintro e W2 ⟨rfl, rfl⟩
    refine hK _ _ ?_
    exact ⟨x9, x10, x11, x12, x13, x14, _, x16, _, _, x19, x8, k11, rfl, fun h => h0 (upd_ne (by decide) h), fun h => h1 (upd_ne (by decide) h), fun h => h2 (upd_ne (by decide) h), fun h => h3 (upd_ne (by decide) h), fun h => h4 (upd_ne (by decide) h), fun h => h5 (upd_ne (by decide) h), fun _ => rfl, fun h => h7 (upd_ne (by decide) h), fun _ => rfl, fun _ => rfl, fun h => h10 (upd_ne (by decide) h), fun h => (by obtain ⟨p1, p2, p3, p4, p5⟩ := h11 (upd_ne (by decide) h); exact ⟨p1, p2, p3, fun h' => p4 (by rw [upd_same (by decide)] at h'; exact h'), fun h' => p5 (upd_ne (by decide) h')⟩), fun h => upd_of (n11 (upd_ne (by decide) h)), hB⟩
  · rintro f a W ⟨x9, x10, x11, x12, x13, x14, x15, x16, x17, x18, x19, x8, k11, rfl, h0, h1, h2, h3, h4, h5, h6, h7, h8, h9, h10, h11, n11, hB⟩ hf hd K hK
    have e4 := h4 (dep_of hd (e := ⟨4, .data⟩) (by simp) rfl)
    subst e4
    have e9 := h9 (dep_of hd (e := ⟨9, .data⟩) (by simp) rfl)
    subst e9
    go_simp
    refine hK _ _ ?_
    exact ⟨x9, x10, x11, x12, _, x14, x15, x16, x17, _, _, x8, k11, rfl, fun h => h0 (upd_ne (by decide) h), fun h => h1 (upd_ne (by decide) h), fun h => h2 (upd_ne (by decide) h), fun h => h3 (upd_ne (by decide) h), fun _ => rfl, fun h => h5 (upd_ne (by decide) h), fun h => h6 (upd_ne (by decide) h), fun h => h7 (upd_ne (by decide) h), fun h => h8 (upd_ne (by decide) h), fun _ => rfl, fun _ => rfl, fun h => (by obtain ⟨p1, p2, p3, p4, p5⟩ := h11 (upd_ne (by decide) h); exact ⟨p1, p2, p3, fun h' => p4 (by rw [upd_same (by decide)] at h'; exact h'), fun h' => p5 (upd_ne (by decide) h')⟩), fun h => upd_of (n11 (upd_ne (by decide) h)), hB⟩
  · rintro f a W ⟨x9, x10, x11, x12, x13, x14, x15, x16, x17, x18, x19, x8, k11, rfl, h0, h1, h2, h3, h4, h5, h6, h7, h8, h9, h10, h11, n11, hB⟩ hf hd K hK
    go_simp
    refine hK _ _ ?_
    exact ⟨x9, x10, x11, x12, x13, x14, x15, x16, x17, x18, x19, _, W.heap.size, rfl, fun h => h0 (upd_ne (by decide) h), fun h => h1 (upd_ne (by decide) h), fun h => h2 (upd_ne (by decide) h), fun h => h3 (upd_ne (by decide) h), fun h => h4 (upd_ne (by decide) h), fun h => h5 (upd_ne (by decide) h), fun h => h6 (upd_ne (by decide) h), fun h => h7 (upd_ne (by decide) h), fun h => h8 (upd_ne (by decide) h), fun h => h9 (upd_ne (by decide) h), fun h => h10 (upd_ne (by decide) h), fun _ => ⟨rfl, hB.size, (by simp), fun _ => Own.new W _ _, fun h' => absurd (n11 (upd_ne (by decide) h')) (by rw [hf]; decide)⟩, fun _ => upd_self, hB.alloc hB.size _⟩
  · rintro f a W ⟨x9, x10, x11, x12, x13, x14, x15, x16, x17, x18, x19, x8, k11, rfl, h0, h1, h2, h3, h4, h5, h6, h7, h8, h9, h10, h11, n11, hB⟩ hf hd K hK
    obtain ⟨e11, u11, t11, z11, s11⟩ := h11 (dep_of hd (e := ⟨11, .data⟩) (by simp) rfl)
    subst e11
    have e10 := h10 (dep_of hd (e := ⟨10, .data⟩) (by simp) rfl)
    subst e10
    have oz := z11 hf
    have r0 := oz.cell 0 _ rfl
    have o0 := oz.frz 0 _ rfl
    have r1 := oz.cell 1 _ rfl
    have o1 := oz.frz 1 _ rfl
    go_simp
    refine hK _ _ ?_
    exact ⟨x9, x10, x11, x12, x13, x14, x15, x16, x17, x18, _, _, k11, rfl, fun h => h0 (upd_ne (by decide) h), fun h => h1 (upd_ne (by decide) h), fun h => h2 (upd_ne (by decide) h), fun h => h3 (upd_ne (by decide) h), fun h => h4 (upd_ne (by decide) h), fun h => h5 (upd_ne (by decide) h), fun h => h6 (upd_ne (by decide) h), fun h => h7 (upd_ne (by decide) h), fun h => h8 (upd_ne (by decide) h), fun h => h9 (upd_ne (by decide) h), fun _ => rfl, fun _ => ⟨rfl, u11, (by simpa [World.setCell] using t11), fun h' => (by rw [upd_self] at h'; cases h'), fun _ => Own.set (i := 1) (Own.set (i := 0) (oz) _ (by simp)) _ (by simp)⟩, fun _ => upd_of (dep_of hd (e := ⟨11, .data⟩) (by simp) rfl), ((hB.setCell (p := ⟨k11, 0, none⟩) u11 _).setCell (p := ⟨k11, 1, none⟩) u11 _)⟩
  rintro f a w' ⟨x9, x10, x11, x12, x13, x14, x15, x16, x17, x18, x19, x8, k11, rfl, h0, h1, h2, h3, h4, h5, h6, h7, h8, h9, h10, h11, n11, qB⟩ hall
  have e0 := h0 (hall 0 (by decide))
  subst e0
  have e1 := h1 (hall 1 (by decide))
  subst e1
  have e2 := h2 (hall 2 (by decide))
  subst e2
  have e3 := h3 (hall 3 (by decide))
  subst e3
  have e4 := h4 (hall 4 (by decide))
  subst e4
  have e5 := h5 (hall 5 (by decide))
  subst e5
  have e6 := h6 (hall 6 (by decide))
  subst e6
  have e7 := h7 (hall 7 (by decide))
  subst e7
  have e8 := h8 (hall 8 (by decide))
  subst e8
  have e9 := h9 (hall 9 (by decide))
  subst e9
  have e10 := h10 (hall 10 (by decide))
  subst e10
  obtain ⟨e11, u11, -, -, s11⟩ := h11 (hall 11 (by decide))
  replace s11 := s11 (hall 12 (by decide))
  subst e11
  clear hall h0 h1 h2 h3 h4 h5 h6 h7 h8 h9 h10 h11 n11
  try dsimp only
  have l2 := o2.lt
  replace o0 := o0.below qB
  replace o1 := o1.below qB
  replace o2 := o2.below qB
  replace hb := hb.trans (qB.mono hb.size)
  have hne : k11 ≠ w.heap.size + 1 + 1 := by omega
  clear c0 c1 d0 d1 l0 l1 l2 m0 m1 qB
  have c0 := o0.cell 0 _ rfl
  have c1 := o0.cell 1 _ rfl
  cases A
  · obtain ⟨rfl, rfl, rfl⟩ := HR.out
    go_wp2_with first
      | (go_at_call 21; refine (p0 _).mono ?_; clear p0; rintro e w2 ⟨rfl, q⟩; replace o0 := o0.below q; replace o1 := o1.below q; replace o2 := o2.below q; replace s11 := s11.below q; replace hb := hb.trans (q.mono hb.size); clear q; have d0 := o1.cell 0 _ rfl; have d1 := o1.cell 1 _ rfl; have r0 := o2.cell 0 _ rfl; have r1 := o2.cell 1 _ rfl; have f0 := o2.frz 0 _ rfl; have f1 := o2.frz 1 _ rfl)
      | (go_at_call 21; refine (p1 _).mono ?_; clear p1; rintro e w3 ⟨rfl, q⟩; replace o2 := o2.below q; replace s11 := s11.below q; replace hb := hb.trans (q.mono hb.size); clear q; have s0 := s11.cell 0 _ rfl; have s1 := s11.cell 1 _ rfl; have r0 := o2.cell 0 _ rfl; have r1 := o2.cell 1 _ rfl; have f0 := o2.frz 0 _ rfl; have f1 := o2.frz 1 _ rfl)
    exact pairEnd rfl o2 hb (by omega) rfl rfl
  · cases B
    · obtain ⟨rfl, rfl, rfl⟩ := HR.out
      go_wp2_with first
        | (go_at_call 21; refine (p0 _).mono ?_; clear p0; rintro e w2 ⟨rfl, q⟩; replace o0 := o0.below q; replace o1 := o1.below q; replace o2 := o2.below q; replace s11 := s11.below q; replace hb := hb.trans (q.mono hb.size); clear q; have d0 := o1.cell 0 _ rfl; have d1 := o1.cell 1 _ rfl; have r0 := o2.cell 0 _ rfl; have r1 := o2.cell 1 _ rfl; have f0 := o2.frz 0 _ rfl; have f1 := o2.frz 1 _ rfl)
        | (go_at_call 21; refine (p1 _).mono ?_; clear p1; rintro e w3 ⟨rfl, q⟩; replace o2 := o2.below q; replace s11 := s11.below q; replace hb := hb.trans (q.mono hb.size); clear q; have s0 := s11.cell 0 _ rfl; have s1 := s11.cell 1 _ rfl; have r0 := o2.cell 0 _ rfl; have r1 := o2.cell 1 _ rfl; have f0 := o2.frz 0 _ rfl; have f1 := o2.frz 1 _ rfl)
      exact pairEnd rfl o2 hb (by omega) rfl rfl
    · by_cases k : u ≤ v
      · have hk : decide (u ≤ v) = true := by simp; exact k
        rw [hk] at HR
        obtain ⟨rfl, rfl, rfl⟩ := HR.out
        clear hk
        go_wp2_with first
          | (go_at_call 21; refine (p0 _).mono ?_; clear p0; rintro e w2 ⟨rfl, q⟩; replace o0 := o0.below q; replace o1 := o1.below q; replace o2 := o2.below q; replace s11 := s11.below q; replace hb := hb.trans (q.mono hb.size); clear q; have d0 := o1.cell 0 _ rfl; have d1 := o1.cell 1 _ rfl; have r0 := o2.cell 0 _ rfl; have r1 := o2.cell 1 _ rfl; have f0 := o2.frz 0 _ rfl; have f1 := o2.frz 1 _ rfl)
          | (go_at_call 21; refine (p1 _).mono ?_; clear p1; rintro e w3 ⟨rfl, q⟩; replace o2 := o2.below q; replace s11 := s11.below q; replace hb := hb.trans (q.mono hb.size); clear q; have s0 := s11.cell 0 _ rfl; have s1 := s11.cell 1 _ rfl; have r0 := o2.cell 0 _ rfl; have r1 := o2.cell 1 _ rfl; have f0 := o2.frz 0 _ rfl; have f1 := o2.frz 1 _ rfl)
        exact pairEnd rfl o2 hb (by omega) rfl rfl
      · have hk : decide (u ≤ v) = false := by simp; omega
        rw [hk] at HR
        obtain ⟨rfl, rfl, rfl⟩ := HR.out
        clear hk
        go_wp2_with first
          | (go_at_call 21; refine (p0 _).mono ?_; clear p0; rintro e w2 ⟨rfl, q⟩; replace o0 := o0.below q; replace o1 := o1.below q; replace o2 := o2.below q; replace s11 := s11.below q; replace hb := hb.trans (q.mono hb.size); clear q; have d0 := o1.cell 0 _ rfl; have d1 := o1.cell 1 _ rfl; have r0 := o2.cell 0 _ rfl; have r1 := o2.cell 1 _ rfl; have f0 := o2.frz 0 _ rfl; have f1 := o2.frz 1 _ rfl)
          | (go_at_call 21; refine (p1 _).mono ?_; clear p1; rintro e w3 ⟨rfl, q⟩; replace o2 := o2.below q; replace s11 := s11.below q; replace hb := hb.trans (q.mono hb.size); clear q; have s0 := s11.cell 0 _ rfl; have s1 := s11.cell 1 _ rfl; have r0 := o2.cell 0 _ rfl; have r1 := o2.cell 1 _ rfl; have f0 := o2.frz 0 _ rfl; have f1 := o2.frz 1 _ rfl)
        exact pairEnd rfl o2 hb (by omega) rfl rfl

set_option maxHeartbeats 1000000 in
theorem implMeet (w : World) (n x0 y0 x1 y1 : Int) (a1 : (Lit.int .i64 x0).wf = true) (a2 : (Lit.int .i64 y0).wf = true) (a3 : (Lit.int .i64 x1).wf = true) (a4 : (Lit.int .i64 y1).wf = true) :
    Calls Try.prog 19 #[.int .i64 n, .agg #[.int .i64 x0, .int .i64 y0], .agg #[.int .i64 x1, .int .i64 y1]] w (PairOut w (if meetB n x0 y0 x1 y1 = true then max x0 x1 else 0) (if meetB n x0 y0 x1 y1 = true then min y0 y1 else 0) (meetB n x0 y0 x1 y1)) := by
  have p0 := fun W => implPairOk W n x0 y0 a1 a2
  have p1 := fun W => implPairOk W n x1 y1 a3 a4
  have m0 := fun W => overlap W x0 y0 x1 y1
  have p2 := fun W => implPairOk W n (max x0 x1) (min y0 y1) (by rcases max_or x0 x1 with h | h <;> rw [h] <;> assumption) (by rcases min_or y0 y1 with h | h <;> rw [h] <;> assumption)
  have hC : pokI n x0 y0 = true → pokI n x1 y1 = true → pokI n (max x0 x1) (min y0 y1) = decide (max x0 x1 ≤ min y0 y1) := pok_both
  obtain ⟨o0, o1⟩ := two_pairs w x0 y0 x1 y1 24
  replace o0 := o0.alloc (.cells #[.int .i64 0, .int .i64 0] 24)
  replace o1 := o1.alloc (.cells #[.int .i64 0, .int .i64 0] 24)
  have o2 := Own.new ((w.alloc (.cells #[.int .i64 x0, .int .i64 y0] 24)).alloc (.cells #[.int .i64 x1, .int .i64 y1] 24)) #[.int .i64 0, .int .i64 0] 24
  have hb := (((Below.refl _ w).alloc (Nat.le_refl _) (.cells #[.int .i64 x0, .int .i64 y0] 24)).alloc (by simp) (.cells #[.int .i64 x1, .int .i64 y1] 24)).alloc (by simp; omega) (.cells #[.int .i64 0, .int .i64 0] 24)
  rw [World.size_alloc, World.size_alloc] at o2
  unfold meetB
  generalize pokI n x0 y0 = A at *
  generalize pokI n x1 y1 = B at *
  generalize pokI n (max x0 x1) (min y0 y1) = C at *
  generalize max x0 x1 = u at *
  generalize min y0 y1 = v at *
  generalize hR0 : (if (A && (B && decide (u ≤ v))) = true then u else 0) = R0
  generalize hR1 : (if (A && (B && decide (u ≤ v))) = true then v else 0) = R1
  generalize hR2 : (A && (B && decide (u ≤ v))) = R2
  have HR : Hid (R0 = (if R2 = true then u else 0) ∧ R1 = (if R2 = true then v else 0) ∧ R2 = (A && (B && decide (u ≤ v)))) := by subst hR2; exact ⟨hR0.symm, hR1.symm, rfl⟩
  clear hR0 hR1 hR2
  go_enter Try.func19, Try.ntmps19
  cases A
  · clear hC
    obtain ⟨rfl, rfl, rfl⟩ := HR.out
    go_wp2_with first
      | (go_at_call 48; refine (m0 _).mono ?_; clear m0; rintro e w1 ⟨rfl, q⟩; replace o0 := o0.below q; replace o1 := o1.below q; replace o2 := o2.below q; replace hb := hb.trans (q.mono hb.size); clear q; have l2 := o2.lt; have hne : w1.heap.size ≠ w.heap.size + 1 + 1 := (by omega); have c0 := (o0.alloc (.cells #[.int .i64 u, .int .i64 v] 24)).cell 0 _ rfl; have c1 := (o0.alloc (.cells #[.int .i64 u, .int .i64 v] 24)).cell 1 _ rfl)
      | (go_at_call 13; refine (p0 _).mono ?_; clear p0; rintro e w2 ⟨rfl, q⟩; replace o1 := (o1.alloc _).below q; replace o2 := (o2.alloc _).below q; have s11 := (Own.new w1 _ _).below q; have hs1 := hb.size; replace hb := (hb.alloc hb.size _).trans (q.mono (by simp; omega)); clear q; have d0 := o1.cell 0 _ rfl; have d1 := o1.cell 1 _ rfl; have r0 := o2.cell 0 _ rfl; have r1 := o2.cell 1 _ rfl; have f0 := o2.frz 0 _ rfl; have f1 := o2.frz 1 _ rfl)
      | (go_at_call 13; refine (p1 _).mono ?_; clear p1; rintro e w3 ⟨rfl, q⟩; replace o2 := o2.below q; replace s11 := s11.below q; replace hb := hb.trans (q.mono hb.size); clear q; have s0 := s11.cell 0 _ rfl; have s1 := s11.cell 1 _ rfl; have r0 := o2.cell 0 _ rfl; have r1 := o2.cell 1 _ rfl; have f0 := o2.frz 0 _ rfl; have f1 := o2.frz 1 _ rfl)
      | (go_at_call 13; refine (p2 _).mono ?_; clear p2; rintro e w4 ⟨rfl, q⟩; replace o2 := o2.below q; replace s11 := s11.below q; replace hb := hb.trans (q.mono hb.size); clear q; have s0 := s11.cell 0 _ rfl; have s1 := s11.cell 1 _ rfl; have r0 := o2.cell 0 _ rfl; have r1 := o2.cell 1 _ rfl; have f0 := o2.frz 0 _ rfl; have f1 := o2.frz 1 _ rfl)
    exact pairEnd rfl o2 hb (by omega) rfl rfl
  · cases B
    · clear hC
      obtain ⟨rfl, rfl, rfl⟩ := HR.out
      go_wp2_with first
        | (go_at_call 48; refine (m0 _).mono ?_; clear m0; rintro e w1 ⟨rfl, q⟩; replace o0 := o0.below q; replace o1 := o1.below q; replace o2 := o2.below q; replace hb := hb.trans (q.mono hb.size); clear q; have l2 := o2.lt; have hne : w1.heap.size ≠ w.heap.size + 1 + 1 := (by omega); have c0 := (o0.alloc (.cells #[.int .i64 u, .int .i64 v] 24)).cell 0 _ rfl; have c1 := (o0.alloc (.cells #[.int .i64 u, .int .i64 v] 24)).cell 1 _ rfl)
        | (go_at_call 13; refine (p0 _).mono ?_; clear p0; rintro e w2 ⟨rfl, q⟩; replace o1 := (o1.alloc _).below q; replace o2 := (o2.alloc _).below q; have s11 := (Own.new w1 _ _).below q; have hs1 := hb.size; replace hb := (hb.alloc hb.size _).trans (q.mono (by simp; omega)); clear q; have d0 := o1.cell 0 _ rfl; have d1 := o1.cell 1 _ rfl; have r0 := o2.cell 0 _ rfl; have r1 := o2.cell 1 _ rfl; have f0 := o2.frz 0 _ rfl; have f1 := o2.frz 1 _ rfl)
        | (go_at_call 13; refine (p1 _).mono ?_; clear p1; rintro e w3 ⟨rfl, q⟩; replace o2 := o2.below q; replace s11 := s11.below q; replace hb := hb.trans (q.mono hb.size); clear q; have s0 := s11.cell 0 _ rfl; have s1 := s11.cell 1 _ rfl; have r0 := o2.cell 0 _ rfl; have r1 := o2.cell 1 _ rfl; have f0 := o2.frz 0 _ rfl; have f1 := o2.frz 1 _ rfl)
        | (go_at_call 13; refine (p2 _).mono ?_; clear p2; rintro e w4 ⟨rfl, q⟩; replace o2 := o2.below q; replace s11 := s11.below q; replace hb := hb.trans (q.mono hb.size); clear q; have s0 := s11.cell 0 _ rfl; have s1 := s11.cell 1 _ rfl; have r0 := o2.cell 0 _ rfl; have r1 := o2.cell 1 _ rfl; have f0 := o2.frz 0 _ rfl; have f1 := o2.frz 1 _ rfl)
      exact pairEnd rfl o2 hb (by omega) rfl rfl
    · have hC' := hC rfl rfl
      clear hC
      by_cases k : u ≤ v
      · have hk : decide (u ≤ v) = true := by simp; exact k
        rw [hk] at HR hC'
        obtain ⟨rfl, rfl, rfl⟩ := HR.out
        subst hC'
        clear hk
        go_wp2_with first
          | (go_at_call 48; refine (m0 _).mono ?_; clear m0; rintro e w1 ⟨rfl, q⟩; replace o0 := o0.below q; replace o1 := o1.below q; replace o2 := o2.below q; replace hb := hb.trans (q.mono hb.size); clear q; have l2 := o2.lt; have hne : w1.heap.size ≠ w.heap.size + 1 + 1 := (by omega); have c0 := (o0.alloc (.cells #[.int .i64 u, .int .i64 v] 24)).cell 0 _ rfl; have c1 := (o0.alloc (.cells #[.int .i64 u, .int .i64 v] 24)).cell 1 _ rfl)
          | (go_at_call 13; refine (p0 _).mono ?_; clear p0; rintro e w2 ⟨rfl, q⟩; replace o1 := (o1.alloc _).below q; replace o2 := (o2.alloc _).below q; have s11 := (Own.new w1 _ _).below q; have hs1 := hb.size; replace hb := (hb.alloc hb.size _).trans (q.mono (by simp; omega)); clear q; have d0 := o1.cell 0 _ rfl; have d1 := o1.cell 1 _ rfl; have r0 := o2.cell 0 _ rfl; have r1 := o2.cell 1 _ rfl; have f0 := o2.frz 0 _ rfl; have f1 := o2.frz 1 _ rfl)
          | (go_at_call 13; refine (p1 _).mono ?_; clear p1; rintro e w3 ⟨rfl, q⟩; replace o2 := o2.below q; replace s11 := s11.below q; replace hb := hb.trans (q.mono hb.size); clear q; have s0 := s11.cell 0 _ rfl; have s1 := s11.cell 1 _ rfl; have r0 := o2.cell 0 _ rfl; have r1 := o2.cell 1 _ rfl; have f0 := o2.frz 0 _ rfl; have f1 := o2.frz 1 _ rfl)
          | (go_at_call 13; refine (p2 _).mono ?_; clear p2; rintro e w4 ⟨rfl, q⟩; replace o2 := o2.below q; replace s11 := s11.below q; replace hb := hb.trans (q.mono hb.size); clear q; have s0 := s11.cell 0 _ rfl; have s1 := s11.cell 1 _ rfl; have r0 := o2.cell 0 _ rfl; have r1 := o2.cell 1 _ rfl; have f0 := o2.frz 0 _ rfl; have f1 := o2.frz 1 _ rfl)
        exact pairEnd rfl o2 hb (by omega) rfl rfl
      · have hk : decide (u ≤ v) = false := by simp; omega
        rw [hk] at HR hC'
        obtain ⟨rfl, rfl, rfl⟩ := HR.out
        subst hC'
        clear hk
        go_wp2_with first
          | (go_at_call 48; refine (m0 _).mono ?_; clear m0; rintro e w1 ⟨rfl, q⟩; replace o0 := o0.below q; replace o1 := o1.below q; replace o2 := o2.below q; replace hb := hb.trans (q.mono hb.size); clear q; have l2 := o2.lt; have hne : w1.heap.size ≠ w.heap.size + 1 + 1 := (by omega); have c0 := (o0.alloc (.cells #[.int .i64 u, .int .i64 v] 24)).cell 0 _ rfl; have c1 := (o0.alloc (.cells #[.int .i64 u, .int .i64 v] 24)).cell 1 _ rfl)
          | (go_at_call 13; refine (p0 _).mono ?_; clear p0; rintro e w2 ⟨rfl, q⟩; replace o1 := (o1.alloc _).below q; replace o2 := (o2.alloc _).below q; have s11 := (Own.new w1 _ _).below q; have hs1 := hb.size; replace hb := (hb.alloc hb.size _).trans (q.mono (by simp; omega)); clear q; have d0 := o1.cell 0 _ rfl; have d1 := o1.cell 1 _ rfl; have r0 := o2.cell 0 _ rfl; have r1 := o2.cell 1 _ rfl; have f0 := o2.frz 0 _ rfl; have f1 := o2.frz 1 _ rfl)
          | (go_at_call 13; refine (p1 _).mono ?_; clear p1; rintro e w3 ⟨rfl, q⟩; replace o2 := o2.below q; replace s11 := s11.below q; replace hb := hb.trans (q.mono hb.size); clear q; have s0 := s11.cell 0 _ rfl; have s1 := s11.cell 1 _ rfl; have r0 := o2.cell 0 _ rfl; have r1 := o2.cell 1 _ rfl; have f0 := o2.frz 0 _ rfl; have f1 := o2.frz 1 _ rfl)
          | (go_at_call 13; refine (p2 _).mono ?_; clear p2; rintro e w4 ⟨rfl, q⟩; replace o2 := o2.below q; replace s11 := s11.below q; replace hb := hb.trans (q.mono hb.size); clear q; have s0 := s11.cell 0 _ rfl; have s1 := s11.cell 1 _ rfl; have r0 := o2.cell 0 _ rfl; have r1 := o2.cell 1 _ rfl; have f0 := o2.frz 0 _ rfl; have f1 := o2.frz 1 _ rfl)
        exact pairEnd rfl o2 hb (by omega) rfl rfl

end Go.Proofs.Yteohgmmenlinbab
