/- PairCut of the program: its contract. -/
import Derived.Test.YteohgmmenlinbabPairK
namespace Go.Proofs.Yteohgmmenlinbab
open Go.ChangeShapes Go.WideShapes Go.ChangeAt Go.RowKit
set_option linter.unusedVariables false

theorem spanOf' (w : World) (x y : Int) (h1 : (Lit.int .i64 x).wf = true) (h2 : (Lit.int .i64 y).wf = true) :
    Calls Try.prog 44 #[.agg #[.int .i64 x, .int .i64 y]] w fun e w' => e = .returned (.agg #[.int .i64 x, .int .i64 y, .int .u64 (gapI x y)]) ∧ Below w.heap.size w w' := spanOf w x y h1 h2

set_option maxHeartbeats 4000000 in
theorem implCutNo1 (w : World) (n x y g h : Int) (a1 : (Lit.int .i64 x).wf = true) (a2 : (Lit.int .i64 y).wf = true) (a3 : (Lit.int .i64 g).wf = true) (a4 : (Lit.int .i64 h).wf = true) (hk : pokI n x y = false ∨ h ≤ g) :
    Calls Try.prog 16 #[.int .i64 n, .agg #[.int .i64 x, .int .i64 y], .agg #[.int .i64 g, .int .i64 h]] w (TwoOut2 w 0 0 0 0 false) := by
  have p1 := fun W => implPairOk W n x y a1 a2
  have p2 := fun W => implPairOk W n x g a1 a3
  have p3 := fun W => implPairOk W n h y a4 a2
  have hf1 := field1
  have O := owns4 w #[.int .i64 x, .int .i64 y] #[.int .i64 g, .int .i64 h] #[.int .i64 0, .int .i64 0] #[.int .i64 0, .int .i64 0] 24
  have hb := (((((Below.refl _ w).alloc (Nat.le_refl _) (.cells #[.int .i64 x, .int .i64 y] 24)).alloc (by simp) (.cells #[.int .i64 g, .int .i64 h] 24)).alloc (by simp; omega) (.cells #[.int .i64 0, .int .i64 0] 24)).alloc (by simp; omega) (.cells #[.int .i64 0, .int .i64 0] 24))
  have b0 : Own _ (w.heap.size) _ := O.get 0 _ rfl
  have ce00 := b0.cell 0 _ rfl
  have ce01 := b0.cell 1 _ rfl
  clear p2 p3
  generalize pokI n x y = k1 at *
  cases k1
  · clear hk
    go_enter Try.func16, Try.ntmps16
    go_wp2_with first
      | (go_at_call 13; refine (p1 _).mono ?_; clear p1; rintro e w2 ⟨rfl, q⟩; replace O := O.below q; replace hb := hb.trans (q.mono hb.size); clear q; have b0 : Own w2 (w.heap.size) _ := O.get 0 _ rfl; have ce00 := b0.cell 0 _ rfl; have ce01 := b0.cell 1 _ rfl; have b1 : Own w2 (w.heap.size + 1) _ := O.get 1 _ rfl; have ce10 := b1.cell 0 _ rfl; have ce11 := b1.cell 1 _ rfl; have b2 : Own w2 (w.heap.size + 1 + 1) _ := O.get 2 _ rfl; have ce20 := b2.cell 0 _ rfl; have ce21 := b2.cell 1 _ rfl; have b3 : Own w2 (w.heap.size + 1 + 1 + 1) _ := O.get 3 _ rfl; have ce30 := b3.cell 0 _ rfl; have ce31 := b3.cell 1 _ rfl; have y20 := b2.frz 0 _ rfl; have y21 := b2.frz 1 _ rfl; have y30 := b3.frz 0 _ rfl; have y31 := b3.frz 1 _ rfl)
    exact twoEndS rfl (O.get 2 _ rfl : Own _ (w.heap.size + 1 + 1) _) (O.get 3 _ rfl : Own _ (w.heap.size + 1 + 1 + 1) _) hb (by omega) (by omega) (by omega) rfl rfl rfl
  · have k2 : h ≤ g := by simpa using hk
    clear hk
    go_enter Try.func16, Try.ntmps16
    go_wp2_with first
      | (go_at_call 13; refine (p1 _).mono ?_; clear p1; rintro e w2 ⟨rfl, q⟩; replace O := O.below q; replace hb := hb.trans (q.mono hb.size); clear q; have b0 : Own w2 (w.heap.size) _ := O.get 0 _ rfl; have ce00 := b0.cell 0 _ rfl; have ce01 := b0.cell 1 _ rfl; have b1 : Own w2 (w.heap.size + 1) _ := O.get 1 _ rfl; have ce10 := b1.cell 0 _ rfl; have ce11 := b1.cell 1 _ rfl; have b2 : Own w2 (w.heap.size + 1 + 1) _ := O.get 2 _ rfl; have ce20 := b2.cell 0 _ rfl; have ce21 := b2.cell 1 _ rfl; have b3 : Own w2 (w.heap.size + 1 + 1 + 1) _ := O.get 3 _ rfl; have ce30 := b3.cell 0 _ rfl; have ce31 := b3.cell 1 _ rfl; have y20 := b2.frz 0 _ rfl; have y21 := b2.frz 1 _ rfl; have y30 := b3.frz 0 _ rfl; have y31 := b3.frz 1 _ rfl)
    exact twoEndS rfl (O.get 2 _ rfl : Own _ (w.heap.size + 1 + 1) _) (O.get 3 _ rfl : Own _ (w.heap.size + 1 + 1 + 1) _) hb (by omega) (by omega) (by omega) rfl rfl rfl

set_option maxHeartbeats 2000000 in
theorem implCut (w : World) (n x y g h : Int) (a1 : (Lit.int .i64 x).wf = true) (a2 : (Lit.int .i64 y).wf = true) (a3 : (Lit.int .i64 g).wf = true) (a4 : (Lit.int .i64 h).wf = true) (k1 : pokI n x y = true) (k2 : g < h) (r0 r1 r2 r3 : Int) (k : Bool)
    (HR : Hid (k = (pokI n x g && pokI n h y) ∧ r0 = (if k = true then (if gapI h y < gapI x g then h else x) else 0) ∧ r1 = (if k = true then (if gapI h y < gapI x g then y else g) else 0) ∧ r2 = (if k = true then (if gapI h y < gapI x g then x else h) else 0) ∧ r3 = (if k = true then (if gapI h y < gapI x g then g else y) else 0))) :
    Calls Try.prog 16 #[.int .i64 n, .agg #[.int .i64 x, .int .i64 y], .agg #[.int .i64 g, .int .i64 h]] w (TwoOut2 w r0 r1 r2 r3 k) := by
  have p1 := fun W => implPairOk W n x y a1 a2
  have p2 := fun W => implPairOk W n x g a1 a3
  have p3 := fun W => implPairOk W n h y a4 a2
  have hf1 := field1
  have O := owns4 w #[.int .i64 x, .int .i64 y] #[.int .i64 g, .int .i64 h] #[.int .i64 0, .int .i64 0] #[.int .i64 0, .int .i64 0] 24
  have hb := (((((Below.refl _ w).alloc (Nat.le_refl _) (.cells #[.int .i64 x, .int .i64 y] 24)).alloc (by simp) (.cells #[.int .i64 g, .int .i64 h] 24)).alloc (by simp; omega) (.cells #[.int .i64 0, .int .i64 0] 24)).alloc (by simp; omega) (.cells #[.int .i64 0, .int .i64 0] 24))
  have b0 : Own _ (w.heap.size) _ := O.get 0 _ rfl
  have ce00 := b0.cell 0 _ rfl
  have ce01 := b0.cell 1 _ rfl
  rw [k1] at p1
  clear k1
  go_enter Try.func16, Try.ntmps16
  go_wp2_with first
    | (go_at_call 13; refine (p1 _).mono ?_; clear p1; rintro e w2 ⟨rfl, q⟩; replace O := O.below q; replace hb := hb.trans (q.mono hb.size); clear q; have b0 : Own w2 (w.heap.size) _ := O.get 0 _ rfl; have ce00 := b0.cell 0 _ rfl; have ce01 := b0.cell 1 _ rfl; have b1 : Own w2 (w.heap.size + 1) _ := O.get 1 _ rfl; have ce10 := b1.cell 0 _ rfl; have ce11 := b1.cell 1 _ rfl; have b2 : Own w2 (w.heap.size + 1 + 1) _ := O.get 2 _ rfl; have ce20 := b2.cell 0 _ rfl; have ce21 := b2.cell 1 _ rfl; have b3 : Own w2 (w.heap.size + 1 + 1 + 1) _ := O.get 3 _ rfl; have ce30 := b3.cell 0 _ rfl; have ce31 := b3.cell 1 _ rfl; have y20 := b2.frz 0 _ rfl; have y21 := b2.frz 1 _ rfl; have y30 := b3.frz 0 _ rfl; have y31 := b3.frz 1 _ rfl)
  have l0 := b0.lt
  have l1 := b1.lt
  have l3 := b3.lt
  refine region_steps (by kernel_rfl) (by kernel_rfl) (by kernel_rfl) (fun A0 f a W => ∃ (x24 : Value) (x25 : Value) (x26 : Value) (x27 : Value) (x28 : Value) (x29 : Value) (x30 : Value) (x31 : Value) (x32 : Value) (x33 : Value) (x9 : Value) (x10 : Value) (k10 : Nat) (k11 : Nat), a = { tmps := #[.int .i64 n, .agg #[.int .i64 x, .int .i64 y], .agg #[.int .i64 g, .int .i64 h], undef, .pointer (some ⟨w.heap.size, 0, none⟩), .pointer (some ⟨w.heap.size + 1, 0, none⟩), .pointer (some ⟨w.heap.size + 1 + 1, 0, none⟩), .pointer (some ⟨w.heap.size + 1 + 1 + 1, 0, none⟩), .bool false, x9, x10, .int .i64 n, .agg #[.int .i64 x, .int .i64 y], .bool true, .bool false, .bool false, .pointer (some ⟨w.heap.size + 1, 0, none⟩), .int .i64 g, .pointer (some ⟨w.heap.size + 1, 1, none⟩), .int .i64 h, .bool (decide (h ≤ g)), .bool (decide (h ≤ g)), undef, undef, x24, x25, x26, x27, x28, x29, x30, x31, x32, x33, undef, undef, undef, undef, undef, undef, undef, undef, undef, undef, undef, undef, undef, undef, undef, undef, undef, undef, undef, undef, undef, undef, undef], defers := [] } ∧ (f 0 = true → x24 = .pointer (some ⟨w.heap.size, 0, none⟩)) ∧ (f 1 = true → x25 = .int .i64 x) ∧ (f 2 = true → x26 = .pointer (some ⟨w.heap.size + 1, 0, none⟩)) ∧ (f 3 = true → x27 = .int .i64 g) ∧ (f 4 = true → x28 = .agg #[.int .i64 x, .int .i64 g]) ∧ (f 5 = true → x29 = .pointer (some ⟨w.heap.size + 1, 1, none⟩)) ∧ (f 6 = true → x30 = .int .i64 h) ∧ (f 7 = true → x31 = .pointer (some ⟨w.heap.size, 1, none⟩)) ∧ (f 8 = true → x32 = .int .i64 y) ∧ (f 9 = true → x33 = .agg #[.int .i64 h, .int .i64 y]) ∧ (f 10 = true → x9 = .pointer (some ⟨k10, 0, none⟩) ∧ w2.heap.size ≤ k10 ∧ k10 < W.heap.size ∧ (f 12 = false → Own W k10 [.int .i64 0, .int .i64 0]) ∧ (f 12 = true → Own W k10 [.int .i64 x, .int .i64 g])) ∧ (f 11 = true → x10 = .pointer (some ⟨k11, 0, none⟩) ∧ w2.heap.size ≤ k11 ∧ k11 < W.heap.size ∧ (f 13 = false → Own W k11 [.int .i64 0, .int .i64 0]) ∧ (f 13 = true → Own W k11 [.int .i64 h, .int .i64 y])) ∧ (f 12 = true → f 10 = true) ∧ (f 13 = true → f 11 = true) ∧ (f 10 = true → f 11 = true → k10 ≠ k11) ∧ Below w2.heap.size w2 W) ?_ ⟨?_, ?_, ?_, ?_, ?_, ?_, ?_, ?_, ?_, ?_, ?_, ?_, ?_, ?_, trivial⟩ ?_
  · exact ⟨undef, undef, undef, undef, undef, undef, undef, undef, undef, undef, undef, undef, 0, 0, rfl, (fun h => (by cases h)), (fun h => (by cases h)), (fun h => (by cases h)), (fun h => (by cases h)), (fun h => (by cases h)), (fun h => (by cases h)), (fun h => (by cases h)), (fun h => (by cases h)), (fun h => (by cases h)), (fun h => (by cases h)), (fun h => (by cases h)), (fun h => (by cases h)), (fun h => (by cases h)), (fun h => (by cases h)), (fun h => (by cases h)), (Below.refl _ _).drew⟩
  · rintro f a W ⟨x24, x25, x26, x27, x28, x29, x30, x31, x32, x33, x9, x10, k10, k11, rfl, h0, h1, h2, h3, h4, h5, h6, h7, h8, h9, h10, h11, n10, n11, m10_11, hB⟩ hf hd K hK
    go_simp
    refine hK _ _ ?_
    exact ⟨_, x25, x26, x27, x28, x29, x30, x31, x32, x33, x9, x10, k10, k11, rfl, fun _ => rfl, fun h => h1 (upd_ne (by decide) h), fun h => h2 (upd_ne (by decide) h), fun h => h3 (upd_ne (by decide) h), fun h => h4 (upd_ne (by decide) h), fun h => h5 (upd_ne (by decide) h), fun h => h6 (upd_ne (by decide) h), fun h => h7 (upd_ne (by decide) h), fun h => h8 (upd_ne (by decide) h), fun h => h9 (upd_ne (by decide) h), fun h => (by obtain ⟨p1, p2, p3, p4, p5⟩ := h10 (upd_ne (by decide) h); exact ⟨p1, p2, p3, fun h' => p4 (by rw [upd_same (by decide)] at h'; exact h'), fun h' => p5 (upd_ne (by decide) h')⟩), fun h => (by obtain ⟨p1, p2, p3, p4, p5⟩ := h11 (upd_ne (by decide) h); exact ⟨p1, p2, p3, fun h' => p4 (by rw [upd_same (by decide)] at h'; exact h'), fun h' => p5 (upd_ne (by decide) h')⟩), fun h => upd_of (n10 (upd_ne (by decide) h)), fun h => upd_of (n11 (upd_ne (by decide) h)), fun h h' => m10_11 (upd_ne (by decide) h) (upd_ne (by decide) h'), hB⟩
  · rintro f a W ⟨x24, x25, x26, x27, x28, x29, x30, x31, x32, x33, x9, x10, k10, k11, rfl, h0, h1, h2, h3, h4, h5, h6, h7, h8, h9, h10, h11, n10, n11, m10_11, hB⟩ hf hd K hK
    have e0 := h0 (dep_of hd (e := ⟨0, .data⟩) (by simp) rfl)
    subst e0
    have r0 := (hB.cell (p := ⟨w.heap.size, 0, none⟩) l0).trans ce00
    go_simp
    refine hK _ _ ?_
    exact ⟨_, _, x26, x27, x28, x29, x30, x31, x32, x33, x9, x10, k10, k11, rfl, fun _ => rfl, fun _ => rfl, fun h => h2 (upd_ne (by decide) h), fun h => h3 (upd_ne (by decide) h), fun h => h4 (upd_ne (by decide) h), fun h => h5 (upd_ne (by decide) h), fun h => h6 (upd_ne (by decide) h), fun h => h7 (upd_ne (by decide) h), fun h => h8 (upd_ne (by decide) h), fun h => h9 (upd_ne (by decide) h), fun h => (by obtain ⟨p1, p2, p3, p4, p5⟩ := h10 (upd_ne (by decide) h); exact ⟨p1, p2, p3, fun h' => p4 (by rw [upd_same (by decide)] at h'; exact h'), fun h' => p5 (upd_ne (by decide) h')⟩), fun h => (by obtain ⟨p1, p2, p3, p4, p5⟩ := h11 (upd_ne (by decide) h); exact ⟨p1, p2, p3, fun h' => p4 (by rw [upd_same (by decide)] at h'; exact h'), fun h' => p5 (upd_ne (by decide) h')⟩), fun h => upd_of (n10 (upd_ne (by decide) h)), fun h => upd_of (n11 (upd_ne (by decide) h)), fun h h' => m10_11 (upd_ne (by decide) h) (upd_ne (by decide) h'), hB⟩
  · rintro f a W ⟨x24, x25, x26, x27, x28, x29, x30, x31, x32, x33, x9, x10, k10, k11, rfl, h0, h1, h2, h3, h4, h5, h6, h7, h8, h9, h10, h11, n10, n11, m10_11, hB⟩ hf hd K hK
    go_simp
    refine hK _ _ ?_
    exact ⟨x24, x25, _, x27, x28, x29, x30, x31, x32, x33, x9, x10, k10, k11, rfl, fun h => h0 (upd_ne (by decide) h), fun h => h1 (upd_ne (by decide) h), fun _ => rfl, fun h => h3 (upd_ne (by decide) h), fun h => h4 (upd_ne (by decide) h), fun h => h5 (upd_ne (by decide) h), fun h => h6 (upd_ne (by decide) h), fun h => h7 (upd_ne (by decide) h), fun h => h8 (upd_ne (by decide) h), fun h => h9 (upd_ne (by decide) h), fun h => (by obtain ⟨p1, p2, p3, p4, p5⟩ := h10 (upd_ne (by decide) h); exact ⟨p1, p2, p3, fun h' => p4 (by rw [upd_same (by decide)] at h'; exact h'), fun h' => p5 (upd_ne (by decide) h')⟩), fun h => (by obtain ⟨p1, p2, p3, p4, p5⟩ := h11 (upd_ne (by decide) h); exact ⟨p1, p2, p3, fun h' => p4 (by rw [upd_same (by decide)] at h'; exact h'), fun h' => p5 (upd_ne (by decide) h')⟩), fun h => upd_of (n10 (upd_ne (by decide) h)), fun h => upd_of (n11 (upd_ne (by decide) h)), fun h h' => m10_11 (upd_ne (by decide) h) (upd_ne (by decide) h'), hB⟩
  · rintro f a W ⟨x24, x25, x26, x27, x28, x29, x30, x31, x32, x33, x9, x10, k10, k11, rfl, h0, h1, h2, h3, h4, h5, h6, h7, h8, h9, h10, h11, n10, n11, m10_11, hB⟩ hf hd K hK
    have e2 := h2 (dep_of hd (e := ⟨2, .data⟩) (by simp) rfl)
    subst e2
    have r0 := (hB.cell (p := ⟨w.heap.size + 1, 0, none⟩) l1).trans ce10
    go_simp
    refine hK _ _ ?_
    exact ⟨x24, x25, _, _, x28, x29, x30, x31, x32, x33, x9, x10, k10, k11, rfl, fun h => h0 (upd_ne (by decide) h), fun h => h1 (upd_ne (by decide) h), fun _ => rfl, fun _ => rfl, fun h => h4 (upd_ne (by decide) h), fun h => h5 (upd_ne (by decide) h), fun h => h6 (upd_ne (by decide) h), fun h => h7 (upd_ne (by decide) h), fun h => h8 (upd_ne (by decide) h), fun h => h9 (upd_ne (by decide) h), fun h => (by obtain ⟨p1, p2, p3, p4, p5⟩ := h10 (upd_ne (by decide) h); exact ⟨p1, p2, p3, fun h' => p4 (by rw [upd_same (by decide)] at h'; exact h'), fun h' => p5 (upd_ne (by decide) h')⟩), fun h => (by obtain ⟨p1, p2, p3, p4, p5⟩ := h11 (upd_ne (by decide) h); exact ⟨p1, p2, p3, fun h' => p4 (by rw [upd_same (by decide)] at h'; exact h'), fun h' => p5 (upd_ne (by decide) h')⟩), fun h => upd_of (n10 (upd_ne (by decide) h)), fun h => upd_of (n11 (upd_ne (by decide) h)), fun h h' => m10_11 (upd_ne (by decide) h) (upd_ne (by decide) h'), hB⟩
  · rintro f a W ⟨x24, x25, x26, x27, x28, x29, x30, x31, x32, x33, x9, x10, k10, k11, rfl, h0, h1, h2, h3, h4, h5, h6, h7, h8, h9, h10, h11, n10, n11, m10_11, hB⟩ hf hd K hK
    have e1 := h1 (dep_of hd (e := ⟨1, .data⟩) (by simp) rfl)
    subst e1
    have e3 := h3 (dep_of hd (e := ⟨3, .data⟩) (by simp) rfl)
    subst e3
    go_simp
    refine hK _ _ ?_
    exact ⟨x24, _, x26, _, _, x29, x30, x31, x32, x33, x9, x10, k10, k11, rfl, fun h => h0 (upd_ne (by decide) h), fun _ => rfl, fun h => h2 (upd_ne (by decide) h), fun _ => rfl, fun _ => rfl, fun h => h5 (upd_ne (by decide) h), fun h => h6 (upd_ne (by decide) h), fun h => h7 (upd_ne (by decide) h), fun h => h8 (upd_ne (by decide) h), fun h => h9 (upd_ne (by decide) h), fun h => (by obtain ⟨p1, p2, p3, p4, p5⟩ := h10 (upd_ne (by decide) h); exact ⟨p1, p2, p3, fun h' => p4 (by rw [upd_same (by decide)] at h'; exact h'), fun h' => p5 (upd_ne (by decide) h')⟩), fun h => (by obtain ⟨p1, p2, p3, p4, p5⟩ := h11 (upd_ne (by decide) h); exact ⟨p1, p2, p3, fun h' => p4 (by rw [upd_same (by decide)] at h'; exact h'), fun h' => p5 (upd_ne (by decide) h')⟩), fun h => upd_of (n10 (upd_ne (by decide) h)), fun h => upd_of (n11 (upd_ne (by decide) h)), fun h h' => m10_11 (upd_ne (by decide) h) (upd_ne (by decide) h'), hB⟩
  · rintro f a W ⟨x24, x25, x26, x27, x28, x29, x30, x31, x32, x33, x9, x10, k10, k11, rfl, h0, h1, h2, h3, h4, h5, h6, h7, h8, h9, h10, h11, n10, n11, m10_11, hB⟩ hf hd K hK
    go_simp
    refine hK _ _ ?_
    exact ⟨x24, x25, x26, x27, x28, _, x30, x31, x32, x33, x9, x10, k10, k11, rfl, fun h => h0 (upd_ne (by decide) h), fun h => h1 (upd_ne (by decide) h), fun h => h2 (upd_ne (by decide) h), fun h => h3 (upd_ne (by decide) h), fun h => h4 (upd_ne (by decide) h), fun _ => rfl, fun h => h6 (upd_ne (by decide) h), fun h => h7 (upd_ne (by decide) h), fun h => h8 (upd_ne (by decide) h), fun h => h9 (upd_ne (by decide) h), fun h => (by obtain ⟨p1, p2, p3, p4, p5⟩ := h10 (upd_ne (by decide) h); exact ⟨p1, p2, p3, fun h' => p4 (by rw [upd_same (by decide)] at h'; exact h'), fun h' => p5 (upd_ne (by decide) h')⟩), fun h => (by obtain ⟨p1, p2, p3, p4, p5⟩ := h11 (upd_ne (by decide) h); exact ⟨p1, p2, p3, fun h' => p4 (by rw [upd_same (by decide)] at h'; exact h'), fun h' => p5 (upd_ne (by decide) h')⟩), fun h => upd_of (n10 (upd_ne (by decide) h)), fun h => upd_of (n11 (upd_ne (by decide) h)), fun h h' => m10_11 (upd_ne (by decide) h) (upd_ne (by decide) h'), hB⟩
  · rintro f a W ⟨x24, x25, x26, x27, x28, x29, x30, x31, x32, x33, x9, x10, k10, k11, rfl, h0, h1, h2, h3, h4, h5, h6, h7, h8, h9, h10, h11, n10, n11, m10_11, hB⟩ hf hd K hK
    have e5 := h5 (dep_of hd (e := ⟨5, .data⟩) (by simp) rfl)
    subst e5
    have r0 := (hB.cell (p := ⟨w.heap.size + 1, 1, none⟩) l1).trans ce11
    go_simp
    refine hK _ _ ?_
    exact ⟨x24, x25, x26, x27, x28, _, _, x31, x32, x33, x9, x10, k10, k11, rfl, fun h => h0 (upd_ne (by decide) h), fun h => h1 (upd_ne (by decide) h), fun h => h2 (upd_ne (by decide) h), fun h => h3 (upd_ne (by decide) h), fun h => h4 (upd_ne (by decide) h), fun _ => rfl, fun _ => rfl, fun h => h7 (upd_ne (by decide) h), fun h => h8 (upd_ne (by decide) h), fun h => h9 (upd_ne (by decide) h), fun h => (by obtain ⟨p1, p2, p3, p4, p5⟩ := h10 (upd_ne (by decide) h); exact ⟨p1, p2, p3, fun h' => p4 (by rw [upd_same (by decide)] at h'; exact h'), fun h' => p5 (upd_ne (by decide) h')⟩), fun h => (by obtain ⟨p1, p2, p3, p4, p5⟩ := h11 (upd_ne (by decide) h); exact ⟨p1, p2, p3, fun h' => p4 (by rw [upd_same (by decide)] at h'; exact h'), fun h' => p5 (upd_ne (by decide) h')⟩), fun h => upd_of (n10 (upd_ne (by decide) h)), fun h => upd_of (n11 (upd_ne (by decide) h)), fun h h' => m10_11 (upd_ne (by decide) h) (upd_ne (by decide) h'), hB⟩
  · rintro f a W ⟨x24, x25, x26, x27, x28, x29, x30, x31, x32, x33, x9, x10, k10, k11, rfl, h0, h1, h2, h3, h4, h5, h6, h7, h8, h9, h10, h11, n10, n11, m10_11, hB⟩ hf hd K hK
    go_simp
    refine hK _ _ ?_
    exact ⟨x24, x25, x26, x27, x28, x29, x30, _, x32, x33, x9, x10, k10, k11, rfl, fun h => h0 (upd_ne (by decide) h), fun h => h1 (upd_ne (by decide) h), fun h => h2 (upd_ne (by decide) h), fun h => h3 (upd_ne (by decide) h), fun h => h4 (upd_ne (by decide) h), fun h => h5 (upd_ne (by decide) h), fun h => h6 (upd_ne (by decide) h), fun _ => rfl, fun h => h8 (upd_ne (by decide) h), fun h => h9 (upd_ne (by decide) h), fun h => (by obtain ⟨p1, p2, p3, p4, p5⟩ := h10 (upd_ne (by decide) h); exact ⟨p1, p2, p3, fun h' => p4 (by rw [upd_same (by decide)] at h'; exact h'), fun h' => p5 (upd_ne (by decide) h')⟩), fun h => (by obtain ⟨p1, p2, p3, p4, p5⟩ := h11 (upd_ne (by decide) h); exact ⟨p1, p2, p3, fun h' => p4 (by rw [upd_same (by decide)] at h'; exact h'), fun h' => p5 (upd_ne (by decide) h')⟩), fun h => upd_of (n10 (upd_ne (by decide) h)), fun h => upd_of (n11 (upd_ne (by decide) h)), fun h h' => m10_11 (upd_ne (by decide) h) (upd_ne (by decide) h'), hB⟩
  · rintro f a W ⟨x24, x25, x26, x27, x28, x29, x30, x31, x32, x33, x9, x10, k10, k11, rfl, h0, h1, h2, h3, h4, h5, h6, h7, h8, h9, h10, h11, n10, n11, m10_11, hB⟩ hf hd K hK
    have e7 := h7 (dep_of hd (e := ⟨7, .data⟩) (by simp) rfl)
    subst e7
    have r0 := (hB.cell (p := ⟨w.heap.size, 1, none⟩) l0).trans ce01
    go_simp
    refine hK _ _ ?_
    exact ⟨x24, x25, x26, x27, x28, x29, x30, _, _, x33, x9, x10, k10, k11, rfl, fun h => h0 (upd_ne (by decide) h), fun h => h1 (upd_ne (by decide) h), fun h => h2 (upd_ne (by decide) h), fun h => h3 (upd_ne (by decide) h), fun h => h4 (upd_ne (by decide) h), fun h => h5 (upd_ne (by decide) h), fun h => h6 (upd_ne (by decide) h), fun _ => rfl, fun _ => rfl, fun h => h9 (upd_ne (by decide) h), fun h => (by obtain ⟨p1, p2, p3, p4, p5⟩ := h10 (upd_ne (by decide) h); exact ⟨p1, p2, p3, fun h' => p4 (by rw [upd_same (by decide)] at h'; exact h'), fun h' => p5 (upd_ne (by decide) h')⟩), fun h => (by obtain ⟨p1, p2, p3, p4, p5⟩ := h11 (upd_ne (by decide) h); exact ⟨p1, p2, p3, fun h' => p4 (by rw [upd_same (by decide)] at h'; exact h'), fun h' => p5 (upd_ne (by decide) h')⟩), fun h => upd_of (n10 (upd_ne (by decide) h)), fun h => upd_of (n11 (upd_ne (by decide) h)), fun h h' => m10_11 (upd_ne (by decide) h) (upd_ne (by decide) h'), hB⟩
  · rintro f a W ⟨x24, x25, x26, x27, x28, x29, x30, x31, x32, x33, x9, x10, k10, k11, rfl, h0, h1, h2, h3, h4, h5, h6, h7, h8, h9, h10, h11, n10, n11, m10_11, hB⟩ hf hd K hK
    have e6 := h6 (dep_of hd (e := ⟨6, .data⟩) (by simp) rfl)
    subst e6
    have e8 := h8 (dep_of hd (e := ⟨8, .data⟩) (by simp) rfl)
    subst e8
    go_simp
    refine hK _ _ ?_
    exact ⟨x24, x25, x26, x27, x28, x29, _, x31, _, _, x9, x10, k10, k11, rfl, fun h => h0 (upd_ne (by decide) h), fun h => h1 (upd_ne (by decide) h), fun h => h2 (upd_ne (by decide) h), fun h => h3 (upd_ne (by decide) h), fun h => h4 (upd_ne (by decide) h), fun h => h5 (upd_ne (by decide) h), fun _ => rfl, fun h => h7 (upd_ne (by decide) h), fun _ => rfl, fun _ => rfl, fun h => (by obtain ⟨p1, p2, p3, p4, p5⟩ := h10 (upd_ne (by decide) h); exact ⟨p1, p2, p3, fun h' => p4 (by rw [upd_same (by decide)] at h'; exact h'), fun h' => p5 (upd_ne (by decide) h')⟩), fun h => (by obtain ⟨p1, p2, p3, p4, p5⟩ := h11 (upd_ne (by decide) h); exact ⟨p1, p2, p3, fun h' => p4 (by rw [upd_same (by decide)] at h'; exact h'), fun h' => p5 (upd_ne (by decide) h')⟩), fun h => upd_of (n10 (upd_ne (by decide) h)), fun h => upd_of (n11 (upd_ne (by decide) h)), fun h h' => m10_11 (upd_ne (by decide) h) (upd_ne (by decide) h'), hB⟩
  · rintro f a W ⟨x24, x25, x26, x27, x28, x29, x30, x31, x32, x33, x9, x10, k10, k11, rfl, h0, h1, h2, h3, h4, h5, h6, h7, h8, h9, h10, h11, n10, n11, m10_11, hB⟩ hf hd K hK
    go_simp
    refine hK _ _ ?_
    exact ⟨x24, x25, x26, x27, x28, x29, x30, x31, x32, x33, _, x10, W.heap.size, k11, rfl, fun h => h0 (upd_ne (by decide) h), fun h => h1 (upd_ne (by decide) h), fun h => h2 (upd_ne (by decide) h), fun h => h3 (upd_ne (by decide) h), fun h => h4 (upd_ne (by decide) h), fun h => h5 (upd_ne (by decide) h), fun h => h6 (upd_ne (by decide) h), fun h => h7 (upd_ne (by decide) h), fun h => h8 (upd_ne (by decide) h), fun h => h9 (upd_ne (by decide) h), fun _ => ⟨rfl, hB.size, (by simp), fun _ => Own.new W _ _, fun h' => absurd (n10 (upd_ne (by decide) h')) (by rw [hf]; decide)⟩, fun h => (by obtain ⟨p1, p2, p3, p4, p5⟩ := h11 (upd_ne (by decide) h); exact ⟨p1, p2, (by have := p3; simp; omega), fun h' => (p4 (by rw [upd_same (by decide)] at h'; exact h')).alloc _, fun h' => (p5 (upd_ne (by decide) h')).alloc _⟩), fun _ => upd_self, fun h => upd_of (n11 (upd_ne (by decide) h)), fun _ h => (by obtain ⟨-, -, p3, -, -⟩ := h11 (upd_ne (by decide) h); omega), hB.alloc hB.size _⟩
  · rintro f a W ⟨x24, x25, x26, x27, x28, x29, x30, x31, x32, x33, x9, x10, k10, k11, rfl, h0, h1, h2, h3, h4, h5, h6, h7, h8, h9, h10, h11, n10, n11, m10_11, hB⟩ hf hd K hK
    go_simp
    refine hK _ _ ?_
    exact ⟨x24, x25, x26, x27, x28, x29, x30, x31, x32, x33, x9, _, k10, W.heap.size, rfl, fun h => h0 (upd_ne (by decide) h), fun h => h1 (upd_ne (by decide) h), fun h => h2 (upd_ne (by decide) h), fun h => h3 (upd_ne (by decide) h), fun h => h4 (upd_ne (by decide) h), fun h => h5 (upd_ne (by decide) h), fun h => h6 (upd_ne (by decide) h), fun h => h7 (upd_ne (by decide) h), fun h => h8 (upd_ne (by decide) h), fun h => h9 (upd_ne (by decide) h), fun h => (by obtain ⟨p1, p2, p3, p4, p5⟩ := h10 (upd_ne (by decide) h); exact ⟨p1, p2, (by have := p3; simp; omega), fun h' => (p4 (by rw [upd_same (by decide)] at h'; exact h')).alloc _, fun h' => (p5 (upd_ne (by decide) h')).alloc _⟩), fun _ => ⟨rfl, hB.size, (by simp), fun _ => Own.new W _ _, fun h' => absurd (n11 (upd_ne (by decide) h')) (by rw [hf]; decide)⟩, fun h => upd_of (n10 (upd_ne (by decide) h)), fun _ => upd_self, fun h _ => (by obtain ⟨-, -, p3, -, -⟩ := h10 (upd_ne (by decide) h); omega), hB.alloc hB.size _⟩
  · rintro f a W ⟨x24, x25, x26, x27, x28, x29, x30, x31, x32, x33, x9, x10, k10, k11, rfl, h0, h1, h2, h3, h4, h5, h6, h7, h8, h9, h10, h11, n10, n11, m10_11, hB⟩ hf hd K hK
    obtain ⟨e10, u10, t10, z10, s10⟩ := h10 (dep_of hd (e := ⟨10, .data⟩) (by simp) rfl)
    subst e10
    have e4 := h4 (dep_of hd (e := ⟨4, .data⟩) (by simp) rfl)
    subst e4
    have oz := z10 hf
    have r0 := oz.cell 0 _ rfl
    have o0 := oz.frz 0 _ rfl
    have r1 := oz.cell 1 _ rfl
    have o1 := oz.frz 1 _ rfl
    go_simp
    refine hK _ _ ?_
    exact ⟨x24, x25, x26, x27, _, x29, x30, x31, x32, x33, _, x10, k10, k11, rfl, fun h => h0 (upd_ne (by decide) h), fun h => h1 (upd_ne (by decide) h), fun h => h2 (upd_ne (by decide) h), fun h => h3 (upd_ne (by decide) h), fun _ => rfl, fun h => h5 (upd_ne (by decide) h), fun h => h6 (upd_ne (by decide) h), fun h => h7 (upd_ne (by decide) h), fun h => h8 (upd_ne (by decide) h), fun h => h9 (upd_ne (by decide) h), fun _ => ⟨rfl, u10, (by simpa [World.setCell] using t10), fun h' => (by rw [upd_self] at h'; cases h'), fun _ => Own.set (i := 1) (Own.set (i := 0) (oz) _ (by simp)) _ (by simp)⟩, fun h => (by obtain ⟨p1, p2, p3, p4, p5⟩ := h11 (upd_ne (by decide) h); have hne : k10 ≠ k11 := (by have := m10_11 (dep_of hd (e := ⟨10, .data⟩) (by simp) rfl) (upd_ne (by decide) h); omega); exact ⟨p1, p2, (by simpa [World.setCell] using p3), fun h' => Own.other (i := 1) (Own.other (i := 0) (p4 (by rw [upd_same (by decide)] at h'; exact h')) _ hne) _ hne, fun h' => Own.other (i := 1) (Own.other (i := 0) (p5 (upd_ne (by decide) h')) _ hne) _ hne⟩), fun _ => upd_of (dep_of hd (e := ⟨10, .data⟩) (by simp) rfl), fun h => upd_of (n11 (upd_ne (by decide) h)), fun h h' => m10_11 (upd_ne (by decide) h) (upd_ne (by decide) h'), ((hB.setCell (p := ⟨k10, 0, none⟩) u10 _).setCell (p := ⟨k10, 1, none⟩) u10 _)⟩
  · rintro f a W ⟨x24, x25, x26, x27, x28, x29, x30, x31, x32, x33, x9, x10, k10, k11, rfl, h0, h1, h2, h3, h4, h5, h6, h7, h8, h9, h10, h11, n10, n11, m10_11, hB⟩ hf hd K hK
    obtain ⟨e11, u11, t11, z11, s11⟩ := h11 (dep_of hd (e := ⟨11, .data⟩) (by simp) rfl)
    subst e11
    have e9 := h9 (dep_of hd (e := ⟨9, .data⟩) (by simp) rfl)
    subst e9
    have oz := z11 hf
    have r0 := oz.cell 0 _ rfl
    have o0 := oz.frz 0 _ rfl
    have r1 := oz.cell 1 _ rfl
    have o1 := oz.frz 1 _ rfl
    go_simp
    refine hK _ _ ?_
    exact ⟨x24, x25, x26, x27, x28, x29, x30, x31, x32, _, x9, _, k10, k11, rfl, fun h => h0 (upd_ne (by decide) h), fun h => h1 (upd_ne (by decide) h), fun h => h2 (upd_ne (by decide) h), fun h => h3 (upd_ne (by decide) h), fun h => h4 (upd_ne (by decide) h), fun h => h5 (upd_ne (by decide) h), fun h => h6 (upd_ne (by decide) h), fun h => h7 (upd_ne (by decide) h), fun h => h8 (upd_ne (by decide) h), fun _ => rfl, fun h => (by obtain ⟨p1, p2, p3, p4, p5⟩ := h10 (upd_ne (by decide) h); have hne : k11 ≠ k10 := (by have := m10_11 (upd_ne (by decide) h) (dep_of hd (e := ⟨11, .data⟩) (by simp) rfl); omega); exact ⟨p1, p2, (by simpa [World.setCell] using p3), fun h' => Own.other (i := 1) (Own.other (i := 0) (p4 (by rw [upd_same (by decide)] at h'; exact h')) _ hne) _ hne, fun h' => Own.other (i := 1) (Own.other (i := 0) (p5 (upd_ne (by decide) h')) _ hne) _ hne⟩), fun _ => ⟨rfl, u11, (by simpa [World.setCell] using t11), fun h' => (by rw [upd_self] at h'; cases h'), fun _ => Own.set (i := 1) (Own.set (i := 0) (oz) _ (by simp)) _ (by simp)⟩, fun h => upd_of (n10 (upd_ne (by decide) h)), fun _ => upd_of (dep_of hd (e := ⟨11, .data⟩) (by simp) rfl), fun h h' => m10_11 (upd_ne (by decide) h) (upd_ne (by decide) h'), ((hB.setCell (p := ⟨k11, 0, none⟩) u11 _).setCell (p := ⟨k11, 1, none⟩) u11 _)⟩
  rintro f a w3 ⟨x24, x25, x26, x27, x28, x29, x30, x31, x32, x33, x9, x10, k10, k11, rfl, h0, h1, h2, h3, h4, h5, h6, h7, h8, h9, h10, h11, n10, n11, m10_11, qB⟩ hall
  have e0 := h0 (hall 0 (by decide))
  subst e0
  have e1 := h1 (hall 1 (by decide))
  subst e1
  have e2 := h2 (hall 2 (by decide))
  subst e2
  have e3 := h3 (hall 3 (by decide))
  subst e3
  have e4 := h4 (hall 4 (by decide))
  subst e4
  have e5 := h5 (hall 5 (by decide))
  subst e5
  have e6 := h6 (hall 6 (by decide))
  subst e6
  have e7 := h7 (hall 7 (by decide))
  subst e7
  have e8 := h8 (hall 8 (by decide))
  subst e8
  have e9 := h9 (hall 9 (by decide))
  subst e9
  obtain ⟨e10, u10, -, -, s10⟩ := h10 (hall 10 (by decide))
  replace s10 := s10 (hall 12 (by decide))
  subst e10
  obtain ⟨e11, u11, -, -, s11⟩ := h11 (hall 11 (by decide))
  replace s11 := s11 (hall 13 (by decide))
  subst e11
  replace m10_11 := m10_11 (hall 10 (by decide)) (hall 11 (by decide))
  clear hall h0 h1 h2 h3 h4 h5 h6 h7 h8 h9 h10 h11 n10 n11
  try dsimp only
  replace O := O.below qB
  replace hb := hb.trans (qB.mono hb.size)
  have n1 : k10 ≠ w.heap.size + 1 + 1 := by omega
  have n2 : k10 ≠ w.heap.size + 1 + 1 + 1 := by omega
  have n3 : k11 ≠ w.heap.size + 1 + 1 := by omega
  have n4 : k11 ≠ w.heap.size + 1 + 1 + 1 := by omega
  have t00 := s10.cell 0 _ rfl
  have t01 := s10.cell 1 _ rfl
  generalize pokI n x g = k3 at *
  generalize pokI n h y = k4 at *
  cases k3
  · obtain ⟨rfl, rfl, rfl, rfl, rfl⟩ := HR.out
    go_wp2_with first
      | (go_at_call 13; refine (p2 _).mono ?_; clear p2; rintro e w4 ⟨rfl, q⟩; replace O := O.below q; replace s10 := s10.below q; replace s11 := s11.below q; replace hb := hb.trans (q.mono hb.size); clear q; have t10 := s11.cell 0 _ rfl; have t11 := s11.cell 1 _ rfl; have b2 : Own w4 (w.heap.size + 1 + 1) _ := O.get 2 _ rfl; have ce20 := b2.cell 0 _ rfl; have ce21 := b2.cell 1 _ rfl; have b3 : Own w4 (w.heap.size + 1 + 1 + 1) _ := O.get 3 _ rfl; have ce30 := b3.cell 0 _ rfl; have ce31 := b3.cell 1 _ rfl; have y20 := b2.frz 0 _ rfl; have y21 := b2.frz 1 _ rfl; have y30 := b3.frz 0 _ rfl; have y31 := b3.frz 1 _ rfl)
      | (go_at_call 13; refine (p3 _).mono ?_; clear p3; rintro e w5 ⟨rfl, q⟩; replace O := O.below q; replace s10 := s10.below q; replace s11 := s11.below q; replace hb := hb.trans (q.mono hb.size); clear q; have t00 := s10.cell 0 _ rfl; have t01 := s10.cell 1 _ rfl; have t10 := s11.cell 0 _ rfl; have t11 := s11.cell 1 _ rfl; have b2 : Own w5 (w.heap.size + 1 + 1) _ := O.get 2 _ rfl; have ce20 := b2.cell 0 _ rfl; have ce21 := b2.cell 1 _ rfl; have b3 : Own w5 (w.heap.size + 1 + 1 + 1) _ := O.get 3 _ rfl; have ce30 := b3.cell 0 _ rfl; have ce31 := b3.cell 1 _ rfl; have y20 := b2.frz 0 _ rfl; have y21 := b2.frz 1 _ rfl; have y30 := b3.frz 0 _ rfl; have y31 := b3.frz 1 _ rfl)
    exact twoEndS rfl (O.get 2 _ rfl : Own _ (w.heap.size + 1 + 1) _) (O.get 3 _ rfl : Own _ (w.heap.size + 1 + 1 + 1) _) hb (by omega) (by omega) (by omega) rfl rfl rfl
  · cases k4
    · obtain ⟨rfl, rfl, rfl, rfl, rfl⟩ := HR.out
      go_wp2_with first
        | (go_at_call 13; refine (p2 _).mono ?_; clear p2; rintro e w4 ⟨rfl, q⟩; replace O := O.below q; replace s10 := s10.below q; replace s11 := s11.below q; replace hb := hb.trans (q.mono hb.size); clear q; have t10 := s11.cell 0 _ rfl; have t11 := s11.cell 1 _ rfl; have b2 : Own w4 (w.heap.size + 1 + 1) _ := O.get 2 _ rfl; have ce20 := b2.cell 0 _ rfl; have ce21 := b2.cell 1 _ rfl; have b3 : Own w4 (w.heap.size + 1 + 1 + 1) _ := O.get 3 _ rfl; have ce30 := b3.cell 0 _ rfl; have ce31 := b3.cell 1 _ rfl; have y20 := b2.frz 0 _ rfl; have y21 := b2.frz 1 _ rfl; have y30 := b3.frz 0 _ rfl; have y31 := b3.frz 1 _ rfl)
        | (go_at_call 13; refine (p3 _).mono ?_; clear p3; rintro e w5 ⟨rfl, q⟩; replace O := O.below q; replace s10 := s10.below q; replace s11 := s11.below q; replace hb := hb.trans (q.mono hb.size); clear q; have t00 := s10.cell 0 _ rfl; have t01 := s10.cell 1 _ rfl; have t10 := s11.cell 0 _ rfl; have t11 := s11.cell 1 _ rfl; have b2 : Own w5 (w.heap.size + 1 + 1) _ := O.get 2 _ rfl; have ce20 := b2.cell 0 _ rfl; have ce21 := b2.cell 1 _ rfl; have b3 : Own w5 (w.heap.size + 1 + 1 + 1) _ := O.get 3 _ rfl; have ce30 := b3.cell 0 _ rfl; have ce31 := b3.cell 1 _ rfl; have y20 := b2.frz 0 _ rfl; have y21 := b2.frz 1 _ rfl; have y30 := b3.frz 0 _ rfl; have y31 := b3.frz 1 _ rfl)
      exact twoEndS rfl (O.get 2 _ rfl : Own _ (w.heap.size + 1 + 1) _) (O.get 3 _ rfl : Own _ (w.heap.size + 1 + 1 + 1) _) hb (by omega) (by omega) (by omega) rfl rfl rfl
    · by_cases kk : gapI h y < gapI x g
      · obtain ⟨rfl, e0, e1, e2, e3⟩ := HR.out
        rw [show (true && true) = true from rfl, if_pos rfl, if_pos kk] at e0 e1 e2 e3
        replace e0 := e0.symm
        replace e1 := e1.symm
        replace e2 := e2.symm
        replace e3 := e3.symm
        subst e0 e1 e2 e3
        go_wp2_with first
          | (go_at_call 13; refine (p2 _).mono ?_; clear p2; rintro e w4 ⟨rfl, q⟩; replace O := O.below q; replace s10 := s10.below q; replace s11 := s11.below q; replace hb := hb.trans (q.mono hb.size); clear q; have t10 := s11.cell 0 _ rfl; have t11 := s11.cell 1 _ rfl; have b2 : Own w4 (w.heap.size + 1 + 1) _ := O.get 2 _ rfl; have ce20 := b2.cell 0 _ rfl; have ce21 := b2.cell 1 _ rfl; have b3 : Own w4 (w.heap.size + 1 + 1 + 1) _ := O.get 3 _ rfl; have ce30 := b3.cell 0 _ rfl; have ce31 := b3.cell 1 _ rfl; have y20 := b2.frz 0 _ rfl; have y21 := b2.frz 1 _ rfl; have y30 := b3.frz 0 _ rfl; have y31 := b3.frz 1 _ rfl)
          | (go_at_call 13; refine (p3 _).mono ?_; clear p3; rintro e w5 ⟨rfl, q⟩; replace O := O.below q; replace s10 := s10.below q; replace s11 := s11.below q; replace hb := hb.trans (q.mono hb.size); clear q; have t00 := s10.cell 0 _ rfl; have t01 := s10.cell 1 _ rfl; have t10 := s11.cell 0 _ rfl; have t11 := s11.cell 1 _ rfl; have b2 : Own w5 (w.heap.size + 1 + 1) _ := O.get 2 _ rfl; have ce20 := b2.cell 0 _ rfl; have ce21 := b2.cell 1 _ rfl; have b3 : Own w5 (w.heap.size + 1 + 1 + 1) _ := O.get 3 _ rfl; have ce30 := b3.cell 0 _ rfl; have ce31 := b3.cell 1 _ rfl; have y20 := b2.frz 0 _ rfl; have y21 := b2.frz 1 _ rfl; have y30 := b3.frz 0 _ rfl; have y31 := b3.frz 1 _ rfl)
        have l4 := s10.lt
        have l5 := s11.lt
        refine region_below (by kernel_rfl) (by kernel_rfl) ?_
        repeat (first
          | go_big_quiet_step (first
            | (intro hC; go_at_call 44; exact Calls.qb hC (spanOf' _ _ _ (by assumption) (by assumption)))
            | (intro _; rfl))
          | (go_big_quiet_want
             go_big_quiet_op
             refine ⟨.agg #[.int .i64 h, .int .i64 y], ?_, ?_⟩
             · intro W hC
               have r0 := (hC.cell (p := ⟨k11, 0, none⟩) l5).trans t10
               have r1 := (hC.cell (p := ⟨k11, 1, none⟩) l5).trans t11
               go_simp
             go_big_quiet_on)
          | (go_big_quiet_want
             go_big_quiet_op
             refine ⟨.agg #[.int .i64 x, .int .i64 g], ?_, ?_⟩
             · intro W hC
               have r0 := (hC.cell (p := ⟨k10, 0, none⟩) l4).trans t00
               have r1 := (hC.cell (p := ⟨k10, 1, none⟩) l4).trans t01
               go_simp
             go_big_quiet_on))
        refine wpQuiet_nil ?_
        intro w6 q4
        replace hb := hb.trans (q4.mono hb.size)
        replace O := O.below q4
        replace s10 := s10.below q4
        replace s11 := s11.below q4
        clear q4
        go_wp2
        have b2 : Own w6 (w.heap.size + 1 + 1) _ := O.get 2 _ rfl
        have b3 : Own w6 (w.heap.size + 1 + 1 + 1) _ := O.get 3 _ rfl
        have z20 := b2.cell 0 _ rfl
        have z21 := b2.cell 1 _ rfl
        have z30 := b3.cell 0 _ rfl
        have z31 := b3.cell 1 _ rfl
        have z40 := s10.cell 0 _ rfl
        have z41 := s10.cell 1 _ rfl
        have z50 := s11.cell 0 _ rfl
        have z51 := s11.cell 1 _ rfl
        have v20 := b2.frz 0 _ rfl
        have v21 := b2.frz 1 _ rfl
        have v30 := b3.frz 0 _ rfl
        have v31 := b3.frz 1 _ rfl
        go_region
        go_wp2
        exact twoEndD rfl b2 b3 hb (by omega) (by omega) (by omega) rfl rfl rfl
      · obtain ⟨rfl, e0, e1, e2, e3⟩ := HR.out
        rw [show (true && true) = true from rfl, if_pos rfl, if_neg kk] at e0 e1 e2 e3
        replace e0 := e0.symm
        replace e1 := e1.symm
        replace e2 := e2.symm
        replace e3 := e3.symm
        subst e0 e1 e2 e3
        go_wp2_with first
          | (go_at_call 13; refine (p2 _).mono ?_; clear p2; rintro e w4 ⟨rfl, q⟩; replace O := O.below q; replace s10 := s10.below q; replace s11 := s11.below q; replace hb := hb.trans (q.mono hb.size); clear q; have t10 := s11.cell 0 _ rfl; have t11 := s11.cell 1 _ rfl; have b2 : Own w4 (w.heap.size + 1 + 1) _ := O.get 2 _ rfl; have ce20 := b2.cell 0 _ rfl; have ce21 := b2.cell 1 _ rfl; have b3 : Own w4 (w.heap.size + 1 + 1 + 1) _ := O.get 3 _ rfl; have ce30 := b3.cell 0 _ rfl; have ce31 := b3.cell 1 _ rfl; have y20 := b2.frz 0 _ rfl; have y21 := b2.frz 1 _ rfl; have y30 := b3.frz 0 _ rfl; have y31 := b3.frz 1 _ rfl)
          | (go_at_call 13; refine (p3 _).mono ?_; clear p3; rintro e w5 ⟨rfl, q⟩; replace O := O.below q; replace s10 := s10.below q; replace s11 := s11.below q; replace hb := hb.trans (q.mono hb.size); clear q; have t00 := s10.cell 0 _ rfl; have t01 := s10.cell 1 _ rfl; have t10 := s11.cell 0 _ rfl; have t11 := s11.cell 1 _ rfl; have b2 : Own w5 (w.heap.size + 1 + 1) _ := O.get 2 _ rfl; have ce20 := b2.cell 0 _ rfl; have ce21 := b2.cell 1 _ rfl; have b3 : Own w5 (w.heap.size + 1 + 1 + 1) _ := O.get 3 _ rfl; have ce30 := b3.cell 0 _ rfl; have ce31 := b3.cell 1 _ rfl; have y20 := b2.frz 0 _ rfl; have y21 := b2.frz 1 _ rfl; have y30 := b3.frz 0 _ rfl; have y31 := b3.frz 1 _ rfl)
        have l4 := s10.lt
        have l5 := s11.lt
        refine region_below (by kernel_rfl) (by kernel_rfl) ?_
        repeat (first
          | go_big_quiet_step (first
            | (intro hC; go_at_call 44; exact Calls.qb hC (spanOf' _ _ _ (by assumption) (by assumption)))
            | (intro _; rfl))
          | (go_big_quiet_want
             go_big_quiet_op
             refine ⟨.agg #[.int .i64 h, .int .i64 y], ?_, ?_⟩
             · intro W hC
               have r0 := (hC.cell (p := ⟨k11, 0, none⟩) l5).trans t10
               have r1 := (hC.cell (p := ⟨k11, 1, none⟩) l5).trans t11
               go_simp
             go_big_quiet_on)
          | (go_big_quiet_want
             go_big_quiet_op
             refine ⟨.agg #[.int .i64 x, .int .i64 g], ?_, ?_⟩
             · intro W hC
               have r0 := (hC.cell (p := ⟨k10, 0, none⟩) l4).trans t00
               have r1 := (hC.cell (p := ⟨k10, 1, none⟩) l4).trans t01
               go_simp
             go_big_quiet_on))
        refine wpQuiet_nil ?_
        intro w6 q4
        replace hb := hb.trans (q4.mono hb.size)
        replace O := O.below q4
        replace s10 := s10.below q4
        replace s11 := s11.below q4
        clear q4
        go_wp2
        have b2 : Own w6 (w.heap.size + 1 + 1) _ := O.get 2 _ rfl
        have b3 : Own w6 (w.heap.size + 1 + 1 + 1) _ := O.get 3 _ rfl
        have z20 := b2.cell 0 _ rfl
        have z21 := b2.cell 1 _ rfl
        have z30 := b3.cell 0 _ rfl
        have z31 := b3.cell 1 _ rfl
        have z40 := s10.cell 0 _ rfl
        have z41 := s10.cell 1 _ rfl
        have z50 := s11.cell 0 _ rfl
        have z51 := s11.cell 1 _ rfl
        have v20 := b2.frz 0 _ rfl
        have v21 := b2.frz 1 _ rfl
        have v30 := b3.frz 0 _ rfl
        have v31 := b3.frz 1 _ rfl
        go_region
        go_wp2
        exact twoEndD rfl b2 b3 hb (by omega) (by omega) (by omega) rfl rfl rfl

end Go.Proofs.Yteohgmmenlinbab
