/- PairMore and PairLess of the model and of the program: contracts. -/
import Derived.Test.YteohgmmenlinbaiPairA
import Derived.Test.YteohgmmenlinbaiRegInv
import Derived.Test.YteohgmmenlinbaiPairE
import Derived.Test.YteohgmmenlinbaiImplC
import Derived.Test.YteohgmmenlinbaiSpecW
import Derived.Test.YteohgmmenlinbaiPokOk
namespace Go.Proofs.Yteohgmmenlinbai
open Go.ChangeShapes Go.WideShapes Go.ChangeAt Go.RowKit
set_option linter.unusedVariables false

set_option maxHeartbeats 2000000 in
theorem specMore (w : World) (x y : Int) (a1 : (Lit.int .i64 x).wf = true) (a2 : (Lit.int .i64 y).wf = true) :
    Calls Try.prog 13 #[.agg #[.int .i64 x, .int .i64 y]] w (PairOut w (if pokI 32 x y = true then widI x else 0) (if pokI 32 x y = true then widI y else 0) (pokI 32 x y)) := by
  have p0 := fun W => specPairOk W 32 x y a1 a2
  have o0 := (Own.new w #[.int .i64 x, .int .i64 y] 38).alloc (.cells #[.int .i64 0, .int .i64 0] 38)
  have o2 := Own.new (w.alloc (.cells #[.int .i64 x, .int .i64 y] 38)) #[.int .i64 0, .int .i64 0] 38
  rw [World.size_alloc] at o2
  have hb := ((Below.refl _ w).alloc (Nat.le_refl _) (.cells #[.int .i64 x, .int .i64 y] 38)).alloc (by simp) (.cells #[.int .i64 0, .int .i64 0] 38)
  have c0 := o0.cell 0 _ rfl
  have c1 := o0.cell 1 _ rfl
  by_cases hk : pokI 32 x y = true
  · rw [if_pos hk, if_pos hk]
    rw [hk] at p0 ⊢
    have hx := (okI_32 x).1 (pok_ok hk).1
    have hy := (okI_32 y).1 (pok_ok hk).2
    have m0 := fun W => specWide W x hx.1 hx.2
    have m1 := fun W => specWide W y hy.1 hy.2
    generalize widI x = u at *
    generalize widI y = v at *
    go_enter Try.func13, Try.ntmps13
    go_wp2_with (go_at_call 22; refine (p0 _).mono ?_; clear p0; rintro e w2 ⟨rfl, q⟩; replace o0 := o0.below q; replace o2 := o2.below q; replace hb := hb.trans (q.mono hb.size); clear q; have c0 := o0.cell 0 _ rfl; have c1 := o0.cell 1 _ rfl)
    have l0 := o0.lt
    have l2 := o2.lt
    refine region_steps (by kernel_rfl) (by kernel_rfl) (by kernel_rfl) (fun A0 f a W => ∃ (x8 : Value) (x9 : Value) (x10 : Value) (x11 : Value) (x12 : Value) (x13 : Value) (x14 : Value) (x3 : Value), a = { tmps := #[.agg #[.int .i64 x, .int .i64 y], .pointer (some ⟨w.heap.size, 0, none⟩), .pointer (some ⟨w.heap.size + 1, 0, none⟩), x3, .agg #[.int .i64 x, .int .i64 y], .bool true, .bool false, undef, x8, x9, x10, x11, x12, x13, x14], defers := [] } ∧ (f 0 = true → x8 = .pointer (some ⟨w.heap.size, 0, none⟩)) ∧ (f 1 = true → x9 = .int .i64 x) ∧ (f 2 = true → x10 = .int .i64 u) ∧ (f 3 = true → x11 = .pointer (some ⟨w.heap.size, 1, none⟩)) ∧ (f 4 = true → x12 = .int .i64 y) ∧ (f 5 = true → x13 = .int .i64 v) ∧ (f 6 = true → x14 = .agg #[.int .i64 u, .int .i64 v]) ∧ (f 8 = true → x3 = .bool true) ∧ ((f 7 = false → Own W (w.heap.size + 1) [.int .i64 0, .int .i64 0]) ∧ (f 7 = true → Own W (w.heap.size + 1) [.int .i64 u, .int .i64 v])) ∧ Keep (w.heap.size + 1) w2 W) ?_ ⟨?_, ?_, ?_, ?_, ?_, ?_, ?_, ?_, ?_, trivial⟩ ?_
    · exact ⟨undef, undef, undef, undef, undef, undef, undef, .bool false, rfl, (fun h => (by cases h)), (fun h => (by cases h)), (fun h => (by cases h)), (fun h => (by cases h)), (fun h => (by cases h)), (fun h => (by cases h)), (fun h => (by cases h)), (fun h => (by cases h)), ⟨fun _ => o2.drew, (fun h => (by cases h))⟩, (Keep.refl _ _).drew⟩
    · rintro f a W ⟨x8, x9, x10, x11, x12, x13, x14, x3, rfl, h0, h1, h2, h3, h4, h5, h6, h8, rz, hB⟩ hf hd K hK
      go_simp
      refine hK _ _ ?_
      exact ⟨_, x9, x10, x11, x12, x13, x14, x3, rfl, fun _ => rfl, fun h => h1 (upd_ne (by decide) h), fun h => h2 (upd_ne (by decide) h), fun h => h3 (upd_ne (by decide) h), fun h => h4 (upd_ne (by decide) h), fun h => h5 (upd_ne (by decide) h), fun h => h6 (upd_ne (by decide) h), fun h => h8 (upd_ne (by decide) h), (by obtain ⟨p4, p5⟩ := rz; exact ⟨fun h' => p4 (by rw [upd_same (by decide)] at h'; exact h'), fun h' => p5 (upd_ne (by decide) h')⟩), hB⟩
    · rintro f a W ⟨x8, x9, x10, x11, x12, x13, x14, x3, rfl, h0, h1, h2, h3, h4, h5, h6, h8, rz, hB⟩ hf hd K hK
      have e0 := h0 (dep_of hd (e := ⟨0, .data⟩) (by simp) rfl)
      subst e0
      have r0 := (hB.cell (p := ⟨w.heap.size, 0, none⟩) l0 (show (w.heap.size : Nat) ≠ w.heap.size + 1 by omega)).trans c0
      go_simp
      refine hK _ _ ?_
      exact ⟨_, _, x10, x11, x12, x13, x14, x3, rfl, fun _ => rfl, fun _ => rfl, fun h => h2 (upd_ne (by decide) h), fun h => h3 (upd_ne (by decide) h), fun h => h4 (upd_ne (by decide) h), fun h => h5 (upd_ne (by decide) h), fun h => h6 (upd_ne (by decide) h), fun h => h8 (upd_ne (by decide) h), (by obtain ⟨p4, p5⟩ := rz; exact ⟨fun h' => p4 (by rw [upd_same (by decide)] at h'; exact h'), fun h' => p5 (upd_ne (by decide) h')⟩), hB⟩
    · rintro f a W ⟨x8, x9, x10, x11, x12, x13, x14, x3, rfl, h0, h1, h2, h3, h4, h5, h6, h8, rz, hB⟩ hf hd K hK
      have e1 := h1 (dep_of hd (e := ⟨1, .data⟩) (by simp) rfl)
      subst e1
      go_simp
      refine (m0 _).mono ?_
      rintro e W2 ⟨rfl, q⟩
      refine hK _ _ ?_
      exact ⟨x8, _, _, x11, x12, x13, x14, x3, rfl, fun h => h0 (upd_ne (by decide) h), fun _ => rfl, fun _ => rfl, fun h => h3 (upd_ne (by decide) h), fun h => h4 (upd_ne (by decide) h), fun h => h5 (upd_ne (by decide) h), fun h => h6 (upd_ne (by decide) h), fun h => h8 (upd_ne (by decide) h), (by obtain ⟨p4, p5⟩ := rz; exact ⟨fun h' => (p4 (by rw [upd_same (by decide)] at h'; exact h')).below q, fun h' => (p5 (upd_ne (by decide) h')).below q⟩), hB.trans (Keep.of_below _ q)⟩
    · rintro f a W ⟨x8, x9, x10, x11, x12, x13, x14, x3, rfl, h0, h1, h2, h3, h4, h5, h6, h8, rz, hB⟩ hf hd K hK
      go_simp
      refine hK _ _ ?_
      exact ⟨x8, x9, x10, _, x12, x13, x14, x3, rfl, fun h => h0 (upd_ne (by decide) h), fun h => h1 (upd_ne (by decide) h), fun h => h2 (upd_ne (by decide) h), fun _ => rfl, fun h => h4 (upd_ne (by decide) h), fun h => h5 (upd_ne (by decide) h), fun h => h6 (upd_ne (by decide) h), fun h => h8 (upd_ne (by decide) h), (by obtain ⟨p4, p5⟩ := rz; exact ⟨fun h' => p4 (by rw [upd_same (by decide)] at h'; exact h'), fun h' => p5 (upd_ne (by decide) h')⟩), hB⟩
    · rintro f a W ⟨x8, x9, x10, x11, x12, x13, x14, x3, rfl, h0, h1, h2, h3, h4, h5, h6, h8, rz, hB⟩ hf hd K hK
      have e3 := h3 (dep_of hd (e := ⟨3, .data⟩) (by simp) rfl)
      subst e3
      have r0 := (hB.cell (p := ⟨w.heap.size, 1, none⟩) l0 (show (w.heap.size : Nat) ≠ w.heap.size + 1 by omega)).trans c1
      go_simp
      refine hK _ _ ?_
      exact ⟨x8, x9, x10, _, _, x13, x14, x3, rfl, fun h => h0 (upd_ne (by decide) h), fun h => h1 (upd_ne (by decide) h), fun h => h2 (upd_ne (by decide) h), fun _ => rfl, fun _ => rfl, fun h => h5 (upd_ne (by decide) h), fun h => h6 (upd_ne (by decide) h), fun h => h8 (upd_ne (by decide) h), (by obtain ⟨p4, p5⟩ := rz; exact ⟨fun h' => p4 (by rw [upd_same (by decide)] at h'; exact h'), fun h' => p5 (upd_ne (by decide) h')⟩), hB⟩
    · rintro f a W ⟨x8, x9, x10, x11, x12, x13, x14, x3, rfl, h0, h1, h2, h3, h4, h5, h6, h8, rz, hB⟩ hf hd K hK
      have e4 := h4 (dep_of hd (e := ⟨4, .data⟩) (by simp) rfl)
      subst e4
      go_simp
      refine (m1 _).mono ?_
      rintro e W2 ⟨rfl, q⟩
      refine hK _ _ ?_
      exact ⟨x8, x9, x10, x11, _, _, x14, x3, rfl, fun h => h0 (upd_ne (by decide) h), fun h => h1 (upd_ne (by decide) h), fun h => h2 (upd_ne (by decide) h), fun h => h3 (upd_ne (by decide) h), fun _ => rfl, fun _ => rfl, fun h => h6 (upd_ne (by decide) h), fun h => h8 (upd_ne (by decide) h), (by obtain ⟨p4, p5⟩ := rz; exact ⟨fun h' => (p4 (by rw [upd_same (by decide)] at h'; exact h')).below q, fun h' => (p5 (upd_ne (by decide) h')).below q⟩), hB.trans (Keep.of_below _ q)⟩
    · rintro f a W ⟨x8, x9, x10, x11, x12, x13, x14, x3, rfl, h0, h1, h2, h3, h4, h5, h6, h8, rz, hB⟩ hf hd K hK
      have e2 := h2 (dep_of hd (e := ⟨2, .data⟩) (by simp) rfl)
      subst e2
      have e5 := h5 (dep_of hd (e := ⟨5, .data⟩) (by simp) rfl)
      subst e5
      go_simp
      refine hK _ _ ?_
      exact ⟨x8, x9, _, x11, x12, _, _, x3, rfl, fun h => h0 (upd_ne (by decide) h), fun h => h1 (upd_ne (by decide) h), fun _ => rfl, fun h => h3 (upd_ne (by decide) h), fun h => h4 (upd_ne (by decide) h), fun _ => rfl, fun _ => rfl, fun h => h8 (upd_ne (by decide) h), (by obtain ⟨p4, p5⟩ := rz; exact ⟨fun h' => p4 (by rw [upd_same (by decide)] at h'; exact h'), fun h' => p5 (upd_ne (by decide) h')⟩), hB⟩
    · rintro f a W ⟨x8, x9, x10, x11, x12, x13, x14, x3, rfl, h0, h1, h2, h3, h4, h5, h6, h8, rz, hB⟩ hf hd K hK
      have e6 := h6 (dep_of hd (e := ⟨6, .data⟩) (by simp) rfl)
      subst e6
      have oz := rz.1 hf
      have r0 := oz.cell 0 _ rfl
      have o0 := oz.frz 0 _ rfl
      have r1 := oz.cell 1 _ rfl
      have o1 := oz.frz 1 _ rfl
      go_simp
      refine hK _ _ ?_
      exact ⟨x8, x9, x10, x11, x12, x13, _, x3, rfl, fun h => h0 (upd_ne (by decide) h), fun h => h1 (upd_ne (by decide) h), fun h => h2 (upd_ne (by decide) h), fun h => h3 (upd_ne (by decide) h), fun h => h4 (upd_ne (by decide) h), fun h => h5 (upd_ne (by decide) h), fun _ => rfl, fun h => h8 (upd_ne (by decide) h), ⟨fun h' => (by rw [upd_self] at h'; cases h'), fun _ => Own.set (i := 1) (Own.set (i := 0) (oz) _ (by simp)) _ (by simp)⟩, ((hB.setCell (p := ⟨w.heap.size + 1, 0, none⟩) rfl _).setCell (p := ⟨w.heap.size + 1, 1, none⟩) rfl _)⟩
    · rintro f a W ⟨x8, x9, x10, x11, x12, x13, x14, x3, rfl, h0, h1, h2, h3, h4, h5, h6, h8, rz, hB⟩ hf hd K hK
      go_simp
      refine hK _ _ ?_
      exact ⟨x8, x9, x10, x11, x12, x13, x14, _, rfl, fun h => h0 (upd_ne (by decide) h), fun h => h1 (upd_ne (by decide) h), fun h => h2 (upd_ne (by decide) h), fun h => h3 (upd_ne (by decide) h), fun h => h4 (upd_ne (by decide) h), fun h => h5 (upd_ne (by decide) h), fun h => h6 (upd_ne (by decide) h), fun _ => rfl, (by obtain ⟨p4, p5⟩ := rz; exact ⟨fun h' => p4 (by rw [upd_same (by decide)] at h'; exact h'), fun h' => p5 (upd_ne (by decide) h')⟩), hB⟩
    rintro f a WC ⟨x8, x9, x10, x11, x12, x13, x14, x3, rfl, h0, h1, h2, h3, h4, h5, h6, h8, rz, qB⟩ hall
    have e0 := h0 (hall 0 (by decide))
    subst e0
    have e1 := h1 (hall 1 (by decide))
    subst e1
    have e2 := h2 (hall 2 (by decide))
    subst e2
    have e3 := h3 (hall 3 (by decide))
    subst e3
    have e4 := h4 (hall 4 (by decide))
    subst e4
    have e5 := h5 (hall 5 (by decide))
    subst e5
    have e6 := h6 (hall 6 (by decide))
    subst e6
    have e8 := h8 (hall 8 (by decide))
    subst e8
    replace rz := rz.2 (hall 7 (by decide))
    clear hall h0 h1 h2 h3 h4 h5 h6 h8
    try dsimp only
    go_wp2
    exact pairEndO rfl rz (hb.trans (qB.below (by omega) hb.size)) rfl rfl
  · rw [if_neg hk, if_neg hk]
    rw [Bool.not_eq_true] at hk
    rw [hk] at p0 ⊢
    go_enter Try.func13, Try.ntmps13
    go_wp2_with (go_at_call 22; refine (p0 _).mono ?_; clear p0; rintro e w2 ⟨rfl, q⟩; replace o0 := o0.below q; replace o2 := o2.below q; replace hb := hb.trans (q.mono hb.size); clear q; have r0 := o2.cell 0 _ rfl; have r1 := o2.cell 1 _ rfl; have f0 := o2.frz 0 _ rfl; have f1 := o2.frz 1 _ rfl)
    exact pairEnd rfl o2 hb (by omega) rfl rfl

set_option maxHeartbeats 2000000 in
theorem implMore (w : World) (x y : Int) (a1 : (Lit.int .i64 x).wf = true) (a2 : (Lit.int .i64 y).wf = true) :
    Calls Try.prog 18 #[.agg #[.int .i64 x, .int .i64 y]] w (PairOut w (if pokI 32 x y = true then widI x else 0) (if pokI 32 x y = true then widI y else 0) (pokI 32 x y)) := by
  have p0 := fun W => implPairOk W 32 x y a1 a2
  have o0 := (Own.new w #[.int .i64 x, .int .i64 y] 38).alloc (.cells #[.int .i64 0, .int .i64 0] 38)
  have o2 := Own.new (w.alloc (.cells #[.int .i64 x, .int .i64 y] 38)) #[.int .i64 0, .int .i64 0] 38
  rw [World.size_alloc] at o2
  have hb := ((Below.refl _ w).alloc (Nat.le_refl _) (.cells #[.int .i64 x, .int .i64 y] 38)).alloc (by simp) (.cells #[.int .i64 0, .int .i64 0] 38)
  have c0 := o0.cell 0 _ rfl
  have c1 := o0.cell 1 _ rfl
  by_cases hk : pokI 32 x y = true
  · rw [if_pos hk, if_pos hk]
    rw [hk] at p0 ⊢
    have hx := (okI_32 x).1 (pok_ok hk).1
    have hy := (okI_32 y).1 (pok_ok hk).2
    have m0 := fun W => implWidenOk W x hx.1 hx.2
    have m1 := fun W => implWidenOk W y hy.1 hy.2
    generalize widI x = u at *
    generalize widI y = v at *
    go_enter Try.func18, Try.ntmps18
    go_wp2_with first
      | (go_at_call 26; refine (p0 _).mono ?_; clear p0; rintro e w2 ⟨rfl, q⟩; replace o0 := o0.below q; replace o2 := o2.below q; replace hb := hb.trans (q.mono hb.size); clear q; have c0 := o0.cell 0 _ rfl; have c1 := o0.cell 1 _ rfl)
      | (go_at_call 28; refine (m0 _).mono ?_; clear m0; rintro e w3 ⟨rfl, q⟩; replace o0 := o0.below q; replace o2 := o2.below q; replace hb := hb.trans (q.mono hb.size); clear q; have c0 := o0.cell 0 _ rfl; have c1 := o0.cell 1 _ rfl)
      | (go_at_call 28; refine (m1 _).mono ?_; clear m1; rintro e w4 ⟨rfl, q⟩; replace o0 := o0.below q; replace o2 := o2.below q; replace hb := hb.trans (q.mono hb.size); clear q; have r0 := o2.cell 0 _ rfl; have r1 := o2.cell 1 _ rfl; have f0 := o2.frz 0 _ rfl; have f1 := o2.frz 1 _ rfl)
    exact pairEnd rfl o2 hb (by omega) rfl rfl
  · rw [if_neg hk, if_neg hk]
    rw [Bool.not_eq_true] at hk
    rw [hk] at p0 ⊢
    go_enter Try.func18, Try.ntmps18
    go_wp2_with (go_at_call 26; refine (p0 _).mono ?_; clear p0; rintro e w2 ⟨rfl, q⟩; replace o0 := o0.below q; replace o2 := o2.below q; replace hb := hb.trans (q.mono hb.size); clear q; have r0 := o2.cell 0 _ rfl; have r1 := o2.cell 1 _ rfl; have f0 := o2.frz 0 _ rfl; have f1 := o2.frz 1 _ rfl)
    exact pairEnd rfl o2 hb (by omega) rfl rfl

end Go.Proofs.Yteohgmmenlinbai
