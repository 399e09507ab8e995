/- The walk of the exact law of BoxHalved: it returns true. -/
import Derived.Test.YteohgmmenlinbahBoxHS
import Derived.Test.YteohgmmenlinbahBoxL
import Derived.Test.YteohgmmenlinbahBoxT2
namespace Go.Proofs.Yteohgmmenlinbah
open Go.ChangeShapes Go.WideShapes Go.ChangeAt Go.RowKit
set_option linter.unusedVariables false

set_option maxRecDepth 100000 in
set_option maxHeartbeats 4000000 in
theorem walkExBoxHalved (w : World) (n : Int) (wn : (Lit.int .i64 n).wf = true) (ad : Option Addr) (ps : List (Int × Int)) (cap : Nat) (h : PairsAt w ad ps) (hl : ps.length ≤ cap) (hx : ps.length ≤ maxLen) (b : Option Addr) (qs : List (Int × Int)) (cap2 : Nat) (h2 : PairsAt w b qs) (hl2 : qs.length ≤ cap2) (hx2 : qs.length ≤ maxLen) :
    Calls Try.prog 3 #[.int .i64 n, .agg #[.slice ad ps.length cap], .agg #[.slice b qs.length cap2]] w fun e w' => e = .returned (.bool true) ∧ Below w.heap.size w w' := by
  obtain ⟨len, hlen⟩ : ∃ len, ps.length = len := ⟨_, rfl⟩
  obtain ⟨len2, hlen2⟩ : ∃ len2, qs.length = len2 := ⟨_, rfl⟩
  rw [hlen] at hl hx ⊢
  rw [hlen2] at hl2 hx2 ⊢
  have T := TwoArgs.new len len2 cap cap2 h h2
  clear h h2
  have hz := fun W => szBox W ad len cap 1048576 (by omega) (by omega) hx
  have c0 := T.oA.cell 0 _ rfl
  by_cases hm : len ≤ 1048576
  · rw [if_neg (by omega)] at hz
    have hpos : ¬ (1048576 : Int) - len < 0 := by omega
    have hz2 := fun W => szBox W b len2 cap2 (1048576 - len) (by omega) (by omega) hx2
    by_cases hm3 : (1048576 - len : Int) < len2
    · rw [if_pos hm3] at hz2
      have hneg : (-1 : Int) < 0 := by omega
      go_enter Try.func3, Try.ntmps3
      go_wp2_with first
        | (go_at_call 9; refine (hz _).mono ?_; clear hz; rintro e w1 ⟨rfl, q⟩; replace T := T.below q; clear q; have c1 := T.oB.cell 0 _ rfl)
        | (go_at_call 9; refine (hz2 _).mono ?_; clear hz2; rintro e w2 ⟨rfl, q⟩; replace T := T.below q; clear q)
      go_ret
      exact ⟨rfl, T.bl⟩
    · rw [if_neg hm3] at hz2
      have hpos2 : ¬ (1048576 : Int) - len - len2 < 0 := by omega
      have hm2 : len2 ≤ 1048576 := by omega
      have hs := fun W (c d : Option Addr) (x : PairsAt W c ps) (y : PairsAt W d qs) => specBoxHalved W n c d ps qs len len2 x y (by omega) (by omega) (by omega) (by omega)
      have hi := fun W (c d : Option Addr) (x : PairsAt W c ps) (y : PairsAt W d qs) => implBoxHalved W n c d ps qs len len2 x y (by omega) (by omega) (by omega) (by omega)
      rw [hlen, hlen2] at hs hi
      obtain ⟨L1, hL1⟩ : ∃ L1 : Int, 1048576 - (len : Int) = L1 := ⟨_, rfl⟩
      rw [hL1] at hz hz2 hpos hpos2
      obtain ⟨L2, hL2⟩ : ∃ L2 : Int, L1 - (len2 : Int) = L2 := ⟨_, rfl⟩
      rw [hL2] at hz2 hpos2
      generalize halvedI n ps qs = B at *
      have t1 := fun W h => toBox W ad ps len cap hlen h hl hm
      have t2 := fun W h => toBox W b qs len2 cap2 hlen2 h hl2 hm2
      go_enter Try.func3, Try.ntmps3
      go_wp2_with first
        | (go_at_call 9; refine (hz _).mono ?_; clear hz; rintro e w1 ⟨rfl, q⟩; replace T := T.below q; clear q; have c1 := T.oB.cell 0 _ rfl)
        | (go_at_call 9; refine (hz2 _).mono ?_; clear hz2; rintro e w2 ⟨rfl, q⟩; replace T := T.below q; clear q)
      clear c0 c1
      have l0 := T.oA.lt
      have l1 := T.oB.lt
      have c0 := T.oA.cell 0 _ rfl
      have c1 := T.oB.cell 0 _ rfl
      refine region_steps (by kernel_rfl) (by kernel_rfl) (by kernel_rfl) (fun A0 f a W => ∃ (x22 : Value) (x23 : Value) (x24 : Value) (x25 : Value) (x26 : Value) (x27 : Value) (x8 : Value) (rg2 : Nat) (rg4 : Nat), a = { tmps := #[.int .i64 n, .agg #[.slice ad len cap], .agg #[.slice b len2 cap2], undef, .pointer (some ⟨w.heap.size, 0, none⟩), .pointer (some ⟨w.heap.size + 1, 0, none⟩), .bool false, .int .i64 L2, x8, undef, undef, undef, .agg #[.slice ad len cap], .int .i64 1048576, .int .i64 L1, .int .i64 L1, .bool (decide (L1 < 0)), .agg #[.slice b len2 cap2], .int .i64 L1, .int .i64 L2, .int .i64 L2, .bool (decide (L2 < 0)), x22, x23, x24, x25, x26, x27, undef, undef, undef, undef, undef, undef, undef, undef, undef, undef, undef, undef, undef, undef, undef, undef, undef, undef, undef, undef, undef], defers := [] } ∧ (f 0 = true → x22 = .int .i64 n) ∧ (f 1 = true → x23 = .agg #[.slice ad len cap]) ∧ (f 2 = true → x24 = .agg #[.slice (some ⟨rg2, 0, none⟩) len len] ∧ w2.heap.size ≤ rg2 ∧ OwnP W rg2 ps) ∧ (f 3 = true → x25 = .agg #[.slice b len2 cap2]) ∧ (f 4 = true → x26 = .agg #[.slice (some ⟨rg4, 0, none⟩) len2 len2] ∧ w2.heap.size ≤ rg4 ∧ OwnP W rg4 qs) ∧ (f 5 = true → x27 = .bool B) ∧ (f 6 = true → x8 = .bool B) ∧ Below w2.heap.size w2 W) ?_ ⟨?_, ?_, ?_, ?_, ?_, ?_, ?_, trivial⟩ ?_
      · exact ⟨undef, undef, undef, undef, undef, undef, undef, 0, 0, rfl, (fun h => (by cases h)), (fun h => (by cases h)), (fun h => (by cases h)), (fun h => (by cases h)), (fun h => (by cases h)), (fun h => (by cases h)), (fun h => (by cases h)), (Below.refl _ _).drew⟩
      · rintro f a W ⟨x22, x23, x24, x25, x26, x27, x8, rg2, rg4, rfl, h0, h1, h2, h3, h4, h5, h6, hB⟩ hf hd K hK
        go_simp
        refine hK _ _ ?_
        exact ⟨_, x23, x24, x25, x26, x27, x8, rg2, rg4, rfl, fun _ => rfl, fun h => h1 (upd_ne (by decide) h), fun h => h2 (upd_ne (by decide) h), fun h => h3 (upd_ne (by decide) h), fun h => h4 (upd_ne (by decide) h), fun h => h5 (upd_ne (by decide) h), fun h => h6 (upd_ne (by decide) h), hB⟩
      · rintro f a W ⟨x22, x23, x24, x25, x26, x27, x8, rg2, rg4, rfl, h0, h1, h2, h3, h4, h5, h6, hB⟩ hf hd K hK
        have r0 := (hB.cell (p := ⟨w.heap.size, 0, none⟩) l0).trans c0
        go_simp
        refine hK _ _ ?_
        exact ⟨x22, _, x24, x25, x26, x27, x8, rg2, rg4, rfl, fun h => h0 (upd_ne (by decide) h), fun _ => rfl, fun h => h2 (upd_ne (by decide) h), fun h => h3 (upd_ne (by decide) h), fun h => h4 (upd_ne (by decide) h), fun h => h5 (upd_ne (by decide) h), fun h => h6 (upd_ne (by decide) h), hB⟩
      · rintro f a W ⟨x22, x23, x24, x25, x26, x27, x8, rg2, rg4, rfl, h0, h1, h2, h3, h4, h5, h6, hB⟩ hf hd K hK
        have e1 := h1 (dep_of hd (e := ⟨1, .data⟩) (by simp) rfl)
        subst e1
        go_simp
        refine (toBox _ ad ps len cap hlen (T.pA.below hB) hl hm).mono ?_
        rintro e W2 ⟨G, hG, rfl, on, q⟩
        refine hK _ _ ?_
        exact ⟨x22, _, _, x25, x26, x27, x8, G, rg4, rfl, fun h => h0 (upd_ne (by decide) h), fun _ => rfl, fun _ => ⟨rfl, Nat.le_trans hB.size hG, on⟩, fun h => h3 (upd_ne (by decide) h), fun h => (by obtain ⟨p1, p2, p3⟩ := h4 (upd_ne (by decide) h); exact ⟨p1, p2, p3.below q⟩), fun h => h5 (upd_ne (by decide) h), fun h => h6 (upd_ne (by decide) h), hB.trans (q.mono hB.size)⟩
      · rintro f a W ⟨x22, x23, x24, x25, x26, x27, x8, rg2, rg4, rfl, h0, h1, h2, h3, h4, h5, h6, hB⟩ hf hd K hK
        have r0 := (hB.cell (p := ⟨w.heap.size + 1, 0, none⟩) l1).trans c1
        go_simp
        refine hK _ _ ?_
        exact ⟨x22, x23, x24, _, x26, x27, x8, rg2, rg4, rfl, fun h => h0 (upd_ne (by decide) h), fun h => h1 (upd_ne (by decide) h), fun h => h2 (upd_ne (by decide) h), fun _ => rfl, fun h => h4 (upd_ne (by decide) h), fun h => h5 (upd_ne (by decide) h), fun h => h6 (upd_ne (by decide) h), hB⟩
      · rintro f a W ⟨x22, x23, x24, x25, x26, x27, x8, rg2, rg4, rfl, h0, h1, h2, h3, h4, h5, h6, hB⟩ hf hd K hK
        have e3 := h3 (dep_of hd (e := ⟨3, .data⟩) (by simp) rfl)
        subst e3
        go_simp
        refine (toBox _ b qs len2 cap2 hlen2 (T.pB.below hB) hl2 hm2).mono ?_
        rintro e W2 ⟨G, hG, rfl, on, q⟩
        refine hK _ _ ?_
        exact ⟨x22, x23, x24, _, _, x27, x8, rg2, G, rfl, fun h => h0 (upd_ne (by decide) h), fun h => h1 (upd_ne (by decide) h), fun h => (by obtain ⟨p1, p2, p3⟩ := h2 (upd_ne (by decide) h); exact ⟨p1, p2, p3.below q⟩), fun _ => rfl, fun _ => ⟨rfl, Nat.le_trans hB.size hG, on⟩, fun h => h5 (upd_ne (by decide) h), fun h => h6 (upd_ne (by decide) h), hB.trans (q.mono hB.size)⟩
      · rintro f a W ⟨x22, x23, x24, x25, x26, x27, x8, rg2, rg4, rfl, h0, h1, h2, h3, h4, h5, h6, hB⟩ hf hd K hK
        have e0 := h0 (dep_of hd (e := ⟨0, .data⟩) (by simp) rfl)
        subst e0
        obtain ⟨e2, u2, o2⟩ := h2 (dep_of hd (e := ⟨2, .data⟩) (by simp) rfl)
        subst e2
        obtain ⟨e4, u4, o4⟩ := h4 (dep_of hd (e := ⟨4, .data⟩) (by simp) rfl)
        subst e4
        go_simp
        refine (hs _ _ _ (o2.at T.pA.1) (o4.at T.pB.1)).mono ?_
        rintro e W2 ⟨rfl, q⟩
        refine hK _ _ ?_
        exact ⟨_, x23, _, x25, _, _, x8, rg2, rg4, rfl, fun _ => rfl, fun h => h1 (upd_ne (by decide) h), fun h => (by obtain ⟨p1, p2, p3⟩ := h2 (upd_ne (by decide) h); exact ⟨p1, p2, p3.below q⟩), fun h => h3 (upd_ne (by decide) h), fun h => (by obtain ⟨p1, p2, p3⟩ := h4 (upd_ne (by decide) h); exact ⟨p1, p2, p3.below q⟩), fun _ => rfl, fun h => h6 (upd_ne (by decide) h), hB.trans (q.mono hB.size)⟩
      · rintro f a W ⟨x22, x23, x24, x25, x26, x27, x8, rg2, rg4, rfl, h0, h1, h2, h3, h4, h5, h6, hB⟩ hf hd K hK
        have e5 := h5 (dep_of hd (e := ⟨5, .data⟩) (by simp) rfl)
        subst e5
        go_simp
        refine hK _ _ ?_
        exact ⟨x22, x23, x24, x25, x26, _, _, rg2, rg4, rfl, fun h => h0 (upd_ne (by decide) h), fun h => h1 (upd_ne (by decide) h), fun h => h2 (upd_ne (by decide) h), fun h => h3 (upd_ne (by decide) h), fun h => h4 (upd_ne (by decide) h), fun _ => rfl, fun _ => rfl, hB⟩
      rintro f a w3 ⟨x22, x23, x24, x25, x26, x27, x8, rg2, rg4, rfl, h0, h1, h2, h3, h4, h5, h6, qB⟩ hall
      have e0 := h0 (hall 0 (by decide))
      subst e0
      have e1 := h1 (hall 1 (by decide))
      subst e1
      obtain ⟨e2, u2, s2⟩ := h2 (hall 2 (by decide))
      subst e2
      have e3 := h3 (hall 3 (by decide))
      subst e3
      obtain ⟨e4, u4, s4⟩ := h4 (hall 4 (by decide))
      subst e4
      have e5 := h5 (hall 5 (by decide))
      subst e5
      have e6 := h6 (hall 6 (by decide))
      subst e6
      clear hall h0 h1 h2 h3 h4 h5 h6
      try dsimp only
      replace T := T.below qB
      clear l0 l1 c0 c1 qB
      have c0 := T.oA.cell 0 _ rfl
      go_wp2_with first
        | (go_at_call 11; refine (t1 _ T.pA).mono ?_; clear t1; rintro e w4 ⟨Gx, hGx, rfl, ox, q⟩; replace T := T.below q; clear q
           have bx := Own.new w4 #[.slice (some ⟨Gx, 0, none⟩) len len] 29
           have q : Below w4.heap.size w4 (w4.alloc (.cells #[.slice (some ⟨Gx, 0, none⟩) len len] 29)) := (Below.refl _ _).alloc (Nat.le_refl _) _
           replace T := T.below q; replace ox := ox.below q; clear q; have c1 := T.oB.cell 0 _ rfl)
        | (go_at_call 11; refine (t2 _ T.pB).mono ?_; clear t2; rintro e w5 ⟨Gy, hGy, rfl, oy, q⟩; replace T := T.below q; replace ox := ox.below q; replace bx := bx.below q; clear q
           have bx1 := Own.new w5 #[.slice (some ⟨Gy, 0, none⟩) len2 len2] 29
           have q : Below w5.heap.size w5 (w5.alloc (.cells #[.slice (some ⟨Gy, 0, none⟩) len2 len2] 29)) := (Below.refl _ _).alloc (Nat.le_refl _) _
           replace T := T.below q; replace ox := ox.below q; replace oy := oy.below q; replace bx := bx.below q; clear q; have d0 := bx.cell 0 _ rfl; have d1 := bx1.cell 0 _ rfl)
        | (go_at_call 12; refine (hi _ _ _ (ox.at T.pA.1) (oy.at T.pB.1)).mono ?_; clear hi; rintro e w6 ⟨rfl, q⟩; replace T := T.below q; replace ox := ox.below q; replace oy := oy.below q; replace bx := bx.below q; replace bx1 := bx1.below q; clear q)
      clear c0 c1 d0 d1
      have l0 := T.oA.lt
      have c0 := T.oA.cell 0 _ rfl
      have l2 := bx.lt
      have c2 := bx.cell 0 _ rfl
      refine region_steps (by kernel_rfl) (by kernel_rfl) (by kernel_rfl) (fun A0 f a W => ∃ (x39 : Value) (x40 : Value) (x41 : Value) (x42 : Value) (x43 : Value) (sg2 : Nat), a = { tmps := #[.int .i64 n, .agg #[.slice ad len cap], .agg #[.slice b len2 cap2], undef, .pointer (some ⟨w.heap.size, 0, none⟩), .pointer (some ⟨w.heap.size + 1, 0, none⟩), .bool false, .int .i64 L2, .bool B, .pointer (some ⟨w4.heap.size, 0, none⟩), .pointer (some ⟨w5.heap.size, 0, none⟩), .bool B, .agg #[.slice ad len cap], .int .i64 1048576, .int .i64 L1, .int .i64 L1, .bool (decide (L1 < 0)), .agg #[.slice b len2 cap2], .int .i64 L1, .int .i64 L2, .int .i64 L2, .bool (decide (L2 < 0)), .int .i64 n, .agg #[.slice ad len cap], .agg #[.slice (some ⟨rg2, 0, none⟩) len len], .agg #[.slice b len2 cap2], .agg #[.slice (some ⟨rg4, 0, none⟩) len2 len2], .bool B, .agg #[.slice ad len cap], .agg #[.slice (some ⟨Gx, 0, none⟩) len len], .agg #[.slice b len2 cap2], .agg #[.slice (some ⟨Gy, 0, none⟩) len2 len2], .int .i64 n, .agg #[.slice (some ⟨Gx, 0, none⟩) len len], .agg #[.slice (some ⟨Gy, 0, none⟩) len2 len2], .bool B, .bool B, .bool B, .bool false, x39, x40, x41, x42, x43, undef, undef, undef, undef, undef], defers := [] } ∧ (f 0 = true → x39 = .agg #[.slice (some ⟨Gx, 0, none⟩) len len]) ∧ (f 1 = true → x40 = .agg #[.slice ad len cap]) ∧ (f 2 = true → x41 = .agg #[.slice (some ⟨sg2, 0, none⟩) len len] ∧ w6.heap.size ≤ sg2 ∧ OwnP W sg2 ps) ∧ (f 3 = true → x42 = .bool true) ∧ (f 4 = true → x43 = .bool false) ∧ Below w6.heap.size w6 W) ?_ ⟨?_, ?_, ?_, ?_, ?_, trivial⟩ ?_
      · exact ⟨undef, undef, undef, undef, undef, 0, rfl, (fun h => (by cases h)), (fun h => (by cases h)), (fun h => (by cases h)), (fun h => (by cases h)), (fun h => (by cases h)), (Below.refl _ _).drew⟩
      · rintro f a W ⟨x39, x40, x41, x42, x43, sg2, rfl, h0, h1, h2, h3, h4, hB⟩ hf hd K hK
        have r0 := (hB.cell (p := ⟨w4.heap.size, 0, none⟩) l2).trans c2
        go_simp
        refine hK _ _ ?_
        exact ⟨_, x40, x41, x42, x43, sg2, rfl, fun _ => rfl, fun h => h1 (upd_ne (by decide) h), fun h => h2 (upd_ne (by decide) h), fun h => h3 (upd_ne (by decide) h), fun h => h4 (upd_ne (by decide) h), hB⟩
      · rintro f a W ⟨x39, x40, x41, x42, x43, sg2, rfl, h0, h1, h2, h3, h4, hB⟩ hf hd K hK
        have r0 := (hB.cell (p := ⟨w.heap.size, 0, none⟩) l0).trans c0
        go_simp
        refine hK _ _ ?_
        exact ⟨x39, _, x41, x42, x43, sg2, rfl, fun h => h0 (upd_ne (by decide) h), fun _ => rfl, fun h => h2 (upd_ne (by decide) h), fun h => h3 (upd_ne (by decide) h), fun h => h4 (upd_ne (by decide) h), hB⟩
      · rintro f a W ⟨x39, x40, x41, x42, x43, sg2, rfl, h0, h1, h2, h3, h4, hB⟩ hf hd K hK
        have e1 := h1 (dep_of hd (e := ⟨1, .data⟩) (by simp) rfl)
        subst e1
        go_simp
        refine (toBox _ ad ps len cap hlen (T.pA.below hB) hl hm).mono ?_
        rintro e W2 ⟨G, hG, rfl, on, q⟩
        refine hK _ _ ?_
        exact ⟨x39, _, _, x42, x43, G, rfl, fun h => h0 (upd_ne (by decide) h), fun _ => rfl, fun _ => ⟨rfl, Nat.le_trans hB.size hG, on⟩, fun h => h3 (upd_ne (by decide) h), fun h => h4 (upd_ne (by decide) h), hB.trans (q.mono hB.size)⟩
      · rintro f a W ⟨x39, x40, x41, x42, x43, sg2, rfl, h0, h1, h2, h3, h4, hB⟩ hf hd K hK
        have e0 := h0 (dep_of hd (e := ⟨0, .data⟩) (by simp) rfl)
        subst e0
        obtain ⟨e2, u2, o2⟩ := h2 (dep_of hd (e := ⟨2, .data⟩) (by simp) rfl)
        subst e2
        go_simp
        refine (eqBox _ _ _ ps len len len hlen ((ox.below hB).at T.pA.1) (o2.at T.pA.1) (Nat.le_refl _) (Nat.le_refl _) hm).mono ?_
        rintro e W2 ⟨rfl, q⟩
        refine hK _ _ ?_
        exact ⟨_, x40, _, _, x43, sg2, rfl, fun _ => rfl, fun h => h1 (upd_ne (by decide) h), fun h => (by obtain ⟨p1, p2, p3⟩ := h2 (upd_ne (by decide) h); exact ⟨p1, p2, p3.below q⟩), fun _ => rfl, fun h => h4 (upd_ne (by decide) h), hB.trans (q.mono hB.size)⟩
      · rintro f a W ⟨x39, x40, x41, x42, x43, sg2, rfl, h0, h1, h2, h3, h4, hB⟩ hf hd K hK
        have e3 := h3 (dep_of hd (e := ⟨3, .data⟩) (by simp) rfl)
        subst e3
        go_simp
        refine hK _ _ ?_
        exact ⟨x39, x40, x41, _, _, sg2, rfl, fun h => h0 (upd_ne (by decide) h), fun h => h1 (upd_ne (by decide) h), fun h => h2 (upd_ne (by decide) h), fun _ => rfl, fun _ => rfl, hB⟩
      rintro f a w7 ⟨x39, x40, x41, x42, x43, sg2, rfl, h0, h1, h2, h3, h4, qB⟩ hall
      have e0 := h0 (hall 0 (by decide))
      subst e0
      have e1 := h1 (hall 1 (by decide))
      subst e1
      obtain ⟨e2, u2, s2⟩ := h2 (hall 2 (by decide))
      subst e2
      have e3 := h3 (hall 3 (by decide))
      subst e3
      have e4 := h4 (hall 4 (by decide))
      subst e4
      clear hall h0 h1 h2 h3 h4
      try dsimp only
      replace T := T.below qB
      replace oy := oy.below qB
      replace bx1 := bx1.below qB
      clear l0 c0 l2 c2 qB ox bx
      have l1 := T.oB.lt
      have c1 := T.oB.cell 0 _ rfl
      have l3 := bx1.lt
      have c3 := bx1.cell 0 _ rfl
      go_wp2
      refine region_steps (by kernel_rfl) (by kernel_rfl) (by kernel_rfl) (fun A0 f a W => ∃ (x44 : Value) (x45 : Value) (x46 : Value) (x47 : Value) (x48 : Value) (tg2 : Nat), a = { tmps := #[.int .i64 n, .agg #[.slice ad len cap], .agg #[.slice b len2 cap2], undef, .pointer (some ⟨w.heap.size, 0, none⟩), .pointer (some ⟨w.heap.size + 1, 0, none⟩), .bool false, .int .i64 L2, .bool B, .pointer (some ⟨w4.heap.size, 0, none⟩), .pointer (some ⟨w5.heap.size, 0, none⟩), .bool B, .agg #[.slice ad len cap], .int .i64 1048576, .int .i64 L1, .int .i64 L1, .bool (decide (L1 < 0)), .agg #[.slice b len2 cap2], .int .i64 L1, .int .i64 L2, .int .i64 L2, .bool (decide (L2 < 0)), .int .i64 n, .agg #[.slice ad len cap], .agg #[.slice (some ⟨rg2, 0, none⟩) len len], .agg #[.slice b len2 cap2], .agg #[.slice (some ⟨rg4, 0, none⟩) len2 len2], .bool B, .agg #[.slice ad len cap], .agg #[.slice (some ⟨Gx, 0, none⟩) len len], .agg #[.slice b len2 cap2], .agg #[.slice (some ⟨Gy, 0, none⟩) len2 len2], .int .i64 n, .agg #[.slice (some ⟨Gx, 0, none⟩) len len], .agg #[.slice (some ⟨Gy, 0, none⟩) len2 len2], .bool B, .bool B, .bool B, .bool false, .agg #[.slice (some ⟨Gx, 0, none⟩) len len], .agg #[.slice ad len cap], .agg #[.slice (some ⟨sg2, 0, none⟩) len len], .bool true, .bool false, x44, x45, x46, x47, x48], defers := [] } ∧ (f 0 = true → x44 = .agg #[.slice (some ⟨Gy, 0, none⟩) len2 len2]) ∧ (f 1 = true → x45 = .agg #[.slice b len2 cap2]) ∧ (f 2 = true → x46 = .agg #[.slice (some ⟨tg2, 0, none⟩) len2 len2] ∧ w7.heap.size ≤ tg2 ∧ OwnP W tg2 qs) ∧ (f 3 = true → x47 = .bool true) ∧ (f 4 = true → x48 = .bool false) ∧ Below w7.heap.size w7 W) ?_ ⟨?_, ?_, ?_, ?_, ?_, trivial⟩ ?_
      · exact ⟨undef, undef, undef, undef, undef, 0, rfl, (fun h => (by cases h)), (fun h => (by cases h)), (fun h => (by cases h)), (fun h => (by cases h)), (fun h => (by cases h)), (Below.refl _ _).drew⟩
      · rintro f a W ⟨x44, x45, x46, x47, x48, tg2, rfl, h0, h1, h2, h3, h4, hB⟩ hf hd K hK
        have r0 := (hB.cell (p := ⟨w5.heap.size, 0, none⟩) l3).trans c3
        go_simp
        refine hK _ _ ?_
        exact ⟨_, x45, x46, x47, x48, tg2, rfl, fun _ => rfl, fun h => h1 (upd_ne (by decide) h), fun h => h2 (upd_ne (by decide) h), fun h => h3 (upd_ne (by decide) h), fun h => h4 (upd_ne (by decide) h), hB⟩
      · rintro f a W ⟨x44, x45, x46, x47, x48, tg2, rfl, h0, h1, h2, h3, h4, hB⟩ hf hd K hK
        have r0 := (hB.cell (p := ⟨w.heap.size + 1, 0, none⟩) l1).trans c1
        go_simp
        refine hK _ _ ?_
        exact ⟨x44, _, x46, x47, x48, tg2, rfl, fun h => h0 (upd_ne (by decide) h), fun _ => rfl, fun h => h2 (upd_ne (by decide) h), fun h => h3 (upd_ne (by decide) h), fun h => h4 (upd_ne (by decide) h), hB⟩
      · rintro f a W ⟨x44, x45, x46, x47, x48, tg2, rfl, h0, h1, h2, h3, h4, hB⟩ hf hd K hK
        have e1 := h1 (dep_of hd (e := ⟨1, .data⟩) (by simp) rfl)
        subst e1
        go_simp
        refine (toBox _ b qs len2 cap2 hlen2 (T.pB.below hB) hl2 hm2).mono ?_
        rintro e W2 ⟨G, hG, rfl, on, q⟩
        refine hK _ _ ?_
        exact ⟨x44, _, _, x47, x48, G, rfl, fun h => h0 (upd_ne (by decide) h), fun _ => rfl, fun _ => ⟨rfl, Nat.le_trans hB.size hG, on⟩, fun h => h3 (upd_ne (by decide) h), fun h => h4 (upd_ne (by decide) h), hB.trans (q.mono hB.size)⟩
      · rintro f a W ⟨x44, x45, x46, x47, x48, tg2, rfl, h0, h1, h2, h3, h4, hB⟩ hf hd K hK
        have e0 := h0 (dep_of hd (e := ⟨0, .data⟩) (by simp) rfl)
        subst e0
        obtain ⟨e2, u2, o2⟩ := h2 (dep_of hd (e := ⟨2, .data⟩) (by simp) rfl)
        subst e2
        go_simp
        refine (eqBox _ _ _ qs len2 len2 len2 hlen2 ((oy.below hB).at T.pB.1) (o2.at T.pB.1) (Nat.le_refl _) (Nat.le_refl _) hm2).mono ?_
        rintro e W2 ⟨rfl, q⟩
        refine hK _ _ ?_
        exact ⟨_, x45, _, _, x48, tg2, rfl, fun _ => rfl, fun h => h1 (upd_ne (by decide) h), fun h => (by obtain ⟨p1, p2, p3⟩ := h2 (upd_ne (by decide) h); exact ⟨p1, p2, p3.below q⟩), fun _ => rfl, fun h => h4 (upd_ne (by decide) h), hB.trans (q.mono hB.size)⟩
      · rintro f a W ⟨x44, x45, x46, x47, x48, tg2, rfl, h0, h1, h2, h3, h4, hB⟩ hf hd K hK
        have e3 := h3 (dep_of hd (e := ⟨3, .data⟩) (by simp) rfl)
        subst e3
        go_simp
        refine hK _ _ ?_
        exact ⟨x44, x45, x46, _, _, tg2, rfl, fun h => h0 (upd_ne (by decide) h), fun h => h1 (upd_ne (by decide) h), fun h => h2 (upd_ne (by decide) h), fun _ => rfl, fun _ => rfl, hB⟩
      rintro f a w8 ⟨x44, x45, x46, x47, x48, tg2, rfl, h0, h1, h2, h3, h4, qB⟩ hall
      have e0 := h0 (hall 0 (by decide))
      subst e0
      have e1 := h1 (hall 1 (by decide))
      subst e1
      obtain ⟨e2, u2, s2⟩ := h2 (hall 2 (by decide))
      subst e2
      have e3 := h3 (hall 3 (by decide))
      subst e3
      have e4 := h4 (hall 4 (by decide))
      subst e4
      clear hall h0 h1 h2 h3 h4
      try dsimp only
      replace T := T.below qB
      go_wp2
      go_ret
      exact ⟨rfl, T.bl⟩
  · rw [if_pos (by omega)] at hz
    have hneg : (-1 : Int) < 0 := by omega
    go_enter Try.func3, Try.ntmps3
    go_wp2_with (go_at_call 9; refine (hz _).mono ?_; clear hz; rintro e w1 ⟨rfl, q⟩; replace T := T.below q; clear q)
    go_ret
    exact ⟨rfl, T.bl⟩

end Go.Proofs.Yteohgmmenlinbah
