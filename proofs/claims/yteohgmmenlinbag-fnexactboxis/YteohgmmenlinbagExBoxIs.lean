/- The walk of the exact law of BoxIs: it returns true. -/
import Derived.Test.YteohgmmenlinbagBoxXS
import Derived.Test.YteohgmmenlinbagBoxL
import Derived.Test.YteohgmmenlinbagBoxT2
namespace Go.Proofs.Yteohgmmenlinbag
open Go.ChangeShapes Go.WideShapes Go.ChangeAt Go.RowKit
set_option linter.unusedVariables false

set_option maxHeartbeats 4000000 in
theorem walkExBoxIs (w : World) (ad : Option Addr) (ps : List (Int × Int)) (cap : Nat) (h : PairsAt w ad ps) (hl : ps.length ≤ cap) (hx : ps.length ≤ maxLen) (b : Option Addr) (qs : List (Int × Int)) (cap2 : Nat) (h2 : PairsAt w b qs) (hl2 : qs.length ≤ cap2) (hx2 : qs.length ≤ maxLen) :
    Calls Try.prog 4 #[.agg #[.slice ad ps.length cap], .agg #[.slice b qs.length cap2]] w fun e w' => e = .returned (.bool true) ∧ Below w.heap.size w w' := by
  obtain ⟨len, hlen⟩ : ∃ len, ps.length = len := ⟨_, rfl⟩
  obtain ⟨len2, hlen2⟩ : ∃ len2, qs.length = len2 := ⟨_, rfl⟩
  rw [hlen] at hl hx ⊢
  rw [hlen2] at hl2 hx2 ⊢
  have T := TwoArgs.new len len2 cap cap2 h h2
  clear h h2
  have hz := fun W => szBox W ad len cap 1048576 (by omega) (by omega) hx
  have c0 := T.oA.cell 0 _ rfl
  by_cases hm : len ≤ 1048576
  · rw [if_neg (by omega)] at hz
    have hpos : ¬ (1048576 : Int) - len < 0 := by omega
    have hz2 := fun W => szBox W b len2 cap2 (1048576 - len) (by omega) (by omega) hx2
    by_cases hm3 : (1048576 - len : Int) < len2
    · rw [if_pos hm3] at hz2
      have hneg : (-1 : Int) < 0 := by omega
      go_enter Try.func4, Try.ntmps4
      go_wp2_with first
        | (go_at_call 8; refine (hz _).mono ?_; clear hz; rintro e w1 ⟨rfl, q⟩; replace T := T.below q; clear q; have c1 := T.oB.cell 0 _ rfl)
        | (go_at_call 8; refine (hz2 _).mono ?_; clear hz2; rintro e w2 ⟨rfl, q⟩; replace T := T.below q; clear q)
      go_ret
      exact ⟨rfl, T.bl⟩
    · rw [if_neg hm3] at hz2
      have hpos2 : ¬ (1048576 : Int) - len - len2 < 0 := by omega
      have hm2 : len2 ≤ 1048576 := by omega
      have hs := fun W (c d : Option Addr) (x : PairsAt W c ps) (y : PairsAt W d qs) => specBoxIs W c d ps qs len len2 x y (by omega) (by omega) (by omega) (by omega)
      have hi := fun W (c d : Option Addr) (x : PairsAt W c ps) (y : PairsAt W d qs) => implBoxIs W c d ps qs len len2 x y (by omega) (by omega) (by omega) (by omega)
      rw [hlen, hlen2] at hs hi
      obtain ⟨L1, hL1⟩ : ∃ L1 : Int, 1048576 - (len : Int) = L1 := ⟨_, rfl⟩
      rw [hL1] at hz hz2 hpos hpos2
      obtain ⟨L2, hL2⟩ : ∃ L2 : Int, L1 - (len2 : Int) = L2 := ⟨_, rfl⟩
      rw [hL2] at hz2 hpos2
      generalize isbI ps qs = B at *
      have t1 := fun W h => toBox W ad ps len cap hlen h hl hm
      have t2 := fun W h => toBox W b qs len2 cap2 hlen2 h hl2 hm2
      go_enter Try.func4, Try.ntmps4
      go_wp2_with first
        | (go_at_call 8; refine (hz _).mono ?_; clear hz; rintro e w1 ⟨rfl, q⟩; replace T := T.below q; clear q; have c1 := T.oB.cell 0 _ rfl)
        | (go_at_call 8; refine (hz2 _).mono ?_; clear hz2; rintro e w2 ⟨rfl, q⟩; replace T := T.below q; clear q)
      clear c0 c1
      have l0 := T.oA.lt
      have l1 := T.oB.lt
      have c0 := T.oA.cell 0 _ rfl
      have c1 := T.oB.cell 0 _ rfl
      refine region_steps (by kernel_rfl) (by kernel_rfl) (by kernel_rfl) (fun A0 f a W => ∃ (x20 : Value) (x21 : Value) (x22 : Value) (x23 : Value) (x24 : Value) (x6 : Value) (rg1 : Nat) (rg3 : Nat), a = { tmps := #[.agg #[.slice ad len cap], .agg #[.slice b len2 cap2], .pointer (some ⟨w.heap.size, 0, none⟩), .pointer (some ⟨w.heap.size + 1, 0, none⟩), .bool false, .int .i64 L2, x6, undef, undef, undef, .agg #[.slice ad len cap], .int .i64 1048576, .int .i64 L1, .int .i64 L1, .bool (decide (L1 < 0)), .agg #[.slice b len2 cap2], .int .i64 L1, .int .i64 L2, .int .i64 L2, .bool (decide (L2 < 0)), x20, x21, x22, x23, x24, undef, undef, undef, undef, undef, undef, undef, undef, undef, undef, undef, undef, undef, undef, undef, undef, undef, undef, undef, undef], defers := [] } ∧ (f 0 = true → x20 = .agg #[.slice ad len cap]) ∧ (f 1 = true → x21 = .agg #[.slice (some ⟨rg1, 0, none⟩) len len] ∧ w2.heap.size ≤ rg1 ∧ OwnP W rg1 ps) ∧ (f 2 = true → x22 = .agg #[.slice b len2 cap2]) ∧ (f 3 = true → x23 = .agg #[.slice (some ⟨rg3, 0, none⟩) len2 len2] ∧ w2.heap.size ≤ rg3 ∧ OwnP W rg3 qs) ∧ (f 4 = true → x24 = .bool B) ∧ (f 5 = true → x6 = .bool B) ∧ Below w2.heap.size w2 W) ?_ ⟨?_, ?_, ?_, ?_, ?_, ?_, trivial⟩ ?_
      · exact ⟨undef, undef, undef, undef, undef, undef, 0, 0, rfl, (fun h => (by cases h)), (fun h => (by cases h)), (fun h => (by cases h)), (fun h => (by cases h)), (fun h => (by cases h)), (fun h => (by cases h)), (Below.refl _ _).drew⟩
      · rintro f a W ⟨x20, x21, x22, x23, x24, x6, rg1, rg3, rfl, h0, h1, h2, h3, h4, h5, hB⟩ hf hd K hK
        have r0 := (hB.cell (p := ⟨w.heap.size, 0, none⟩) l0).trans c0
        go_simp
        refine hK _ _ ?_
        exact ⟨_, x21, x22, x23, x24, x6, rg1, rg3, rfl, fun _ => rfl, fun h => h1 (upd_ne (by decide) h), fun h => h2 (upd_ne (by decide) h), fun h => h3 (upd_ne (by decide) h), fun h => h4 (upd_ne (by decide) h), fun h => h5 (upd_ne (by decide) h), hB⟩
      · rintro f a W ⟨x20, x21, x22, x23, x24, x6, rg1, rg3, rfl, h0, h1, h2, h3, h4, h5, hB⟩ hf hd K hK
        have e0 := h0 (dep_of hd (e := ⟨0, .data⟩) (by simp) rfl)
        subst e0
        go_simp
        refine (toBox _ ad ps len cap hlen (T.pA.below hB) hl hm).mono ?_
        rintro e W2 ⟨G, hG, rfl, on, q⟩
        refine hK _ _ ?_
        exact ⟨_, _, x22, x23, x24, x6, G, rg3, rfl, fun _ => rfl, fun _ => ⟨rfl, Nat.le_trans hB.size hG, on⟩, fun h => h2 (upd_ne (by decide) h), fun h => (by obtain ⟨p1, p2, p3⟩ := h3 (upd_ne (by decide) h); exact ⟨p1, p2, p3.below q⟩), fun h => h4 (upd_ne (by decide) h), fun h => h5 (upd_ne (by decide) h), hB.trans (q.mono hB.size)⟩
      · rintro f a W ⟨x20, x21, x22, x23, x24, x6, rg1, rg3, rfl, h0, h1, h2, h3, h4, h5, hB⟩ hf hd K hK
        have r0 := (hB.cell (p := ⟨w.heap.size + 1, 0, none⟩) l1).trans c1
        go_simp
        refine hK _ _ ?_
        exact ⟨x20, x21, _, x23, x24, x6, rg1, rg3, rfl, fun h => h0 (upd_ne (by decide) h), fun h => h1 (upd_ne (by decide) h), fun _ => rfl, fun h => h3 (upd_ne (by decide) h), fun h => h4 (upd_ne (by decide) h), fun h => h5 (upd_ne (by decide) h), hB⟩
      · rintro f a W ⟨x20, x21, x22, x23, x24, x6, rg1, rg3, rfl, h0, h1, h2, h3, h4, h5, hB⟩ hf hd K hK
        have e2 := h2 (dep_of hd (e := ⟨2, .data⟩) (by simp) rfl)
        subst e2
        go_simp
        refine (toBox _ b qs len2 cap2 hlen2 (T.pB.below hB) hl2 hm2).mono ?_
        rintro e W2 ⟨G, hG, rfl, on, q⟩
        refine hK _ _ ?_
        exact ⟨x20, x21, _, _, x24, x6, rg1, G, rfl, fun h => h0 (upd_ne (by decide) h), fun h => (by obtain ⟨p1, p2, p3⟩ := h1 (upd_ne (by decide) h); exact ⟨p1, p2, p3.below q⟩), fun _ => rfl, fun _ => ⟨rfl, Nat.le_trans hB.size hG, on⟩, fun h => h4 (upd_ne (by decide) h), fun h => h5 (upd_ne (by decide) h), hB.trans (q.mono hB.size)⟩
      · rintro f a W ⟨x20, x21, x22, x23, x24, x6, rg1, rg3, rfl, h0, h1, h2, h3, h4, h5, hB⟩ hf hd K hK
        obtain ⟨e1, u1, o1⟩ := h1 (dep_of hd (e := ⟨1, .data⟩) (by simp) rfl)
        subst e1
        obtain ⟨e3, u3, o3⟩ := h3 (dep_of hd (e := ⟨3, .data⟩) (by simp) rfl)
        subst e3
        go_simp
        refine (hs _ _ _ (o1.at T.pA.1) (o3.at T.pB.1)).mono ?_
        rintro e W2 ⟨rfl, q⟩
        refine hK _ _ ?_
        exact ⟨x20, _, x22, _, _, x6, rg1, rg3, rfl, fun h => h0 (upd_ne (by decide) h), fun h => (by obtain ⟨p1, p2, p3⟩ := h1 (upd_ne (by decide) h); exact ⟨p1, p2, p3.below q⟩), fun h => h2 (upd_ne (by decide) h), fun h => (by obtain ⟨p1, p2, p3⟩ := h3 (upd_ne (by decide) h); exact ⟨p1, p2, p3.below q⟩), fun _ => rfl, fun h => h5 (upd_ne (by decide) h), hB.trans (q.mono hB.size)⟩
      · rintro f a W ⟨x20, x21, x22, x23, x24, x6, rg1, rg3, rfl, h0, h1, h2, h3, h4, h5, hB⟩ hf hd K hK
        have e4 := h4 (dep_of hd (e := ⟨4, .data⟩) (by simp) rfl)
        subst e4
        go_simp
        refine hK _ _ ?_
        exact ⟨x20, x21, x22, x23, _, _, rg1, rg3, rfl, fun h => h0 (upd_ne (by decide) h), fun h => h1 (upd_ne (by decide) h), fun h => h2 (upd_ne (by decide) h), fun h => h3 (upd_ne (by decide) h), fun _ => rfl, fun _ => rfl, hB⟩
      rintro f a w3 ⟨x20, x21, x22, x23, x24, x6, rg1, rg3, rfl, h0, h1, h2, h3, h4, h5, qB⟩ hall
      have e0 := h0 (hall 0 (by decide))
      subst e0
      obtain ⟨e1, u1, s1⟩ := h1 (hall 1 (by decide))
      subst e1
      have e2 := h2 (hall 2 (by decide))
      subst e2
      obtain ⟨e3, u3, s3⟩ := h3 (hall 3 (by decide))
      subst e3
      have e4 := h4 (hall 4 (by decide))
      subst e4
      have e5 := h5 (hall 5 (by decide))
      subst e5
      clear hall h0 h1 h2 h3 h4 h5
      try dsimp only
      replace T := T.below qB
      clear l0 l1 c0 c1 qB
      have c0 := T.oA.cell 0 _ rfl
      go_wp2_with first
        | (go_at_call 10; refine (t1 _ T.pA).mono ?_; clear t1; rintro e w4 ⟨Gx, hGx, rfl, ox, q⟩; replace T := T.below q; clear q
           have bx := Own.new w4 #[.slice (some ⟨Gx, 0, none⟩) len len] 30
           have q : Below w4.heap.size w4 (w4.alloc (.cells #[.slice (some ⟨Gx, 0, none⟩) len len] 30)) := (Below.refl _ _).alloc (Nat.le_refl _) _
           replace T := T.below q; replace ox := ox.below q; clear q; have c1 := T.oB.cell 0 _ rfl)
        | (go_at_call 10; refine (t2 _ T.pB).mono ?_; clear t2; rintro e w5 ⟨Gy, hGy, rfl, oy, q⟩; replace T := T.below q; replace ox := ox.below q; replace bx := bx.below q; clear q
           have bx1 := Own.new w5 #[.slice (some ⟨Gy, 0, none⟩) len2 len2] 30
           have q : Below w5.heap.size w5 (w5.alloc (.cells #[.slice (some ⟨Gy, 0, none⟩) len2 len2] 30)) := (Below.refl _ _).alloc (Nat.le_refl _) _
           replace T := T.below q; replace ox := ox.below q; replace oy := oy.below q; replace bx := bx.below q; clear q; have d0 := bx.cell 0 _ rfl; have d1 := bx1.cell 0 _ rfl)
        | (go_at_call 18; refine (hi _ _ _ (ox.at T.pA.1) (oy.at T.pB.1)).mono ?_; clear hi; rintro e w6 ⟨rfl, q⟩; replace T := T.below q; replace ox := ox.below q; replace oy := oy.below q; replace bx := bx.below q; replace bx1 := bx1.below q; clear q)
      clear c0 c1 d0 d1
      have l0 := T.oA.lt
      have c0 := T.oA.cell 0 _ rfl
      have l2 := bx.lt
      have c2 := bx.cell 0 _ rfl
      refine region_steps (by kernel_rfl) (by kernel_rfl) (by kernel_rfl) (fun A0 f a W => ∃ (x35 : Value) (x36 : Value) (x37 : Value) (x38 : Value) (x39 : Value) (sg2 : Nat), a = { tmps := #[.agg #[.slice ad len cap], .agg #[.slice b len2 cap2], .pointer (some ⟨w.heap.size, 0, none⟩), .pointer (some ⟨w.heap.size + 1, 0, none⟩), .bool false, .int .i64 L2, .bool B, .pointer (some ⟨w4.heap.size, 0, none⟩), .pointer (some ⟨w5.heap.size, 0, none⟩), .bool B, .agg #[.slice ad len cap], .int .i64 1048576, .int .i64 L1, .int .i64 L1, .bool (decide (L1 < 0)), .agg #[.slice b len2 cap2], .int .i64 L1, .int .i64 L2, .int .i64 L2, .bool (decide (L2 < 0)), .agg #[.slice ad len cap], .agg #[.slice (some ⟨rg1, 0, none⟩) len len], .agg #[.slice b len2 cap2], .agg #[.slice (some ⟨rg3, 0, none⟩) len2 len2], .bool B, .agg #[.slice ad len cap], .agg #[.slice (some ⟨Gx, 0, none⟩) len len], .agg #[.slice b len2 cap2], .agg #[.slice (some ⟨Gy, 0, none⟩) len2 len2], .agg #[.slice (some ⟨Gx, 0, none⟩) len len], .agg #[.slice (some ⟨Gy, 0, none⟩) len2 len2], .bool B, .bool B, .bool B, .bool false, x35, x36, x37, x38, x39, undef, undef, undef, undef, undef], defers := [] } ∧ (f 0 = true → x35 = .agg #[.slice (some ⟨Gx, 0, none⟩) len len]) ∧ (f 1 = true → x36 = .agg #[.slice ad len cap]) ∧ (f 2 = true → x37 = .agg #[.slice (some ⟨sg2, 0, none⟩) len len] ∧ w6.heap.size ≤ sg2 ∧ OwnP W sg2 ps) ∧ (f 3 = true → x38 = .bool true) ∧ (f 4 = true → x39 = .bool false) ∧ Below w6.heap.size w6 W) ?_ ⟨?_, ?_, ?_, ?_, ?_, trivial⟩ ?_
      · exact ⟨undef, undef, undef, undef, undef, 0, rfl, (fun h => (by cases h)), (fun h => (by cases h)), (fun h => (by cases h)), (fun h => (by cases h)), (fun h => (by cases h)), (Below.refl _ _).drew⟩
      · rintro f a W ⟨x35, x36, x37, x38, x39, sg2, rfl, h0, h1, h2, h3, h4, hB⟩ hf hd K hK
        have r0 := (hB.cell (p := ⟨w4.heap.size, 0, none⟩) l2).trans c2
        go_simp
        refine hK _ _ ?_
        exact ⟨_, x36, x37, x38, x39, sg2, rfl, fun _ => rfl, fun h => h1 (upd_ne (by decide) h), fun h => h2 (upd_ne (by decide) h), fun h => h3 (upd_ne (by decide) h), fun h => h4 (upd_ne (by decide) h), hB⟩
      · rintro f a W ⟨x35, x36, x37, x38, x39, sg2, rfl, h0, h1, h2, h3, h4, hB⟩ hf hd K hK
        have r0 := (hB.cell (p := ⟨w.heap.size, 0, none⟩) l0).trans c0
        go_simp
        refine hK _ _ ?_
        exact ⟨x35, _, x37, x38, x39, sg2, rfl, fun h => h0 (upd_ne (by decide) h), fun _ => rfl, fun h => h2 (upd_ne (by decide) h), fun h => h3 (upd_ne (by decide) h), fun h => h4 (upd_ne (by decide) h), hB⟩
      · rintro f a W ⟨x35, x36, x37, x38, x39, sg2, rfl, h0, h1, h2, h3, h4, hB⟩ hf hd K hK
        have e1 := h1 (dep_of hd (e := ⟨1, .data⟩) (by simp) rfl)
        subst e1
        go_simp
        refine (toBox _ ad ps len cap hlen (T.pA.below hB) hl hm).mono ?_
        rintro e W2 ⟨G, hG, rfl, on, q⟩
        refine hK _ _ ?_
        exact ⟨x35, _, _, x38, x39, G, rfl, fun h => h0 (upd_ne (by decide) h), fun _ => rfl, fun _ => ⟨rfl, Nat.le_trans hB.size hG, on⟩, fun h => h3 (upd_ne (by decide) h), fun h => h4 (upd_ne (by decide) h), hB.trans (q.mono hB.size)⟩
      · rintro f a W ⟨x35, x36, x37, x38, x39, sg2, rfl, h0, h1, h2, h3, h4, hB⟩ hf hd K hK
        have e0 := h0 (dep_of hd (e := ⟨0, .data⟩) (by simp) rfl)
        subst e0
        obtain ⟨e2, u2, o2⟩ := h2 (dep_of hd (e := ⟨2, .data⟩) (by simp) rfl)
        subst e2
        go_simp
        refine (eqBox _ _ _ ps len len len hlen ((ox.below hB).at T.pA.1) (o2.at T.pA.1) (Nat.le_refl _) (Nat.le_refl _) hm).mono ?_
        rintro e W2 ⟨rfl, q⟩
        refine hK _ _ ?_
        exact ⟨_, x36, _, _, x39, sg2, rfl, fun _ => rfl, fun h => h1 (upd_ne (by decide) h), fun h => (by obtain ⟨p1, p2, p3⟩ := h2 (upd_ne (by decide) h); exact ⟨p1, p2, p3.below q⟩), fun _ => rfl, fun h => h4 (upd_ne (by decide) h), hB.trans (q.mono hB.size)⟩
      · rintro f a W ⟨x35, x36, x37, x38, x39, sg2, rfl, h0, h1, h2, h3, h4, hB⟩ hf hd K hK
        have e3 := h3 (dep_of hd (e := ⟨3, .data⟩) (by simp) rfl)
        subst e3
        go_simp
        refine hK _ _ ?_
        exact ⟨x35, x36, x37, _, _, sg2, rfl, fun h => h0 (upd_ne (by decide) h), fun h => h1 (upd_ne (by decide) h), fun h => h2 (upd_ne (by decide) h), fun _ => rfl, fun _ => rfl, hB⟩
      rintro f a w7 ⟨x35, x36, x37, x38, x39, sg2, rfl, h0, h1, h2, h3, h4, qB⟩ hall
      have e0 := h0 (hall 0 (by decide))
      subst e0
      have e1 := h1 (hall 1 (by decide))
      subst e1
      obtain ⟨e2, u2, s2⟩ := h2 (hall 2 (by decide))
      subst e2
      have e3 := h3 (hall 3 (by decide))
      subst e3
      have e4 := h4 (hall 4 (by decide))
      subst e4
      clear hall h0 h1 h2 h3 h4
      try dsimp only
      replace T := T.below qB
      replace oy := oy.below qB
      replace bx1 := bx1.below qB
      clear l0 c0 l2 c2 qB ox bx
      have l1 := T.oB.lt
      have c1 := T.oB.cell 0 _ rfl
      have l3 := bx1.lt
      have c3 := bx1.cell 0 _ rfl
      go_wp2
      refine region_steps (by kernel_rfl) (by kernel_rfl) (by kernel_rfl) (fun A0 f a W => ∃ (x40 : Value) (x41 : Value) (x42 : Value) (x43 : Value) (x44 : Value) (tg2 : Nat), a = { tmps := #[.agg #[.slice ad len cap], .agg #[.slice b len2 cap2], .pointer (some ⟨w.heap.size, 0, none⟩), .pointer (some ⟨w.heap.size + 1, 0, none⟩), .bool false, .int .i64 L2, .bool B, .pointer (some ⟨w4.heap.size, 0, none⟩), .pointer (some ⟨w5.heap.size, 0, none⟩), .bool B, .agg #[.slice ad len cap], .int .i64 1048576, .int .i64 L1, .int .i64 L1, .bool (decide (L1 < 0)), .agg #[.slice b len2 cap2], .int .i64 L1, .int .i64 L2, .int .i64 L2, .bool (decide (L2 < 0)), .agg #[.slice ad len cap], .agg #[.slice (some ⟨rg1, 0, none⟩) len len], .agg #[.slice b len2 cap2], .agg #[.slice (some ⟨rg3, 0, none⟩) len2 len2], .bool B, .agg #[.slice ad len cap], .agg #[.slice (some ⟨Gx, 0, none⟩) len len], .agg #[.slice b len2 cap2], .agg #[.slice (some ⟨Gy, 0, none⟩) len2 len2], .agg #[.slice (some ⟨Gx, 0, none⟩) len len], .agg #[.slice (some ⟨Gy, 0, none⟩) len2 len2], .bool B, .bool B, .bool B, .bool false, .agg #[.slice (some ⟨Gx, 0, none⟩) len len], .agg #[.slice ad len cap], .agg #[.slice (some ⟨sg2, 0, none⟩) len len], .bool true, .bool false, x40, x41, x42, x43, x44], defers := [] } ∧ (f 0 = true → x40 = .agg #[.slice (some ⟨Gy, 0, none⟩) len2 len2]) ∧ (f 1 = true → x41 = .agg #[.slice b len2 cap2]) ∧ (f 2 = true → x42 = .agg #[.slice (some ⟨tg2, 0, none⟩) len2 len2] ∧ w7.heap.size ≤ tg2 ∧ OwnP W tg2 qs) ∧ (f 3 = true → x43 = .bool true) ∧ (f 4 = true → x44 = .bool false) ∧ Below w7.heap.size w7 W) ?_ ⟨?_, ?_, ?_, ?_, ?_, trivial⟩ ?_
      · exact ⟨undef, undef, undef, undef, undef, 0, rfl, (fun h => (by cases h)), (fun h => (by cases h)), (fun h => (by cases h)), (fun h => (by cases h)), (fun h => (by cases h)), (Below.refl _ _).drew⟩
      · rintro f a W ⟨x40, x41, x42, x43, x44, tg2, rfl, h0, h1, h2, h3, h4, hB⟩ hf hd K hK
        have r0 := (hB.cell (p := ⟨w5.heap.size, 0, none⟩) l3).trans c3
        go_simp
        refine hK _ _ ?_
        exact ⟨_, x41, x42, x43, x44, tg2, rfl, fun _ => rfl, fun h => h1 (upd_ne (by decide) h), fun h => h2 (upd_ne (by decide) h), fun h => h3 (upd_ne (by decide) h), fun h => h4 (upd_ne (by decide) h), hB⟩
      · rintro f a W ⟨x40, x41, x42, x43, x44, tg2, rfl, h0, h1, h2, h3, h4, hB⟩ hf hd K hK
        have r0 := (hB.cell (p := ⟨w.heap.size + 1, 0, none⟩) l1).trans c1
        go_simp
        refine hK _ _ ?_
        exact ⟨x40, _, x42, x43, x44, tg2, rfl, fun h => h0 (upd_ne (by decide) h), fun _ => rfl, fun h => h2 (upd_ne (by decide) h), fun h => h3 (upd_ne (by decide) h), fun h => h4 (upd_ne (by decide) h), hB⟩
      · rintro f a W ⟨x40, x41, x42, x43, x44, tg2, rfl, h0, h1, h2, h3, h4, hB⟩ hf hd K hK
        have e1 := h1 (dep_of hd (e := ⟨1, .data⟩) (by simp) rfl)
        subst e1
        go_simp
        refine (toBox _ b qs len2 cap2 hlen2 (T.pB.below hB) hl2 hm2).mono ?_
        rintro e W2 ⟨G, hG, rfl, on, q⟩
        refine hK _ _ ?_
        exact ⟨x40, _, _, x43, x44, G, rfl, fun h => h0 (upd_ne (by decide) h), fun _ => rfl, fun _ => ⟨rfl, Nat.le_trans hB.size hG, on⟩, fun h => h3 (upd_ne (by decide) h), fun h => h4 (upd_ne (by decide) h), hB.trans (q.mono hB.size)⟩
      · rintro f a W ⟨x40, x41, x42, x43, x44, tg2, rfl, h0, h1, h2, h3, h4, hB⟩ hf hd K hK
        have e0 := h0 (dep_of hd (e := ⟨0, .data⟩) (by simp) rfl)
        subst e0
        obtain ⟨e2, u2, o2⟩ := h2 (dep_of hd (e := ⟨2, .data⟩) (by simp) rfl)
        subst e2
        go_simp
        refine (eqBox _ _ _ qs len2 len2 len2 hlen2 ((oy.below hB).at T.pB.1) (o2.at T.pB.1) (Nat.le_refl _) (Nat.le_refl _) hm2).mono ?_
        rintro e W2 ⟨rfl, q⟩
        refine hK _ _ ?_
        exact ⟨_, x41, _, _, x44, tg2, rfl, fun _ => rfl, fun h => h1 (upd_ne (by decide) h), fun h => (by obtain ⟨p1, p2, p3⟩ := h2 (upd_ne (by decide) h); exact ⟨p1, p2, p3.below q⟩), fun _ => rfl, fun h => h4 (upd_ne (by decide) h), hB.trans (q.mono hB.size)⟩
      · rintro f a W ⟨x40, x41, x42, x43, x44, tg2, rfl, h0, h1, h2, h3, h4, hB⟩ hf hd K hK
        have e3 := h3 (dep_of hd (e := ⟨3, .data⟩) (by simp) rfl)
        subst e3
        go_simp
        refine hK _ _ ?_
        exact ⟨x40, x41, x42, _, _, tg2, rfl, fun h => h0 (upd_ne (by decide) h), fun h => h1 (upd_ne (by decide) h), fun h => h2 (upd_ne (by decide) h), fun _ => rfl, fun _ => rfl, hB⟩
      rintro f a w8 ⟨x40, x41, x42, x43, x44, tg2, rfl, h0, h1, h2, h3, h4, qB⟩ hall
      have e0 := h0 (hall 0 (by decide))
      subst e0
      have e1 := h1 (hall 1 (by decide))
      subst e1
      obtain ⟨e2, u2, s2⟩ := h2 (hall 2 (by decide))
      subst e2
      have e3 := h3 (hall 3 (by decide))
      subst e3
      have e4 := h4 (hall 4 (by decide))
      subst e4
      clear hall h0 h1 h2 h3 h4
      try dsimp only
      replace T := T.below qB
      go_wp2
      go_ret
      exact ⟨rfl, T.bl⟩
  · rw [if_pos (by omega)] at hz
    have hneg : (-1 : Int) < 0 := by omega
    go_enter Try.func4, Try.ntmps4
    go_wp2_with (go_at_call 8; refine (hz _).mono ?_; clear hz; rintro e w1 ⟨rfl, q⟩; replace T := T.below q; clear q)
    go_ret
    exact ⟨rfl, T.bl⟩

end Go.Proofs.Yteohgmmenlinbag
