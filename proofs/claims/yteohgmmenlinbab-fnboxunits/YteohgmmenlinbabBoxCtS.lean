/- BoxCut of the model: its contract. -/
import Derived.Test.YteohgmmenlinbabWithS
import Derived.Test.YteohgmmenlinbabCutI
namespace Go.Proofs.Yteohgmmenlinbab
open Go.ChangeShapes Go.WideShapes Go.ChangeAt Go.RowKit
set_option linter.unusedVariables false

set_option maxRecDepth 100000 in
set_option maxHeartbeats 4000000 in
theorem specBoxCut (w : World) (n : Int) (a : Option Addr) (ps : List (Int × Int)) (cap : Nat) (k : Int) (wk : (Lit.int .i64 k).wf = true) (g gh : Int) (wg : (Lit.int .i64 g).wf = true) (wgh : (Lit.int .i64 gh).wf = true) (h : PairsAt w a ps) (hl : ps.length ≤ cap) (hm : ps.length ≤ 1048576) :
    Calls Try.prog 30 #[.int .i64 n, .agg #[.slice a ps.length cap], .int .i64 k, .agg #[.int .i64 g, .int .i64 gh]] w (TwoBox w (partA n (cutF n g gh) ps k) (partB n (cutF n g gh) ps k) (partK n (cutF n g gh) ps k)) := by
  have q0 : Below w.heap.size w ((((w.alloc (.cells #[.slice a ps.length cap] 41)).alloc (.cells #[.int .i64 g, .int .i64 gh] 24)).alloc (.cells #[.slice none 0 0] 41)).alloc (.cells #[.slice none 0 0] 41)) := ((((Below.refl _ w).alloc (Nat.le_refl _) _).alloc (by simp) _).alloc (by simp; omega) _).alloc (by simp; omega) _
  have oA := (((Own.new w #[.slice a ps.length cap] 41).alloc (.cells #[.int .i64 g, .int .i64 gh] 24)).alloc (.cells #[.slice none 0 0] 41)).alloc (.cells #[.slice none 0 0] 41)
  have oX := ((Own.new (w.alloc (.cells #[.slice a ps.length cap] 41)) #[.int .i64 g, .int .i64 gh] 24).alloc (.cells #[.slice none 0 0] 41)).alloc (.cells #[.slice none 0 0] 41)
  have oR := (Own.new ((w.alloc (.cells #[.slice a ps.length cap] 41)).alloc (.cells #[.int .i64 g, .int .i64 gh] 24)) #[.slice none 0 0] 41).alloc (.cells #[.slice none 0 0] 41)
  have oS := Own.new (((w.alloc (.cells #[.slice a ps.length cap] 41)).alloc (.cells #[.int .i64 g, .int .i64 gh] 24)).alloc (.cells #[.slice none 0 0] 41)) #[.slice none 0 0] 41
  simp only [World.size_alloc] at oX oR oS
  have hk := fun W (q : Below w.heap.size w W) => specBoxOk W n a ps cap (h.below q) hl hm
  have kb := i64_bounds wk
  have hg : ∀ (p : Int × Int) W, (Lit.int .i64 p.1).wf = true ∧ (Lit.int .i64 p.2).wf = true → Calls Try.prog 17 #[.int .i64 n, .agg #[.int .i64 p.1, .int .i64 p.2], .agg #[.int .i64 g, .int .i64 gh]] W (TwoOut2 W (cutF n g gh p).1.1 (cutF n g gh p).1.2 (cutF n g gh p).2.1.1 (cutF n g gh p).2.1.2 (cutF n g gh p).2.2) := fun p W wp => (cutBoth2 W n p.1 p.2 g gh wp.1 wp.2 wg wgh).1
  have hf := cut_wf n g gh wg wgh
  obtain ⟨f, hff⟩ : ∃ f, cutF n g gh = f := ⟨_, rfl⟩
  rw [hff] at hg hf ⊢
  cases hK : partK n f ps k
  · obtain ⟨eA, eB⟩ := part_no hK
    have E : Hid (partA n f ps k = [] ∧ partB n f ps k = []) := ⟨eA, eB⟩
    clear eA eB
    unfold partK at hK
    cases hbk : bokI n ps
    · rw [hbk] at hk
      obtain ⟨len, hlen⟩ : ∃ len, ps.length = len := ⟨_, rfl⟩
      rw [hlen] at q0 oA oX oR oS hk ⊢
      clear hK hg hf
      go_enter Try.func30, Try.ntmps30
      go_wp2_with first
        | (go_at_call 23; refine (hk _ q0).mono ?_; clear hk; rintro e w2 ⟨rfl, q⟩; replace oR := oR.below q; replace oS := oS.below q; replace q0 := q0.trans (q.mono q0.size); clear q; have c0 := oR.cell 0 _ rfl; have f0 := oR.frz 0 _ rfl; have c1 := oS.cell 0 _ rfl; have f1 := oS.frz 0 _ rfl)
      exact twoNone rfl E.out.1 E.out.2 oR oS (by omega) q0 (by omega) (by omega) rfl rfl rfl
    · rw [hbk] at hk
      by_cases h0 : 0 ≤ k
      · by_cases h1 : k < ps.length
        · rw [hbk, decide_eq_true h0, decide_eq_true h1] at hK
          simp only [Bool.true_and] at hK
          obtain ⟨j, rfl⟩ : ∃ j : Nat, k = j := ⟨k.toNat, by omega⟩
          simp only [Int.toNat_natCast] at hK
          have hj : j < ps.length := by omega
          have wj := h.wfD hj
          have hgj := fun W => hg (at2 ps j) W wj
          obtain ⟨rb, ro, ha, hlt, x0, x1⟩ := h.atD hj
          subst ha
          rw [hK] at hgj
          generalize (at2 ps j).1 = x at *
          generalize (at2 ps j).2 = y at *
          generalize (f (at2 ps j)).1.1 = r0 at *
          generalize (f (at2 ps j)).1.2 = r1 at *
          generalize (f (at2 ps j)).2.1.1 = r2 at *
          generalize (f (at2 ps j)).2.1.2 = r3 at *
          have X : Hid (rb < w.heap.size ∧ w.cell? ⟨rb, ro + j * 2, none⟩ = some (.int .i64 x) ∧ w.cell? ⟨rb, ro + j * 2 + 1, none⟩ = some (.int .i64 y)) := ⟨hlt, x0, x1⟩
          obtain ⟨len, hlen⟩ : ∃ len, ps.length = len := ⟨_, rfl⟩
          rw [hlen] at q0 oA oX oR oS hk hl hm h1 ⊢
          clear hK hg hf x0 x1 hlt h wj kb
          unfold TwoOut2 at hgj
          have hd1 : decide ((j : Int) < 0) = false := decide_eq_false (by omega)
          have hd2 : decide ((len : Int) ≤ (j : Int)) = false := decide_eq_false (by omega)
          have hd3 : decide (len ≤ j) = false := decide_eq_false (by omega)
          go_enter Try.func30, Try.ntmps30
          go_wp2_with first
            | (go_at_call 23; refine (hk _ q0).mono ?_; clear hk; rintro e w2 ⟨rfl, q⟩; replace oA := oA.below q; replace oX := oX.below q; replace oR := oR.below q; replace oS := oS.below q; replace q0 := q0.trans (q.mono q0.size); clear q; have cA := oA.cell 0 _ rfl; have cX := oX.cell 0 _ rfl; have cY := oX.cell 1 _ rfl; have x0 := (q0.cell (p := ⟨rb, ro + j * 2, none⟩) X.out.1).trans X.out.2.1; have x1 := (q0.cell (p := ⟨rb, ro + j * 2 + 1, none⟩) X.out.1).trans X.out.2.2)
          have lA := oA.lt
          have lX := oX.lt
          have X2 : rb < w2.heap.size := Nat.lt_of_lt_of_le X.out.1 q0.size
          refine region_steps (by kernel_rfl) (by kernel_rfl) (by kernel_rfl) (fun A0 f a W => ∃ (x32 : Value) (x33 : Value) (x34 : Value) (x35 : Value) (x36 : Value) (x37 : Value) (x38 : Value) (x39 : Value) (x31 : Value) (x40 : Value) (x41 : Value) (x42 : Value) (x11 : Value) (x12 : Value) (x13 : Value) (p12 : Nat) (p13 : Nat), a = { tmps := #[.int .i64 n, .agg #[.slice (some ⟨rb, ro, none⟩) len cap], .int .i64 (j : Int), .agg #[.int .i64 g, .int .i64 gh], undef, .pointer (some ⟨w.heap.size, 0, none⟩), undef, .pointer (some ⟨w.heap.size + 1, 0, none⟩), .pointer (some ⟨w.heap.size + 1 + 1, 0, none⟩), .pointer (some ⟨w.heap.size + 1 + 1 + 1, 0, none⟩), .bool false, x11, x12, x13, .int .i64 n, .agg #[.slice (some ⟨rb, ro, none⟩) len cap], .bool true, .bool false, .bool false, .int .i64 (j : Int), .bool false, .bool false, .bool false, .int .i64 (j : Int), .pointer (some ⟨w.heap.size, 0, none⟩), .slice (some ⟨rb, ro, none⟩) len cap, .int .i64 (len : Int), .bool false, .bool false, undef, undef, x31, x32, x33, x34, x35, x36, x37, x38, x39, x40, x41, x42, undef, undef, undef, undef, undef, undef, undef, undef, undef, undef, undef, undef], defers := [] } ∧ (f 0 = true → x32 = .int .i64 n) ∧ (f 1 = true → x33 = .pointer (some ⟨w.heap.size, 0, none⟩)) ∧ (f 2 = true → x34 = .slice (some ⟨rb, ro, none⟩) len cap) ∧ (f 3 = true → x35 = .int .i64 (j : Int)) ∧ (f 4 = true → x36 = .pointer (some ⟨rb, ro + j * 2, none⟩)) ∧ (f 5 = true → x37 = .agg #[.int .i64 x, .int .i64 y]) ∧ (f 6 = true → x38 = .agg #[.int .i64 g, .int .i64 gh]) ∧ (f 7 = true → x39 = .tuple #[.agg #[.int .i64 r0, .int .i64 r1], .agg #[.int .i64 r2, .int .i64 r3], .bool false]) ∧ (f 8 = true → x31 = .tuple #[.agg #[.int .i64 r0, .int .i64 r1], .agg #[.int .i64 r2, .int .i64 r3], .bool false]) ∧ (f 9 = true → x40 = .agg #[.int .i64 r0, .int .i64 r1]) ∧ (f 10 = true → x41 = .agg #[.int .i64 r2, .int .i64 r3]) ∧ (f 11 = true → x42 = .bool false) ∧ (f 12 = true → x11 = .pointer (some ⟨p12, 0, none⟩) ∧ w2.heap.size ≤ p12 ∧ p12 < W.heap.size ∧ (f 14 = false → Own W p12 [.int .i64 0, .int .i64 0]) ∧ (f 14 = true → Own W p12 [.int .i64 r0, .int .i64 r1])) ∧ (f 13 = true → x12 = .pointer (some ⟨p13, 0, none⟩) ∧ w2.heap.size ≤ p13 ∧ p13 < W.heap.size ∧ (f 15 = false → Own W p13 [.int .i64 0, .int .i64 0]) ∧ (f 15 = true → Own W p13 [.int .i64 r2, .int .i64 r3])) ∧ (f 16 = true → x13 = .bool false) ∧ (f 14 = true → f 12 = true) ∧ (f 15 = true → f 13 = true) ∧ (f 12 = true → f 13 = true → p12 ≠ p13) ∧ Below w2.heap.size w2 W) ?_ ⟨?_, ?_, ?_, ?_, ?_, ?_, ?_, ?_, ?_, ?_, ?_, ?_, ?_, ?_, ?_, ?_, ?_, trivial⟩ ?_
          · exact ⟨undef, undef, undef, undef, undef, undef, undef, undef, undef, undef, undef, undef, undef, undef, undef, 0, 0, rfl, (fun h => (by cases h)), (fun h => (by cases h)), (fun h => (by cases h)), (fun h => (by cases h)), (fun h => (by cases h)), (fun h => (by cases h)), (fun h => (by cases h)), (fun h => (by cases h)), (fun h => (by cases h)), (fun h => (by cases h)), (fun h => (by cases h)), (fun h => (by cases h)), (fun h => (by cases h)), (fun h => (by cases h)), (fun h => (by cases h)), (fun h => (by cases h)), (fun h => (by cases h)), (fun h => (by cases h)), (Below.refl _ _).drew⟩
          · rintro f a W ⟨x32, x33, x34, x35, x36, x37, x38, x39, x31, x40, x41, x42, x11, x12, x13, p12, p13, rfl, h0, h1, h2, h3, h4, h5, h6, h7, h8, h9, h10, h11, h12, h13, h16, n12, n13, m12_13, hB⟩ hf hd K hK
            go_simp
            refine hK _ _ ?_
            exact ⟨_, x33, x34, x35, x36, x37, x38, x39, x31, x40, x41, x42, x11, x12, x13, p12, p13, rfl, fun _ => rfl, fun h => h1 (upd_ne (by decide) h), fun h => h2 (upd_ne (by decide) h), fun h => h3 (upd_ne (by decide) h), fun h => h4 (upd_ne (by decide) h), fun h => h5 (upd_ne (by decide) h), fun h => h6 (upd_ne (by decide) h), fun h => h7 (upd_ne (by decide) h), fun h => h8 (upd_ne (by decide) h), fun h => h9 (upd_ne (by decide) h), fun h => h10 (upd_ne (by decide) h), fun h => h11 (upd_ne (by decide) h), fun h => (by obtain ⟨p1, p2, p3, p4, p5⟩ := h12 (upd_ne (by decide) h); exact ⟨p1, p2, p3, fun h' => p4 (by rw [upd_same (by decide)] at h'; exact h'), fun h' => p5 (upd_ne (by decide) h')⟩), fun h => (by obtain ⟨p1, p2, p3, p4, p5⟩ := h13 (upd_ne (by decide) h); exact ⟨p1, p2, p3, fun h' => p4 (by rw [upd_same (by decide)] at h'; exact h'), fun h' => p5 (upd_ne (by decide) h')⟩), fun h => h16 (upd_ne (by decide) h), fun h => upd_of (n12 (upd_ne (by decide) h)), fun h => upd_of (n13 (upd_ne (by decide) h)), fun h h' => m12_13 (upd_ne (by decide) h) (upd_ne (by decide) h'), hB⟩
          · rintro f a W ⟨x32, x33, x34, x35, x36, x37, x38, x39, x31, x40, x41, x42, x11, x12, x13, p12, p13, rfl, h0, h1, h2, h3, h4, h5, h6, h7, h8, h9, h10, h11, h12, h13, h16, n12, n13, m12_13, hB⟩ hf hd K hK
            go_simp
            refine hK _ _ ?_
            exact ⟨x32, _, x34, x35, x36, x37, x38, x39, x31, x40, x41, x42, x11, x12, x13, p12, p13, rfl, fun h => h0 (upd_ne (by decide) h), fun _ => rfl, fun h => h2 (upd_ne (by decide) h), fun h => h3 (upd_ne (by decide) h), fun h => h4 (upd_ne (by decide) h), fun h => h5 (upd_ne (by decide) h), fun h => h6 (upd_ne (by decide) h), fun h => h7 (upd_ne (by decide) h), fun h => h8 (upd_ne (by decide) h), fun h => h9 (upd_ne (by decide) h), fun h => h10 (upd_ne (by decide) h), fun h => h11 (upd_ne (by decide) h), fun h => (by obtain ⟨p1, p2, p3, p4, p5⟩ := h12 (upd_ne (by decide) h); exact ⟨p1, p2, p3, fun h' => p4 (by rw [upd_same (by decide)] at h'; exact h'), fun h' => p5 (upd_ne (by decide) h')⟩), fun h => (by obtain ⟨p1, p2, p3, p4, p5⟩ := h13 (upd_ne (by decide) h); exact ⟨p1, p2, p3, fun h' => p4 (by rw [upd_same (by decide)] at h'; exact h'), fun h' => p5 (upd_ne (by decide) h')⟩), fun h => h16 (upd_ne (by decide) h), fun h => upd_of (n12 (upd_ne (by decide) h)), fun h => upd_of (n13 (upd_ne (by decide) h)), fun h h' => m12_13 (upd_ne (by decide) h) (upd_ne (by decide) h'), hB⟩
          · rintro f a W ⟨x32, x33, x34, x35, x36, x37, x38, x39, x31, x40, x41, x42, x11, x12, x13, p12, p13, rfl, h0, h1, h2, h3, h4, h5, h6, h7, h8, h9, h10, h11, h12, h13, h16, n12, n13, m12_13, hB⟩ hf hd K hK
            have e1 := h1 (dep_of hd (e := ⟨1, .data⟩) (by simp) rfl)
            subst e1
            have r0 := (hB.cell (p := ⟨w.heap.size, 0, none⟩) lA).trans cA
            go_simp
            refine hK _ _ ?_
            exact ⟨x32, _, _, x35, x36, x37, x38, x39, x31, x40, x41, x42, x11, x12, x13, p12, p13, rfl, fun h => h0 (upd_ne (by decide) h), fun _ => rfl, fun _ => rfl, fun h => h3 (upd_ne (by decide) h), fun h => h4 (upd_ne (by decide) h), fun h => h5 (upd_ne (by decide) h), fun h => h6 (upd_ne (by decide) h), fun h => h7 (upd_ne (by decide) h), fun h => h8 (upd_ne (by decide) h), fun h => h9 (upd_ne (by decide) h), fun h => h10 (upd_ne (by decide) h), fun h => h11 (upd_ne (by decide) h), fun h => (by obtain ⟨p1, p2, p3, p4, p5⟩ := h12 (upd_ne (by decide) h); exact ⟨p1, p2, p3, fun h' => p4 (by rw [upd_same (by decide)] at h'; exact h'), fun h' => p5 (upd_ne (by decide) h')⟩), fun h => (by obtain ⟨p1, p2, p3, p4, p5⟩ := h13 (upd_ne (by decide) h); exact ⟨p1, p2, p3, fun h' => p4 (by rw [upd_same (by decide)] at h'; exact h'), fun h' => p5 (upd_ne (by decide) h')⟩), fun h => h16 (upd_ne (by decide) h), fun h => upd_of (n12 (upd_ne (by decide) h)), fun h => upd_of (n13 (upd_ne (by decide) h)), fun h h' => m12_13 (upd_ne (by decide) h) (upd_ne (by decide) h'), hB⟩
          · rintro f a W ⟨x32, x33, x34, x35, x36, x37, x38, x39, x31, x40, x41, x42, x11, x12, x13, p12, p13, rfl, h0, h1, h2, h3, h4, h5, h6, h7, h8, h9, h10, h11, h12, h13, h16, n12, n13, m12_13, hB⟩ hf hd K hK
            go_simp
            refine hK _ _ ?_
            exact ⟨x32, x33, x34, _, x36, x37, x38, x39, x31, x40, x41, x42, x11, x12, x13, p12, p13, rfl, fun h => h0 (upd_ne (by decide) h), fun h => h1 (upd_ne (by decide) h), fun h => h2 (upd_ne (by decide) h), fun _ => rfl, fun h => h4 (upd_ne (by decide) h), fun h => h5 (upd_ne (by decide) h), fun h => h6 (upd_ne (by decide) h), fun h => h7 (upd_ne (by decide) h), fun h => h8 (upd_ne (by decide) h), fun h => h9 (upd_ne (by decide) h), fun h => h10 (upd_ne (by decide) h), fun h => h11 (upd_ne (by decide) h), fun h => (by obtain ⟨p1, p2, p3, p4, p5⟩ := h12 (upd_ne (by decide) h); exact ⟨p1, p2, p3, fun h' => p4 (by rw [upd_same (by decide)] at h'; exact h'), fun h' => p5 (upd_ne (by decide) h')⟩), fun h => (by obtain ⟨p1, p2, p3, p4, p5⟩ := h13 (upd_ne (by decide) h); exact ⟨p1, p2, p3, fun h' => p4 (by rw [upd_same (by decide)] at h'; exact h'), fun h' => p5 (upd_ne (by decide) h')⟩), fun h => h16 (upd_ne (by decide) h), fun h => upd_of (n12 (upd_ne (by decide) h)), fun h => upd_of (n13 (upd_ne (by decide) h)), fun h h' => m12_13 (upd_ne (by decide) h) (upd_ne (by decide) h'), hB⟩
          · rintro f a W ⟨x32, x33, x34, x35, x36, x37, x38, x39, x31, x40, x41, x42, x11, x12, x13, p12, p13, rfl, h0, h1, h2, h3, h4, h5, h6, h7, h8, h9, h10, h11, h12, h13, h16, n12, n13, m12_13, hB⟩ hf hd K hK
            have e2 := h2 (dep_of hd (e := ⟨2, .data⟩) (by simp) rfl)
            subst e2
            have e3 := h3 (dep_of hd (e := ⟨3, .data⟩) (by simp) rfl)
            subst e3
            go_simp
            refine hK _ _ ?_
            exact ⟨x32, x33, _, _, _, x37, x38, x39, x31, x40, x41, x42, x11, x12, x13, p12, p13, rfl, fun h => h0 (upd_ne (by decide) h), fun h => h1 (upd_ne (by decide) h), fun _ => rfl, fun _ => rfl, fun _ => rfl, fun h => h5 (upd_ne (by decide) h), fun h => h6 (upd_ne (by decide) h), fun h => h7 (upd_ne (by decide) h), fun h => h8 (upd_ne (by decide) h), fun h => h9 (upd_ne (by decide) h), fun h => h10 (upd_ne (by decide) h), fun h => h11 (upd_ne (by decide) h), fun h => (by obtain ⟨p1, p2, p3, p4, p5⟩ := h12 (upd_ne (by decide) h); exact ⟨p1, p2, p3, fun h' => p4 (by rw [upd_same (by decide)] at h'; exact h'), fun h' => p5 (upd_ne (by decide) h')⟩), fun h => (by obtain ⟨p1, p2, p3, p4, p5⟩ := h13 (upd_ne (by decide) h); exact ⟨p1, p2, p3, fun h' => p4 (by rw [upd_same (by decide)] at h'; exact h'), fun h' => p5 (upd_ne (by decide) h')⟩), fun h => h16 (upd_ne (by decide) h), fun h => upd_of (n12 (upd_ne (by decide) h)), fun h => upd_of (n13 (upd_ne (by decide) h)), fun h h' => m12_13 (upd_ne (by decide) h) (upd_ne (by decide) h'), hB⟩
          · rintro f a W ⟨x32, x33, x34, x35, x36, x37, x38, x39, x31, x40, x41, x42, x11, x12, x13, p12, p13, rfl, h0, h1, h2, h3, h4, h5, h6, h7, h8, h9, h10, h11, h12, h13, h16, n12, n13, m12_13, hB⟩ hf hd K hK
            have e4 := h4 (dep_of hd (e := ⟨4, .data⟩) (by simp) rfl)
            subst e4
            have r0 := (hB.cell (p := ⟨rb, ro + j * 2, none⟩) X2).trans x0
            have r1 := (hB.cell (p := ⟨rb, ro + j * 2 + 1, none⟩) X2).trans x1
            go_simp
            refine hK _ _ ?_
            exact ⟨x32, x33, x34, x35, _, _, x38, x39, x31, x40, x41, x42, x11, x12, x13, p12, p13, rfl, fun h => h0 (upd_ne (by decide) h), fun h => h1 (upd_ne (by decide) h), fun h => h2 (upd_ne (by decide) h), fun h => h3 (upd_ne (by decide) h), fun _ => rfl, fun _ => rfl, fun h => h6 (upd_ne (by decide) h), fun h => h7 (upd_ne (by decide) h), fun h => h8 (upd_ne (by decide) h), fun h => h9 (upd_ne (by decide) h), fun h => h10 (upd_ne (by decide) h), fun h => h11 (upd_ne (by decide) h), fun h => (by obtain ⟨p1, p2, p3, p4, p5⟩ := h12 (upd_ne (by decide) h); exact ⟨p1, p2, p3, fun h' => p4 (by rw [upd_same (by decide)] at h'; exact h'), fun h' => p5 (upd_ne (by decide) h')⟩), fun h => (by obtain ⟨p1, p2, p3, p4, p5⟩ := h13 (upd_ne (by decide) h); exact ⟨p1, p2, p3, fun h' => p4 (by rw [upd_same (by decide)] at h'; exact h'), fun h' => p5 (upd_ne (by decide) h')⟩), fun h => h16 (upd_ne (by decide) h), fun h => upd_of (n12 (upd_ne (by decide) h)), fun h => upd_of (n13 (upd_ne (by decide) h)), fun h h' => m12_13 (upd_ne (by decide) h) (upd_ne (by decide) h'), hB⟩
          · rintro f a W ⟨x32, x33, x34, x35, x36, x37, x38, x39, x31, x40, x41, x42, x11, x12, x13, p12, p13, rfl, h0, h1, h2, h3, h4, h5, h6, h7, h8, h9, h10, h11, h12, h13, h16, n12, n13, m12_13, hB⟩ hf hd K hK
            have r0 := (hB.cell (p := ⟨w.heap.size + 1, 0, none⟩) lX).trans cX
            have r1 := (hB.cell (p := ⟨w.heap.size + 1, 1, none⟩) lX).trans cY
            go_simp
            refine hK _ _ ?_
            exact ⟨x32, x33, x34, x35, x36, x37, _, x39, x31, x40, x41, x42, x11, x12, x13, p12, p13, rfl, fun h => h0 (upd_ne (by decide) h), fun h => h1 (upd_ne (by decide) h), fun h => h2 (upd_ne (by decide) h), fun h => h3 (upd_ne (by decide) h), fun h => h4 (upd_ne (by decide) h), fun h => h5 (upd_ne (by decide) h), fun _ => rfl, fun h => h7 (upd_ne (by decide) h), fun h => h8 (upd_ne (by decide) h), fun h => h9 (upd_ne (by decide) h), fun h => h10 (upd_ne (by decide) h), fun h => h11 (upd_ne (by decide) h), fun h => (by obtain ⟨p1, p2, p3, p4, p5⟩ := h12 (upd_ne (by decide) h); exact ⟨p1, p2, p3, fun h' => p4 (by rw [upd_same (by decide)] at h'; exact h'), fun h' => p5 (upd_ne (by decide) h')⟩), fun h => (by obtain ⟨p1, p2, p3, p4, p5⟩ := h13 (upd_ne (by decide) h); exact ⟨p1, p2, p3, fun h' => p4 (by rw [upd_same (by decide)] at h'; exact h'), fun h' => p5 (upd_ne (by decide) h')⟩), fun h => h16 (upd_ne (by decide) h), fun h => upd_of (n12 (upd_ne (by decide) h)), fun h => upd_of (n13 (upd_ne (by decide) h)), fun h h' => m12_13 (upd_ne (by decide) h) (upd_ne (by decide) h'), hB⟩
          · rintro f a W ⟨x32, x33, x34, x35, x36, x37, x38, x39, x31, x40, x41, x42, x11, x12, x13, p12, p13, rfl, h0, h1, h2, h3, h4, h5, h6, h7, h8, h9, h10, h11, h12, h13, h16, n12, n13, m12_13, hB⟩ hf hd K hK
            have e0 := h0 (dep_of hd (e := ⟨0, .data⟩) (by simp) rfl)
            subst e0
            have e5 := h5 (dep_of hd (e := ⟨5, .data⟩) (by simp) rfl)
            subst e5
            have e6 := h6 (dep_of hd (e := ⟨6, .data⟩) (by simp) rfl)
            subst e6
            go_simp
            refine (hgj _).mono ?_
            rintro e W2 ⟨rfl, q⟩
            refine hK _ _ ?_
            exact ⟨_, x33, x34, x35, x36, _, _, _, x31, x40, x41, x42, x11, x12, x13, p12, p13, rfl, fun _ => rfl, fun h => h1 (upd_ne (by decide) h), fun h => h2 (upd_ne (by decide) h), fun h => h3 (upd_ne (by decide) h), fun h => h4 (upd_ne (by decide) h), fun _ => rfl, fun _ => rfl, fun _ => rfl, fun h => h8 (upd_ne (by decide) h), fun h => h9 (upd_ne (by decide) h), fun h => h10 (upd_ne (by decide) h), fun h => h11 (upd_ne (by decide) h), fun h => (by obtain ⟨p1, p2, p3, p4, p5⟩ := h12 (upd_ne (by decide) h); exact ⟨p1, p2, Nat.lt_of_lt_of_le (p3) q.size, fun h' => (p4 (by rw [upd_same (by decide)] at h'; exact h')).below q, fun h' => (p5 (upd_ne (by decide) h')).below q⟩), fun h => (by obtain ⟨p1, p2, p3, p4, p5⟩ := h13 (upd_ne (by decide) h); exact ⟨p1, p2, Nat.lt_of_lt_of_le (p3) q.size, fun h' => (p4 (by rw [upd_same (by decide)] at h'; exact h')).below q, fun h' => (p5 (upd_ne (by decide) h')).below q⟩), fun h => h16 (upd_ne (by decide) h), fun h => upd_of (n12 (upd_ne (by decide) h)), fun h => upd_of (n13 (upd_ne (by decide) h)), fun h h' => m12_13 (upd_ne (by decide) h) (upd_ne (by decide) h'), hB.trans (q.mono hB.size)⟩
          · rintro f a W ⟨x32, x33, x34, x35, x36, x37, x38, x39, x31, x40, x41, x42, x11, x12, x13, p12, p13, rfl, h0, h1, h2, h3, h4, h5, h6, h7, h8, h9, h10, h11, h12, h13, h16, n12, n13, m12_13, hB⟩ hf hd K hK
            have e7 := h7 (dep_of hd (e := ⟨7, .data⟩) (by simp) rfl)
            subst e7
            go_simp
            refine hK _ _ ?_
            exact ⟨x32, x33, x34, x35, x36, x37, x38, _, _, x40, x41, x42, x11, x12, x13, p12, p13, rfl, fun h => h0 (upd_ne (by decide) h), fun h => h1 (upd_ne (by decide) h), fun h => h2 (upd_ne (by decide) h), fun h => h3 (upd_ne (by decide) h), fun h => h4 (upd_ne (by decide) h), fun h => h5 (upd_ne (by decide) h), fun h => h6 (upd_ne (by decide) h), fun _ => rfl, fun _ => rfl, fun h => h9 (upd_ne (by decide) h), fun h => h10 (upd_ne (by decide) h), fun h => h11 (upd_ne (by decide) h), fun h => (by obtain ⟨p1, p2, p3, p4, p5⟩ := h12 (upd_ne (by decide) h); exact ⟨p1, p2, p3, fun h' => p4 (by rw [upd_same (by decide)] at h'; exact h'), fun h' => p5 (upd_ne (by decide) h')⟩), fun h => (by obtain ⟨p1, p2, p3, p4, p5⟩ := h13 (upd_ne (by decide) h); exact ⟨p1, p2, p3, fun h' => p4 (by rw [upd_same (by decide)] at h'; exact h'), fun h' => p5 (upd_ne (by decide) h')⟩), fun h => h16 (upd_ne (by decide) h), fun h => upd_of (n12 (upd_ne (by decide) h)), fun h => upd_of (n13 (upd_ne (by decide) h)), fun h h' => m12_13 (upd_ne (by decide) h) (upd_ne (by decide) h'), hB⟩
          · rintro f a W ⟨x32, x33, x34, x35, x36, x37, x38, x39, x31, x40, x41, x42, x11, x12, x13, p12, p13, rfl, h0, h1, h2, h3, h4, h5, h6, h7, h8, h9, h10, h11, h12, h13, h16, n12, n13, m12_13, hB⟩ hf hd K hK
            have e8 := h8 (dep_of hd (e := ⟨8, .data⟩) (by simp) rfl)
            subst e8
            go_simp
            refine hK _ _ ?_
            exact ⟨x32, x33, x34, x35, x36, x37, x38, x39, _, _, x41, x42, x11, x12, x13, p12, p13, rfl, fun h => h0 (upd_ne (by decide) h), fun h => h1 (upd_ne (by decide) h), fun h => h2 (upd_ne (by decide) h), fun h => h3 (upd_ne (by decide) h), fun h => h4 (upd_ne (by decide) h), fun h => h5 (upd_ne (by decide) h), fun h => h6 (upd_ne (by decide) h), fun h => h7 (upd_ne (by decide) h), fun _ => rfl, fun _ => rfl, fun h => h10 (upd_ne (by decide) h), fun h => h11 (upd_ne (by decide) h), fun h => (by obtain ⟨p1, p2, p3, p4, p5⟩ := h12 (upd_ne (by decide) h); exact ⟨p1, p2, p3, fun h' => p4 (by rw [upd_same (by decide)] at h'; exact h'), fun h' => p5 (upd_ne (by decide) h')⟩), fun h => (by obtain ⟨p1, p2, p3, p4, p5⟩ := h13 (upd_ne (by decide) h); exact ⟨p1, p2, p3, fun h' => p4 (by rw [upd_same (by decide)] at h'; exact h'), fun h' => p5 (upd_ne (by decide) h')⟩), fun h => h16 (upd_ne (by decide) h), fun h => upd_of (n12 (upd_ne (by decide) h)), fun h => upd_of (n13 (upd_ne (by decide) h)), fun h h' => m12_13 (upd_ne (by decide) h) (upd_ne (by decide) h'), hB⟩
          · rintro f a W ⟨x32, x33, x34, x35, x36, x37, x38, x39, x31, x40, x41, x42, x11, x12, x13, p12, p13, rfl, h0, h1, h2, h3, h4, h5, h6, h7, h8, h9, h10, h11, h12, h13, h16, n12, n13, m12_13, hB⟩ hf hd K hK
            have e8 := h8 (dep_of hd (e := ⟨8, .data⟩) (by simp) rfl)
            subst e8
            go_simp
            refine hK _ _ ?_
            exact ⟨x32, x33, x34, x35, x36, x37, x38, x39, _, x40, _, x42, x11, x12, x13, p12, p13, rfl, fun h => h0 (upd_ne (by decide) h), fun h => h1 (upd_ne (by decide) h), fun h => h2 (upd_ne (by decide) h), fun h => h3 (upd_ne (by decide) h), fun h => h4 (upd_ne (by decide) h), fun h => h5 (upd_ne (by decide) h), fun h => h6 (upd_ne (by decide) h), fun h => h7 (upd_ne (by decide) h), fun _ => rfl, fun h => h9 (upd_ne (by decide) h), fun _ => rfl, fun h => h11 (upd_ne (by decide) h), fun h => (by obtain ⟨p1, p2, p3, p4, p5⟩ := h12 (upd_ne (by decide) h); exact ⟨p1, p2, p3, fun h' => p4 (by rw [upd_same (by decide)] at h'; exact h'), fun h' => p5 (upd_ne (by decide) h')⟩), fun h => (by obtain ⟨p1, p2, p3, p4, p5⟩ := h13 (upd_ne (by decide) h); exact ⟨p1, p2, p3, fun h' => p4 (by rw [upd_same (by decide)] at h'; exact h'), fun h' => p5 (upd_ne (by decide) h')⟩), fun h => h16 (upd_ne (by decide) h), fun h => upd_of (n12 (upd_ne (by decide) h)), fun h => upd_of (n13 (upd_ne (by decide) h)), fun h h' => m12_13 (upd_ne (by decide) h) (upd_ne (by decide) h'), hB⟩
          · rintro f a W ⟨x32, x33, x34, x35, x36, x37, x38, x39, x31, x40, x41, x42, x11, x12, x13, p12, p13, rfl, h0, h1, h2, h3, h4, h5, h6, h7, h8, h9, h10, h11, h12, h13, h16, n12, n13, m12_13, hB⟩ hf hd K hK
            have e8 := h8 (dep_of hd (e := ⟨8, .data⟩) (by simp) rfl)
            subst e8
            go_simp
            refine hK _ _ ?_
            exact ⟨x32, x33, x34, x35, x36, x37, x38, x39, _, x40, x41, _, x11, x12, x13, p12, p13, rfl, fun h => h0 (upd_ne (by decide) h), fun h => h1 (upd_ne (by decide) h), fun h => h2 (upd_ne (by decide) h), fun h => h3 (upd_ne (by decide) h), fun h => h4 (upd_ne (by decide) h), fun h => h5 (upd_ne (by decide) h), fun h => h6 (upd_ne (by decide) h), fun h => h7 (upd_ne (by decide) h), fun _ => rfl, fun h => h9 (upd_ne (by decide) h), fun h => h10 (upd_ne (by decide) h), fun _ => rfl, fun h => (by obtain ⟨p1, p2, p3, p4, p5⟩ := h12 (upd_ne (by decide) h); exact ⟨p1, p2, p3, fun h' => p4 (by rw [upd_same (by decide)] at h'; exact h'), fun h' => p5 (upd_ne (by decide) h')⟩), fun h => (by obtain ⟨p1, p2, p3, p4, p5⟩ := h13 (upd_ne (by decide) h); exact ⟨p1, p2, p3, fun h' => p4 (by rw [upd_same (by decide)] at h'; exact h'), fun h' => p5 (upd_ne (by decide) h')⟩), fun h => h16 (upd_ne (by decide) h), fun h => upd_of (n12 (upd_ne (by decide) h)), fun h => upd_of (n13 (upd_ne (by decide) h)), fun h h' => m12_13 (upd_ne (by decide) h) (upd_ne (by decide) h'), hB⟩
          · rintro f a W ⟨x32, x33, x34, x35, x36, x37, x38, x39, x31, x40, x41, x42, x11, x12, x13, p12, p13, rfl, h0, h1, h2, h3, h4, h5, h6, h7, h8, h9, h10, h11, h12, h13, h16, n12, n13, m12_13, hB⟩ hf hd K hK
            go_simp
            refine hK _ _ ?_
            exact ⟨x32, x33, x34, x35, x36, x37, x38, x39, x31, x40, x41, x42, _, x12, x13, W.heap.size, p13, rfl, fun h => h0 (upd_ne (by decide) h), fun h => h1 (upd_ne (by decide) h), fun h => h2 (upd_ne (by decide) h), fun h => h3 (upd_ne (by decide) h), fun h => h4 (upd_ne (by decide) h), fun h => h5 (upd_ne (by decide) h), fun h => h6 (upd_ne (by decide) h), fun h => h7 (upd_ne (by decide) h), fun h => h8 (upd_ne (by decide) h), fun h => h9 (upd_ne (by decide) h), fun h => h10 (upd_ne (by decide) h), fun h => h11 (upd_ne (by decide) h), fun _ => ⟨rfl, hB.size, (by simp), fun _ => Own.new W _ _, fun h' => absurd (n12 (upd_ne (by decide) h')) (by rw [hf]; decide)⟩, fun h => (by obtain ⟨p1, p2, p3, p4, p5⟩ := h13 (upd_ne (by decide) h); exact ⟨p1, p2, (by have := p3; simp; omega), fun h' => (p4 (by rw [upd_same (by decide)] at h'; exact h')).alloc _, fun h' => (p5 (upd_ne (by decide) h')).alloc _⟩), fun h => h16 (upd_ne (by decide) h), fun _ => upd_self, fun h => upd_of (n13 (upd_ne (by decide) h)), fun _ h => (by obtain ⟨-, -, p3, -, -⟩ := h13 (upd_ne (by decide) h); omega), hB.alloc hB.size _⟩
          · rintro f a W ⟨x32, x33, x34, x35, x36, x37, x38, x39, x31, x40, x41, x42, x11, x12, x13, p12, p13, rfl, h0, h1, h2, h3, h4, h5, h6, h7, h8, h9, h10, h11, h12, h13, h16, n12, n13, m12_13, hB⟩ hf hd K hK
            go_simp
            refine hK _ _ ?_
            exact ⟨x32, x33, x34, x35, x36, x37, x38, x39, x31, x40, x41, x42, x11, _, x13, p12, W.heap.size, rfl, fun h => h0 (upd_ne (by decide) h), fun h => h1 (upd_ne (by decide) h), fun h => h2 (upd_ne (by decide) h), fun h => h3 (upd_ne (by decide) h), fun h => h4 (upd_ne (by decide) h), fun h => h5 (upd_ne (by decide) h), fun h => h6 (upd_ne (by decide) h), fun h => h7 (upd_ne (by decide) h), fun h => h8 (upd_ne (by decide) h), fun h => h9 (upd_ne (by decide) h), fun h => h10 (upd_ne (by decide) h), fun h => h11 (upd_ne (by decide) h), fun h => (by obtain ⟨p1, p2, p3, p4, p5⟩ := h12 (upd_ne (by decide) h); exact ⟨p1, p2, (by have := p3; simp; omega), fun h' => (p4 (by rw [upd_same (by decide)] at h'; exact h')).alloc _, fun h' => (p5 (upd_ne (by decide) h')).alloc _⟩), fun _ => ⟨rfl, hB.size, (by simp), fun _ => Own.new W _ _, fun h' => absurd (n13 (upd_ne (by decide) h')) (by rw [hf]; decide)⟩, fun h => h16 (upd_ne (by decide) h), fun h => upd_of (n12 (upd_ne (by decide) h)), fun _ => upd_self, fun h _ => (by obtain ⟨-, -, p3, -, -⟩ := h12 (upd_ne (by decide) h); omega), hB.alloc hB.size _⟩
          · rintro f a W ⟨x32, x33, x34, x35, x36, x37, x38, x39, x31, x40, x41, x42, x11, x12, x13, p12, p13, rfl, h0, h1, h2, h3, h4, h5, h6, h7, h8, h9, h10, h11, h12, h13, h16, n12, n13, m12_13, hB⟩ hf hd K hK
            obtain ⟨e12, u12, t12, z12, s12⟩ := h12 (dep_of hd (e := ⟨12, .data⟩) (by simp) rfl)
            subst e12
            have e9 := h9 (dep_of hd (e := ⟨9, .data⟩) (by simp) rfl)
            subst e9
            have oz := z12 hf
            have r0 := oz.cell 0 _ rfl
            have o0_ := oz.frz 0 _ rfl
            have r1 := oz.cell 1 _ rfl
            have o1_ := oz.frz 1 _ rfl
            go_simp
            refine hK _ _ ?_
            exact ⟨x32, x33, x34, x35, x36, x37, x38, x39, x31, _, x41, x42, _, x12, x13, p12, p13, rfl, fun h => h0 (upd_ne (by decide) h), fun h => h1 (upd_ne (by decide) h), fun h => h2 (upd_ne (by decide) h), fun h => h3 (upd_ne (by decide) h), fun h => h4 (upd_ne (by decide) h), fun h => h5 (upd_ne (by decide) h), fun h => h6 (upd_ne (by decide) h), fun h => h7 (upd_ne (by decide) h), fun h => h8 (upd_ne (by decide) h), fun _ => rfl, fun h => h10 (upd_ne (by decide) h), fun h => h11 (upd_ne (by decide) h), fun _ => ⟨rfl, u12, (by simpa [World.setCell] using t12), fun h' => (by rw [upd_self] at h'; cases h'), fun _ => Own.set (i := 1) (Own.set (i := 0) (oz) _ (by simp)) _ (by simp)⟩, fun h => (by obtain ⟨p1, p2, p3, p4, p5⟩ := h13 (upd_ne (by decide) h); have hne : p12 ≠ p13 := (by have := m12_13 (dep_of hd (e := ⟨12, .data⟩) (by simp) rfl) (upd_ne (by decide) h); omega); exact ⟨p1, p2, (by simpa [World.setCell] using p3), fun h' => Own.other (i := 1) (Own.other (i := 0) (p4 (by rw [upd_same (by decide)] at h'; exact h')) _ hne) _ hne, fun h' => Own.other (i := 1) (Own.other (i := 0) (p5 (upd_ne (by decide) h')) _ hne) _ hne⟩), fun h => h16 (upd_ne (by decide) h), fun _ => upd_of (dep_of hd (e := ⟨12, .data⟩) (by simp) rfl), fun h => upd_of (n13 (upd_ne (by decide) h)), fun h h' => m12_13 (upd_ne (by decide) h) (upd_ne (by decide) h'), ((hB.setCell (p := ⟨p12, 0, none⟩) u12 _).setCell (p := ⟨p12, 1, none⟩) u12 _)⟩
          · rintro f a W ⟨x32, x33, x34, x35, x36, x37, x38, x39, x31, x40, x41, x42, x11, x12, x13, p12, p13, rfl, h0, h1, h2, h3, h4, h5, h6, h7, h8, h9, h10, h11, h12, h13, h16, n12, n13, m12_13, hB⟩ hf hd K hK
            obtain ⟨e13, u13, t13, z13, s13⟩ := h13 (dep_of hd (e := ⟨13, .data⟩) (by simp) rfl)
            subst e13
            have e10 := h10 (dep_of hd (e := ⟨10, .data⟩) (by simp) rfl)
            subst e10
            have oz := z13 hf
            have r0 := oz.cell 0 _ rfl
            have o0_ := oz.frz 0 _ rfl
            have r1 := oz.cell 1 _ rfl
            have o1_ := oz.frz 1 _ rfl
            go_simp
            refine hK _ _ ?_
            exact ⟨x32, x33, x34, x35, x36, x37, x38, x39, x31, x40, _, x42, x11, _, x13, p12, p13, rfl, fun h => h0 (upd_ne (by decide) h), fun h => h1 (upd_ne (by decide) h), fun h => h2 (upd_ne (by decide) h), fun h => h3 (upd_ne (by decide) h), fun h => h4 (upd_ne (by decide) h), fun h => h5 (upd_ne (by decide) h), fun h => h6 (upd_ne (by decide) h), fun h => h7 (upd_ne (by decide) h), fun h => h8 (upd_ne (by decide) h), fun h => h9 (upd_ne (by decide) h), fun _ => rfl, fun h => h11 (upd_ne (by decide) h), fun h => (by obtain ⟨p1, p2, p3, p4, p5⟩ := h12 (upd_ne (by decide) h); have hne : p13 ≠ p12 := (by have := m12_13 (upd_ne (by decide) h) (dep_of hd (e := ⟨13, .data⟩) (by simp) rfl); omega); exact ⟨p1, p2, (by simpa [World.setCell] using p3), fun h' => Own.other (i := 1) (Own.other (i := 0) (p4 (by rw [upd_same (by decide)] at h'; exact h')) _ hne) _ hne, fun h' => Own.other (i := 1) (Own.other (i := 0) (p5 (upd_ne (by decide) h')) _ hne) _ hne⟩), fun _ => ⟨rfl, u13, (by simpa [World.setCell] using t13), fun h' => (by rw [upd_self] at h'; cases h'), fun _ => Own.set (i := 1) (Own.set (i := 0) (oz) _ (by simp)) _ (by simp)⟩, fun h => h16 (upd_ne (by decide) h), fun h => upd_of (n12 (upd_ne (by decide) h)), fun _ => upd_of (dep_of hd (e := ⟨13, .data⟩) (by simp) rfl), fun h h' => m12_13 (upd_ne (by decide) h) (upd_ne (by decide) h'), ((hB.setCell (p := ⟨p13, 0, none⟩) u13 _).setCell (p := ⟨p13, 1, none⟩) u13 _)⟩
          · rintro f a W ⟨x32, x33, x34, x35, x36, x37, x38, x39, x31, x40, x41, x42, x11, x12, x13, p12, p13, rfl, h0, h1, h2, h3, h4, h5, h6, h7, h8, h9, h10, h11, h12, h13, h16, n12, n13, m12_13, hB⟩ hf hd K hK
            have e11 := h11 (dep_of hd (e := ⟨11, .data⟩) (by simp) rfl)
            subst e11
            go_simp
            refine hK _ _ ?_
            exact ⟨x32, x33, x34, x35, x36, x37, x38, x39, x31, x40, x41, _, x11, x12, _, p12, p13, rfl, fun h => h0 (upd_ne (by decide) h), fun h => h1 (upd_ne (by decide) h), fun h => h2 (upd_ne (by decide) h), fun h => h3 (upd_ne (by decide) h), fun h => h4 (upd_ne (by decide) h), fun h => h5 (upd_ne (by decide) h), fun h => h6 (upd_ne (by decide) h), fun h => h7 (upd_ne (by decide) h), fun h => h8 (upd_ne (by decide) h), fun h => h9 (upd_ne (by decide) h), fun h => h10 (upd_ne (by decide) h), fun _ => rfl, fun h => (by obtain ⟨p1, p2, p3, p4, p5⟩ := h12 (upd_ne (by decide) h); exact ⟨p1, p2, p3, fun h' => p4 (by rw [upd_same (by decide)] at h'; exact h'), fun h' => p5 (upd_ne (by decide) h')⟩), fun h => (by obtain ⟨p1, p2, p3, p4, p5⟩ := h13 (upd_ne (by decide) h); exact ⟨p1, p2, p3, fun h' => p4 (by rw [upd_same (by decide)] at h'; exact h'), fun h' => p5 (upd_ne (by decide) h')⟩), fun _ => rfl, fun h => upd_of (n12 (upd_ne (by decide) h)), fun h => upd_of (n13 (upd_ne (by decide) h)), fun h h' => m12_13 (upd_ne (by decide) h) (upd_ne (by decide) h'), hB⟩
          rintro f a w3 ⟨x32, x33, x34, x35, x36, x37, x38, x39, x31, x40, x41, x42, x11, x12, x13, p12, p13, rfl, h0, h1, h2, h3, h4, h5, h6, h7, h8, h9, h10, h11, h12, h13, h16, n12, n13, m12_13, qB⟩ hall
          have e0 := h0 (hall 0 (by decide))
          subst e0
          have e1 := h1 (hall 1 (by decide))
          subst e1
          have e2 := h2 (hall 2 (by decide))
          subst e2
          have e3 := h3 (hall 3 (by decide))
          subst e3
          have e4 := h4 (hall 4 (by decide))
          subst e4
          have e5 := h5 (hall 5 (by decide))
          subst e5
          have e6 := h6 (hall 6 (by decide))
          subst e6
          have e7 := h7 (hall 7 (by decide))
          subst e7
          have e8 := h8 (hall 8 (by decide))
          subst e8
          have e9 := h9 (hall 9 (by decide))
          subst e9
          have e10 := h10 (hall 10 (by decide))
          subst e10
          have e11 := h11 (hall 11 (by decide))
          subst e11
          obtain ⟨e12, u12, -, -, s12⟩ := h12 (hall 12 (by decide))
          replace s12 := s12 (hall 14 (by decide))
          subst e12
          obtain ⟨e13, u13, -, -, s13⟩ := h13 (hall 13 (by decide))
          replace s13 := s13 (hall 15 (by decide))
          subst e13
          have e16 := h16 (hall 16 (by decide))
          subst e16
          replace m12_13 := m12_13 (hall 12 (by decide)) (hall 13 (by decide))
          clear hall h0 h1 h2 h3 h4 h5 h6 h7 h8 h9 h10 h11 h12 h13 h16 n12 n13
          try dsimp only
          replace oR := oR.below qB
          replace oS := oS.below qB
          replace q0 := q0.trans (qB.mono q0.size)
          have c0 := oR.cell 0 _ rfl
          have f0 := oR.frz 0 _ rfl
          have c1 := oS.cell 0 _ rfl
          have f1 := oS.frz 0 _ rfl
          go_wp2
          exact twoNone rfl E.out.1 E.out.2 oR oS (by omega) q0 (by omega) (by omega) rfl rfl rfl
        · obtain ⟨len, hlen⟩ : ∃ len, ps.length = len := ⟨_, rfl⟩
          rw [hlen] at q0 oA oX oR oS hk h1 ⊢
          clear hK hg hf
          go_enter Try.func30, Try.ntmps30
          go_wp2_with first
            | (go_at_call 23; refine (hk _ q0).mono ?_; clear hk; rintro e w2 ⟨rfl, q⟩; replace oA := oA.below q; replace oX := oX.below q; replace oR := oR.below q; replace oS := oS.below q; replace q0 := q0.trans (q.mono q0.size); clear q; have cA := oA.cell 0 _ rfl; have c0 := oR.cell 0 _ rfl; have f0 := oR.frz 0 _ rfl; have c1 := oS.cell 0 _ rfl; have f1 := oS.frz 0 _ rfl)
          exact twoNone rfl E.out.1 E.out.2 oR oS (by omega) q0 (by omega) (by omega) rfl rfl rfl
      · obtain ⟨len, hlen⟩ : ∃ len, ps.length = len := ⟨_, rfl⟩
        rw [hlen] at q0 oA oX oR oS hk ⊢
        clear hK hg hf
        go_enter Try.func30, Try.ntmps30
        go_wp2_with first
          | (go_at_call 23; refine (hk _ q0).mono ?_; clear hk; rintro e w2 ⟨rfl, q⟩; replace oA := oA.below q; replace oX := oX.below q; replace oR := oR.below q; replace oS := oS.below q; replace q0 := q0.trans (q.mono q0.size); clear q; have cA := oA.cell 0 _ rfl; have c0 := oR.cell 0 _ rfl; have f0 := oR.frz 0 _ rfl; have c1 := oS.cell 0 _ rfl; have f1 := oS.frz 0 _ rfl)
        exact twoNone rfl E.out.1 E.out.2 oR oS (by omega) q0 (by omega) (by omega) rfl rfl rfl
  · have eA : partA n f ps k = ps.set k.toNat (f (at2 ps k.toNat)).1 := by unfold partA; rw [if_pos hK]
    have eB : partB n f ps k = ps.set k.toNat (f (at2 ps k.toNat)).2.1 := by unfold partB; rw [if_pos hK]
    unfold partK at hK
    simp only [Bool.and_eq_true, decide_eq_true_eq] at hK
    obtain ⟨hbk, h0, h1, hk2⟩ := hK
    rw [hbk] at hk
    obtain ⟨j, rfl⟩ : ∃ j : Nat, k = j := ⟨k.toNat, by omega⟩
    simp only [Int.toNat_natCast] at hk2 eA eB
    have hj : j < ps.length := by omega
    have wj := h.wfD hj
    have hgj := fun W => hg (at2 ps j) W wj
    have hfj := hf (at2 ps j) wj
    obtain ⟨rb, ro, ha, hlt, x0, x1⟩ := h.atD hj
    subst ha
    rw [hk2] at hgj
    rw [eA, eB]
    generalize (at2 ps j).1 = x at *
    generalize (at2 ps j).2 = y at *
    obtain ⟨⟨r0, r1⟩, hr⟩ : ∃ r, (f (at2 ps j)).1 = r := ⟨_, rfl⟩
    obtain ⟨⟨r2, r3⟩, hr'⟩ : ∃ r, (f (at2 ps j)).2.1 = r := ⟨_, rfl⟩
    rw [hr, hr'] at hgj hfj
    rw [hr, hr']
    clear hr hr' eA eB hk2 hbk hg hf
    have X : Hid (rb < w.heap.size ∧ w.cell? ⟨rb, ro + j * 2, none⟩ = some (.int .i64 x) ∧ w.cell? ⟨rb, ro + j * 2 + 1, none⟩ = some (.int .i64 y)) := ⟨hlt, x0, x1⟩
    have wA : Hid (∀ p ∈ ps.set j (r0, r1), (Lit.int .i64 p.1).wf = true ∧ (Lit.int .i64 p.2).wf = true) := fun p hp => by
      rcases at2_set (x := r0) (y := r1) hj p hp with e | e
      · exact h.1 p e
      · rw [e]; exact hfj.1
    have wB : Hid (∀ p ∈ ps.set j (r2, r3), (Lit.int .i64 p.1).wf = true ∧ (Lit.int .i64 p.2).wf = true) := fun p hp => by
      rcases at2_set (x := r2) (y := r3) hj p hp with e | e
      · exact h.1 p e
      · rw [e]; exact hfj.2
    have hW := fun W (q : Below w.heap.size w W) (x y : Int) (wx : (Lit.int .i64 x).wf = true) (wy : (Lit.int .i64 y).wf = true) => l4With W rb ro ps cap j x y wx wy (h.below q) hj hl hm
    have lA : Hid ((ps.set j (r0, r1)).length = ps.length) := by show (ps.set j (r0, r1)).length = ps.length; rw [List.length_set]
    have lB : Hid ((ps.set j (r2, r3)).length = ps.length) := by show (ps.set j (r2, r3)).length = ps.length; rw [List.length_set]
    unfold BoxNewC at hW
    simp only [List.length_set] at hW
    obtain ⟨len, hlen⟩ : ∃ len, ps.length = len := ⟨_, rfl⟩
    rw [hlen] at q0 oA oX oR oS hk hl hm h1 lA lB ⊢
    simp only [hlen] at hW
    clear x0 x1 hlt wj kb h
    unfold TwoOut2 at hgj
    have hd1 : decide ((j : Int) < 0) = false := decide_eq_false (by omega)
    have hd2 : decide ((len : Int) ≤ (j : Int)) = false := decide_eq_false (by omega)
    have hd3 : decide (len ≤ j) = false := decide_eq_false (by omega)
    go_enter Try.func30, Try.ntmps30
    go_wp2_with first
      | (go_at_call 23; refine (hk _ q0).mono ?_; clear hk; rintro e w2 ⟨rfl, q⟩; replace oA := oA.below q; replace oX := oX.below q; replace oR := oR.below q; replace oS := oS.below q; replace q0 := q0.trans (q.mono q0.size); clear q; have cA := oA.cell 0 _ rfl; have cX := oX.cell 0 _ rfl; have cY := oX.cell 1 _ rfl; have x0 := (q0.cell (p := ⟨rb, ro + j * 2, none⟩) X.out.1).trans X.out.2.1; have x1 := (q0.cell (p := ⟨rb, ro + j * 2 + 1, none⟩) X.out.1).trans X.out.2.2)
    have lA := oA.lt
    have lX := oX.lt
    have X2 : rb < w2.heap.size := Nat.lt_of_lt_of_le X.out.1 q0.size
    refine region_steps (by kernel_rfl) (by kernel_rfl) (by kernel_rfl) (fun A0 f a W => ∃ (x32 : Value) (x33 : Value) (x34 : Value) (x35 : Value) (x36 : Value) (x37 : Value) (x38 : Value) (x39 : Value) (x31 : Value) (x40 : Value) (x41 : Value) (x42 : Value) (x11 : Value) (x12 : Value) (x13 : Value) (p12 : Nat) (p13 : Nat), a = { tmps := #[.int .i64 n, .agg #[.slice (some ⟨rb, ro, none⟩) len cap], .int .i64 (j : Int), .agg #[.int .i64 g, .int .i64 gh], undef, .pointer (some ⟨w.heap.size, 0, none⟩), undef, .pointer (some ⟨w.heap.size + 1, 0, none⟩), .pointer (some ⟨w.heap.size + 1 + 1, 0, none⟩), .pointer (some ⟨w.heap.size + 1 + 1 + 1, 0, none⟩), .bool false, x11, x12, x13, .int .i64 n, .agg #[.slice (some ⟨rb, ro, none⟩) len cap], .bool true, .bool false, .bool false, .int .i64 (j : Int), .bool false, .bool false, .bool false, .int .i64 (j : Int), .pointer (some ⟨w.heap.size, 0, none⟩), .slice (some ⟨rb, ro, none⟩) len cap, .int .i64 (len : Int), .bool false, .bool false, undef, undef, x31, x32, x33, x34, x35, x36, x37, x38, x39, x40, x41, x42, undef, undef, undef, undef, undef, undef, undef, undef, undef, undef, undef, undef], defers := [] } ∧ (f 0 = true → x32 = .int .i64 n) ∧ (f 1 = true → x33 = .pointer (some ⟨w.heap.size, 0, none⟩)) ∧ (f 2 = true → x34 = .slice (some ⟨rb, ro, none⟩) len cap) ∧ (f 3 = true → x35 = .int .i64 (j : Int)) ∧ (f 4 = true → x36 = .pointer (some ⟨rb, ro + j * 2, none⟩)) ∧ (f 5 = true → x37 = .agg #[.int .i64 x, .int .i64 y]) ∧ (f 6 = true → x38 = .agg #[.int .i64 g, .int .i64 gh]) ∧ (f 7 = true → x39 = .tuple #[.agg #[.int .i64 r0, .int .i64 r1], .agg #[.int .i64 r2, .int .i64 r3], .bool true]) ∧ (f 8 = true → x31 = .tuple #[.agg #[.int .i64 r0, .int .i64 r1], .agg #[.int .i64 r2, .int .i64 r3], .bool true]) ∧ (f 9 = true → x40 = .agg #[.int .i64 r0, .int .i64 r1]) ∧ (f 10 = true → x41 = .agg #[.int .i64 r2, .int .i64 r3]) ∧ (f 11 = true → x42 = .bool true) ∧ (f 12 = true → x11 = .pointer (some ⟨p12, 0, none⟩) ∧ w2.heap.size ≤ p12 ∧ p12 < W.heap.size ∧ (f 14 = false → Own W p12 [.int .i64 0, .int .i64 0]) ∧ (f 14 = true → Own W p12 [.int .i64 r0, .int .i64 r1])) ∧ (f 13 = true → x12 = .pointer (some ⟨p13, 0, none⟩) ∧ w2.heap.size ≤ p13 ∧ p13 < W.heap.size ∧ (f 15 = false → Own W p13 [.int .i64 0, .int .i64 0]) ∧ (f 15 = true → Own W p13 [.int .i64 r2, .int .i64 r3])) ∧ (f 16 = true → x13 = .bool true) ∧ (f 14 = true → f 12 = true) ∧ (f 15 = true → f 13 = true) ∧ (f 12 = true → f 13 = true → p12 ≠ p13) ∧ Below w2.heap.size w2 W) ?_ ⟨?_, ?_, ?_, ?_, ?_, ?_, ?_, ?_, ?_, ?_, ?_, ?_, ?_, ?_, ?_, ?_, ?_, trivial⟩ ?_
    · exact ⟨undef, undef, undef, undef, undef, undef, undef, undef, undef, undef, undef, undef, undef, undef, undef, 0, 0, rfl, (fun h => (by cases h)), (fun h => (by cases h)), (fun h => (by cases h)), (fun h => (by cases h)), (fun h => (by cases h)), (fun h => (by cases h)), (fun h => (by cases h)), (fun h => (by cases h)), (fun h => (by cases h)), (fun h => (by cases h)), (fun h => (by cases h)), (fun h => (by cases h)), (fun h => (by cases h)), (fun h => (by cases h)), (fun h => (by cases h)), (fun h => (by cases h)), (fun h => (by cases h)), (fun h => (by cases h)), (Below.refl _ _).drew⟩
    · rintro f a W ⟨x32, x33, x34, x35, x36, x37, x38, x39, x31, x40, x41, x42, x11, x12, x13, p12, p13, rfl, h0, h1, h2, h3, h4, h5, h6, h7, h8, h9, h10, h11, h12, h13, h16, n12, n13, m12_13, hB⟩ hf hd K hK
      go_simp
      refine hK _ _ ?_
      exact ⟨_, x33, x34, x35, x36, x37, x38, x39, x31, x40, x41, x42, x11, x12, x13, p12, p13, rfl, fun _ => rfl, fun h => h1 (upd_ne (by decide) h), fun h => h2 (upd_ne (by decide) h), fun h => h3 (upd_ne (by decide) h), fun h => h4 (upd_ne (by decide) h), fun h => h5 (upd_ne (by decide) h), fun h => h6 (upd_ne (by decide) h), fun h => h7 (upd_ne (by decide) h), fun h => h8 (upd_ne (by decide) h), fun h => h9 (upd_ne (by decide) h), fun h => h10 (upd_ne (by decide) h), fun h => h11 (upd_ne (by decide) h), fun h => (by obtain ⟨p1, p2, p3, p4, p5⟩ := h12 (upd_ne (by decide) h); exact ⟨p1, p2, p3, fun h' => p4 (by rw [upd_same (by decide)] at h'; exact h'), fun h' => p5 (upd_ne (by decide) h')⟩), fun h => (by obtain ⟨p1, p2, p3, p4, p5⟩ := h13 (upd_ne (by decide) h); exact ⟨p1, p2, p3, fun h' => p4 (by rw [upd_same (by decide)] at h'; exact h'), fun h' => p5 (upd_ne (by decide) h')⟩), fun h => h16 (upd_ne (by decide) h), fun h => upd_of (n12 (upd_ne (by decide) h)), fun h => upd_of (n13 (upd_ne (by decide) h)), fun h h' => m12_13 (upd_ne (by decide) h) (upd_ne (by decide) h'), hB⟩
    · rintro f a W ⟨x32, x33, x34, x35, x36, x37, x38, x39, x31, x40, x41, x42, x11, x12, x13, p12, p13, rfl, h0, h1, h2, h3, h4, h5, h6, h7, h8, h9, h10, h11, h12, h13, h16, n12, n13, m12_13, hB⟩ hf hd K hK
      go_simp
      refine hK _ _ ?_
      exact ⟨x32, _, x34, x35, x36, x37, x38, x39, x31, x40, x41, x42, x11, x12, x13, p12, p13, rfl, fun h => h0 (upd_ne (by decide) h), fun _ => rfl, fun h => h2 (upd_ne (by decide) h), fun h => h3 (upd_ne (by decide) h), fun h => h4 (upd_ne (by decide) h), fun h => h5 (upd_ne (by decide) h), fun h => h6 (upd_ne (by decide) h), fun h => h7 (upd_ne (by decide) h), fun h => h8 (upd_ne (by decide) h), fun h => h9 (upd_ne (by decide) h), fun h => h10 (upd_ne (by decide) h), fun h => h11 (upd_ne (by decide) h), fun h => (by obtain ⟨p1, p2, p3, p4, p5⟩ := h12 (upd_ne (by decide) h); exact ⟨p1, p2, p3, fun h' => p4 (by rw [upd_same (by decide)] at h'; exact h'), fun h' => p5 (upd_ne (by decide) h')⟩), fun h => (by obtain ⟨p1, p2, p3, p4, p5⟩ := h13 (upd_ne (by decide) h); exact ⟨p1, p2, p3, fun h' => p4 (by rw [upd_same (by decide)] at h'; exact h'), fun h' => p5 (upd_ne (by decide) h')⟩), fun h => h16 (upd_ne (by decide) h), fun h => upd_of (n12 (upd_ne (by decide) h)), fun h => upd_of (n13 (upd_ne (by decide) h)), fun h h' => m12_13 (upd_ne (by decide) h) (upd_ne (by decide) h'), hB⟩
    · rintro f a W ⟨x32, x33, x34, x35, x36, x37, x38, x39, x31, x40, x41, x42, x11, x12, x13, p12, p13, rfl, h0, h1, h2, h3, h4, h5, h6, h7, h8, h9, h10, h11, h12, h13, h16, n12, n13, m12_13, hB⟩ hf hd K hK
      have e1 := h1 (dep_of hd (e := ⟨1, .data⟩) (by simp) rfl)
      subst e1
      have r0 := (hB.cell (p := ⟨w.heap.size, 0, none⟩) lA).trans cA
      go_simp
      refine hK _ _ ?_
      exact ⟨x32, _, _, x35, x36, x37, x38, x39, x31, x40, x41, x42, x11, x12, x13, p12, p13, rfl, fun h => h0 (upd_ne (by decide) h), fun _ => rfl, fun _ => rfl, fun h => h3 (upd_ne (by decide) h), fun h => h4 (upd_ne (by decide) h), fun h => h5 (upd_ne (by decide) h), fun h => h6 (upd_ne (by decide) h), fun h => h7 (upd_ne (by decide) h), fun h => h8 (upd_ne (by decide) h), fun h => h9 (upd_ne (by decide) h), fun h => h10 (upd_ne (by decide) h), fun h => h11 (upd_ne (by decide) h), fun h => (by obtain ⟨p1, p2, p3, p4, p5⟩ := h12 (upd_ne (by decide) h); exact ⟨p1, p2, p3, fun h' => p4 (by rw [upd_same (by decide)] at h'; exact h'), fun h' => p5 (upd_ne (by decide) h')⟩), fun h => (by obtain ⟨p1, p2, p3, p4, p5⟩ := h13 (upd_ne (by decide) h); exact ⟨p1, p2, p3, fun h' => p4 (by rw [upd_same (by decide)] at h'; exact h'), fun h' => p5 (upd_ne (by decide) h')⟩), fun h => h16 (upd_ne (by decide) h), fun h => upd_of (n12 (upd_ne (by decide) h)), fun h => upd_of (n13 (upd_ne (by decide) h)), fun h h' => m12_13 (upd_ne (by decide) h) (upd_ne (by decide) h'), hB⟩
    · rintro f a W ⟨x32, x33, x34, x35, x36, x37, x38, x39, x31, x40, x41, x42, x11, x12, x13, p12, p13, rfl, h0, h1, h2, h3, h4, h5, h6, h7, h8, h9, h10, h11, h12, h13, h16, n12, n13, m12_13, hB⟩ hf hd K hK
      go_simp
      refine hK _ _ ?_
      exact ⟨x32, x33, x34, _, x36, x37, x38, x39, x31, x40, x41, x42, x11, x12, x13, p12, p13, rfl, fun h => h0 (upd_ne (by decide) h), fun h => h1 (upd_ne (by decide) h), fun h => h2 (upd_ne (by decide) h), fun _ => rfl, fun h => h4 (upd_ne (by decide) h), fun h => h5 (upd_ne (by decide) h), fun h => h6 (upd_ne (by decide) h), fun h => h7 (upd_ne (by decide) h), fun h => h8 (upd_ne (by decide) h), fun h => h9 (upd_ne (by decide) h), fun h => h10 (upd_ne (by decide) h), fun h => h11 (upd_ne (by decide) h), fun h => (by obtain ⟨p1, p2, p3, p4, p5⟩ := h12 (upd_ne (by decide) h); exact ⟨p1, p2, p3, fun h' => p4 (by rw [upd_same (by decide)] at h'; exact h'), fun h' => p5 (upd_ne (by decide) h')⟩), fun h => (by obtain ⟨p1, p2, p3, p4, p5⟩ := h13 (upd_ne (by decide) h); exact ⟨p1, p2, p3, fun h' => p4 (by rw [upd_same (by decide)] at h'; exact h'), fun h' => p5 (upd_ne (by decide) h')⟩), fun h => h16 (upd_ne (by decide) h), fun h => upd_of (n12 (upd_ne (by decide) h)), fun h => upd_of (n13 (upd_ne (by decide) h)), fun h h' => m12_13 (upd_ne (by decide) h) (upd_ne (by decide) h'), hB⟩
    · rintro f a W ⟨x32, x33, x34, x35, x36, x37, x38, x39, x31, x40, x41, x42, x11, x12, x13, p12, p13, rfl, h0, h1, h2, h3, h4, h5, h6, h7, h8, h9, h10, h11, h12, h13, h16, n12, n13, m12_13, hB⟩ hf hd K hK
      have e2 := h2 (dep_of hd (e := ⟨2, .data⟩) (by simp) rfl)
      subst e2
      have e3 := h3 (dep_of hd (e := ⟨3, .data⟩) (by simp) rfl)
      subst e3
      go_simp
      refine hK _ _ ?_
      exact ⟨x32, x33, _, _, _, x37, x38, x39, x31, x40, x41, x42, x11, x12, x13, p12, p13, rfl, fun h => h0 (upd_ne (by decide) h), fun h => h1 (upd_ne (by decide) h), fun _ => rfl, fun _ => rfl, fun _ => rfl, fun h => h5 (upd_ne (by decide) h), fun h => h6 (upd_ne (by decide) h), fun h => h7 (upd_ne (by decide) h), fun h => h8 (upd_ne (by decide) h), fun h => h9 (upd_ne (by decide) h), fun h => h10 (upd_ne (by decide) h), fun h => h11 (upd_ne (by decide) h), fun h => (by obtain ⟨p1, p2, p3, p4, p5⟩ := h12 (upd_ne (by decide) h); exact ⟨p1, p2, p3, fun h' => p4 (by rw [upd_same (by decide)] at h'; exact h'), fun h' => p5 (upd_ne (by decide) h')⟩), fun h => (by obtain ⟨p1, p2, p3, p4, p5⟩ := h13 (upd_ne (by decide) h); exact ⟨p1, p2, p3, fun h' => p4 (by rw [upd_same (by decide)] at h'; exact h'), fun h' => p5 (upd_ne (by decide) h')⟩), fun h => h16 (upd_ne (by decide) h), fun h => upd_of (n12 (upd_ne (by decide) h)), fun h => upd_of (n13 (upd_ne (by decide) h)), fun h h' => m12_13 (upd_ne (by decide) h) (upd_ne (by decide) h'), hB⟩
    · rintro f a W ⟨x32, x33, x34, x35, x36, x37, x38, x39, x31, x40, x41, x42, x11, x12, x13, p12, p13, rfl, h0, h1, h2, h3, h4, h5, h6, h7, h8, h9, h10, h11, h12, h13, h16, n12, n13, m12_13, hB⟩ hf hd K hK
      have e4 := h4 (dep_of hd (e := ⟨4, .data⟩) (by simp) rfl)
      subst e4
      have r0 := (hB.cell (p := ⟨rb, ro + j * 2, none⟩) X2).trans x0
      have r1 := (hB.cell (p := ⟨rb, ro + j * 2 + 1, none⟩) X2).trans x1
      go_simp
      refine hK _ _ ?_
      exact ⟨x32, x33, x34, x35, _, _, x38, x39, x31, x40, x41, x42, x11, x12, x13, p12, p13, rfl, fun h => h0 (upd_ne (by decide) h), fun h => h1 (upd_ne (by decide) h), fun h => h2 (upd_ne (by decide) h), fun h => h3 (upd_ne (by decide) h), fun _ => rfl, fun _ => rfl, fun h => h6 (upd_ne (by decide) h), fun h => h7 (upd_ne (by decide) h), fun h => h8 (upd_ne (by decide) h), fun h => h9 (upd_ne (by decide) h), fun h => h10 (upd_ne (by decide) h), fun h => h11 (upd_ne (by decide) h), fun h => (by obtain ⟨p1, p2, p3, p4, p5⟩ := h12 (upd_ne (by decide) h); exact ⟨p1, p2, p3, fun h' => p4 (by rw [upd_same (by decide)] at h'; exact h'), fun h' => p5 (upd_ne (by decide) h')⟩), fun h => (by obtain ⟨p1, p2, p3, p4, p5⟩ := h13 (upd_ne (by decide) h); exact ⟨p1, p2, p3, fun h' => p4 (by rw [upd_same (by decide)] at h'; exact h'), fun h' => p5 (upd_ne (by decide) h')⟩), fun h => h16 (upd_ne (by decide) h), fun h => upd_of (n12 (upd_ne (by decide) h)), fun h => upd_of (n13 (upd_ne (by decide) h)), fun h h' => m12_13 (upd_ne (by decide) h) (upd_ne (by decide) h'), hB⟩
    · rintro f a W ⟨x32, x33, x34, x35, x36, x37, x38, x39, x31, x40, x41, x42, x11, x12, x13, p12, p13, rfl, h0, h1, h2, h3, h4, h5, h6, h7, h8, h9, h10, h11, h12, h13, h16, n12, n13, m12_13, hB⟩ hf hd K hK
      have r0 := (hB.cell (p := ⟨w.heap.size + 1, 0, none⟩) lX).trans cX
      have r1 := (hB.cell (p := ⟨w.heap.size + 1, 1, none⟩) lX).trans cY
      go_simp
      refine hK _ _ ?_
      exact ⟨x32, x33, x34, x35, x36, x37, _, x39, x31, x40, x41, x42, x11, x12, x13, p12, p13, rfl, fun h => h0 (upd_ne (by decide) h), fun h => h1 (upd_ne (by decide) h), fun h => h2 (upd_ne (by decide) h), fun h => h3 (upd_ne (by decide) h), fun h => h4 (upd_ne (by decide) h), fun h => h5 (upd_ne (by decide) h), fun _ => rfl, fun h => h7 (upd_ne (by decide) h), fun h => h8 (upd_ne (by decide) h), fun h => h9 (upd_ne (by decide) h), fun h => h10 (upd_ne (by decide) h), fun h => h11 (upd_ne (by decide) h), fun h => (by obtain ⟨p1, p2, p3, p4, p5⟩ := h12 (upd_ne (by decide) h); exact ⟨p1, p2, p3, fun h' => p4 (by rw [upd_same (by decide)] at h'; exact h'), fun h' => p5 (upd_ne (by decide) h')⟩), fun h => (by obtain ⟨p1, p2, p3, p4, p5⟩ := h13 (upd_ne (by decide) h); exact ⟨p1, p2, p3, fun h' => p4 (by rw [upd_same (by decide)] at h'; exact h'), fun h' => p5 (upd_ne (by decide) h')⟩), fun h => h16 (upd_ne (by decide) h), fun h => upd_of (n12 (upd_ne (by decide) h)), fun h => upd_of (n13 (upd_ne (by decide) h)), fun h h' => m12_13 (upd_ne (by decide) h) (upd_ne (by decide) h'), hB⟩
    · rintro f a W ⟨x32, x33, x34, x35, x36, x37, x38, x39, x31, x40, x41, x42, x11, x12, x13, p12, p13, rfl, h0, h1, h2, h3, h4, h5, h6, h7, h8, h9, h10, h11, h12, h13, h16, n12, n13, m12_13, hB⟩ hf hd K hK
      have e0 := h0 (dep_of hd (e := ⟨0, .data⟩) (by simp) rfl)
      subst e0
      have e5 := h5 (dep_of hd (e := ⟨5, .data⟩) (by simp) rfl)
      subst e5
      have e6 := h6 (dep_of hd (e := ⟨6, .data⟩) (by simp) rfl)
      subst e6
      go_simp
      refine (hgj _).mono ?_
      rintro e W2 ⟨rfl, q⟩
      refine hK _ _ ?_
      exact ⟨_, x33, x34, x35, x36, _, _, _, x31, x40, x41, x42, x11, x12, x13, p12, p13, rfl, fun _ => rfl, fun h => h1 (upd_ne (by decide) h), fun h => h2 (upd_ne (by decide) h), fun h => h3 (upd_ne (by decide) h), fun h => h4 (upd_ne (by decide) h), fun _ => rfl, fun _ => rfl, fun _ => rfl, fun h => h8 (upd_ne (by decide) h), fun h => h9 (upd_ne (by decide) h), fun h => h10 (upd_ne (by decide) h), fun h => h11 (upd_ne (by decide) h), fun h => (by obtain ⟨p1, p2, p3, p4, p5⟩ := h12 (upd_ne (by decide) h); exact ⟨p1, p2, Nat.lt_of_lt_of_le (p3) q.size, fun h' => (p4 (by rw [upd_same (by decide)] at h'; exact h')).below q, fun h' => (p5 (upd_ne (by decide) h')).below q⟩), fun h => (by obtain ⟨p1, p2, p3, p4, p5⟩ := h13 (upd_ne (by decide) h); exact ⟨p1, p2, Nat.lt_of_lt_of_le (p3) q.size, fun h' => (p4 (by rw [upd_same (by decide)] at h'; exact h')).below q, fun h' => (p5 (upd_ne (by decide) h')).below q⟩), fun h => h16 (upd_ne (by decide) h), fun h => upd_of (n12 (upd_ne (by decide) h)), fun h => upd_of (n13 (upd_ne (by decide) h)), fun h h' => m12_13 (upd_ne (by decide) h) (upd_ne (by decide) h'), hB.trans (q.mono hB.size)⟩
    · rintro f a W ⟨x32, x33, x34, x35, x36, x37, x38, x39, x31, x40, x41, x42, x11, x12, x13, p12, p13, rfl, h0, h1, h2, h3, h4, h5, h6, h7, h8, h9, h10, h11, h12, h13, h16, n12, n13, m12_13, hB⟩ hf hd K hK
      have e7 := h7 (dep_of hd (e := ⟨7, .data⟩) (by simp) rfl)
      subst e7
      go_simp
      refine hK _ _ ?_
      exact ⟨x32, x33, x34, x35, x36, x37, x38, _, _, x40, x41, x42, x11, x12, x13, p12, p13, rfl, fun h => h0 (upd_ne (by decide) h), fun h => h1 (upd_ne (by decide) h), fun h => h2 (upd_ne (by decide) h), fun h => h3 (upd_ne (by decide) h), fun h => h4 (upd_ne (by decide) h), fun h => h5 (upd_ne (by decide) h), fun h => h6 (upd_ne (by decide) h), fun _ => rfl, fun _ => rfl, fun h => h9 (upd_ne (by decide) h), fun h => h10 (upd_ne (by decide) h), fun h => h11 (upd_ne (by decide) h), fun h => (by obtain ⟨p1, p2, p3, p4, p5⟩ := h12 (upd_ne (by decide) h); exact ⟨p1, p2, p3, fun h' => p4 (by rw [upd_same (by decide)] at h'; exact h'), fun h' => p5 (upd_ne (by decide) h')⟩), fun h => (by obtain ⟨p1, p2, p3, p4, p5⟩ := h13 (upd_ne (by decide) h); exact ⟨p1, p2, p3, fun h' => p4 (by rw [upd_same (by decide)] at h'; exact h'), fun h' => p5 (upd_ne (by decide) h')⟩), fun h => h16 (upd_ne (by decide) h), fun h => upd_of (n12 (upd_ne (by decide) h)), fun h => upd_of (n13 (upd_ne (by decide) h)), fun h h' => m12_13 (upd_ne (by decide) h) (upd_ne (by decide) h'), hB⟩
    · rintro f a W ⟨x32, x33, x34, x35, x36, x37, x38, x39, x31, x40, x41, x42, x11, x12, x13, p12, p13, rfl, h0, h1, h2, h3, h4, h5, h6, h7, h8, h9, h10, h11, h12, h13, h16, n12, n13, m12_13, hB⟩ hf hd K hK
      have e8 := h8 (dep_of hd (e := ⟨8, .data⟩) (by simp) rfl)
      subst e8
      go_simp
      refine hK _ _ ?_
      exact ⟨x32, x33, x34, x35, x36, x37, x38, x39, _, _, x41, x42, x11, x12, x13, p12, p13, rfl, fun h => h0 (upd_ne (by decide) h), fun h => h1 (upd_ne (by decide) h), fun h => h2 (upd_ne (by decide) h), fun h => h3 (upd_ne (by decide) h), fun h => h4 (upd_ne (by decide) h), fun h => h5 (upd_ne (by decide) h), fun h => h6 (upd_ne (by decide) h), fun h => h7 (upd_ne (by decide) h), fun _ => rfl, fun _ => rfl, fun h => h10 (upd_ne (by decide) h), fun h => h11 (upd_ne (by decide) h), fun h => (by obtain ⟨p1, p2, p3, p4, p5⟩ := h12 (upd_ne (by decide) h); exact ⟨p1, p2, p3, fun h' => p4 (by rw [upd_same (by decide)] at h'; exact h'), fun h' => p5 (upd_ne (by decide) h')⟩), fun h => (by obtain ⟨p1, p2, p3, p4, p5⟩ := h13 (upd_ne (by decide) h); exact ⟨p1, p2, p3, fun h' => p4 (by rw [upd_same (by decide)] at h'; exact h'), fun h' => p5 (upd_ne (by decide) h')⟩), fun h => h16 (upd_ne (by decide) h), fun h => upd_of (n12 (upd_ne (by decide) h)), fun h => upd_of (n13 (upd_ne (by decide) h)), fun h h' => m12_13 (upd_ne (by decide) h) (upd_ne (by decide) h'), hB⟩
    · rintro f a W ⟨x32, x33, x34, x35, x36, x37, x38, x39, x31, x40, x41, x42, x11, x12, x13, p12, p13, rfl, h0, h1, h2, h3, h4, h5, h6, h7, h8, h9, h10, h11, h12, h13, h16, n12, n13, m12_13, hB⟩ hf hd K hK
      have e8 := h8 (dep_of hd (e := ⟨8, .data⟩) (by simp) rfl)
      subst e8
      go_simp
      refine hK _ _ ?_
      exact ⟨x32, x33, x34, x35, x36, x37, x38, x39, _, x40, _, x42, x11, x12, x13, p12, p13, rfl, fun h => h0 (upd_ne (by decide) h), fun h => h1 (upd_ne (by decide) h), fun h => h2 (upd_ne (by decide) h), fun h => h3 (upd_ne (by decide) h), fun h => h4 (upd_ne (by decide) h), fun h => h5 (upd_ne (by decide) h), fun h => h6 (upd_ne (by decide) h), fun h => h7 (upd_ne (by decide) h), fun _ => rfl, fun h => h9 (upd_ne (by decide) h), fun _ => rfl, fun h => h11 (upd_ne (by decide) h), fun h => (by obtain ⟨p1, p2, p3, p4, p5⟩ := h12 (upd_ne (by decide) h); exact ⟨p1, p2, p3, fun h' => p4 (by rw [upd_same (by decide)] at h'; exact h'), fun h' => p5 (upd_ne (by decide) h')⟩), fun h => (by obtain ⟨p1, p2, p3, p4, p5⟩ := h13 (upd_ne (by decide) h); exact ⟨p1, p2, p3, fun h' => p4 (by rw [upd_same (by decide)] at h'; exact h'), fun h' => p5 (upd_ne (by decide) h')⟩), fun h => h16 (upd_ne (by decide) h), fun h => upd_of (n12 (upd_ne (by decide) h)), fun h => upd_of (n13 (upd_ne (by decide) h)), fun h h' => m12_13 (upd_ne (by decide) h) (upd_ne (by decide) h'), hB⟩
    · rintro f a W ⟨x32, x33, x34, x35, x36, x37, x38, x39, x31, x40, x41, x42, x11, x12, x13, p12, p13, rfl, h0, h1, h2, h3, h4, h5, h6, h7, h8, h9, h10, h11, h12, h13, h16, n12, n13, m12_13, hB⟩ hf hd K hK
      have e8 := h8 (dep_of hd (e := ⟨8, .data⟩) (by simp) rfl)
      subst e8
      go_simp
      refine hK _ _ ?_
      exact ⟨x32, x33, x34, x35, x36, x37, x38, x39, _, x40, x41, _, x11, x12, x13, p12, p13, rfl, fun h => h0 (upd_ne (by decide) h), fun h => h1 (upd_ne (by decide) h), fun h => h2 (upd_ne (by decide) h), fun h => h3 (upd_ne (by decide) h), fun h => h4 (upd_ne (by decide) h), fun h => h5 (upd_ne (by decide) h), fun h => h6 (upd_ne (by decide) h), fun h => h7 (upd_ne (by decide) h), fun _ => rfl, fun h => h9 (upd_ne (by decide) h), fun h => h10 (upd_ne (by decide) h), fun _ => rfl, fun h => (by obtain ⟨p1, p2, p3, p4, p5⟩ := h12 (upd_ne (by decide) h); exact ⟨p1, p2, p3, fun h' => p4 (by rw [upd_same (by decide)] at h'; exact h'), fun h' => p5 (upd_ne (by decide) h')⟩), fun h => (by obtain ⟨p1, p2, p3, p4, p5⟩ := h13 (upd_ne (by decide) h); exact ⟨p1, p2, p3, fun h' => p4 (by rw [upd_same (by decide)] at h'; exact h'), fun h' => p5 (upd_ne (by decide) h')⟩), fun h => h16 (upd_ne (by decide) h), fun h => upd_of (n12 (upd_ne (by decide) h)), fun h => upd_of (n13 (upd_ne (by decide) h)), fun h h' => m12_13 (upd_ne (by decide) h) (upd_ne (by decide) h'), hB⟩
    · rintro f a W ⟨x32, x33, x34, x35, x36, x37, x38, x39, x31, x40, x41, x42, x11, x12, x13, p12, p13, rfl, h0, h1, h2, h3, h4, h5, h6, h7, h8, h9, h10, h11, h12, h13, h16, n12, n13, m12_13, hB⟩ hf hd K hK
      go_simp
      refine hK _ _ ?_
      exact ⟨x32, x33, x34, x35, x36, x37, x38, x39, x31, x40, x41, x42, _, x12, x13, W.heap.size, p13, rfl, fun h => h0 (upd_ne (by decide) h), fun h => h1 (upd_ne (by decide) h), fun h => h2 (upd_ne (by decide) h), fun h => h3 (upd_ne (by decide) h), fun h => h4 (upd_ne (by decide) h), fun h => h5 (upd_ne (by decide) h), fun h => h6 (upd_ne (by decide) h), fun h => h7 (upd_ne (by decide) h), fun h => h8 (upd_ne (by decide) h), fun h => h9 (upd_ne (by decide) h), fun h => h10 (upd_ne (by decide) h), fun h => h11 (upd_ne (by decide) h), fun _ => ⟨rfl, hB.size, (by simp), fun _ => Own.new W _ _, fun h' => absurd (n12 (upd_ne (by decide) h')) (by rw [hf]; decide)⟩, fun h => (by obtain ⟨p1, p2, p3, p4, p5⟩ := h13 (upd_ne (by decide) h); exact ⟨p1, p2, (by have := p3; simp; omega), fun h' => (p4 (by rw [upd_same (by decide)] at h'; exact h')).alloc _, fun h' => (p5 (upd_ne (by decide) h')).alloc _⟩), fun h => h16 (upd_ne (by decide) h), fun _ => upd_self, fun h => upd_of (n13 (upd_ne (by decide) h)), fun _ h => (by obtain ⟨-, -, p3, -, -⟩ := h13 (upd_ne (by decide) h); omega), hB.alloc hB.size _⟩
    · rintro f a W ⟨x32, x33, x34, x35, x36, x37, x38, x39, x31, x40, x41, x42, x11, x12, x13, p12, p13, rfl, h0, h1, h2, h3, h4, h5, h6, h7, h8, h9, h10, h11, h12, h13, h16, n12, n13, m12_13, hB⟩ hf hd K hK
      go_simp
      refine hK _ _ ?_
      exact ⟨x32, x33, x34, x35, x36, x37, x38, x39, x31, x40, x41, x42, x11, _, x13, p12, W.heap.size, rfl, fun h => h0 (upd_ne (by decide) h), fun h => h1 (upd_ne (by decide) h), fun h => h2 (upd_ne (by decide) h), fun h => h3 (upd_ne (by decide) h), fun h => h4 (upd_ne (by decide) h), fun h => h5 (upd_ne (by decide) h), fun h => h6 (upd_ne (by decide) h), fun h => h7 (upd_ne (by decide) h), fun h => h8 (upd_ne (by decide) h), fun h => h9 (upd_ne (by decide) h), fun h => h10 (upd_ne (by decide) h), fun h => h11 (upd_ne (by decide) h), fun h => (by obtain ⟨p1, p2, p3, p4, p5⟩ := h12 (upd_ne (by decide) h); exact ⟨p1, p2, (by have := p3; simp; omega), fun h' => (p4 (by rw [upd_same (by decide)] at h'; exact h')).alloc _, fun h' => (p5 (upd_ne (by decide) h')).alloc _⟩), fun _ => ⟨rfl, hB.size, (by simp), fun _ => Own.new W _ _, fun h' => absurd (n13 (upd_ne (by decide) h')) (by rw [hf]; decide)⟩, fun h => h16 (upd_ne (by decide) h), fun h => upd_of (n12 (upd_ne (by decide) h)), fun _ => upd_self, fun h _ => (by obtain ⟨-, -, p3, -, -⟩ := h12 (upd_ne (by decide) h); omega), hB.alloc hB.size _⟩
    · rintro f a W ⟨x32, x33, x34, x35, x36, x37, x38, x39, x31, x40, x41, x42, x11, x12, x13, p12, p13, rfl, h0, h1, h2, h3, h4, h5, h6, h7, h8, h9, h10, h11, h12, h13, h16, n12, n13, m12_13, hB⟩ hf hd K hK
      obtain ⟨e12, u12, t12, z12, s12⟩ := h12 (dep_of hd (e := ⟨12, .data⟩) (by simp) rfl)
      subst e12
      have e9 := h9 (dep_of hd (e := ⟨9, .data⟩) (by simp) rfl)
      subst e9
      have oz := z12 hf
      have r0 := oz.cell 0 _ rfl
      have o0_ := oz.frz 0 _ rfl
      have r1 := oz.cell 1 _ rfl
      have o1_ := oz.frz 1 _ rfl
      go_simp
      refine hK _ _ ?_
      exact ⟨x32, x33, x34, x35, x36, x37, x38, x39, x31, _, x41, x42, _, x12, x13, p12, p13, rfl, fun h => h0 (upd_ne (by decide) h), fun h => h1 (upd_ne (by decide) h), fun h => h2 (upd_ne (by decide) h), fun h => h3 (upd_ne (by decide) h), fun h => h4 (upd_ne (by decide) h), fun h => h5 (upd_ne (by decide) h), fun h => h6 (upd_ne (by decide) h), fun h => h7 (upd_ne (by decide) h), fun h => h8 (upd_ne (by decide) h), fun _ => rfl, fun h => h10 (upd_ne (by decide) h), fun h => h11 (upd_ne (by decide) h), fun _ => ⟨rfl, u12, (by simpa [World.setCell] using t12), fun h' => (by rw [upd_self] at h'; cases h'), fun _ => Own.set (i := 1) (Own.set (i := 0) (oz) _ (by simp)) _ (by simp)⟩, fun h => (by obtain ⟨p1, p2, p3, p4, p5⟩ := h13 (upd_ne (by decide) h); have hne : p12 ≠ p13 := (by have := m12_13 (dep_of hd (e := ⟨12, .data⟩) (by simp) rfl) (upd_ne (by decide) h); omega); exact ⟨p1, p2, (by simpa [World.setCell] using p3), fun h' => Own.other (i := 1) (Own.other (i := 0) (p4 (by rw [upd_same (by decide)] at h'; exact h')) _ hne) _ hne, fun h' => Own.other (i := 1) (Own.other (i := 0) (p5 (upd_ne (by decide) h')) _ hne) _ hne⟩), fun h => h16 (upd_ne (by decide) h), fun _ => upd_of (dep_of hd (e := ⟨12, .data⟩) (by simp) rfl), fun h => upd_of (n13 (upd_ne (by decide) h)), fun h h' => m12_13 (upd_ne (by decide) h) (upd_ne (by decide) h'), ((hB.setCell (p := ⟨p12, 0, none⟩) u12 _).setCell (p := ⟨p12, 1, none⟩) u12 _)⟩
    · rintro f a W ⟨x32, x33, x34, x35, x36, x37, x38, x39, x31, x40, x41, x42, x11, x12, x13, p12, p13, rfl, h0, h1, h2, h3, h4, h5, h6, h7, h8, h9, h10, h11, h12, h13, h16, n12, n13, m12_13, hB⟩ hf hd K hK
      obtain ⟨e13, u13, t13, z13, s13⟩ := h13 (dep_of hd (e := ⟨13, .data⟩) (by simp) rfl)
      subst e13
      have e10 := h10 (dep_of hd (e := ⟨10, .data⟩) (by simp) rfl)
      subst e10
      have oz := z13 hf
      have r0 := oz.cell 0 _ rfl
      have o0_ := oz.frz 0 _ rfl
      have r1 := oz.cell 1 _ rfl
      have o1_ := oz.frz 1 _ rfl
      go_simp
      refine hK _ _ ?_
      exact ⟨x32, x33, x34, x35, x36, x37, x38, x39, x31, x40, _, x42, x11, _, x13, p12, p13, rfl, fun h => h0 (upd_ne (by decide) h), fun h => h1 (upd_ne (by decide) h), fun h => h2 (upd_ne (by decide) h), fun h => h3 (upd_ne (by decide) h), fun h => h4 (upd_ne (by decide) h), fun h => h5 (upd_ne (by decide) h), fun h => h6 (upd_ne (by decide) h), fun h => h7 (upd_ne (by decide) h), fun h => h8 (upd_ne (by decide) h), fun h => h9 (upd_ne (by decide) h), fun _ => rfl, fun h => h11 (upd_ne (by decide) h), fun h => (by obtain ⟨p1, p2, p3, p4, p5⟩ := h12 (upd_ne (by decide) h); have hne : p13 ≠ p12 := (by have := m12_13 (upd_ne (by decide) h) (dep_of hd (e := ⟨13, .data⟩) (by simp) rfl); omega); exact ⟨p1, p2, (by simpa [World.setCell] using p3), fun h' => Own.other (i := 1) (Own.other (i := 0) (p4 (by rw [upd_same (by decide)] at h'; exact h')) _ hne) _ hne, fun h' => Own.other (i := 1) (Own.other (i := 0) (p5 (upd_ne (by decide) h')) _ hne) _ hne⟩), fun _ => ⟨rfl, u13, (by simpa [World.setCell] using t13), fun h' => (by rw [upd_self] at h'; cases h'), fun _ => Own.set (i := 1) (Own.set (i := 0) (oz) _ (by simp)) _ (by simp)⟩, fun h => h16 (upd_ne (by decide) h), fun h => upd_of (n12 (upd_ne (by decide) h)), fun _ => upd_of (dep_of hd (e := ⟨13, .data⟩) (by simp) rfl), fun h h' => m12_13 (upd_ne (by decide) h) (upd_ne (by decide) h'), ((hB.setCell (p := ⟨p13, 0, none⟩) u13 _).setCell (p := ⟨p13, 1, none⟩) u13 _)⟩
    · rintro f a W ⟨x32, x33, x34, x35, x36, x37, x38, x39, x31, x40, x41, x42, x11, x12, x13, p12, p13, rfl, h0, h1, h2, h3, h4, h5, h6, h7, h8, h9, h10, h11, h12, h13, h16, n12, n13, m12_13, hB⟩ hf hd K hK
      have e11 := h11 (dep_of hd (e := ⟨11, .data⟩) (by simp) rfl)
      subst e11
      go_simp
      refine hK _ _ ?_
      exact ⟨x32, x33, x34, x35, x36, x37, x38, x39, x31, x40, x41, _, x11, x12, _, p12, p13, rfl, fun h => h0 (upd_ne (by decide) h), fun h => h1 (upd_ne (by decide) h), fun h => h2 (upd_ne (by decide) h), fun h => h3 (upd_ne (by decide) h), fun h => h4 (upd_ne (by decide) h), fun h => h5 (upd_ne (by decide) h), fun h => h6 (upd_ne (by decide) h), fun h => h7 (upd_ne (by decide) h), fun h => h8 (upd_ne (by decide) h), fun h => h9 (upd_ne (by decide) h), fun h => h10 (upd_ne (by decide) h), fun _ => rfl, fun h => (by obtain ⟨p1, p2, p3, p4, p5⟩ := h12 (upd_ne (by decide) h); exact ⟨p1, p2, p3, fun h' => p4 (by rw [upd_same (by decide)] at h'; exact h'), fun h' => p5 (upd_ne (by decide) h')⟩), fun h => (by obtain ⟨p1, p2, p3, p4, p5⟩ := h13 (upd_ne (by decide) h); exact ⟨p1, p2, p3, fun h' => p4 (by rw [upd_same (by decide)] at h'; exact h'), fun h' => p5 (upd_ne (by decide) h')⟩), fun _ => rfl, fun h => upd_of (n12 (upd_ne (by decide) h)), fun h => upd_of (n13 (upd_ne (by decide) h)), fun h h' => m12_13 (upd_ne (by decide) h) (upd_ne (by decide) h'), hB⟩
    rintro f a w3 ⟨x32, x33, x34, x35, x36, x37, x38, x39, x31, x40, x41, x42, x11, x12, x13, p12, p13, rfl, h0, h1, h2, h3, h4, h5, h6, h7, h8, h9, h10, h11, h12, h13, h16, n12, n13, m12_13, qB⟩ hall
    have e0 := h0 (hall 0 (by decide))
    subst e0
    have e1 := h1 (hall 1 (by decide))
    subst e1
    have e2 := h2 (hall 2 (by decide))
    subst e2
    have e3 := h3 (hall 3 (by decide))
    subst e3
    have e4 := h4 (hall 4 (by decide))
    subst e4
    have e5 := h5 (hall 5 (by decide))
    subst e5
    have e6 := h6 (hall 6 (by decide))
    subst e6
    have e7 := h7 (hall 7 (by decide))
    subst e7
    have e8 := h8 (hall 8 (by decide))
    subst e8
    have e9 := h9 (hall 9 (by decide))
    subst e9
    have e10 := h10 (hall 10 (by decide))
    subst e10
    have e11 := h11 (hall 11 (by decide))
    subst e11
    obtain ⟨e12, u12, -, -, s12⟩ := h12 (hall 12 (by decide))
    replace s12 := s12 (hall 14 (by decide))
    subst e12
    obtain ⟨e13, u13, -, -, s13⟩ := h13 (hall 13 (by decide))
    replace s13 := s13 (hall 15 (by decide))
    subst e13
    have e16 := h16 (hall 16 (by decide))
    subst e16
    replace m12_13 := m12_13 (hall 12 (by decide)) (hall 13 (by decide))
    clear hall h0 h1 h2 h3 h4 h5 h6 h7 h8 h9 h10 h11 h12 h13 h16 n12 n13
    try dsimp only
    have l3 := oS.lt
    replace oA := oA.below qB
    replace oR := oR.below qB
    replace oS := oS.below qB
    replace q0 := q0.trans (qB.mono q0.size)
    have l4 := qB.size
    clear qB cA cX cY x0 x1 lA lX X2
    go_wp2
    have a0 := oA.cell 0 _ rfl
    have la := oA.lt
    have p0 := s12.cell 0 _ rfl
    have p1 := s12.cell 1 _ rfl
    have lf := s12.lt
    have gq0 := s13.cell 0 _ rfl
    have gq1 := s13.cell 1 _ rfl
    have lg := s13.lt
    have lR := oR.lt
    have lS := oS.lt
    refine region_steps (by kernel_rfl) (by kernel_rfl) (by kernel_rfl) (fun A0 f a W => ∃ (x47 : Value) (x48 : Value) (x49 : Value) (x50 : Value) (x51 : Value) (x52 : Value) (x53 : Value) (x54 : Value) (x10 : Value) (kG3 : Nat) (kC3 : Nat) (kG7 : Nat) (kC7 : Nat), a = { tmps := #[.int .i64 n, .agg #[.slice (some ⟨rb, ro, none⟩) len cap], .int .i64 (j : Int), .agg #[.int .i64 g, .int .i64 gh], undef, .pointer (some ⟨w.heap.size, 0, none⟩), undef, .pointer (some ⟨w.heap.size + 1, 0, none⟩), .pointer (some ⟨w.heap.size + 1 + 1, 0, none⟩), .pointer (some ⟨w.heap.size + 1 + 1 + 1, 0, none⟩), x10, .pointer (some ⟨p12, 0, none⟩), .pointer (some ⟨p13, 0, none⟩), .bool true, .int .i64 n, .agg #[.slice (some ⟨rb, ro, none⟩) len cap], .bool true, .bool false, .bool false, .int .i64 (j : Int), .bool false, .bool false, .bool false, .int .i64 (j : Int), .pointer (some ⟨w.heap.size, 0, none⟩), .slice (some ⟨rb, ro, none⟩) len cap, .int .i64 (len : Int), .bool false, .bool false, undef, undef, .tuple #[.agg #[.int .i64 r0, .int .i64 r1], .agg #[.int .i64 r2, .int .i64 r3], .bool true], .int .i64 n, .pointer (some ⟨w.heap.size, 0, none⟩), .slice (some ⟨rb, ro, none⟩) len cap, .int .i64 (j : Int), .pointer (some ⟨rb, ro + j * 2, none⟩), .agg #[.int .i64 x, .int .i64 y], .agg #[.int .i64 g, .int .i64 gh], .tuple #[.agg #[.int .i64 r0, .int .i64 r1], .agg #[.int .i64 r2, .int .i64 r3], .bool true], .agg #[.int .i64 r0, .int .i64 r1], .agg #[.int .i64 r2, .int .i64 r3], .bool true, .bool true, .bool false, undef, undef, x47, x48, x49, x50, x51, x52, x53, x54], defers := [] } ∧ (f 0 = true → x47 = .agg #[.slice (some ⟨rb, ro, none⟩) len cap]) ∧ (f 1 = true → x48 = .int .i64 (j : Int)) ∧ (f 2 = true → x49 = .agg #[.int .i64 r0, .int .i64 r1]) ∧ (f 3 = true → x50 = .agg #[.slice (some ⟨kG3, 0, none⟩) len kC3] ∧ w3.heap.size ≤ kG3 ∧ OwnP W kG3 (ps.set j (r0, r1)) ∧ len ≤ kC3) ∧ (f 4 = true → x51 = .agg #[.slice (some ⟨rb, ro, none⟩) len cap]) ∧ (f 5 = true → x52 = .int .i64 (j : Int)) ∧ (f 6 = true → x53 = .agg #[.int .i64 r2, .int .i64 r3]) ∧ (f 7 = true → x54 = .agg #[.slice (some ⟨kG7, 0, none⟩) len kC7] ∧ w3.heap.size ≤ kG7 ∧ OwnP W kG7 (ps.set j (r2, r3)) ∧ len ≤ kC7) ∧ (f 10 = true → x10 = .bool true) ∧ (f 8 = true → f 3 = true) ∧ (f 9 = true → f 7 = true) ∧ (f 3 = true → f 7 = true → kG3 ≠ kG7) ∧ ((f 8 = false → Own W (w.heap.size + 1 + 1) [.slice none 0 0]) ∧ (f 8 = true → Own W (w.heap.size + 1 + 1) [.slice (some ⟨kG3, 0, none⟩) len kC3])) ∧ ((f 9 = false → Own W (w.heap.size + 1 + 1 + 1) [.slice none 0 0]) ∧ (f 9 = true → Own W (w.heap.size + 1 + 1 + 1) [.slice (some ⟨kG7, 0, none⟩) len kC7])) ∧ KeepL [w.heap.size + 1 + 1, w.heap.size + 1 + 1 + 1] w3 W) ?_ ⟨?_, ?_, ?_, ?_, ?_, ?_, ?_, ?_, ?_, ?_, ?_, trivial⟩ ?_
    · exact ⟨undef, undef, undef, undef, undef, undef, undef, undef, .bool false, 0, 0, 0, 0, rfl, (fun h => (by cases h)), (fun h => (by cases h)), (fun h => (by cases h)), (fun h => (by cases h)), (fun h => (by cases h)), (fun h => (by cases h)), (fun h => (by cases h)), (fun h => (by cases h)), (fun h => (by cases h)), (fun h => (by cases h)), (fun h => (by cases h)), (fun h => (by cases h)), ⟨fun _ => oR.drew, (fun h => (by cases h))⟩, ⟨fun _ => oS.drew, (fun h => (by cases h))⟩, (KeepL.refl _ _).drew⟩
    · rintro f a W ⟨x47, x48, x49, x50, x51, x52, x53, x54, x10, kG3, kC3, kG7, kC7, rfl, h0, h1, h2, h3, h4, h5, h6, h7, h10, d8_3, d9_7, m3_7, rz0, rz1, hB⟩ hf hd K hK
      have r0 := (hB.cell (p := ⟨w.heap.size, 0, none⟩) la (by simp only [List.mem_cons, List.not_mem_nil, or_false, not_or]; omega)).trans a0
      go_simp
      refine hK _ _ ?_
      exact ⟨_, x48, x49, x50, x51, x52, x53, x54, x10, kG3, kC3, kG7, kC7, rfl, fun _ => rfl, fun h => h1 (upd_ne (by decide) h), fun h => h2 (upd_ne (by decide) h), fun h => h3 (upd_ne (by decide) h), fun h => h4 (upd_ne (by decide) h), fun h => h5 (upd_ne (by decide) h), fun h => h6 (upd_ne (by decide) h), fun h => h7 (upd_ne (by decide) h), fun h => h10 (upd_ne (by decide) h), fun h => upd_of (d8_3 (upd_ne (by decide) h)), fun h => upd_of (d9_7 (upd_ne (by decide) h)), fun h h' => m3_7 (upd_ne (by decide) h) (upd_ne (by decide) h'), (by obtain ⟨p4, p5⟩ := rz0; exact ⟨fun h' => p4 (by rw [upd_same (by decide)] at h'; exact h'), fun h' => p5 (upd_ne (by decide) h')⟩), (by obtain ⟨p4, p5⟩ := rz1; exact ⟨fun h' => p4 (by rw [upd_same (by decide)] at h'; exact h'), fun h' => p5 (upd_ne (by decide) h')⟩), hB⟩
    · rintro f a W ⟨x47, x48, x49, x50, x51, x52, x53, x54, x10, kG3, kC3, kG7, kC7, rfl, h0, h1, h2, h3, h4, h5, h6, h7, h10, d8_3, d9_7, m3_7, rz0, rz1, hB⟩ hf hd K hK
      go_simp
      refine hK _ _ ?_
      exact ⟨x47, _, x49, x50, x51, x52, x53, x54, x10, kG3, kC3, kG7, kC7, rfl, fun h => h0 (upd_ne (by decide) h), fun _ => rfl, fun h => h2 (upd_ne (by decide) h), fun h => h3 (upd_ne (by decide) h), fun h => h4 (upd_ne (by decide) h), fun h => h5 (upd_ne (by decide) h), fun h => h6 (upd_ne (by decide) h), fun h => h7 (upd_ne (by decide) h), fun h => h10 (upd_ne (by decide) h), fun h => upd_of (d8_3 (upd_ne (by decide) h)), fun h => upd_of (d9_7 (upd_ne (by decide) h)), fun h h' => m3_7 (upd_ne (by decide) h) (upd_ne (by decide) h'), (by obtain ⟨p4, p5⟩ := rz0; exact ⟨fun h' => p4 (by rw [upd_same (by decide)] at h'; exact h'), fun h' => p5 (upd_ne (by decide) h')⟩), (by obtain ⟨p4, p5⟩ := rz1; exact ⟨fun h' => p4 (by rw [upd_same (by decide)] at h'; exact h'), fun h' => p5 (upd_ne (by decide) h')⟩), hB⟩
    · rintro f a W ⟨x47, x48, x49, x50, x51, x52, x53, x54, x10, kG3, kC3, kG7, kC7, rfl, h0, h1, h2, h3, h4, h5, h6, h7, h10, d8_3, d9_7, m3_7, rz0, rz1, hB⟩ hf hd K hK
      have r0 := (hB.cell (p := ⟨p12, 0, none⟩) lf (by simp only [List.mem_cons, List.not_mem_nil, or_false, not_or]; omega)).trans p0
      have r1 := (hB.cell (p := ⟨p12, 1, none⟩) lf (by simp only [List.mem_cons, List.not_mem_nil, or_false, not_or]; omega)).trans p1
      go_simp
      refine hK _ _ ?_
      exact ⟨x47, x48, _, x50, x51, x52, x53, x54, x10, kG3, kC3, kG7, kC7, rfl, fun h => h0 (upd_ne (by decide) h), fun h => h1 (upd_ne (by decide) h), fun _ => rfl, fun h => h3 (upd_ne (by decide) h), fun h => h4 (upd_ne (by decide) h), fun h => h5 (upd_ne (by decide) h), fun h => h6 (upd_ne (by decide) h), fun h => h7 (upd_ne (by decide) h), fun h => h10 (upd_ne (by decide) h), fun h => upd_of (d8_3 (upd_ne (by decide) h)), fun h => upd_of (d9_7 (upd_ne (by decide) h)), fun h h' => m3_7 (upd_ne (by decide) h) (upd_ne (by decide) h'), (by obtain ⟨p4, p5⟩ := rz0; exact ⟨fun h' => p4 (by rw [upd_same (by decide)] at h'; exact h'), fun h' => p5 (upd_ne (by decide) h')⟩), (by obtain ⟨p4, p5⟩ := rz1; exact ⟨fun h' => p4 (by rw [upd_same (by decide)] at h'; exact h'), fun h' => p5 (upd_ne (by decide) h')⟩), hB⟩
    · rintro f a W ⟨x47, x48, x49, x50, x51, x52, x53, x54, x10, kG3, kC3, kG7, kC7, rfl, h0, h1, h2, h3, h4, h5, h6, h7, h10, d8_3, d9_7, m3_7, rz0, rz1, hB⟩ hf hd K hK
      have e0 := h0 (dep_of hd (e := ⟨0, .data⟩) (by simp) rfl)
      subst e0
      have e1 := h1 (dep_of hd (e := ⟨1, .data⟩) (by simp) rfl)
      subst e1
      have e2 := h2 (dep_of hd (e := ⟨2, .data⟩) (by simp) rfl)
      subst e2
      go_simp
      refine (hW _ (q0.trans (hB.below (B := w.heap.size) (by simp; omega) (by omega))) r0 r1 hfj.1.1 hfj.1.2).mono ?_
      rintro e W2 ⟨G_, C_, rfl, hc, hG, on, q⟩
      refine hK _ _ ?_
      exact ⟨_, _, _, _, x51, x52, x53, x54, x10, G_, C_, kG7, kC7, rfl, fun _ => rfl, fun _ => rfl, fun _ => rfl, fun _ => ⟨rfl, Nat.le_trans hB.size hG, on, hc⟩, fun h => h4 (upd_ne (by decide) h), fun h => h5 (upd_ne (by decide) h), fun h => h6 (upd_ne (by decide) h), fun h => (by obtain ⟨p1, p2, p3, p4⟩ := h7 (upd_ne (by decide) h); exact ⟨p1, p2, p3.below q, p4⟩), fun h => h10 (upd_ne (by decide) h), fun _ => upd_self, fun h => upd_of (d9_7 (upd_ne (by decide) h)), fun _ h => (by obtain ⟨-, -, p3, -⟩ := h7 (upd_ne (by decide) h); have p4 := p3.lt; omega), (by obtain ⟨p4, p5⟩ := rz0; exact ⟨fun h' => (p4 (by rw [upd_same (by decide)] at h'; exact h')).below q, fun h' => absurd (d8_3 (upd_ne (by decide) h')) (by rw [hf]; decide)⟩), (by obtain ⟨p4, p5⟩ := rz1; exact ⟨fun h' => (p4 (by rw [upd_same (by decide)] at h'; exact h')).below q, fun h' => (p5 (upd_ne (by decide) h')).below q⟩), hB.bel q⟩
    · rintro f a W ⟨x47, x48, x49, x50, x51, x52, x53, x54, x10, kG3, kC3, kG7, kC7, rfl, h0, h1, h2, h3, h4, h5, h6, h7, h10, d8_3, d9_7, m3_7, rz0, rz1, hB⟩ hf hd K hK
      have r0 := (hB.cell (p := ⟨w.heap.size, 0, none⟩) la (by simp only [List.mem_cons, List.not_mem_nil, or_false, not_or]; omega)).trans a0
      go_simp
      refine hK _ _ ?_
      exact ⟨x47, x48, x49, x50, _, x52, x53, x54, x10, kG3, kC3, kG7, kC7, rfl, fun h => h0 (upd_ne (by decide) h), fun h => h1 (upd_ne (by decide) h), fun h => h2 (upd_ne (by decide) h), fun h => h3 (upd_ne (by decide) h), fun _ => rfl, fun h => h5 (upd_ne (by decide) h), fun h => h6 (upd_ne (by decide) h), fun h => h7 (upd_ne (by decide) h), fun h => h10 (upd_ne (by decide) h), fun h => upd_of (d8_3 (upd_ne (by decide) h)), fun h => upd_of (d9_7 (upd_ne (by decide) h)), fun h h' => m3_7 (upd_ne (by decide) h) (upd_ne (by decide) h'), (by obtain ⟨p4, p5⟩ := rz0; exact ⟨fun h' => p4 (by rw [upd_same (by decide)] at h'; exact h'), fun h' => p5 (upd_ne (by decide) h')⟩), (by obtain ⟨p4, p5⟩ := rz1; exact ⟨fun h' => p4 (by rw [upd_same (by decide)] at h'; exact h'), fun h' => p5 (upd_ne (by decide) h')⟩), hB⟩
    · rintro f a W ⟨x47, x48, x49, x50, x51, x52, x53, x54, x10, kG3, kC3, kG7, kC7, rfl, h0, h1, h2, h3, h4, h5, h6, h7, h10, d8_3, d9_7, m3_7, rz0, rz1, hB⟩ hf hd K hK
      go_simp
      refine hK _ _ ?_
      exact ⟨x47, x48, x49, x50, x51, _, x53, x54, x10, kG3, kC3, kG7, kC7, rfl, fun h => h0 (upd_ne (by decide) h), fun h => h1 (upd_ne (by decide) h), fun h => h2 (upd_ne (by decide) h), fun h => h3 (upd_ne (by decide) h), fun h => h4 (upd_ne (by decide) h), fun _ => rfl, fun h => h6 (upd_ne (by decide) h), fun h => h7 (upd_ne (by decide) h), fun h => h10 (upd_ne (by decide) h), fun h => upd_of (d8_3 (upd_ne (by decide) h)), fun h => upd_of (d9_7 (upd_ne (by decide) h)), fun h h' => m3_7 (upd_ne (by decide) h) (upd_ne (by decide) h'), (by obtain ⟨p4, p5⟩ := rz0; exact ⟨fun h' => p4 (by rw [upd_same (by decide)] at h'; exact h'), fun h' => p5 (upd_ne (by decide) h')⟩), (by obtain ⟨p4, p5⟩ := rz1; exact ⟨fun h' => p4 (by rw [upd_same (by decide)] at h'; exact h'), fun h' => p5 (upd_ne (by decide) h')⟩), hB⟩
    · rintro f a W ⟨x47, x48, x49, x50, x51, x52, x53, x54, x10, kG3, kC3, kG7, kC7, rfl, h0, h1, h2, h3, h4, h5, h6, h7, h10, d8_3, d9_7, m3_7, rz0, rz1, hB⟩ hf hd K hK
      have r0 := (hB.cell (p := ⟨p13, 0, none⟩) lg (by simp only [List.mem_cons, List.not_mem_nil, or_false, not_or]; omega)).trans gq0
      have r1 := (hB.cell (p := ⟨p13, 1, none⟩) lg (by simp only [List.mem_cons, List.not_mem_nil, or_false, not_or]; omega)).trans gq1
      go_simp
      refine hK _ _ ?_
      exact ⟨x47, x48, x49, x50, x51, x52, _, x54, x10, kG3, kC3, kG7, kC7, rfl, fun h => h0 (upd_ne (by decide) h), fun h => h1 (upd_ne (by decide) h), fun h => h2 (upd_ne (by decide) h), fun h => h3 (upd_ne (by decide) h), fun h => h4 (upd_ne (by decide) h), fun h => h5 (upd_ne (by decide) h), fun _ => rfl, fun h => h7 (upd_ne (by decide) h), fun h => h10 (upd_ne (by decide) h), fun h => upd_of (d8_3 (upd_ne (by decide) h)), fun h => upd_of (d9_7 (upd_ne (by decide) h)), fun h h' => m3_7 (upd_ne (by decide) h) (upd_ne (by decide) h'), (by obtain ⟨p4, p5⟩ := rz0; exact ⟨fun h' => p4 (by rw [upd_same (by decide)] at h'; exact h'), fun h' => p5 (upd_ne (by decide) h')⟩), (by obtain ⟨p4, p5⟩ := rz1; exact ⟨fun h' => p4 (by rw [upd_same (by decide)] at h'; exact h'), fun h' => p5 (upd_ne (by decide) h')⟩), hB⟩
    · rintro f a W ⟨x47, x48, x49, x50, x51, x52, x53, x54, x10, kG3, kC3, kG7, kC7, rfl, h0, h1, h2, h3, h4, h5, h6, h7, h10, d8_3, d9_7, m3_7, rz0, rz1, hB⟩ hf hd K hK
      have e4 := h4 (dep_of hd (e := ⟨4, .data⟩) (by simp) rfl)
      subst e4
      have e5 := h5 (dep_of hd (e := ⟨5, .data⟩) (by simp) rfl)
      subst e5
      have e6 := h6 (dep_of hd (e := ⟨6, .data⟩) (by simp) rfl)
      subst e6
      go_simp
      refine (hW _ (q0.trans (hB.below (B := w.heap.size) (by simp; omega) (by omega))) r2 r3 hfj.2.1 hfj.2.2).mono ?_
      rintro e W2 ⟨G_, C_, rfl, hc, hG, on, q⟩
      refine hK _ _ ?_
      exact ⟨x47, x48, x49, x50, _, _, _, _, x10, kG3, kC3, G_, C_, rfl, fun h => h0 (upd_ne (by decide) h), fun h => h1 (upd_ne (by decide) h), fun h => h2 (upd_ne (by decide) h), fun h => (by obtain ⟨p1, p2, p3, p4⟩ := h3 (upd_ne (by decide) h); exact ⟨p1, p2, p3.below q, p4⟩), fun _ => rfl, fun _ => rfl, fun _ => rfl, fun _ => ⟨rfl, Nat.le_trans hB.size hG, on, hc⟩, fun h => h10 (upd_ne (by decide) h), fun h => upd_of (d8_3 (upd_ne (by decide) h)), fun _ => upd_self, fun h _ => (by obtain ⟨-, -, p3, -⟩ := h3 (upd_ne (by decide) h); have p4 := p3.lt; omega), (by obtain ⟨p4, p5⟩ := rz0; exact ⟨fun h' => (p4 (by rw [upd_same (by decide)] at h'; exact h')).below q, fun h' => (p5 (upd_ne (by decide) h')).below q⟩), (by obtain ⟨p4, p5⟩ := rz1; exact ⟨fun h' => (p4 (by rw [upd_same (by decide)] at h'; exact h')).below q, fun h' => absurd (d9_7 (upd_ne (by decide) h')) (by rw [hf]; decide)⟩), hB.bel q⟩
    · rintro f a W ⟨x47, x48, x49, x50, x51, x52, x53, x54, x10, kG3, kC3, kG7, kC7, rfl, h0, h1, h2, h3, h4, h5, h6, h7, h10, d8_3, d9_7, m3_7, rz0, rz1, hB⟩ hf hd K hK
      obtain ⟨e3, u3, o3, c3⟩ := h3 (dep_of hd (e := ⟨3, .data⟩) (by simp) rfl)
      subst e3
      have oz := rz0.1 hf
      have r0 := oz.cell 0 _ rfl
      have o0_ := oz.frz 0 _ rfl
      go_simp
      refine hK _ _ ?_
      exact ⟨x47, x48, x49, _, x51, x52, x53, x54, x10, kG3, kC3, kG7, kC7, rfl, fun h => h0 (upd_ne (by decide) h), fun h => h1 (upd_ne (by decide) h), fun h => h2 (upd_ne (by decide) h), fun h => (by obtain ⟨p1, p2, p3, p4⟩ := h3 (upd_ne (by decide) h); have hl_ := lR; exact ⟨p1, p2, p3.keepO ((KeepO.of_below (some (w.heap.size + 1 + 1)) (Below.refl _ _)).setCell (i := 0) _) (fun e => by have := Option.some.inj e; omega), p4⟩), fun h => h4 (upd_ne (by decide) h), fun h => h5 (upd_ne (by decide) h), fun h => h6 (upd_ne (by decide) h), fun h => (by obtain ⟨p1, p2, p3, p4⟩ := h7 (upd_ne (by decide) h); have hl_ := lR; exact ⟨p1, p2, p3.keepO ((KeepO.of_below (some (w.heap.size + 1 + 1)) (Below.refl _ _)).setCell (i := 0) _) (fun e => by have := Option.some.inj e; omega), p4⟩), fun h => h10 (upd_ne (by decide) h), fun _ => upd_of (dep_of hd (e := ⟨3, .data⟩) (by simp) rfl), fun h => upd_of (d9_7 (upd_ne (by decide) h)), fun h h' => m3_7 (upd_ne (by decide) h) (upd_ne (by decide) h'), ⟨fun h' => (by rw [upd_self] at h'; cases h'), fun _ => Own.set (i := 0) (oz) _ (by simp)⟩, (by obtain ⟨p4, p5⟩ := rz1; have hne : (w.heap.size + 1 + 1) ≠ w.heap.size + 1 + 1 + 1 := (by omega); exact ⟨fun h' => Own.other (i := 0) (p4 (by rw [upd_same (by decide)] at h'; exact h')) _ hne, fun h' => Own.other (i := 0) (p5 (upd_ne (by decide) h')) _ hne⟩), (hB.set (p := ⟨w.heap.size + 1 + 1, 0, none⟩) (by simp) _)⟩
    · rintro f a W ⟨x47, x48, x49, x50, x51, x52, x53, x54, x10, kG3, kC3, kG7, kC7, rfl, h0, h1, h2, h3, h4, h5, h6, h7, h10, d8_3, d9_7, m3_7, rz0, rz1, hB⟩ hf hd K hK
      obtain ⟨e7, u7, o7, c7⟩ := h7 (dep_of hd (e := ⟨7, .data⟩) (by simp) rfl)
      subst e7
      have oz := rz1.1 hf
      have r0 := oz.cell 0 _ rfl
      have o0_ := oz.frz 0 _ rfl
      go_simp
      refine hK _ _ ?_
      exact ⟨x47, x48, x49, x50, x51, x52, x53, _, x10, kG3, kC3, kG7, kC7, rfl, fun h => h0 (upd_ne (by decide) h), fun h => h1 (upd_ne (by decide) h), fun h => h2 (upd_ne (by decide) h), fun h => (by obtain ⟨p1, p2, p3, p4⟩ := h3 (upd_ne (by decide) h); have hl_ := lS; exact ⟨p1, p2, p3.keepO ((KeepO.of_below (some (w.heap.size + 1 + 1 + 1)) (Below.refl _ _)).setCell (i := 0) _) (fun e => by have := Option.some.inj e; omega), p4⟩), fun h => h4 (upd_ne (by decide) h), fun h => h5 (upd_ne (by decide) h), fun h => h6 (upd_ne (by decide) h), fun h => (by obtain ⟨p1, p2, p3, p4⟩ := h7 (upd_ne (by decide) h); have hl_ := lS; exact ⟨p1, p2, p3.keepO ((KeepO.of_below (some (w.heap.size + 1 + 1 + 1)) (Below.refl _ _)).setCell (i := 0) _) (fun e => by have := Option.some.inj e; omega), p4⟩), fun h => h10 (upd_ne (by decide) h), fun h => upd_of (d8_3 (upd_ne (by decide) h)), fun _ => upd_of (dep_of hd (e := ⟨7, .data⟩) (by simp) rfl), fun h h' => m3_7 (upd_ne (by decide) h) (upd_ne (by decide) h'), (by obtain ⟨p4, p5⟩ := rz0; have hne : (w.heap.size + 1 + 1 + 1) ≠ w.heap.size + 1 + 1 := (by omega); exact ⟨fun h' => Own.other (i := 0) (p4 (by rw [upd_same (by decide)] at h'; exact h')) _ hne, fun h' => Own.other (i := 0) (p5 (upd_ne (by decide) h')) _ hne⟩), ⟨fun h' => (by rw [upd_self] at h'; cases h'), fun _ => Own.set (i := 0) (oz) _ (by simp)⟩, (hB.set (p := ⟨w.heap.size + 1 + 1 + 1, 0, none⟩) (by simp) _)⟩
    · rintro f a W ⟨x47, x48, x49, x50, x51, x52, x53, x54, x10, kG3, kC3, kG7, kC7, rfl, h0, h1, h2, h3, h4, h5, h6, h7, h10, d8_3, d9_7, m3_7, rz0, rz1, hB⟩ hf hd K hK
      go_simp
      refine hK _ _ ?_
      exact ⟨x47, x48, x49, x50, x51, x52, x53, x54, _, kG3, kC3, kG7, kC7, rfl, fun h => h0 (upd_ne (by decide) h), fun h => h1 (upd_ne (by decide) h), fun h => h2 (upd_ne (by decide) h), fun h => h3 (upd_ne (by decide) h), fun h => h4 (upd_ne (by decide) h), fun h => h5 (upd_ne (by decide) h), fun h => h6 (upd_ne (by decide) h), fun h => h7 (upd_ne (by decide) h), fun _ => rfl, fun h => upd_of (d8_3 (upd_ne (by decide) h)), fun h => upd_of (d9_7 (upd_ne (by decide) h)), fun h h' => m3_7 (upd_ne (by decide) h) (upd_ne (by decide) h'), (by obtain ⟨p4, p5⟩ := rz0; exact ⟨fun h' => p4 (by rw [upd_same (by decide)] at h'; exact h'), fun h' => p5 (upd_ne (by decide) h')⟩), (by obtain ⟨p4, p5⟩ := rz1; exact ⟨fun h' => p4 (by rw [upd_same (by decide)] at h'; exact h'), fun h' => p5 (upd_ne (by decide) h')⟩), hB⟩
    rintro f a w4 ⟨x47, x48, x49, x50, x51, x52, x53, x54, x10, kG3, kC3, kG7, kC7, rfl, h0, h1, h2, h3, h4, h5, h6, h7, h10, d8_3, d9_7, m3_7, rz0, rz1, qB⟩ hall
    have e0 := h0 (hall 0 (by decide))
    subst e0
    have e1 := h1 (hall 1 (by decide))
    subst e1
    have e2 := h2 (hall 2 (by decide))
    subst e2
    obtain ⟨e3, u3, s3, c3_⟩ := h3 (hall 3 (by decide))
    subst e3
    have e4 := h4 (hall 4 (by decide))
    subst e4
    have e5 := h5 (hall 5 (by decide))
    subst e5
    have e6 := h6 (hall 6 (by decide))
    subst e6
    obtain ⟨e7, u7, s7, c7_⟩ := h7 (hall 7 (by decide))
    subst e7
    have e10 := h10 (hall 10 (by decide))
    subst e10
    replace rz0 := rz0.2 (hall 8 (by decide))
    replace rz1 := rz1.2 (hall 9 (by decide))
    replace m3_7 := m3_7 (hall 3 (by decide)) (hall 7 (by decide))
    clear hall h0 h1 h2 h3 h4 h5 h6 h7 h10 d8_3 d9_7
    try dsimp only
    go_wp2
    exact twoBoxEnd rfl lA.out lB.out rz0 rz1 (q0.trans (qB.below (by simp; omega) (by omega))) c3_ c7_ (s3.has wA.out) (s7.has wB.out) (fun G hG => by have := Option.some.inj hG; omega) (fun G hG => by have := Option.some.inj hG; omega) (fun G hG e => m3_7 (by have := Option.some.inj hG; have := Option.some.inj e; omega)) rfl rfl rfl

end Go.Proofs.Yteohgmmenlinbab
