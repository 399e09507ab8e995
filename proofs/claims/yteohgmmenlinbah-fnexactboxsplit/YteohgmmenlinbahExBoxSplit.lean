/- The walk of the exact law of BoxSplit: it returns true. -/
import Derived.Test.YteohgmmenlinbahBoxSp
import Derived.Test.YteohgmmenlinbahBoxSpS
import Derived.Test.YteohgmmenlinbahBoxE
import Derived.Test.YteohgmmenlinbahBoxL
import Derived.Test.YteohgmmenlinbahMark
import Derived.Test.YteohgmmenlinbahRegM
namespace Go.Proofs.Yteohgmmenlinbah
open Go.ChangeShapes Go.WideShapes Go.ChangeAt Go.RowKit
set_option linter.unusedVariables false

theorem Split.lens (n : Int) (f : PartF) (ps : List (Int × Int)) (k : Int) : (partA n f ps k).length ≤ 6 ∧ (partB n f ps k).length ≤ 6 := by
  unfold partA partB
  by_cases h : partK n f ps k = true
  · rw [if_pos h, if_pos h]
    unfold partK at h
    simp only [Bool.and_eq_true, decide_eq_true_eq] at h
    have h6 := h.1
    unfold bokI at h6
    simp only [Bool.and_eq_true, decide_eq_true_eq] at h6
    simpa using h6.2.1
  · rw [if_neg h, if_neg h]
    simp

set_option maxRecDepth 100000 in
set_option maxHeartbeats 8000000 in
theorem walkExBoxSplit (w : World) (n : Int) (wn : (Lit.int .i64 n).wf = true) (ad : Option Addr) (ps : List (Int × Int)) (cap : Nat) (h : PairsAt w ad ps) (hl : ps.length ≤ cap) (hx : ps.length ≤ maxLen) (k : Int) (wk : (Lit.int .i64 k).wf = true) :
    Calls Try.prog 4 #[.int .i64 n, .agg #[.slice ad ps.length cap], .int .i64 k] w fun e w' => e = .returned (.bool true) ∧ Below w.heap.size w w' := by
  have hL6 := Split.lens n (splitF n) ps k
  have hs := fun W (c : Option Addr) (x : PairsAt W c ps) (hm : ps.length ≤ 1048576) => specBoxSplit W n c ps ps.length k wk x (Nat.le_refl _) hm
  have hi := fun W (c : Option Addr) (x : PairsAt W c ps) (hm : ps.length ≤ 1048576) => implBoxSplit W n c ps ps.length k wk x (Nat.le_refl _) hm
  obtain ⟨len, hlen⟩ : ∃ len, ps.length = len := ⟨_, rfl⟩
  rw [hlen] at hl hx hs hi ⊢
  generalize partA n (splitF n) ps k = A at *
  generalize partB n (splitF n) ps k = B at *
  generalize partK n (splitF n) ps k = K at *
  have F : Hid (Facts (w.alloc (.cells #[.slice ad len cap] 24)) [.bel w, .own w.heap.size [.slice ad len cap], .args w.heap.size ad ps]) := by
    have q0 : Below w.heap.size w (w.alloc (.cells #[.slice ad len cap] 24)) := (Below.refl _ w).alloc (Nat.le_refl _) _
    exact (((Facts.nil _).push (f := .bel w) q0).push (f := .own _ _) (Own.new w _ _)).push (f := .args _ _ _) (Fact.below (.args w.heap.size ad ps) (args_of h rfl) q0)
  have hw := h.1
  clear h
  have hz := fun W => szBox W ad len cap 1048576 (by omega) (by omega) hx
  by_cases hm : len ≤ 1048576
  · rw [if_neg (by omega)] at hz
    have hpos : ¬ (1048576 : Int) - len < 0 := by omega
    obtain ⟨L1, hL1⟩ : ∃ L1 : Int, 1048576 - (len : Int) = L1 := ⟨_, rfl⟩
    rw [hL1] at hz hpos
    replace hs := fun W c x => hs W c x hm
    replace hi := fun W c x => hi W c x hm
    have hi2 := hi
    have t1 := fun W h => toBox W ad ps len cap hlen h hl hm
    have t2 := t1
    have t3 := t1
    have e1 := fun W a b c d => eqBox W a b A A.length c d rfl
    have e1' := fun W a b c d => eqBox W a b B B.length c d rfl
    have e2 := e1
    have e2' := e1'
    have e3 := e1
    have e3' := e1'
    have m1 := fun W G (x : HasO W (some ⟨G, 0, none⟩) ps (some G)) => markBox W _ ps _ len len 1 hlen x (Nat.le_refl _) hm (by omega) (by omega)
    have m2 := fun W a o c (x : HasO W a A o) (hc : A.length ≤ c) => markBox W a A o A.length c 1 rfl x hc (by omega) (by omega) (by omega)
    have m3 := fun W a o c (x : HasO W a B o) (hc : B.length ≤ c) => markBox W a B o B.length c (1 + 2 * (A.length : Int)) rfl x hc (by omega) (by omega) (by omega)
    have d1 := fun W a c (x : PairsAt W a (marks 1 A.length)) (hc : A.length ≤ c) => heldBox W a A.length c 1 x hc (by omega) (by omega) (by omega)
    have d2 := fun W a c (x : PairsAt W a (marks (1 + 2 * (A.length : Int)) B.length)) (hc : B.length ≤ c) => heldBox W a B.length c (1 + 2 * (A.length : Int)) x hc (by omega) (by omega) (by omega)
    have d3 := d1
    have d4 := d2
    have hk1 : ¬ (1 + 2 * (len : Int)) < 0 := by omega
    have hk2 : ¬ (1 + 2 * (A.length : Int)) < 0 := by omega
    have hk3 : ¬ (1 + 2 * (A.length : Int) + 2 * (B.length : Int)) < 0 := by omega
    have hL : Hid (A.length ≤ 1048576 ∧ B.length ≤ 1048576) := by show A.length ≤ 1048576 ∧ B.length ≤ 1048576; omega
    clear hL6
    go_enter Try.func4, Try.ntmps4
    go_wp2_with first
      | (go_at_call 9; refine (hz _).mono ?_; clear hz; rintro e w1 ⟨rfl, q⟩; replace F : Hid (Facts _ _) := F.out.below q; clear q; have c1 := (F.out.own 1 rfl).cell 0 _ rfl)
      | (go_at_call 11; refine (t1 _ (F.out.args 2 rfl)).mono ?_; clear t1 c1; rintro e w2 ⟨Gy, hGy, rfl, oy, q⟩; replace F : Hid (Facts _ _) := F.out.below q; clear q hGy)
      | (go_at_call 14; refine (hs _ _ (oy.at hw)).mono ?_; clear hs; rintro e w3 ⟨aw, cw, ow, av, cv, ov, rfl, ⟨hcw, hpw, how⟩, ⟨hcv, hpv, hov⟩, hwv, q⟩
         have n3 : Hid (w.heap.size < w3.heap.size ∧ (∀ G, ow = some G → w.heap.size < G ∧ G < w3.heap.size) ∧ (∀ G, ov = some G → w.heap.size < G ∧ G < w3.heap.size) ∧ True) := by
           have l1 := (F.out.own 1 rfl).lt
           have l2 := q.size
           exact ⟨by omega, fun G hG => ⟨by have := how G hG; omega, hpw.lt G hG⟩, fun G hG => ⟨by have := hov G hG; omega, hpv.lt G hG⟩, trivial⟩
         replace F : Hid (Facts _ [.bel w, .own w.heap.size [.slice ad len cap], .args w.heap.size ad ps, .has aw A ow, .has av B ov, .own (w3.heap.size) [.slice aw A.length cw], .own (w3.heap.size + 1) [.slice av B.length cv]]) := (((F.out.below q).pushHas hpw).pushHas hpv).cells2 #[.slice aw A.length cw] #[.slice av B.length cv] 29 29; clear q how hov hpw hpv oy; have c1 := (F.out.own 1 rfl).cell 0 _ rfl)
      | (go_at_call 11; refine (t2 _ (F.out.args 2 rfl)).mono ?_; clear t2 c1; rintro e w4 ⟨Gx, hGx, rfl, ox, q⟩
         have n4 : Hid (w3.heap.size + 1 < Gx ∧ Gx < w4.heap.size) := by
           have l1 := (F.out.own 6 rfl).lt
           exact ⟨by omega, ox.lt⟩
         replace F : Hid (Facts _ [.bel w, .own w.heap.size [.slice ad len cap], .args w.heap.size ad ps, .has aw A ow, .has av B ov, .own (w3.heap.size) [.slice aw A.length cw], .own (w3.heap.size + 1) [.slice av B.length cv], .has (some ⟨Gx, 0, none⟩) ps (some Gx), .own (w4.heap.size) [.slice (some ⟨Gx, 0, none⟩) len len]]) := (((F.out.below q).pushHas (ox.has hw)).cells #[.slice (some ⟨Gx, 0, none⟩) len len] 29); clear q hGx ox; have c8 := (F.out.own 8 rfl).cell 0 _ rfl)
      | (go_at_call 15; refine (hi _ _ (F.out.has 7 rfl).at).mono ?_; clear hi c8; rintro e w5 ⟨ag, cg, og, ah, ch, oh, rfl, ⟨hcg, hpg, hog⟩, ⟨hch, hph, hoh⟩, hgh, q⟩
         have n5 : Hid (w4.heap.size < w5.heap.size ∧ (∀ G, og = some G → w4.heap.size < G ∧ G < w5.heap.size) ∧ (∀ G, oh = some G → w4.heap.size < G ∧ G < w5.heap.size) ∧ (∀ G, og = some G → oh ≠ some G) ∧ True) := by
           have l1 := (F.out.own 8 rfl).lt
           have l2 := q.size
           exact ⟨by omega, fun G hG => ⟨by have := hog G hG; omega, hpg.lt G hG⟩, fun G hG => ⟨by have := hoh G hG; omega, hph.lt G hG⟩, hgh, trivial⟩
         replace F : Hid (Facts _ [.bel w, .own w.heap.size [.slice ad len cap], .args w.heap.size ad ps, .has aw A ow, .has av B ov, .own (w3.heap.size) [.slice aw A.length cw], .own (w3.heap.size + 1) [.slice av B.length cv], .has (some ⟨Gx, 0, none⟩) ps (some Gx), .own (w4.heap.size) [.slice (some ⟨Gx, 0, none⟩) len len], .has ag A og, .has ah B oh, .own (w5.heap.size) [.slice ag A.length cg], .own (w5.heap.size + 1) [.slice ah B.length ch]]) := (((F.out.below q).pushHas hpg).pushHas hph).cells2 #[.slice ag A.length cg] #[.slice ah B.length ch] 29 29; clear q hog hoh hpg hph; have c11 := (F.out.own 11 rfl).cell 0 _ rfl; have c5 := (F.out.own 5 rfl).cell 0 _ rfl)
      | (go_at_call 13; refine (e1 _ _ _ _ _ (F.out.has 9 rfl).at (F.out.has 3 rfl).at hcg hcw hL.out.1).mono ?_; clear e1 c11 c5; rintro e w6 ⟨rfl, q⟩; replace F : Hid (Facts _ _) := F.out.below q; clear q; have c12 := (F.out.own 12 rfl).cell 0 _ rfl; have c6 := (F.out.own 6 rfl).cell 0 _ rfl)
      | (go_at_call 13; refine (e1' _ _ _ _ _ (F.out.has 10 rfl).at (F.out.has 4 rfl).at hch hcv hL.out.2).mono ?_; clear e1' c12 c6; rintro e w7 ⟨rfl, q⟩; replace F : Hid (Facts _ _) := F.out.below q; clear q)
    have l1 := (F.out.own 1 rfl).lt
    have c1 := (F.out.own 1 rfl).cell 0 _ rfl
    have l6 := (F.out.own 8 rfl).lt
    have c6 := (F.out.own 8 rfl).cell 0 _ rfl
    refine region_steps (by kernel_rfl) (by kernel_rfl) (by kernel_rfl) (fun A0 f a W => ∃ (x60 : Value) (x61 : Value) (x62 : Value) (x63 : Value) (x64 : Value) (sg2 : Nat), a = { tmps := #[.int .i64 n, .agg #[.slice ad len cap], .int .i64 k, undef, .pointer (some ⟨w.heap.size, 0, none⟩), undef, .bool false, .int .i64 L1, .pointer (some ⟨w3.heap.size, 0, none⟩), .pointer (some ⟨w3.heap.size + 1, 0, none⟩), .bool K, .pointer (some ⟨w4.heap.size, 0, none⟩), .pointer (some ⟨w5.heap.size, 0, none⟩), .pointer (some ⟨w5.heap.size + 1, 0, none⟩), .bool K, undef, undef, undef, undef, undef, undef, .agg #[.slice ad len cap], .int .i64 1048576, .int .i64 L1, .int .i64 L1, .bool (decide (L1 < 0)), .tuple #[.agg #[.slice aw A.length cw], .agg #[.slice av B.length cv], .bool K], .int .i64 n, .agg #[.slice ad len cap], .agg #[.slice (some ⟨Gy, 0, none⟩) len len], .int .i64 k, .tuple #[.agg #[.slice aw A.length cw], .agg #[.slice av B.length cv], .bool K], .agg #[.slice aw A.length cw], .agg #[.slice av B.length cv], .bool K, .agg #[.slice ad len cap], .agg #[.slice (some ⟨Gx, 0, none⟩) len len], .tuple #[.agg #[.slice ag A.length cg], .agg #[.slice ah B.length ch], .bool K], .int .i64 n, .agg #[.slice (some ⟨Gx, 0, none⟩) len len], .int .i64 k, .tuple #[.agg #[.slice ag A.length cg], .agg #[.slice ah B.length ch], .bool K], .agg #[.slice ag A.length cg], .agg #[.slice ah B.length ch], .bool K, .agg #[.slice ag A.length cg], .agg #[.slice aw A.length cw], .bool true, .bool false, .bool false, .agg #[.slice ah B.length ch], .agg #[.slice av B.length cv], .bool true, .bool false, .bool false, .bool false, .bool K, .bool K, .bool false, .bool false, x60, x61, x62, x63, x64, undef, undef, undef, undef, undef, undef, undef, undef, undef, undef, undef, undef, undef, undef, undef, undef, undef, undef, undef, undef, undef, undef, undef, undef, undef, undef, undef, undef, undef, undef, undef, undef, undef, undef, undef, undef, undef, undef, undef, undef, undef, undef, undef, undef, undef, undef, undef, undef, undef, undef, undef, undef, undef, undef, undef, undef, undef, undef, undef, undef, undef, undef, undef, undef, undef, undef, undef, undef, undef, undef, undef, undef, undef, undef, undef, undef, undef, undef], defers := [] } ∧ (f 0 = true → x60 = .agg #[.slice (some ⟨Gx, 0, none⟩) len len]) ∧ (f 1 = true → x61 = .agg #[.slice ad len cap]) ∧ (f 2 = true → x62 = .agg #[.slice (some ⟨sg2, 0, none⟩) len len] ∧ w7.heap.size ≤ sg2 ∧ OwnP W sg2 ps) ∧ (f 3 = true → x63 = .bool true) ∧ (f 4 = true → x64 = .bool false) ∧ Below w7.heap.size w7 W) ?_ ⟨?_, ?_, ?_, ?_, ?_, trivial⟩ ?_
    · exact ⟨undef, undef, undef, undef, undef, 0, rfl, (fun h => (by cases h)), (fun h => (by cases h)), (fun h => (by cases h)), (fun h => (by cases h)), (fun h => (by cases h)), (Below.refl _ _).drew⟩
    · rintro f a W ⟨x60, x61, x62, x63, x64, sg2, rfl, h0, h1, h2, h3, h4, hB⟩ hf hd K hK
      have r0 := (hB.cell (p := ⟨w4.heap.size, 0, none⟩) l6).trans c6
      go_simp
      refine hK _ _ ?_
      exact ⟨_, x61, x62, x63, x64, sg2, rfl, fun _ => rfl, fun h => h1 (upd_ne (by decide) h), fun h => h2 (upd_ne (by decide) h), fun h => h3 (upd_ne (by decide) h), fun h => h4 (upd_ne (by decide) h), hB⟩
    · rintro f a W ⟨x60, x61, x62, x63, x64, sg2, rfl, h0, h1, h2, h3, h4, hB⟩ hf hd K hK
      have r0 := (hB.cell (p := ⟨w.heap.size, 0, none⟩) l1).trans c1
      go_simp
      refine hK _ _ ?_
      exact ⟨x60, _, x62, x63, x64, sg2, rfl, fun h => h0 (upd_ne (by decide) h), fun _ => rfl, fun h => h2 (upd_ne (by decide) h), fun h => h3 (upd_ne (by decide) h), fun h => h4 (upd_ne (by decide) h), hB⟩
    · rintro f a W ⟨x60, x61, x62, x63, x64, sg2, rfl, h0, h1, h2, h3, h4, hB⟩ hf hd K hK
      have e1 := h1 (dep_of hd (e := ⟨1, .data⟩) (by simp) rfl)
      subst e1
      go_simp
      refine (toBox _ ad ps len cap hlen ((F.out.args 2 rfl).below hB) hl hm).mono ?_
      rintro e W2 ⟨G, hG, rfl, on, q⟩
      refine hK _ _ ?_
      exact ⟨x60, _, _, x63, x64, G, rfl, fun h => h0 (upd_ne (by decide) h), fun _ => rfl, fun _ => ⟨rfl, Nat.le_trans hB.size hG, on⟩, fun h => h3 (upd_ne (by decide) h), fun h => h4 (upd_ne (by decide) h), hB.trans (q.mono hB.size)⟩
    · rintro f a W ⟨x60, x61, x62, x63, x64, sg2, rfl, h0, h1, h2, h3, h4, hB⟩ hf hd K hK
      have e0 := h0 (dep_of hd (e := ⟨0, .data⟩) (by simp) rfl)
      subst e0
      obtain ⟨e2, u2, o2⟩ := h2 (dep_of hd (e := ⟨2, .data⟩) (by simp) rfl)
      subst e2
      go_simp
      refine (eqBox _ _ _ ps len len len hlen ((F.out.has 7 rfl).at.below hB) (o2.at hw) (Nat.le_refl _) (Nat.le_refl _) hm).mono ?_
      rintro e W2 ⟨rfl, q⟩
      refine hK _ _ ?_
      exact ⟨_, x61, _, _, x64, sg2, rfl, fun _ => rfl, fun h => h1 (upd_ne (by decide) h), fun h => (by obtain ⟨p1, p2, p3⟩ := h2 (upd_ne (by decide) h); exact ⟨p1, p2, p3.below q⟩), fun _ => rfl, fun h => h4 (upd_ne (by decide) h), hB.trans (q.mono hB.size)⟩
    · rintro f a W ⟨x60, x61, x62, x63, x64, sg2, rfl, h0, h1, h2, h3, h4, hB⟩ hf hd K hK
      have e3 := h3 (dep_of hd (e := ⟨3, .data⟩) (by simp) rfl)
      subst e3
      go_simp
      refine hK _ _ ?_
      exact ⟨x60, x61, x62, _, _, sg2, rfl, fun h => h0 (upd_ne (by decide) h), fun h => h1 (upd_ne (by decide) h), fun h => h2 (upd_ne (by decide) h), fun _ => rfl, fun _ => rfl, hB⟩
    rintro f a w7b ⟨x60, x61, x62, x63, x64, sg2, rfl, h0, h1, h2, h3, h4, qB⟩ hall
    have e0 := h0 (hall 0 (by decide))
    subst e0
    have e1 := h1 (hall 1 (by decide))
    subst e1
    obtain ⟨e2, u2, s2⟩ := h2 (hall 2 (by decide))
    subst e2
    have e3 := h3 (hall 3 (by decide))
    subst e3
    have e4 := h4 (hall 4 (by decide))
    subst e4
    clear hall h0 h1 h2 h3 h4
    try dsimp only
    replace F : Hid (Facts _ _) := F.out.below qB
    clear l1 c1 l6 c6 qB
    have c6 := (F.out.own 8 rfl).cell 0 _ rfl
    go_wp2_with first
      | (go_at_call 16; refine (m1 _ _ (F.out.has 7 rfl)).mono ?_; clear m1 c6; rintro e w8 ⟨rfl, hp, q⟩
         have hfr : freeBut (some Gx) 7 [.bel w, .own w.heap.size [.slice ad len cap], .args w.heap.size ad ps, .has aw A ow, .has av B ov, .own (w3.heap.size) [.slice aw A.length cw], .own (w3.heap.size + 1) [.slice av B.length cv], .has (some ⟨Gx, 0, none⟩) ps (some Gx), .own (w4.heap.size) [.slice (some ⟨Gx, 0, none⟩) len len], .has ag A og, .has ah B oh, .own (w5.heap.size) [.slice ag A.length cg], .own (w5.heap.size + 1) [.slice ah B.length ch]] := by
           have n3' := n3.out
           have n4' := n4.out
           have n5' := n5.out
           simp only [freeBut, freeAll, Fact.free, and_true]
           exact ⟨fun G hG => by have := Option.some.inj hG; omega, fun hG => by have := Option.some.inj hG; omega, fun G hG => by have := Option.some.inj hG; omega, fun G hG hG' => by have := Option.some.inj hG'; have := n3'.2.1 G hG; omega, fun G hG hG' => by have := Option.some.inj hG'; have := n3'.2.2.1 G hG; omega, fun hG => by have := Option.some.inj hG; omega, fun hG => by have := Option.some.inj hG; omega, fun hG => by have := Option.some.inj hG; omega, fun G hG hG' => by have := Option.some.inj hG'; have := n5'.2.1 G hG; omega, fun G hG hG' => by have := Option.some.inj hG'; have := n5'.2.2.1 G hG; omega, fun hG => by have := Option.some.inj hG; omega, fun hG => by have := Option.some.inj hG; omega⟩
         replace F : Hid (Facts _ [.bel w, .own w.heap.size [.slice ad len cap], .args w.heap.size ad ps, .has aw A ow, .has av B ov, .own (w3.heap.size) [.slice aw A.length cw], .own (w3.heap.size + 1) [.slice av B.length cv], .has (some ⟨Gx, 0, none⟩) (marks 1 len) (some Gx), .own (w4.heap.size) [.slice (some ⟨Gx, 0, none⟩) len len], .has ag A og, .has ah B oh, .own (w5.heap.size) [.slice ag A.length cg], .own (w5.heap.size + 1) [.slice ah B.length ch]]) := F.out.marked q 7 hfr (f2 := .has _ _ _) hp
         clear q hp hfr; have c11 := (F.out.own 11 rfl).cell 0 _ rfl; have c5 := (F.out.own 5 rfl).cell 0 _ rfl)
      | (go_at_call 13; refine (e2 _ _ _ _ _ (F.out.has 9 rfl).at (F.out.has 3 rfl).at hcg hcw hL.out.1).mono ?_; clear e2 c11 c5; rintro e w9 ⟨rfl, q⟩; replace F : Hid (Facts _ _) := F.out.below q; clear q; have c12 := (F.out.own 12 rfl).cell 0 _ rfl; have c6 := (F.out.own 6 rfl).cell 0 _ rfl)
      | (go_at_call 13; refine (e2' _ _ _ _ _ (F.out.has 10 rfl).at (F.out.has 4 rfl).at hch hcv hL.out.2).mono ?_; clear e2' c12 c6; rintro e w9' ⟨rfl, q⟩; replace F : Hid (Facts _ _) := F.out.below q; clear q; have c11 := (F.out.own 11 rfl).cell 0 _ rfl)
      | (go_at_call 16; refine (m2 _ _ _ _ (F.out.has 9 rfl) hcg).mono ?_; clear m2 c11; rintro e w10 ⟨rfl, hp, q⟩
         have hfr : freeBut (og) 9 [.bel w, .own w.heap.size [.slice ad len cap], .args w.heap.size ad ps, .has aw A ow, .has av B ov, .own (w3.heap.size) [.slice aw A.length cw], .own (w3.heap.size + 1) [.slice av B.length cv], .has (some ⟨Gx, 0, none⟩) (marks 1 len) (some Gx), .own (w4.heap.size) [.slice (some ⟨Gx, 0, none⟩) len len], .has ag A og, .has ah B oh, .own (w5.heap.size) [.slice ag A.length cg], .own (w5.heap.size + 1) [.slice ah B.length ch]] := by
           have n3' := n3.out
           have n4' := n4.out
           have n5' := n5.out
           simp only [freeBut, freeAll, Fact.free, and_true]
           exact ⟨fun G hG => by have := n5'.2.1 G hG; omega, fun hG => by have := n5'.2.1 _ hG; omega, fun G hG => by have := n5'.2.1 G hG; omega, fun G hG hG' => by have := n5'.2.1 G hG'; have := n3'.2.1 G hG; omega, fun G hG hG' => by have := n5'.2.1 G hG'; have := n3'.2.2.1 G hG; omega, fun hG => by have := n5'.2.1 _ hG; omega, fun hG => by have := n5'.2.1 _ hG; omega, fun G hG hG' => by have := n5'.2.1 G hG'; have := Option.some.inj hG; omega, fun hG => by have := n5'.2.1 _ hG; omega, fun G hG hG' => n5'.2.2.2.1 G hG' hG, fun hG => by have := n5'.2.1 _ hG; omega, fun hG => by have := n5'.2.1 _ hG; omega⟩
         replace F : Hid (Facts _ [.bel w, .own w.heap.size [.slice ad len cap], .args w.heap.size ad ps, .has aw A ow, .has av B ov, .own (w3.heap.size) [.slice aw A.length cw], .own (w3.heap.size + 1) [.slice av B.length cv], .has (some ⟨Gx, 0, none⟩) (marks 1 len) (some Gx), .own (w4.heap.size) [.slice (some ⟨Gx, 0, none⟩) len len], .has ag (marks 1 A.length) og, .has ah B oh, .own (w5.heap.size) [.slice ag A.length cg], .own (w5.heap.size + 1) [.slice ah B.length ch]]) := F.out.marked q 9 hfr (f2 := .has _ _ _) hp
         clear q hp hfr; have c12 := (F.out.own 12 rfl).cell 0 _ rfl)
      | (go_at_call 16; refine (m3 _ _ _ _ (F.out.has 10 rfl) hch).mono ?_; clear m3 c12; rintro e w10' ⟨rfl, hp, q⟩
         have hfr : freeBut (oh) 10 [.bel w, .own w.heap.size [.slice ad len cap], .args w.heap.size ad ps, .has aw A ow, .has av B ov, .own (w3.heap.size) [.slice aw A.length cw], .own (w3.heap.size + 1) [.slice av B.length cv], .has (some ⟨Gx, 0, none⟩) (marks 1 len) (some Gx), .own (w4.heap.size) [.slice (some ⟨Gx, 0, none⟩) len len], .has ag (marks 1 A.length) og, .has ah B oh, .own (w5.heap.size) [.slice ag A.length cg], .own (w5.heap.size + 1) [.slice ah B.length ch]] := by
           have n3' := n3.out
           have n4' := n4.out
           have n5' := n5.out
           simp only [freeBut, freeAll, Fact.free, and_true]
           exact ⟨fun G hG => by have := n5'.2.2.1 G hG; omega, fun hG => by have := n5'.2.2.1 _ hG; omega, fun G hG => by have := n5'.2.2.1 G hG; omega, fun G hG hG' => by have := n5'.2.2.1 G hG'; have := n3'.2.1 G hG; omega, fun G hG hG' => by have := n5'.2.2.1 G hG'; have := n3'.2.2.1 G hG; omega, fun hG => by have := n5'.2.2.1 _ hG; omega, fun hG => by have := n5'.2.2.1 _ hG; omega, fun G hG hG' => by have := n5'.2.2.1 G hG'; have := Option.some.inj hG; omega, fun hG => by have := n5'.2.2.1 _ hG; omega, fun G hG hG' => n5'.2.2.2.1 G hG hG', fun hG => by have := n5'.2.2.1 _ hG; omega, fun hG => by have := n5'.2.2.1 _ hG; omega⟩
         replace F : Hid (Facts _ [.bel w, .own w.heap.size [.slice ad len cap], .args w.heap.size ad ps, .has aw A ow, .has av B ov, .own (w3.heap.size) [.slice aw A.length cw], .own (w3.heap.size + 1) [.slice av B.length cv], .has (some ⟨Gx, 0, none⟩) (marks 1 len) (some Gx), .own (w4.heap.size) [.slice (some ⟨Gx, 0, none⟩) len len], .has ag (marks 1 A.length) og, .has ah (marks (1 + 2 * (A.length : Int)) B.length) oh, .own (w5.heap.size) [.slice ag A.length cg], .own (w5.heap.size + 1) [.slice ah B.length ch]]) := F.out.marked q 10 hfr (f2 := .has _ _ _) hp
         clear q hp hfr; have c11 := (F.out.own 11 rfl).cell 0 _ rfl)
      | (go_at_call 17; refine (d1 _ _ _ (F.out.has 9 rfl).at hcg).mono ?_; clear d1 c11; rintro e w11 ⟨rfl, q⟩; replace F : Hid (Facts _ _) := F.out.below q; clear q; have c12 := (F.out.own 12 rfl).cell 0 _ rfl)
      | (go_at_call 17; refine (d2 _ _ _ (F.out.has 10 rfl).at hch).mono ?_; clear d2 c12; rintro e WB ⟨rfl, q⟩; replace F : Hid (Facts _ _) := F.out.below q; clear q; have c1 := (F.out.own 1 rfl).cell 0 _ rfl)
      | (go_at_call 11; refine (t3 _ (F.out.args 2 rfl)).mono ?_; clear t3 c1; rintro e w12 ⟨Gz, hGz, rfl, oz, q⟩; replace F : Hid (Facts _ _) := F.out.below q; clear q hGz)
      | (go_at_call 15; refine (hi2 _ _ (oz.at hw)).mono ?_; clear hi2; rintro e w13 ⟨ay, cy, oy, az, cz, oq, rfl, ⟨hcy, hpy, hoy⟩, ⟨hcz, hpz, hoz⟩, hyz, q⟩
         replace F : Hid (Facts _ [.bel w, .own w.heap.size [.slice ad len cap], .args w.heap.size ad ps, .has aw A ow, .has av B ov, .own (w3.heap.size) [.slice aw A.length cw], .own (w3.heap.size + 1) [.slice av B.length cv], .has (some ⟨Gx, 0, none⟩) (marks 1 len) (some Gx), .own (w4.heap.size) [.slice (some ⟨Gx, 0, none⟩) len len], .has ag (marks 1 A.length) og, .has ah (marks (1 + 2 * (A.length : Int)) B.length) oh, .own (w5.heap.size) [.slice ag A.length cg], .own (w5.heap.size + 1) [.slice ah B.length ch], .has ay A oy, .has az B oq, .own (w13.heap.size) [.slice ay A.length cy], .own (w13.heap.size + 1) [.slice az B.length cz]]) := (((F.out.below q).pushHas hpy).pushHas hpz).cells2 #[.slice ay A.length cy] #[.slice az B.length cz] 29 29; clear q hoy hoz hpy hpz oz; have c15 := (F.out.own 15 rfl).cell 0 _ rfl; have c5 := (F.out.own 5 rfl).cell 0 _ rfl)
      | (go_at_call 13; refine (e3 _ _ _ _ _ (F.out.has 13 rfl).at (F.out.has 3 rfl).at hcy hcw hL.out.1).mono ?_; clear e3 c15 c5; rintro e w14 ⟨rfl, q⟩; replace F : Hid (Facts _ _) := F.out.below q; clear q; have c16 := (F.out.own 16 rfl).cell 0 _ rfl; have c6 := (F.out.own 6 rfl).cell 0 _ rfl)
      | (go_at_call 13; refine (e3' _ _ _ _ _ (F.out.has 14 rfl).at (F.out.has 4 rfl).at hcz hcv hL.out.2).mono ?_; clear e3' c16 c6; rintro e w14' ⟨rfl, q⟩; replace F : Hid (Facts _ _) := F.out.below q; clear q; have c11 := (F.out.own 11 rfl).cell 0 _ rfl)
      | (go_at_call 17; refine (d3 _ _ _ (F.out.has 9 rfl).at hcg).mono ?_; clear d3 c11; rintro e w15 ⟨rfl, q⟩; replace F : Hid (Facts _ _) := F.out.below q; clear q; have c12 := (F.out.own 12 rfl).cell 0 _ rfl)
      | (go_at_call 17; refine (d4 _ _ _ (F.out.has 10 rfl).at hch).mono ?_; clear d4 c12; rintro e w16 ⟨rfl, q⟩; replace F : Hid (Facts _ _) := F.out.below q; clear q)
    go_ret
    exact ⟨rfl, F.out.bel 0 rfl⟩
  · rw [if_pos (by omega)] at hz
    have hneg : (-1 : Int) < 0 := by omega
    clear hs hi
    go_enter Try.func4, Try.ntmps4
    go_wp2_with (go_at_call 9; refine (hz _).mono ?_; clear hz; rintro e w1 ⟨rfl, q⟩; replace F : Hid (Facts _ _) := F.out.below q; clear q)
    go_ret
    exact ⟨rfl, F.out.bel 0 rfl⟩

end Go.Proofs.Yteohgmmenlinbah
