/- The walk of the exact law of BoxCut: it returns true. -/
import Derived.Test.YteohgmmenlinbahBoxCt
import Derived.Test.YteohgmmenlinbahBoxCtS
import Derived.Test.YteohgmmenlinbahBoxE
import Derived.Test.YteohgmmenlinbahBoxL
import Derived.Test.YteohgmmenlinbahMark
import Derived.Test.YteohgmmenlinbahRegM
namespace Go.Proofs.Yteohgmmenlinbah
open Go.ChangeShapes Go.WideShapes Go.ChangeAt Go.RowKit
set_option linter.unusedVariables false

theorem Cut.lens (n : Int) (f : PartF) (ps : List (Int × Int)) (k : Int) : (partA n f ps k).length ≤ 6 ∧ (partB n f ps k).length ≤ 6 := by
  unfold partA partB
  by_cases h : partK n f ps k = true
  · rw [if_pos h, if_pos h]
    unfold partK at h
    simp only [Bool.and_eq_true, decide_eq_true_eq] at h
    have h6 := h.1
    unfold bokI at h6
    simp only [Bool.and_eq_true, decide_eq_true_eq] at h6
    simpa using h6.2.1
  · rw [if_neg h, if_neg h]
    simp

set_option maxRecDepth 100000 in
set_option maxHeartbeats 16000000 in
theorem walkExBoxCut (w : World) (n : Int) (wn : (Lit.int .i64 n).wf = true) (ad : Option Addr) (ps : List (Int × Int)) (cap : Nat) (h : PairsAt w ad ps) (hl : ps.length ≤ cap) (hx : ps.length ≤ maxLen) (k : Int) (wk : (Lit.int .i64 k).wf = true) (g : Int) (gh : Int) (wg : (Lit.int .i64 g).wf = true) (wgh : (Lit.int .i64 gh).wf = true) :
    Calls Try.prog 5 #[.int .i64 n, .agg #[.slice ad ps.length cap], .int .i64 k, .agg #[.int .i64 g, .int .i64 gh]] w fun e w' => e = .returned (.bool true) ∧ Below w.heap.size w w' := by
  have hL6 := Cut.lens n (cutF n g gh) ps k
  have hs := fun W (c : Option Addr) (x : PairsAt W c ps) (hm : ps.length ≤ 1048576) => specBoxCut W n c ps ps.length k wk g gh wg wgh x (Nat.le_refl _) hm
  have hi := fun W (c : Option Addr) (x : PairsAt W c ps) (hm : ps.length ≤ 1048576) => implBoxCut W n c ps ps.length k wk g gh wg wgh x (Nat.le_refl _) hm
  obtain ⟨len, hlen⟩ : ∃ len, ps.length = len := ⟨_, rfl⟩
  rw [hlen] at hl hx hs hi ⊢
  generalize partA n (cutF n g gh) ps k = A at *
  generalize partB n (cutF n g gh) ps k = B at *
  generalize partK n (cutF n g gh) ps k = K at *
  have F : Hid (Facts ((w.alloc (.cells #[.slice ad len cap] 24)).alloc (.cells #[.int .i64 g, .int .i64 gh] 38)) [.bel w, .own w.heap.size [.slice ad len cap], .args w.heap.size ad ps, .own (w.heap.size + 1) [.int .i64 g, .int .i64 gh]]) := by
    have q0 : Below w.heap.size w ((w.alloc (.cells #[.slice ad len cap] 24)).alloc (.cells #[.int .i64 g, .int .i64 gh] 38)) := ((Below.refl _ w).alloc (Nat.le_refl _) _).alloc (by simp) _
    have oX := Own.new (w.alloc (.cells #[.slice ad len cap] 24)) #[.int .i64 g, .int .i64 gh] 38
    simp only [World.size_alloc] at oX
    exact ((((Facts.nil _).push (f := .bel w) q0).push (f := .own w.heap.size [.slice ad len cap]) ((Own.new w _ _).alloc _)).push (f := .args w.heap.size ad ps) (Fact.below (.args w.heap.size ad ps) (args_of h rfl) q0)).push (f := .own (w.heap.size + 1) [.int .i64 g, .int .i64 gh]) oX
  have hw := h.1
  clear h
  have hz := fun W => szBox W ad len cap 1048576 (by omega) (by omega) hx
  by_cases hm : len ≤ 1048576
  · rw [if_neg (by omega)] at hz
    have hpos : ¬ (1048576 : Int) - len < 0 := by omega
    obtain ⟨L1, hL1⟩ : ∃ L1 : Int, 1048576 - (len : Int) = L1 := ⟨_, rfl⟩
    rw [hL1] at hz hpos
    replace hs := fun W c x => hs W c x hm
    replace hi := fun W c x => hi W c x hm
    have hi2 := hi
    have t1 := fun W h => toBox W ad ps len cap hlen h hl hm
    have t2 := t1
    have t3 := t1
    have e1 := fun W a b c d => eqBox W a b A A.length c d rfl
    have e1' := fun W a b c d => eqBox W a b B B.length c d rfl
    have e2 := e1
    have e2' := e1'
    have e3 := e1
    have e3' := e1'
    have m1 := fun W G (x : HasO W (some ⟨G, 0, none⟩) ps (some G)) => markBox W _ ps _ len len 1 hlen x (Nat.le_refl _) hm (by omega) (by omega)
    have m2 := fun W a o c (x : HasO W a A o) (hc : A.length ≤ c) => markBox W a A o A.length c 1 rfl x hc (by omega) (by omega) (by omega)
    have m3 := fun W a o c (x : HasO W a B o) (hc : B.length ≤ c) => markBox W a B o B.length c (1 + 2 * (A.length : Int)) rfl x hc (by omega) (by omega) (by omega)
    have d1 := fun W a c (x : PairsAt W a (marks 1 A.length)) (hc : A.length ≤ c) => heldBox W a A.length c 1 x hc (by omega) (by omega) (by omega)
    have d2 := fun W a c (x : PairsAt W a (marks (1 + 2 * (A.length : Int)) B.length)) (hc : B.length ≤ c) => heldBox W a B.length c (1 + 2 * (A.length : Int)) x hc (by omega) (by omega) (by omega)
    have d3 := d1
    have d4 := d2
    have hk1 : ¬ (1 + 2 * (len : Int)) < 0 := by omega
    have hk2 : ¬ (1 + 2 * (A.length : Int)) < 0 := by omega
    have hk3 : ¬ (1 + 2 * (A.length : Int) + 2 * (B.length : Int)) < 0 := by omega
    have hL : Hid (A.length ≤ 1048576 ∧ B.length ≤ 1048576) := by show A.length ≤ 1048576 ∧ B.length ≤ 1048576; omega
    clear hL6
    go_enter Try.func5, Try.ntmps5
    go_wp2_with first
      | (go_at_call 9; refine (hz _).mono ?_; clear hz; rintro e w1 ⟨rfl, q⟩; replace F : Hid (Facts _ _) := F.out.below q; clear q)
    have l1 := (F.out.own 1 rfl).lt
    have c1 := (F.out.own 1 rfl).cell 0 _ rfl
    have l3 := (F.out.own 3 rfl).lt
    have g0 := (F.out.own 3 rfl).cell 0 _ rfl
    have g1 := (F.out.own 3 rfl).cell 1 _ rfl
    refine region_steps (by kernel_rfl) (by kernel_rfl) (by kernel_rfl) (fun A0 f a W => ∃ (x29 : Value) (x30 : Value) (x31 : Value) (x32 : Value) (x33 : Value) (x34 : Value) (x35 : Value) (x28 : Value) (x36 : Value) (x37 : Value) (x38 : Value) (x10 : Value) (x11 : Value) (x12 : Value) (r11 : Nat) (r12 : Nat) (rG2 : Nat) (ra6 : Option Addr) (rC6 : Nat) (ro6 : Option Nat) (rb6 : Option Addr) (rD6 : Nat) (ru6 : Option Nat), a = { tmps := #[.int .i64 n, .agg #[.slice ad len cap], .int .i64 k, .agg #[.int .i64 g, .int .i64 gh], undef, .pointer (some ⟨w.heap.size, 0, none⟩), undef, .pointer (some ⟨w.heap.size + 1, 0, none⟩), .bool false, .int .i64 L1, x10, x11, x12, undef, undef, undef, undef, undef, undef, undef, undef, undef, undef, .agg #[.slice ad len cap], .int .i64 1048576, .int .i64 L1, .int .i64 L1, .bool (decide (L1 < 0)), x28, x29, x30, x31, x32, x33, x34, x35, x36, x37, x38, undef, undef, undef, undef, undef, undef, undef, undef, undef, undef, undef, undef, undef, undef, undef, undef, undef, undef, undef, undef, undef, undef, undef, undef, undef, undef, undef, undef, undef, undef, undef, undef, undef, undef, undef, undef, undef, undef, undef, undef, undef, undef, undef, undef, undef, undef, undef, undef, undef, undef, undef, undef, undef, undef, undef, undef, undef, undef, undef, undef, undef, undef, undef, undef, undef, undef, undef, undef, undef, undef, undef, undef, undef, undef, undef, undef, undef, undef, undef, undef, undef, undef, undef, undef, undef, undef, undef, undef, undef, undef, undef, undef, undef, undef, undef, undef, undef, undef, undef, undef, undef, undef, undef, undef, undef, undef, undef, undef, undef, undef, undef, undef], defers := [] } ∧ (f 0 = true → x29 = .int .i64 n) ∧ (f 1 = true → x30 = .agg #[.slice ad len cap]) ∧ (f 2 = true → x31 = .agg #[.slice (some ⟨rG2, 0, none⟩) len len] ∧ w1.heap.size ≤ rG2 ∧ OwnP W rG2 (ps) ∧ True) ∧ (f 3 = true → x32 = .int .i64 k) ∧ (f 4 = true → x33 = .agg #[.int .i64 g, .int .i64 gh]) ∧ (f 5 = true → x34 = .agg #[.int .i64 g, .int .i64 gh]) ∧ (f 6 = true → x35 = .tuple #[.agg #[.slice ra6 A.length rC6], .agg #[.slice rb6 B.length rD6], .bool K] ∧ (∀ c ∈ [(ra6, A, ro6), (rb6, B, ru6)], ∀ G, c.2.2 = some G → w1.heap.size ≤ G) ∧ HasL W [(ra6, A, ro6), (rb6, B, ru6)] ∧ A.length ≤ rC6 ∧ B.length ≤ rD6 ∧ (∀ G, ro6 = some G → ru6 ≠ some G)) ∧ (f 7 = true → x28 = .tuple #[.agg #[.slice ra6 A.length rC6], .agg #[.slice rb6 B.length rD6], .bool K]) ∧ (f 8 = true → x36 = .agg #[.slice ra6 A.length rC6]) ∧ (f 9 = true → x37 = .agg #[.slice rb6 B.length rD6]) ∧ (f 10 = true → x38 = .bool K) ∧ (f 11 = true → x10 = .pointer (some ⟨r11, 0, none⟩) ∧ w1.heap.size ≤ r11 ∧ r11 < W.heap.size ∧ (f 13 = false → Own W r11 [.slice none 0 0]) ∧ (f 13 = true → Own W r11 [.slice ra6 A.length rC6])) ∧ (f 12 = true → x11 = .pointer (some ⟨r12, 0, none⟩) ∧ w1.heap.size ≤ r12 ∧ r12 < W.heap.size ∧ (f 14 = false → Own W r12 [.slice none 0 0]) ∧ (f 14 = true → Own W r12 [.slice rb6 B.length rD6])) ∧ (f 15 = true → x12 = .bool K) ∧ (f 13 = true → f 11 = true) ∧ (f 14 = true → f 12 = true) ∧ (f 7 = true → f 6 = true) ∧ (f 8 = true → f 6 = true) ∧ (f 9 = true → f 6 = true) ∧ (f 13 = true → f 6 = true) ∧ (f 14 = true → f 6 = true) ∧ (f 2 = true → f 6 = true → (∀ c ∈ [(ra6, A, ro6), (rb6, B, ru6)], ∀ G, c.2.2 = some G → G ≠ rG2)) ∧ (f 2 = true → f 11 = true → r11 ≠ rG2) ∧ (f 2 = true → f 12 = true → r12 ≠ rG2) ∧ (f 6 = true → f 11 = true → (∀ c ∈ [(ra6, A, ro6), (rb6, B, ru6)], ∀ G, c.2.2 = some G → G ≠ r11)) ∧ (f 6 = true → f 12 = true → (∀ c ∈ [(ra6, A, ro6), (rb6, B, ru6)], ∀ G, c.2.2 = some G → G ≠ r12)) ∧ (f 11 = true → f 12 = true → r11 ≠ r12) ∧ Below w1.heap.size w1 W) ?_ ⟨?_, ?_, ?_, ?_, ?_, ?_, ?_, ?_, ?_, ?_, ?_, ?_, ?_, ?_, ?_, ?_, trivial⟩ ?_
    · exact ⟨undef, undef, undef, undef, undef, undef, undef, undef, undef, undef, undef, undef, undef, undef, 0, 0, 0, none, 0, none, none, 0, none, rfl, (fun h => (by cases h)), (fun h => (by cases h)), (fun h => (by cases h)), (fun h => (by cases h)), (fun h => (by cases h)), (fun h => (by cases h)), (fun h => (by cases h)), (fun h => (by cases h)), (fun h => (by cases h)), (fun h => (by cases h)), (fun h => (by cases h)), (fun h => (by cases h)), (fun h => (by cases h)), (fun h => (by cases h)), (fun h => (by cases h)), (fun h => (by cases h)), (fun h => (by cases h)), (fun h => (by cases h)), (fun h => (by cases h)), (fun h => (by cases h)), (fun h => (by cases h)), (fun h => (by cases h)), (fun h => (by cases h)), (fun h => (by cases h)), (fun h => (by cases h)), (fun h => (by cases h)), (fun h => (by cases h)), (Below.refl _ _).drew⟩
    · rintro f a W ⟨x29, x30, x31, x32, x33, x34, x35, x28, x36, x37, x38, x10, x11, x12, r11, r12, rG2, ra6, rC6, ro6, rb6, rD6, ru6, rfl, H⟩ hf hd K hK
      have h0 := H.1
      replace H := H.2
      have h1 := H.1
      replace H := H.2
      have h2 := H.1
      replace H := H.2
      have h3 := H.1
      replace H := H.2
      have h4 := H.1
      replace H := H.2
      have h5 := H.1
      replace H := H.2
      have h6 := H.1
      replace H := H.2
      have h7 := H.1
      replace H := H.2
      have h8 := H.1
      replace H := H.2
      have h9 := H.1
      replace H := H.2
      have h10 := H.1
      replace H := H.2
      have h11 := H.1
      replace H := H.2
      have h12 := H.1
      replace H := H.2
      have h15 := H.1
      replace H := H.2
      have n11 := H.1
      replace H := H.2
      have n12 := H.1
      replace H := H.2
      have d7_6 := H.1
      replace H := H.2
      have d8_6 := H.1
      replace H := H.2
      have d9_6 := H.1
      replace H := H.2
      have d13_6 := H.1
      replace H := H.2
      have d14_6 := H.1
      replace H := H.2
      have m2_6 := H.1
      replace H := H.2
      have m2_11 := H.1
      replace H := H.2
      have m2_12 := H.1
      replace H := H.2
      have m6_11 := H.1
      replace H := H.2
      have m6_12 := H.1
      replace H := H.2
      have m11_12 := H.1
      replace H := H.2
      have hB := H
      clear H
      go_simp
      refine hK _ _ ?_
      exact ⟨_, x30, x31, x32, x33, x34, x35, x28, x36, x37, x38, x10, x11, x12, r11, r12, rG2, ra6, rC6, ro6, rb6, rD6, ru6, rfl, fun _ => rfl, fun h => h1 (upd_ne (by decide) h), fun h => h2 (upd_ne (by decide) h), fun h => h3 (upd_ne (by decide) h), fun h => h4 (upd_ne (by decide) h), fun h => h5 (upd_ne (by decide) h), fun h => h6 (upd_ne (by decide) h), fun h => h7 (upd_ne (by decide) h), fun h => h8 (upd_ne (by decide) h), fun h => h9 (upd_ne (by decide) h), fun h => h10 (upd_ne (by decide) h), fun h => (by obtain ⟨p1, p2, p3, p4, p5⟩ := h11 (upd_ne (by decide) h); exact ⟨p1, p2, p3, fun h' => p4 (by rw [upd_same (by decide)] at h'; exact h'), fun h' => p5 (upd_ne (by decide) h')⟩), fun h => (by obtain ⟨p1, p2, p3, p4, p5⟩ := h12 (upd_ne (by decide) h); exact ⟨p1, p2, p3, fun h' => p4 (by rw [upd_same (by decide)] at h'; exact h'), fun h' => p5 (upd_ne (by decide) h')⟩), fun h => h15 (upd_ne (by decide) h), fun h => upd_of (n11 (upd_ne (by decide) h)), fun h => upd_of (n12 (upd_ne (by decide) h)), fun h => upd_of (d7_6 (upd_ne (by decide) h)), fun h => upd_of (d8_6 (upd_ne (by decide) h)), fun h => upd_of (d9_6 (upd_ne (by decide) h)), fun h => upd_of (d13_6 (upd_ne (by decide) h)), fun h => upd_of (d14_6 (upd_ne (by decide) h)), fun h h' => m2_6 (upd_ne (by decide) h) (upd_ne (by decide) h'), fun h h' => m2_11 (upd_ne (by decide) h) (upd_ne (by decide) h'), fun h h' => m2_12 (upd_ne (by decide) h) (upd_ne (by decide) h'), fun h h' => m6_11 (upd_ne (by decide) h) (upd_ne (by decide) h'), fun h h' => m6_12 (upd_ne (by decide) h) (upd_ne (by decide) h'), fun h h' => m11_12 (upd_ne (by decide) h) (upd_ne (by decide) h'), hB⟩
    · rintro f a W ⟨x29, x30, x31, x32, x33, x34, x35, x28, x36, x37, x38, x10, x11, x12, r11, r12, rG2, ra6, rC6, ro6, rb6, rD6, ru6, rfl, H⟩ hf hd K hK
      have h0 := H.1
      replace H := H.2
      have h1 := H.1
      replace H := H.2
      have h2 := H.1
      replace H := H.2
      have h3 := H.1
      replace H := H.2
      have h4 := H.1
      replace H := H.2
      have h5 := H.1
      replace H := H.2
      have h6 := H.1
      replace H := H.2
      have h7 := H.1
      replace H := H.2
      have h8 := H.1
      replace H := H.2
      have h9 := H.1
      replace H := H.2
      have h10 := H.1
      replace H := H.2
      have h11 := H.1
      replace H := H.2
      have h12 := H.1
      replace H := H.2
      have h15 := H.1
      replace H := H.2
      have n11 := H.1
      replace H := H.2
      have n12 := H.1
      replace H := H.2
      have d7_6 := H.1
      replace H := H.2
      have d8_6 := H.1
      replace H := H.2
      have d9_6 := H.1
      replace H := H.2
      have d13_6 := H.1
      replace H := H.2
      have d14_6 := H.1
      replace H := H.2
      have m2_6 := H.1
      replace H := H.2
      have m2_11 := H.1
      replace H := H.2
      have m2_12 := H.1
      replace H := H.2
      have m6_11 := H.1
      replace H := H.2
      have m6_12 := H.1
      replace H := H.2
      have m11_12 := H.1
      replace H := H.2
      have hB := H
      clear H
      have r0 := (hB.cell (p := ⟨w.heap.size, 0, none⟩) l1).trans c1
      go_simp
      refine hK _ _ ?_
      exact ⟨x29, _, x31, x32, x33, x34, x35, x28, x36, x37, x38, x10, x11, x12, r11, r12, rG2, ra6, rC6, ro6, rb6, rD6, ru6, rfl, fun h => h0 (upd_ne (by decide) h), fun _ => rfl, fun h => h2 (upd_ne (by decide) h), fun h => h3 (upd_ne (by decide) h), fun h => h4 (upd_ne (by decide) h), fun h => h5 (upd_ne (by decide) h), fun h => h6 (upd_ne (by decide) h), fun h => h7 (upd_ne (by decide) h), fun h => h8 (upd_ne (by decide) h), fun h => h9 (upd_ne (by decide) h), fun h => h10 (upd_ne (by decide) h), fun h => (by obtain ⟨p1, p2, p3, p4, p5⟩ := h11 (upd_ne (by decide) h); exact ⟨p1, p2, p3, fun h' => p4 (by rw [upd_same (by decide)] at h'; exact h'), fun h' => p5 (upd_ne (by decide) h')⟩), fun h => (by obtain ⟨p1, p2, p3, p4, p5⟩ := h12 (upd_ne (by decide) h); exact ⟨p1, p2, p3, fun h' => p4 (by rw [upd_same (by decide)] at h'; exact h'), fun h' => p5 (upd_ne (by decide) h')⟩), fun h => h15 (upd_ne (by decide) h), fun h => upd_of (n11 (upd_ne (by decide) h)), fun h => upd_of (n12 (upd_ne (by decide) h)), fun h => upd_of (d7_6 (upd_ne (by decide) h)), fun h => upd_of (d8_6 (upd_ne (by decide) h)), fun h => upd_of (d9_6 (upd_ne (by decide) h)), fun h => upd_of (d13_6 (upd_ne (by decide) h)), fun h => upd_of (d14_6 (upd_ne (by decide) h)), fun h h' => m2_6 (upd_ne (by decide) h) (upd_ne (by decide) h'), fun h h' => m2_11 (upd_ne (by decide) h) (upd_ne (by decide) h'), fun h h' => m2_12 (upd_ne (by decide) h) (upd_ne (by decide) h'), fun h h' => m6_11 (upd_ne (by decide) h) (upd_ne (by decide) h'), fun h h' => m6_12 (upd_ne (by decide) h) (upd_ne (by decide) h'), fun h h' => m11_12 (upd_ne (by decide) h) (upd_ne (by decide) h'), hB⟩
    · rintro f a W ⟨x29, x30, x31, x32, x33, x34, x35, x28, x36, x37, x38, x10, x11, x12, r11, r12, rG2, ra6, rC6, ro6, rb6, rD6, ru6, rfl, H⟩ hf hd K hK
      have h0 := H.1
      replace H := H.2
      have h1 := H.1
      replace H := H.2
      have h2 := H.1
      replace H := H.2
      have h3 := H.1
      replace H := H.2
      have h4 := H.1
      replace H := H.2
      have h5 := H.1
      replace H := H.2
      have h6 := H.1
      replace H := H.2
      have h7 := H.1
      replace H := H.2
      have h8 := H.1
      replace H := H.2
      have h9 := H.1
      replace H := H.2
      have h10 := H.1
      replace H := H.2
      have h11 := H.1
      replace H := H.2
      have h12 := H.1
      replace H := H.2
      have h15 := H.1
      replace H := H.2
      have n11 := H.1
      replace H := H.2
      have n12 := H.1
      replace H := H.2
      have d7_6 := H.1
      replace H := H.2
      have d8_6 := H.1
      replace H := H.2
      have d9_6 := H.1
      replace H := H.2
      have d13_6 := H.1
      replace H := H.2
      have d14_6 := H.1
      replace H := H.2
      have m2_6 := H.1
      replace H := H.2
      have m2_11 := H.1
      replace H := H.2
      have m2_12 := H.1
      replace H := H.2
      have m6_11 := H.1
      replace H := H.2
      have m6_12 := H.1
      replace H := H.2
      have m11_12 := H.1
      replace H := H.2
      have hB := H
      clear H
      have e1 := h1 (dep_of hd (e := ⟨1, .data⟩) (by simp) rfl)
      subst e1
      go_simp
      refine (toBox _ ad ps len cap hlen ((F.out.args 2 rfl).below hB) hl hm).mono ?_
      rintro e W2 ⟨G_, hG, rfl, on, q⟩
      refine hK _ _ ?_
      exact ⟨x29, _, _, x32, x33, x34, x35, x28, x36, x37, x38, x10, x11, x12, r11, r12, G_, ra6, rC6, ro6, rb6, rD6, ru6, rfl, fun h => h0 (upd_ne (by decide) h), fun _ => rfl, fun _ => ⟨rfl, Nat.le_trans hB.size hG, on, trivial⟩, fun h => h3 (upd_ne (by decide) h), fun h => h4 (upd_ne (by decide) h), fun h => h5 (upd_ne (by decide) h), fun h => (by obtain ⟨p1, p2, p3, p4⟩ := h6 (upd_ne (by decide) h); exact ⟨p1, p2, p3.below q, p4⟩), fun h => h7 (upd_ne (by decide) h), fun h => h8 (upd_ne (by decide) h), fun h => h9 (upd_ne (by decide) h), fun h => h10 (upd_ne (by decide) h), fun h => (by obtain ⟨p1, p2, p3, p4, p5⟩ := h11 (upd_ne (by decide) h); exact ⟨p1, p2, Nat.lt_of_lt_of_le (p3) q.size, fun h' => (p4 (by rw [upd_same (by decide)] at h'; exact h')).below q, fun h' => (p5 (upd_ne (by decide) h')).below q⟩), fun h => (by obtain ⟨p1, p2, p3, p4, p5⟩ := h12 (upd_ne (by decide) h); exact ⟨p1, p2, Nat.lt_of_lt_of_le (p3) q.size, fun h' => (p4 (by rw [upd_same (by decide)] at h'; exact h')).below q, fun h' => (p5 (upd_ne (by decide) h')).below q⟩), fun h => h15 (upd_ne (by decide) h), fun h => upd_of (n11 (upd_ne (by decide) h)), fun h => upd_of (n12 (upd_ne (by decide) h)), fun h => upd_of (d7_6 (upd_ne (by decide) h)), fun h => upd_of (d8_6 (upd_ne (by decide) h)), fun h => upd_of (d9_6 (upd_ne (by decide) h)), fun h => upd_of (d13_6 (upd_ne (by decide) h)), fun h => upd_of (d14_6 (upd_ne (by decide) h)), fun _ h => (by obtain ⟨-, -, p3, -⟩ := h6 (upd_ne (by decide) h); intro c hc G h1; have p4 := p3.lt c hc G h1; omega), fun _ h => (by obtain ⟨-, -, p3, -, -⟩ := h11 (upd_ne (by decide) h); omega), fun _ h => (by obtain ⟨-, -, p3, -, -⟩ := h12 (upd_ne (by decide) h); omega), fun h h' => m6_11 (upd_ne (by decide) h) (upd_ne (by decide) h'), fun h h' => m6_12 (upd_ne (by decide) h) (upd_ne (by decide) h'), fun h h' => m11_12 (upd_ne (by decide) h) (upd_ne (by decide) h'), hB.trans (q.mono hB.size)⟩
    · rintro f a W ⟨x29, x30, x31, x32, x33, x34, x35, x28, x36, x37, x38, x10, x11, x12, r11, r12, rG2, ra6, rC6, ro6, rb6, rD6, ru6, rfl, H⟩ hf hd K hK
      have h0 := H.1
      replace H := H.2
      have h1 := H.1
      replace H := H.2
      have h2 := H.1
      replace H := H.2
      have h3 := H.1
      replace H := H.2
      have h4 := H.1
      replace H := H.2
      have h5 := H.1
      replace H := H.2
      have h6 := H.1
      replace H := H.2
      have h7 := H.1
      replace H := H.2
      have h8 := H.1
      replace H := H.2
      have h9 := H.1
      replace H := H.2
      have h10 := H.1
      replace H := H.2
      have h11 := H.1
      replace H := H.2
      have h12 := H.1
      replace H := H.2
      have h15 := H.1
      replace H := H.2
      have n11 := H.1
      replace H := H.2
      have n12 := H.1
      replace H := H.2
      have d7_6 := H.1
      replace H := H.2
      have d8_6 := H.1
      replace H := H.2
      have d9_6 := H.1
      replace H := H.2
      have d13_6 := H.1
      replace H := H.2
      have d14_6 := H.1
      replace H := H.2
      have m2_6 := H.1
      replace H := H.2
      have m2_11 := H.1
      replace H := H.2
      have m2_12 := H.1
      replace H := H.2
      have m6_11 := H.1
      replace H := H.2
      have m6_12 := H.1
      replace H := H.2
      have m11_12 := H.1
      replace H := H.2
      have hB := H
      clear H
      go_simp
      refine hK _ _ ?_
      exact ⟨x29, x30, x31, _, x33, x34, x35, x28, x36, x37, x38, x10, x11, x12, r11, r12, rG2, ra6, rC6, ro6, rb6, rD6, ru6, rfl, fun h => h0 (upd_ne (by decide) h), fun h => h1 (upd_ne (by decide) h), fun h => h2 (upd_ne (by decide) h), fun _ => rfl, fun h => h4 (upd_ne (by decide) h), fun h => h5 (upd_ne (by decide) h), fun h => h6 (upd_ne (by decide) h), fun h => h7 (upd_ne (by decide) h), fun h => h8 (upd_ne (by decide) h), fun h => h9 (upd_ne (by decide) h), fun h => h10 (upd_ne (by decide) h), fun h => (by obtain ⟨p1, p2, p3, p4, p5⟩ := h11 (upd_ne (by decide) h); exact ⟨p1, p2, p3, fun h' => p4 (by rw [upd_same (by decide)] at h'; exact h'), fun h' => p5 (upd_ne (by decide) h')⟩), fun h => (by obtain ⟨p1, p2, p3, p4, p5⟩ := h12 (upd_ne (by decide) h); exact ⟨p1, p2, p3, fun h' => p4 (by rw [upd_same (by decide)] at h'; exact h'), fun h' => p5 (upd_ne (by decide) h')⟩), fun h => h15 (upd_ne (by decide) h), fun h => upd_of (n11 (upd_ne (by decide) h)), fun h => upd_of (n12 (upd_ne (by decide) h)), fun h => upd_of (d7_6 (upd_ne (by decide) h)), fun h => upd_of (d8_6 (upd_ne (by decide) h)), fun h => upd_of (d9_6 (upd_ne (by decide) h)), fun h => upd_of (d13_6 (upd_ne (by decide) h)), fun h => upd_of (d14_6 (upd_ne (by decide) h)), fun h h' => m2_6 (upd_ne (by decide) h) (upd_ne (by decide) h'), fun h h' => m2_11 (upd_ne (by decide) h) (upd_ne (by decide) h'), fun h h' => m2_12 (upd_ne (by decide) h) (upd_ne (by decide) h'), fun h h' => m6_11 (upd_ne (by decide) h) (upd_ne (by decide) h'), fun h h' => m6_12 (upd_ne (by decide) h) (upd_ne (by decide) h'), fun h h' => m11_12 (upd_ne (by decide) h) (upd_ne (by decide) h'), hB⟩
    · rintro f a W ⟨x29, x30, x31, x32, x33, x34, x35, x28, x36, x37, x38, x10, x11, x12, r11, r12, rG2, ra6, rC6, ro6, rb6, rD6, ru6, rfl, H⟩ hf hd K hK
      have h0 := H.1
      replace H := H.2
      have h1 := H.1
      replace H := H.2
      have h2 := H.1
      replace H := H.2
      have h3 := H.1
      replace H := H.2
      have h4 := H.1
      replace H := H.2
      have h5 := H.1
      replace H := H.2
      have h6 := H.1
      replace H := H.2
      have h7 := H.1
      replace H := H.2
      have h8 := H.1
      replace H := H.2
      have h9 := H.1
      replace H := H.2
      have h10 := H.1
      replace H := H.2
      have h11 := H.1
      replace H := H.2
      have h12 := H.1
      replace H := H.2
      have h15 := H.1
      replace H := H.2
      have n11 := H.1
      replace H := H.2
      have n12 := H.1
      replace H := H.2
      have d7_6 := H.1
      replace H := H.2
      have d8_6 := H.1
      replace H := H.2
      have d9_6 := H.1
      replace H := H.2
      have d13_6 := H.1
      replace H := H.2
      have d14_6 := H.1
      replace H := H.2
      have m2_6 := H.1
      replace H := H.2
      have m2_11 := H.1
      replace H := H.2
      have m2_12 := H.1
      replace H := H.2
      have m6_11 := H.1
      replace H := H.2
      have m6_12 := H.1
      replace H := H.2
      have m11_12 := H.1
      replace H := H.2
      have hB := H
      clear H
      have r0 := (hB.cell (p := ⟨w.heap.size + 1, 0, none⟩) l3).trans g0
      have r1 := (hB.cell (p := ⟨w.heap.size + 1, 1, none⟩) l3).trans g1
      go_simp
      refine hK _ _ ?_
      exact ⟨x29, x30, x31, x32, _, x34, x35, x28, x36, x37, x38, x10, x11, x12, r11, r12, rG2, ra6, rC6, ro6, rb6, rD6, ru6, rfl, fun h => h0 (upd_ne (by decide) h), fun h => h1 (upd_ne (by decide) h), fun h => h2 (upd_ne (by decide) h), fun h => h3 (upd_ne (by decide) h), fun _ => rfl, fun h => h5 (upd_ne (by decide) h), fun h => h6 (upd_ne (by decide) h), fun h => h7 (upd_ne (by decide) h), fun h => h8 (upd_ne (by decide) h), fun h => h9 (upd_ne (by decide) h), fun h => h10 (upd_ne (by decide) h), fun h => (by obtain ⟨p1, p2, p3, p4, p5⟩ := h11 (upd_ne (by decide) h); exact ⟨p1, p2, p3, fun h' => p4 (by rw [upd_same (by decide)] at h'; exact h'), fun h' => p5 (upd_ne (by decide) h')⟩), fun h => (by obtain ⟨p1, p2, p3, p4, p5⟩ := h12 (upd_ne (by decide) h); exact ⟨p1, p2, p3, fun h' => p4 (by rw [upd_same (by decide)] at h'; exact h'), fun h' => p5 (upd_ne (by decide) h')⟩), fun h => h15 (upd_ne (by decide) h), fun h => upd_of (n11 (upd_ne (by decide) h)), fun h => upd_of (n12 (upd_ne (by decide) h)), fun h => upd_of (d7_6 (upd_ne (by decide) h)), fun h => upd_of (d8_6 (upd_ne (by decide) h)), fun h => upd_of (d9_6 (upd_ne (by decide) h)), fun h => upd_of (d13_6 (upd_ne (by decide) h)), fun h => upd_of (d14_6 (upd_ne (by decide) h)), fun h h' => m2_6 (upd_ne (by decide) h) (upd_ne (by decide) h'), fun h h' => m2_11 (upd_ne (by decide) h) (upd_ne (by decide) h'), fun h h' => m2_12 (upd_ne (by decide) h) (upd_ne (by decide) h'), fun h h' => m6_11 (upd_ne (by decide) h) (upd_ne (by decide) h'), fun h h' => m6_12 (upd_ne (by decide) h) (upd_ne (by decide) h'), fun h h' => m11_12 (upd_ne (by decide) h) (upd_ne (by decide) h'), hB⟩
    · rintro f a W ⟨x29, x30, x31, x32, x33, x34, x35, x28, x36, x37, x38, x10, x11, x12, r11, r12, rG2, ra6, rC6, ro6, rb6, rD6, ru6, rfl, H⟩ hf hd K hK
      have h0 := H.1
      replace H := H.2
      have h1 := H.1
      replace H := H.2
      have h2 := H.1
      replace H := H.2
      have h3 := H.1
      replace H := H.2
      have h4 := H.1
      replace H := H.2
      have h5 := H.1
      replace H := H.2
      have h6 := H.1
      replace H := H.2
      have h7 := H.1
      replace H := H.2
      have h8 := H.1
      replace H := H.2
      have h9 := H.1
      replace H := H.2
      have h10 := H.1
      replace H := H.2
      have h11 := H.1
      replace H := H.2
      have h12 := H.1
      replace H := H.2
      have h15 := H.1
      replace H := H.2
      have n11 := H.1
      replace H := H.2
      have n12 := H.1
      replace H := H.2
      have d7_6 := H.1
      replace H := H.2
      have d8_6 := H.1
      replace H := H.2
      have d9_6 := H.1
      replace H := H.2
      have d13_6 := H.1
      replace H := H.2
      have d14_6 := H.1
      replace H := H.2
      have m2_6 := H.1
      replace H := H.2
      have m2_11 := H.1
      replace H := H.2
      have m2_12 := H.1
      replace H := H.2
      have m6_11 := H.1
      replace H := H.2
      have m6_12 := H.1
      replace H := H.2
      have m11_12 := H.1
      replace H := H.2
      have hB := H
      clear H
      have e4 := h4 (dep_of hd (e := ⟨4, .data⟩) (by simp) rfl)
      subst e4
      go_simp
      refine (toPair _ g gh).mono ?_
      rintro e W2 ⟨rfl, q⟩
      refine hK _ _ ?_
      exact ⟨x29, x30, x31, x32, _, _, x35, x28, x36, x37, x38, x10, x11, x12, r11, r12, rG2, ra6, rC6, ro6, rb6, rD6, ru6, rfl, fun h => h0 (upd_ne (by decide) h), fun h => h1 (upd_ne (by decide) h), fun h => (by obtain ⟨p1, p2, p3, p4⟩ := h2 (upd_ne (by decide) h); exact ⟨p1, p2, p3.below q, p4⟩), fun h => h3 (upd_ne (by decide) h), fun _ => rfl, fun _ => rfl, fun h => (by obtain ⟨p1, p2, p3, p4⟩ := h6 (upd_ne (by decide) h); exact ⟨p1, p2, p3.below q, p4⟩), fun h => h7 (upd_ne (by decide) h), fun h => h8 (upd_ne (by decide) h), fun h => h9 (upd_ne (by decide) h), fun h => h10 (upd_ne (by decide) h), fun h => (by obtain ⟨p1, p2, p3, p4, p5⟩ := h11 (upd_ne (by decide) h); exact ⟨p1, p2, Nat.lt_of_lt_of_le (p3) q.size, fun h' => (p4 (by rw [upd_same (by decide)] at h'; exact h')).below q, fun h' => (p5 (upd_ne (by decide) h')).below q⟩), fun h => (by obtain ⟨p1, p2, p3, p4, p5⟩ := h12 (upd_ne (by decide) h); exact ⟨p1, p2, Nat.lt_of_lt_of_le (p3) q.size, fun h' => (p4 (by rw [upd_same (by decide)] at h'; exact h')).below q, fun h' => (p5 (upd_ne (by decide) h')).below q⟩), fun h => h15 (upd_ne (by decide) h), fun h => upd_of (n11 (upd_ne (by decide) h)), fun h => upd_of (n12 (upd_ne (by decide) h)), fun h => upd_of (d7_6 (upd_ne (by decide) h)), fun h => upd_of (d8_6 (upd_ne (by decide) h)), fun h => upd_of (d9_6 (upd_ne (by decide) h)), fun h => upd_of (d13_6 (upd_ne (by decide) h)), fun h => upd_of (d14_6 (upd_ne (by decide) h)), fun h h' => m2_6 (upd_ne (by decide) h) (upd_ne (by decide) h'), fun h h' => m2_11 (upd_ne (by decide) h) (upd_ne (by decide) h'), fun h h' => m2_12 (upd_ne (by decide) h) (upd_ne (by decide) h'), fun h h' => m6_11 (upd_ne (by decide) h) (upd_ne (by decide) h'), fun h h' => m6_12 (upd_ne (by decide) h) (upd_ne (by decide) h'), fun h h' => m11_12 (upd_ne (by decide) h) (upd_ne (by decide) h'), hB.trans (q.mono hB.size)⟩
    · rintro f a W ⟨x29, x30, x31, x32, x33, x34, x35, x28, x36, x37, x38, x10, x11, x12, r11, r12, rG2, ra6, rC6, ro6, rb6, rD6, ru6, rfl, H⟩ hf hd K hK
      have h0 := H.1
      replace H := H.2
      have h1 := H.1
      replace H := H.2
      have h2 := H.1
      replace H := H.2
      have h3 := H.1
      replace H := H.2
      have h4 := H.1
      replace H := H.2
      have h5 := H.1
      replace H := H.2
      have h6 := H.1
      replace H := H.2
      have h7 := H.1
      replace H := H.2
      have h8 := H.1
      replace H := H.2
      have h9 := H.1
      replace H := H.2
      have h10 := H.1
      replace H := H.2
      have h11 := H.1
      replace H := H.2
      have h12 := H.1
      replace H := H.2
      have h15 := H.1
      replace H := H.2
      have n11 := H.1
      replace H := H.2
      have n12 := H.1
      replace H := H.2
      have d7_6 := H.1
      replace H := H.2
      have d8_6 := H.1
      replace H := H.2
      have d9_6 := H.1
      replace H := H.2
      have d13_6 := H.1
      replace H := H.2
      have d14_6 := H.1
      replace H := H.2
      have m2_6 := H.1
      replace H := H.2
      have m2_11 := H.1
      replace H := H.2
      have m2_12 := H.1
      replace H := H.2
      have m6_11 := H.1
      replace H := H.2
      have m6_12 := H.1
      replace H := H.2
      have m11_12 := H.1
      replace H := H.2
      have hB := H
      clear H
      have e0 := h0 (dep_of hd (e := ⟨0, .data⟩) (by simp) rfl)
      subst e0
      obtain ⟨e2, u2, o2, c2⟩ := h2 (dep_of hd (e := ⟨2, .data⟩) (by simp) rfl)
      subst e2
      have e3 := h3 (dep_of hd (e := ⟨3, .data⟩) (by simp) rfl)
      subst e3
      have e5 := h5 (dep_of hd (e := ⟨5, .data⟩) (by simp) rfl)
      subst e5
      go_simp
      refine (hs _ _ (o2.at hw)).mono ?_
      rintro e W2 ⟨a_, C_, o_, b_, D_, u_, rfl, ⟨hc1, hp1, ho1⟩, ⟨hc2, hp2, ho2⟩, hoo, q⟩; have on := HasL.two hp1 hp2; have ho := from_two (a := a_) (b := b_) (ps := A) (qs := B) ho1 ho2
      refine hK _ _ ?_
      exact ⟨_, x30, _, _, x33, _, _, x28, x36, x37, x38, x10, x11, x12, r11, r12, rG2, a_, C_, o_, b_, D_, u_, rfl, fun _ => rfl, fun h => h1 (upd_ne (by decide) h), fun h => (by obtain ⟨p1, p2, p3, p4⟩ := h2 (upd_ne (by decide) h); exact ⟨p1, p2, p3.below q, p4⟩), fun _ => rfl, fun h => h4 (upd_ne (by decide) h), fun _ => rfl, fun _ => ⟨rfl, (fun c hc G hG => Nat.le_trans hB.size (ho c hc G hG)), on, ⟨hc1, hc2, hoo⟩⟩, fun h => absurd (d7_6 (upd_ne (by decide) h)) (by rw [hf]; decide), fun h => absurd (d8_6 (upd_ne (by decide) h)) (by rw [hf]; decide), fun h => absurd (d9_6 (upd_ne (by decide) h)) (by rw [hf]; decide), fun h => h10 (upd_ne (by decide) h), fun h => (by obtain ⟨p1, p2, p3, p4, p5⟩ := h11 (upd_ne (by decide) h); exact ⟨p1, p2, Nat.lt_of_lt_of_le (p3) q.size, fun h' => (p4 (by rw [upd_same (by decide)] at h'; exact h')).below q, fun h' => absurd (d13_6 (upd_ne (by decide) h')) (by rw [hf]; decide)⟩), fun h => (by obtain ⟨p1, p2, p3, p4, p5⟩ := h12 (upd_ne (by decide) h); exact ⟨p1, p2, Nat.lt_of_lt_of_le (p3) q.size, fun h' => (p4 (by rw [upd_same (by decide)] at h'; exact h')).below q, fun h' => absurd (d14_6 (upd_ne (by decide) h')) (by rw [hf]; decide)⟩), fun h => h15 (upd_ne (by decide) h), fun h => upd_of (n11 (upd_ne (by decide) h)), fun h => upd_of (n12 (upd_ne (by decide) h)), fun _ => upd_self, fun _ => upd_self, fun _ => upd_self, fun _ => upd_self, fun _ => upd_self, fun h _ => (by obtain ⟨-, -, p3, -⟩ := h2 (upd_ne (by decide) h); intro c hc G h1; have p4 := ho c hc G h1; have p5 := p3.lt; omega), fun h h' => m2_11 (upd_ne (by decide) h) (upd_ne (by decide) h'), fun h h' => m2_12 (upd_ne (by decide) h) (upd_ne (by decide) h'), fun _ h => (by obtain ⟨-, -, p3, -, -⟩ := h11 (upd_ne (by decide) h); intro c hc G h1; have p4 := ho c hc G h1; omega), fun _ h => (by obtain ⟨-, -, p3, -, -⟩ := h12 (upd_ne (by decide) h); intro c hc G h1; have p4 := ho c hc G h1; omega), fun h h' => m11_12 (upd_ne (by decide) h) (upd_ne (by decide) h'), hB.trans (q.mono hB.size)⟩
    · rintro f a W ⟨x29, x30, x31, x32, x33, x34, x35, x28, x36, x37, x38, x10, x11, x12, r11, r12, rG2, ra6, rC6, ro6, rb6, rD6, ru6, rfl, H⟩ hf hd K hK
      have h0 := H.1
      replace H := H.2
      have h1 := H.1
      replace H := H.2
      have h2 := H.1
      replace H := H.2
      have h3 := H.1
      replace H := H.2
      have h4 := H.1
      replace H := H.2
      have h5 := H.1
      replace H := H.2
      have h6 := H.1
      replace H := H.2
      have h7 := H.1
      replace H := H.2
      have h8 := H.1
      replace H := H.2
      have h9 := H.1
      replace H := H.2
      have h10 := H.1
      replace H := H.2
      have h11 := H.1
      replace H := H.2
      have h12 := H.1
      replace H := H.2
      have h15 := H.1
      replace H := H.2
      have n11 := H.1
      replace H := H.2
      have n12 := H.1
      replace H := H.2
      have d7_6 := H.1
      replace H := H.2
      have d8_6 := H.1
      replace H := H.2
      have d9_6 := H.1
      replace H := H.2
      have d13_6 := H.1
      replace H := H.2
      have d14_6 := H.1
      replace H := H.2
      have m2_6 := H.1
      replace H := H.2
      have m2_11 := H.1
      replace H := H.2
      have m2_12 := H.1
      replace H := H.2
      have m6_11 := H.1
      replace H := H.2
      have m6_12 := H.1
      replace H := H.2
      have m11_12 := H.1
      replace H := H.2
      have hB := H
      clear H
      obtain ⟨e6, u6, o6, c6⟩ := h6 (dep_of hd (e := ⟨6, .data⟩) (by simp) rfl)
      subst e6
      go_simp
      refine hK _ _ ?_
      exact ⟨x29, x30, x31, x32, x33, x34, _, _, x36, x37, x38, x10, x11, x12, r11, r12, rG2, ra6, rC6, ro6, rb6, rD6, ru6, rfl, fun h => h0 (upd_ne (by decide) h), fun h => h1 (upd_ne (by decide) h), fun h => h2 (upd_ne (by decide) h), fun h => h3 (upd_ne (by decide) h), fun h => h4 (upd_ne (by decide) h), fun h => h5 (upd_ne (by decide) h), fun _ => ⟨rfl, u6, o6, c6⟩, fun _ => rfl, fun h => h8 (upd_ne (by decide) h), fun h => h9 (upd_ne (by decide) h), fun h => h10 (upd_ne (by decide) h), fun h => (by obtain ⟨p1, p2, p3, p4, p5⟩ := h11 (upd_ne (by decide) h); exact ⟨p1, p2, p3, fun h' => p4 (by rw [upd_same (by decide)] at h'; exact h'), fun h' => p5 (upd_ne (by decide) h')⟩), fun h => (by obtain ⟨p1, p2, p3, p4, p5⟩ := h12 (upd_ne (by decide) h); exact ⟨p1, p2, p3, fun h' => p4 (by rw [upd_same (by decide)] at h'; exact h'), fun h' => p5 (upd_ne (by decide) h')⟩), fun h => h15 (upd_ne (by decide) h), fun h => upd_of (n11 (upd_ne (by decide) h)), fun h => upd_of (n12 (upd_ne (by decide) h)), fun _ => upd_of (dep_of hd (e := ⟨6, .data⟩) (by simp) rfl), fun h => upd_of (d8_6 (upd_ne (by decide) h)), fun h => upd_of (d9_6 (upd_ne (by decide) h)), fun h => upd_of (d13_6 (upd_ne (by decide) h)), fun h => upd_of (d14_6 (upd_ne (by decide) h)), fun h h' => m2_6 (upd_ne (by decide) h) (upd_ne (by decide) h'), fun h h' => m2_11 (upd_ne (by decide) h) (upd_ne (by decide) h'), fun h h' => m2_12 (upd_ne (by decide) h) (upd_ne (by decide) h'), fun h h' => m6_11 (upd_ne (by decide) h) (upd_ne (by decide) h'), fun h h' => m6_12 (upd_ne (by decide) h) (upd_ne (by decide) h'), fun h h' => m11_12 (upd_ne (by decide) h) (upd_ne (by decide) h'), hB⟩
    · rintro f a W ⟨x29, x30, x31, x32, x33, x34, x35, x28, x36, x37, x38, x10, x11, x12, r11, r12, rG2, ra6, rC6, ro6, rb6, rD6, ru6, rfl, H⟩ hf hd K hK
      have h0 := H.1
      replace H := H.2
      have h1 := H.1
      replace H := H.2
      have h2 := H.1
      replace H := H.2
      have h3 := H.1
      replace H := H.2
      have h4 := H.1
      replace H := H.2
      have h5 := H.1
      replace H := H.2
      have h6 := H.1
      replace H := H.2
      have h7 := H.1
      replace H := H.2
      have h8 := H.1
      replace H := H.2
      have h9 := H.1
      replace H := H.2
      have h10 := H.1
      replace H := H.2
      have h11 := H.1
      replace H := H.2
      have h12 := H.1
      replace H := H.2
      have h15 := H.1
      replace H := H.2
      have n11 := H.1
      replace H := H.2
      have n12 := H.1
      replace H := H.2
      have d7_6 := H.1
      replace H := H.2
      have d8_6 := H.1
      replace H := H.2
      have d9_6 := H.1
      replace H := H.2
      have d13_6 := H.1
      replace H := H.2
      have d14_6 := H.1
      replace H := H.2
      have m2_6 := H.1
      replace H := H.2
      have m2_11 := H.1
      replace H := H.2
      have m2_12 := H.1
      replace H := H.2
      have m6_11 := H.1
      replace H := H.2
      have m6_12 := H.1
      replace H := H.2
      have m11_12 := H.1
      replace H := H.2
      have hB := H
      clear H
      have e7 := h7 (dep_of hd (e := ⟨7, .data⟩) (by simp) rfl)
      subst e7
      go_simp
      refine hK _ _ ?_
      exact ⟨x29, x30, x31, x32, x33, x34, x35, _, _, x37, x38, x10, x11, x12, r11, r12, rG2, ra6, rC6, ro6, rb6, rD6, ru6, rfl, fun h => h0 (upd_ne (by decide) h), fun h => h1 (upd_ne (by decide) h), fun h => h2 (upd_ne (by decide) h), fun h => h3 (upd_ne (by decide) h), fun h => h4 (upd_ne (by decide) h), fun h => h5 (upd_ne (by decide) h), fun h => h6 (upd_ne (by decide) h), fun _ => rfl, fun _ => rfl, fun h => h9 (upd_ne (by decide) h), fun h => h10 (upd_ne (by decide) h), fun h => (by obtain ⟨p1, p2, p3, p4, p5⟩ := h11 (upd_ne (by decide) h); exact ⟨p1, p2, p3, fun h' => p4 (by rw [upd_same (by decide)] at h'; exact h'), fun h' => p5 (upd_ne (by decide) h')⟩), fun h => (by obtain ⟨p1, p2, p3, p4, p5⟩ := h12 (upd_ne (by decide) h); exact ⟨p1, p2, p3, fun h' => p4 (by rw [upd_same (by decide)] at h'; exact h'), fun h' => p5 (upd_ne (by decide) h')⟩), fun h => h15 (upd_ne (by decide) h), fun h => upd_of (n11 (upd_ne (by decide) h)), fun h => upd_of (n12 (upd_ne (by decide) h)), fun h => upd_of (d7_6 (upd_ne (by decide) h)), fun _ => upd_of (d7_6 (dep_of hd (e := ⟨7, .data⟩) (by simp) rfl)), fun h => upd_of (d9_6 (upd_ne (by decide) h)), fun h => upd_of (d13_6 (upd_ne (by decide) h)), fun h => upd_of (d14_6 (upd_ne (by decide) h)), fun h h' => m2_6 (upd_ne (by decide) h) (upd_ne (by decide) h'), fun h h' => m2_11 (upd_ne (by decide) h) (upd_ne (by decide) h'), fun h h' => m2_12 (upd_ne (by decide) h) (upd_ne (by decide) h'), fun h h' => m6_11 (upd_ne (by decide) h) (upd_ne (by decide) h'), fun h h' => m6_12 (upd_ne (by decide) h) (upd_ne (by decide) h'), fun h h' => m11_12 (upd_ne (by decide) h) (upd_ne (by decide) h'), hB⟩
    · rintro f a W ⟨x29, x30, x31, x32, x33, x34, x35, x28, x36, x37, x38, x10, x11, x12, r11, r12, rG2, ra6, rC6, ro6, rb6, rD6, ru6, rfl, H⟩ hf hd K hK
      have h0 := H.1
      replace H := H.2
      have h1 := H.1
      replace H := H.2
      have h2 := H.1
      replace H := H.2
      have h3 := H.1
      replace H := H.2
      have h4 := H.1
      replace H := H.2
      have h5 := H.1
      replace H := H.2
      have h6 := H.1
      replace H := H.2
      have h7 := H.1
      replace H := H.2
      have h8 := H.1
      replace H := H.2
      have h9 := H.1
      replace H := H.2
      have h10 := H.1
      replace H := H.2
      have h11 := H.1
      replace H := H.2
      have h12 := H.1
      replace H := H.2
      have h15 := H.1
      replace H := H.2
      have n11 := H.1
      replace H := H.2
      have n12 := H.1
      replace H := H.2
      have d7_6 := H.1
      replace H := H.2
      have d8_6 := H.1
      replace H := H.2
      have d9_6 := H.1
      replace H := H.2
      have d13_6 := H.1
      replace H := H.2
      have d14_6 := H.1
      replace H := H.2
      have m2_6 := H.1
      replace H := H.2
      have m2_11 := H.1
      replace H := H.2
      have m2_12 := H.1
      replace H := H.2
      have m6_11 := H.1
      replace H := H.2
      have m6_12 := H.1
      replace H := H.2
      have m11_12 := H.1
      replace H := H.2
      have hB := H
      clear H
      have e7 := h7 (dep_of hd (e := ⟨7, .data⟩) (by simp) rfl)
      subst e7
      go_simp
      refine hK _ _ ?_
      exact ⟨x29, x30, x31, x32, x33, x34, x35, _, x36, _, x38, x10, x11, x12, r11, r12, rG2, ra6, rC6, ro6, rb6, rD6, ru6, rfl, fun h => h0 (upd_ne (by decide) h), fun h => h1 (upd_ne (by decide) h), fun h => h2 (upd_ne (by decide) h), fun h => h3 (upd_ne (by decide) h), fun h => h4 (upd_ne (by decide) h), fun h => h5 (upd_ne (by decide) h), fun h => h6 (upd_ne (by decide) h), fun _ => rfl, fun h => h8 (upd_ne (by decide) h), fun _ => rfl, fun h => h10 (upd_ne (by decide) h), fun h => (by obtain ⟨p1, p2, p3, p4, p5⟩ := h11 (upd_ne (by decide) h); exact ⟨p1, p2, p3, fun h' => p4 (by rw [upd_same (by decide)] at h'; exact h'), fun h' => p5 (upd_ne (by decide) h')⟩), fun h => (by obtain ⟨p1, p2, p3, p4, p5⟩ := h12 (upd_ne (by decide) h); exact ⟨p1, p2, p3, fun h' => p4 (by rw [upd_same (by decide)] at h'; exact h'), fun h' => p5 (upd_ne (by decide) h')⟩), fun h => h15 (upd_ne (by decide) h), fun h => upd_of (n11 (upd_ne (by decide) h)), fun h => upd_of (n12 (upd_ne (by decide) h)), fun h => upd_of (d7_6 (upd_ne (by decide) h)), fun h => upd_of (d8_6 (upd_ne (by decide) h)), fun _ => upd_of (d7_6 (dep_of hd (e := ⟨7, .data⟩) (by simp) rfl)), fun h => upd_of (d13_6 (upd_ne (by decide) h)), fun h => upd_of (d14_6 (upd_ne (by decide) h)), fun h h' => m2_6 (upd_ne (by decide) h) (upd_ne (by decide) h'), fun h h' => m2_11 (upd_ne (by decide) h) (upd_ne (by decide) h'), fun h h' => m2_12 (upd_ne (by decide) h) (upd_ne (by decide) h'), fun h h' => m6_11 (upd_ne (by decide) h) (upd_ne (by decide) h'), fun h h' => m6_12 (upd_ne (by decide) h) (upd_ne (by decide) h'), fun h h' => m11_12 (upd_ne (by decide) h) (upd_ne (by decide) h'), hB⟩
    · rintro f a W ⟨x29, x30, x31, x32, x33, x34, x35, x28, x36, x37, x38, x10, x11, x12, r11, r12, rG2, ra6, rC6, ro6, rb6, rD6, ru6, rfl, H⟩ hf hd K hK
      have h0 := H.1
      replace H := H.2
      have h1 := H.1
      replace H := H.2
      have h2 := H.1
      replace H := H.2
      have h3 := H.1
      replace H := H.2
      have h4 := H.1
      replace H := H.2
      have h5 := H.1
      replace H := H.2
      have h6 := H.1
      replace H := H.2
      have h7 := H.1
      replace H := H.2
      have h8 := H.1
      replace H := H.2
      have h9 := H.1
      replace H := H.2
      have h10 := H.1
      replace H := H.2
      have h11 := H.1
      replace H := H.2
      have h12 := H.1
      replace H := H.2
      have h15 := H.1
      replace H := H.2
      have n11 := H.1
      replace H := H.2
      have n12 := H.1
      replace H := H.2
      have d7_6 := H.1
      replace H := H.2
      have d8_6 := H.1
      replace H := H.2
      have d9_6 := H.1
      replace H := H.2
      have d13_6 := H.1
      replace H := H.2
      have d14_6 := H.1
      replace H := H.2
      have m2_6 := H.1
      replace H := H.2
      have m2_11 := H.1
      replace H := H.2
      have m2_12 := H.1
      replace H := H.2
      have m6_11 := H.1
      replace H := H.2
      have m6_12 := H.1
      replace H := H.2
      have m11_12 := H.1
      replace H := H.2
      have hB := H
      clear H
      have e7 := h7 (dep_of hd (e := ⟨7, .data⟩) (by simp) rfl)
      subst e7
      go_simp
      refine hK _ _ ?_
      exact ⟨x29, x30, x31, x32, x33, x34, x35, _, x36, x37, _, x10, x11, x12, r11, r12, rG2, ra6, rC6, ro6, rb6, rD6, ru6, rfl, fun h => h0 (upd_ne (by decide) h), fun h => h1 (upd_ne (by decide) h), fun h => h2 (upd_ne (by decide) h), fun h => h3 (upd_ne (by decide) h), fun h => h4 (upd_ne (by decide) h), fun h => h5 (upd_ne (by decide) h), fun h => h6 (upd_ne (by decide) h), fun _ => rfl, fun h => h8 (upd_ne (by decide) h), fun h => h9 (upd_ne (by decide) h), fun _ => rfl, fun h => (by obtain ⟨p1, p2, p3, p4, p5⟩ := h11 (upd_ne (by decide) h); exact ⟨p1, p2, p3, fun h' => p4 (by rw [upd_same (by decide)] at h'; exact h'), fun h' => p5 (upd_ne (by decide) h')⟩), fun h => (by obtain ⟨p1, p2, p3, p4, p5⟩ := h12 (upd_ne (by decide) h); exact ⟨p1, p2, p3, fun h' => p4 (by rw [upd_same (by decide)] at h'; exact h'), fun h' => p5 (upd_ne (by decide) h')⟩), fun h => h15 (upd_ne (by decide) h), fun h => upd_of (n11 (upd_ne (by decide) h)), fun h => upd_of (n12 (upd_ne (by decide) h)), fun h => upd_of (d7_6 (upd_ne (by decide) h)), fun h => upd_of (d8_6 (upd_ne (by decide) h)), fun h => upd_of (d9_6 (upd_ne (by decide) h)), fun h => upd_of (d13_6 (upd_ne (by decide) h)), fun h => upd_of (d14_6 (upd_ne (by decide) h)), fun h h' => m2_6 (upd_ne (by decide) h) (upd_ne (by decide) h'), fun h h' => m2_11 (upd_ne (by decide) h) (upd_ne (by decide) h'), fun h h' => m2_12 (upd_ne (by decide) h) (upd_ne (by decide) h'), fun h h' => m6_11 (upd_ne (by decide) h) (upd_ne (by decide) h'), fun h h' => m6_12 (upd_ne (by decide) h) (upd_ne (by decide) h'), fun h h' => m11_12 (upd_ne (by decide) h) (upd_ne (by decide) h'), hB⟩
    · rintro f a W ⟨x29, x30, x31, x32, x33, x34, x35, x28, x36, x37, x38, x10, x11, x12, r11, r12, rG2, ra6, rC6, ro6, rb6, rD6, ru6, rfl, H⟩ hf hd K hK
      have h0 := H.1
      replace H := H.2
      have h1 := H.1
      replace H := H.2
      have h2 := H.1
      replace H := H.2
      have h3 := H.1
      replace H := H.2
      have h4 := H.1
      replace H := H.2
      have h5 := H.1
      replace H := H.2
      have h6 := H.1
      replace H := H.2
      have h7 := H.1
      replace H := H.2
      have h8 := H.1
      replace H := H.2
      have h9 := H.1
      replace H := H.2
      have h10 := H.1
      replace H := H.2
      have h11 := H.1
      replace H := H.2
      have h12 := H.1
      replace H := H.2
      have h15 := H.1
      replace H := H.2
      have n11 := H.1
      replace H := H.2
      have n12 := H.1
      replace H := H.2
      have d7_6 := H.1
      replace H := H.2
      have d8_6 := H.1
      replace H := H.2
      have d9_6 := H.1
      replace H := H.2
      have d13_6 := H.1
      replace H := H.2
      have d14_6 := H.1
      replace H := H.2
      have m2_6 := H.1
      replace H := H.2
      have m2_11 := H.1
      replace H := H.2
      have m2_12 := H.1
      replace H := H.2
      have m6_11 := H.1
      replace H := H.2
      have m6_12 := H.1
      replace H := H.2
      have m11_12 := H.1
      replace H := H.2
      have hB := H
      clear H
      go_simp
      refine hK _ _ ?_
      exact ⟨x29, x30, x31, x32, x33, x34, x35, x28, x36, x37, x38, _, x11, x12, W.heap.size, r12, rG2, ra6, rC6, ro6, rb6, rD6, ru6, rfl, fun h => h0 (upd_ne (by decide) h), fun h => h1 (upd_ne (by decide) h), fun h => (by obtain ⟨p1, p2, p3, p4⟩ := h2 (upd_ne (by decide) h); exact ⟨p1, p2, p3.below ((Below.refl _ _).alloc (Nat.le_refl _) _), p4⟩), fun h => h3 (upd_ne (by decide) h), fun h => h4 (upd_ne (by decide) h), fun h => h5 (upd_ne (by decide) h), fun h => (by obtain ⟨p1, p2, p3, p4⟩ := h6 (upd_ne (by decide) h); exact ⟨p1, p2, p3.below ((Below.refl _ _).alloc (Nat.le_refl _) _), p4⟩), fun h => h7 (upd_ne (by decide) h), fun h => h8 (upd_ne (by decide) h), fun h => h9 (upd_ne (by decide) h), fun h => h10 (upd_ne (by decide) h), fun _ => ⟨rfl, hB.size, (by simp), fun _ => Own.new W _ _, fun h' => absurd (n11 (upd_ne (by decide) h')) (by rw [hf]; decide)⟩, fun h => (by obtain ⟨p1, p2, p3, p4, p5⟩ := h12 (upd_ne (by decide) h); exact ⟨p1, p2, (by have := p3; simp; omega), fun h' => (p4 (by rw [upd_same (by decide)] at h'; exact h')).alloc _, fun h' => (p5 (upd_ne (by decide) h')).alloc _⟩), fun h => h15 (upd_ne (by decide) h), fun _ => upd_self, fun h => upd_of (n12 (upd_ne (by decide) h)), fun h => upd_of (d7_6 (upd_ne (by decide) h)), fun h => upd_of (d8_6 (upd_ne (by decide) h)), fun h => upd_of (d9_6 (upd_ne (by decide) h)), fun h => upd_of (d13_6 (upd_ne (by decide) h)), fun h => upd_of (d14_6 (upd_ne (by decide) h)), fun h h' => m2_6 (upd_ne (by decide) h) (upd_ne (by decide) h'), fun h _ => (by obtain ⟨-, -, p3, -⟩ := h2 (upd_ne (by decide) h); have p4 := p3.lt; omega), fun h h' => m2_12 (upd_ne (by decide) h) (upd_ne (by decide) h'), fun h _ => (by obtain ⟨-, -, p3, -⟩ := h6 (upd_ne (by decide) h); intro c hc G h1; have p4 := p3.lt c hc G h1; omega), fun h h' => m6_12 (upd_ne (by decide) h) (upd_ne (by decide) h'), fun _ h => (by obtain ⟨-, -, p3, -, -⟩ := h12 (upd_ne (by decide) h); omega), hB.alloc hB.size _⟩
    · rintro f a W ⟨x29, x30, x31, x32, x33, x34, x35, x28, x36, x37, x38, x10, x11, x12, r11, r12, rG2, ra6, rC6, ro6, rb6, rD6, ru6, rfl, H⟩ hf hd K hK
      have h0 := H.1
      replace H := H.2
      have h1 := H.1
      replace H := H.2
      have h2 := H.1
      replace H := H.2
      have h3 := H.1
      replace H := H.2
      have h4 := H.1
      replace H := H.2
      have h5 := H.1
      replace H := H.2
      have h6 := H.1
      replace H := H.2
      have h7 := H.1
      replace H := H.2
      have h8 := H.1
      replace H := H.2
      have h9 := H.1
      replace H := H.2
      have h10 := H.1
      replace H := H.2
      have h11 := H.1
      replace H := H.2
      have h12 := H.1
      replace H := H.2
      have h15 := H.1
      replace H := H.2
      have n11 := H.1
      replace H := H.2
      have n12 := H.1
      replace H := H.2
      have d7_6 := H.1
      replace H := H.2
      have d8_6 := H.1
      replace H := H.2
      have d9_6 := H.1
      replace H := H.2
      have d13_6 := H.1
      replace H := H.2
      have d14_6 := H.1
      replace H := H.2
      have m2_6 := H.1
      replace H := H.2
      have m2_11 := H.1
      replace H := H.2
      have m2_12 := H.1
      replace H := H.2
      have m6_11 := H.1
      replace H := H.2
      have m6_12 := H.1
      replace H := H.2
      have m11_12 := H.1
      replace H := H.2
      have hB := H
      clear H
      go_simp
      refine hK _ _ ?_
      exact ⟨x29, x30, x31, x32, x33, x34, x35, x28, x36, x37, x38, x10, _, x12, r11, W.heap.size, rG2, ra6, rC6, ro6, rb6, rD6, ru6, rfl, fun h => h0 (upd_ne (by decide) h), fun h => h1 (upd_ne (by decide) h), fun h => (by obtain ⟨p1, p2, p3, p4⟩ := h2 (upd_ne (by decide) h); exact ⟨p1, p2, p3.below ((Below.refl _ _).alloc (Nat.le_refl _) _), p4⟩), fun h => h3 (upd_ne (by decide) h), fun h => h4 (upd_ne (by decide) h), fun h => h5 (upd_ne (by decide) h), fun h => (by obtain ⟨p1, p2, p3, p4⟩ := h6 (upd_ne (by decide) h); exact ⟨p1, p2, p3.below ((Below.refl _ _).alloc (Nat.le_refl _) _), p4⟩), fun h => h7 (upd_ne (by decide) h), fun h => h8 (upd_ne (by decide) h), fun h => h9 (upd_ne (by decide) h), fun h => h10 (upd_ne (by decide) h), fun h => (by obtain ⟨p1, p2, p3, p4, p5⟩ := h11 (upd_ne (by decide) h); exact ⟨p1, p2, (by have := p3; simp; omega), fun h' => (p4 (by rw [upd_same (by decide)] at h'; exact h')).alloc _, fun h' => (p5 (upd_ne (by decide) h')).alloc _⟩), fun _ => ⟨rfl, hB.size, (by simp), fun _ => Own.new W _ _, fun h' => absurd (n12 (upd_ne (by decide) h')) (by rw [hf]; decide)⟩, fun h => h15 (upd_ne (by decide) h), fun h => upd_of (n11 (upd_ne (by decide) h)), fun _ => upd_self, fun h => upd_of (d7_6 (upd_ne (by decide) h)), fun h => upd_of (d8_6 (upd_ne (by decide) h)), fun h => upd_of (d9_6 (upd_ne (by decide) h)), fun h => upd_of (d13_6 (upd_ne (by decide) h)), fun h => upd_of (d14_6 (upd_ne (by decide) h)), fun h h' => m2_6 (upd_ne (by decide) h) (upd_ne (by decide) h'), fun h h' => m2_11 (upd_ne (by decide) h) (upd_ne (by decide) h'), fun h _ => (by obtain ⟨-, -, p3, -⟩ := h2 (upd_ne (by decide) h); have p4 := p3.lt; omega), fun h h' => m6_11 (upd_ne (by decide) h) (upd_ne (by decide) h'), fun h _ => (by obtain ⟨-, -, p3, -⟩ := h6 (upd_ne (by decide) h); intro c hc G h1; have p4 := p3.lt c hc G h1; omega), fun h _ => (by obtain ⟨-, -, p3, -, -⟩ := h11 (upd_ne (by decide) h); omega), hB.alloc hB.size _⟩
    · rintro f a W ⟨x29, x30, x31, x32, x33, x34, x35, x28, x36, x37, x38, x10, x11, x12, r11, r12, rG2, ra6, rC6, ro6, rb6, rD6, ru6, rfl, H⟩ hf hd K hK
      have h0 := H.1
      replace H := H.2
      have h1 := H.1
      replace H := H.2
      have h2 := H.1
      replace H := H.2
      have h3 := H.1
      replace H := H.2
      have h4 := H.1
      replace H := H.2
      have h5 := H.1
      replace H := H.2
      have h6 := H.1
      replace H := H.2
      have h7 := H.1
      replace H := H.2
      have h8 := H.1
      replace H := H.2
      have h9 := H.1
      replace H := H.2
      have h10 := H.1
      replace H := H.2
      have h11 := H.1
      replace H := H.2
      have h12 := H.1
      replace H := H.2
      have h15 := H.1
      replace H := H.2
      have n11 := H.1
      replace H := H.2
      have n12 := H.1
      replace H := H.2
      have d7_6 := H.1
      replace H := H.2
      have d8_6 := H.1
      replace H := H.2
      have d9_6 := H.1
      replace H := H.2
      have d13_6 := H.1
      replace H := H.2
      have d14_6 := H.1
      replace H := H.2
      have m2_6 := H.1
      replace H := H.2
      have m2_11 := H.1
      replace H := H.2
      have m2_12 := H.1
      replace H := H.2
      have m6_11 := H.1
      replace H := H.2
      have m6_12 := H.1
      replace H := H.2
      have m11_12 := H.1
      replace H := H.2
      have hB := H
      clear H
      obtain ⟨e11, u11, t11, z11, s11⟩ := h11 (dep_of hd (e := ⟨11, .data⟩) (by simp) rfl)
      subst e11
      have e8 := h8 (dep_of hd (e := ⟨8, .data⟩) (by simp) rfl)
      subst e8
      have oz := z11 hf
      have r0 := oz.cell 0 _ rfl
      have o0_ := oz.frz 0 _ rfl
      go_simp
      refine hK _ _ ?_
      exact ⟨x29, x30, x31, x32, x33, x34, x35, x28, _, x37, x38, _, x11, x12, r11, r12, rG2, ra6, rC6, ro6, rb6, rD6, ru6, rfl, fun h => h0 (upd_ne (by decide) h), fun h => h1 (upd_ne (by decide) h), fun h => (by obtain ⟨p1, p2, p3, p4⟩ := h2 (upd_ne (by decide) h); have hne := m2_11 (upd_ne (by decide) h) (dep_of hd (e := ⟨11, .data⟩) (by simp) rfl); exact ⟨p1, p2, p3.keepO ((KeepO.of_below (some r11) (Below.refl _ _)).setCell (i := 0) _) (fun e => by have := Option.some.inj e; omega), p4⟩), fun h => h3 (upd_ne (by decide) h), fun h => h4 (upd_ne (by decide) h), fun h => h5 (upd_ne (by decide) h), fun h => (by obtain ⟨p1, p2, p3, p4⟩ := h6 (upd_ne (by decide) h); have hne := m6_11 (upd_ne (by decide) h) (dep_of hd (e := ⟨11, .data⟩) (by simp) rfl); exact ⟨p1, p2, p3.keepO ((KeepO.of_below (some r11) (Below.refl _ _)).setCell (i := 0) _) (fun c hc G hG e => by have := hne c hc G hG; omega), p4⟩), fun h => h7 (upd_ne (by decide) h), fun _ => rfl, fun h => h9 (upd_ne (by decide) h), fun h => h10 (upd_ne (by decide) h), fun _ => ⟨rfl, u11, (by simpa [World.setCell] using t11), fun h' => (by rw [upd_self] at h'; cases h'), fun _ => Own.set (i := 0) (oz) _ (by simp)⟩, fun h => (by obtain ⟨p1, p2, p3, p4, p5⟩ := h12 (upd_ne (by decide) h); have hne : r11 ≠ r12 := (by have := m11_12 (dep_of hd (e := ⟨11, .data⟩) (by simp) rfl) (upd_ne (by decide) h); omega); exact ⟨p1, p2, (by simpa [World.setCell] using p3), fun h' => Own.other (i := 0) (p4 (by rw [upd_same (by decide)] at h'; exact h')) _ hne, fun h' => Own.other (i := 0) (p5 (upd_ne (by decide) h')) _ hne⟩), fun h => h15 (upd_ne (by decide) h), fun _ => upd_of (dep_of hd (e := ⟨11, .data⟩) (by simp) rfl), fun h => upd_of (n12 (upd_ne (by decide) h)), fun h => upd_of (d7_6 (upd_ne (by decide) h)), fun h => upd_of (d8_6 (upd_ne (by decide) h)), fun h => upd_of (d9_6 (upd_ne (by decide) h)), fun _ => upd_of (dep_of hd (e := ⟨6, .chain⟩) (by simp) rfl), fun h => upd_of (d14_6 (upd_ne (by decide) h)), fun h h' => m2_6 (upd_ne (by decide) h) (upd_ne (by decide) h'), fun h h' => m2_11 (upd_ne (by decide) h) (upd_ne (by decide) h'), fun h h' => m2_12 (upd_ne (by decide) h) (upd_ne (by decide) h'), fun h h' => m6_11 (upd_ne (by decide) h) (upd_ne (by decide) h'), fun h h' => m6_12 (upd_ne (by decide) h) (upd_ne (by decide) h'), fun h h' => m11_12 (upd_ne (by decide) h) (upd_ne (by decide) h'), (hB.setCell (p := ⟨r11, 0, none⟩) u11 _)⟩
    · rintro f a W ⟨x29, x30, x31, x32, x33, x34, x35, x28, x36, x37, x38, x10, x11, x12, r11, r12, rG2, ra6, rC6, ro6, rb6, rD6, ru6, rfl, H⟩ hf hd K hK
      have h0 := H.1
      replace H := H.2
      have h1 := H.1
      replace H := H.2
      have h2 := H.1
      replace H := H.2
      have h3 := H.1
      replace H := H.2
      have h4 := H.1
      replace H := H.2
      have h5 := H.1
      replace H := H.2
      have h6 := H.1
      replace H := H.2
      have h7 := H.1
      replace H := H.2
      have h8 := H.1
      replace H := H.2
      have h9 := H.1
      replace H := H.2
      have h10 := H.1
      replace H := H.2
      have h11 := H.1
      replace H := H.2
      have h12 := H.1
      replace H := H.2
      have h15 := H.1
      replace H := H.2
      have n11 := H.1
      replace H := H.2
      have n12 := H.1
      replace H := H.2
      have d7_6 := H.1
      replace H := H.2
      have d8_6 := H.1
      replace H := H.2
      have d9_6 := H.1
      replace H := H.2
      have d13_6 := H.1
      replace H := H.2
      have d14_6 := H.1
      replace H := H.2
      have m2_6 := H.1
      replace H := H.2
      have m2_11 := H.1
      replace H := H.2
      have m2_12 := H.1
      replace H := H.2
      have m6_11 := H.1
      replace H := H.2
      have m6_12 := H.1
      replace H := H.2
      have m11_12 := H.1
      replace H := H.2
      have hB := H
      clear H
      obtain ⟨e12, u12, t12, z12, s12⟩ := h12 (dep_of hd (e := ⟨12, .data⟩) (by simp) rfl)
      subst e12
      have e9 := h9 (dep_of hd (e := ⟨9, .data⟩) (by simp) rfl)
      subst e9
      have oz := z12 hf
      have r0 := oz.cell 0 _ rfl
      have o0_ := oz.frz 0 _ rfl
      go_simp
      refine hK _ _ ?_
      exact ⟨x29, x30, x31, x32, x33, x34, x35, x28, x36, _, x38, x10, _, x12, r11, r12, rG2, ra6, rC6, ro6, rb6, rD6, ru6, rfl, fun h => h0 (upd_ne (by decide) h), fun h => h1 (upd_ne (by decide) h), fun h => (by obtain ⟨p1, p2, p3, p4⟩ := h2 (upd_ne (by decide) h); have hne := m2_12 (upd_ne (by decide) h) (dep_of hd (e := ⟨12, .data⟩) (by simp) rfl); exact ⟨p1, p2, p3.keepO ((KeepO.of_below (some r12) (Below.refl _ _)).setCell (i := 0) _) (fun e => by have := Option.some.inj e; omega), p4⟩), fun h => h3 (upd_ne (by decide) h), fun h => h4 (upd_ne (by decide) h), fun h => h5 (upd_ne (by decide) h), fun h => (by obtain ⟨p1, p2, p3, p4⟩ := h6 (upd_ne (by decide) h); have hne := m6_12 (upd_ne (by decide) h) (dep_of hd (e := ⟨12, .data⟩) (by simp) rfl); exact ⟨p1, p2, p3.keepO ((KeepO.of_below (some r12) (Below.refl _ _)).setCell (i := 0) _) (fun c hc G hG e => by have := hne c hc G hG; omega), p4⟩), fun h => h7 (upd_ne (by decide) h), fun h => h8 (upd_ne (by decide) h), fun _ => rfl, fun h => h10 (upd_ne (by decide) h), fun h => (by obtain ⟨p1, p2, p3, p4, p5⟩ := h11 (upd_ne (by decide) h); have hne : r12 ≠ r11 := (by have := m11_12 (upd_ne (by decide) h) (dep_of hd (e := ⟨12, .data⟩) (by simp) rfl); omega); exact ⟨p1, p2, (by simpa [World.setCell] using p3), fun h' => Own.other (i := 0) (p4 (by rw [upd_same (by decide)] at h'; exact h')) _ hne, fun h' => Own.other (i := 0) (p5 (upd_ne (by decide) h')) _ hne⟩), fun _ => ⟨rfl, u12, (by simpa [World.setCell] using t12), fun h' => (by rw [upd_self] at h'; cases h'), fun _ => Own.set (i := 0) (oz) _ (by simp)⟩, fun h => h15 (upd_ne (by decide) h), fun h => upd_of (n11 (upd_ne (by decide) h)), fun _ => upd_of (dep_of hd (e := ⟨12, .data⟩) (by simp) rfl), fun h => upd_of (d7_6 (upd_ne (by decide) h)), fun h => upd_of (d8_6 (upd_ne (by decide) h)), fun h => upd_of (d9_6 (upd_ne (by decide) h)), fun h => upd_of (d13_6 (upd_ne (by decide) h)), fun _ => upd_of (dep_of hd (e := ⟨6, .phase⟩) (by simp) rfl), fun h h' => m2_6 (upd_ne (by decide) h) (upd_ne (by decide) h'), fun h h' => m2_11 (upd_ne (by decide) h) (upd_ne (by decide) h'), fun h h' => m2_12 (upd_ne (by decide) h) (upd_ne (by decide) h'), fun h h' => m6_11 (upd_ne (by decide) h) (upd_ne (by decide) h'), fun h h' => m6_12 (upd_ne (by decide) h) (upd_ne (by decide) h'), fun h h' => m11_12 (upd_ne (by decide) h) (upd_ne (by decide) h'), (hB.setCell (p := ⟨r12, 0, none⟩) u12 _)⟩
    · rintro f a W ⟨x29, x30, x31, x32, x33, x34, x35, x28, x36, x37, x38, x10, x11, x12, r11, r12, rG2, ra6, rC6, ro6, rb6, rD6, ru6, rfl, H⟩ hf hd K hK
      have h0 := H.1
      replace H := H.2
      have h1 := H.1
      replace H := H.2
      have h2 := H.1
      replace H := H.2
      have h3 := H.1
      replace H := H.2
      have h4 := H.1
      replace H := H.2
      have h5 := H.1
      replace H := H.2
      have h6 := H.1
      replace H := H.2
      have h7 := H.1
      replace H := H.2
      have h8 := H.1
      replace H := H.2
      have h9 := H.1
      replace H := H.2
      have h10 := H.1
      replace H := H.2
      have h11 := H.1
      replace H := H.2
      have h12 := H.1
      replace H := H.2
      have h15 := H.1
      replace H := H.2
      have n11 := H.1
      replace H := H.2
      have n12 := H.1
      replace H := H.2
      have d7_6 := H.1
      replace H := H.2
      have d8_6 := H.1
      replace H := H.2
      have d9_6 := H.1
      replace H := H.2
      have d13_6 := H.1
      replace H := H.2
      have d14_6 := H.1
      replace H := H.2
      have m2_6 := H.1
      replace H := H.2
      have m2_11 := H.1
      replace H := H.2
      have m2_12 := H.1
      replace H := H.2
      have m6_11 := H.1
      replace H := H.2
      have m6_12 := H.1
      replace H := H.2
      have m11_12 := H.1
      replace H := H.2
      have hB := H
      clear H
      have e10 := h10 (dep_of hd (e := ⟨10, .data⟩) (by simp) rfl)
      subst e10
      go_simp
      refine hK _ _ ?_
      exact ⟨x29, x30, x31, x32, x33, x34, x35, x28, x36, x37, _, x10, x11, _, r11, r12, rG2, ra6, rC6, ro6, rb6, rD6, ru6, rfl, fun h => h0 (upd_ne (by decide) h), fun h => h1 (upd_ne (by decide) h), fun h => h2 (upd_ne (by decide) h), fun h => h3 (upd_ne (by decide) h), fun h => h4 (upd_ne (by decide) h), fun h => h5 (upd_ne (by decide) h), fun h => h6 (upd_ne (by decide) h), fun h => h7 (upd_ne (by decide) h), fun h => h8 (upd_ne (by decide) h), fun h => h9 (upd_ne (by decide) h), fun _ => rfl, fun h => (by obtain ⟨p1, p2, p3, p4, p5⟩ := h11 (upd_ne (by decide) h); exact ⟨p1, p2, p3, fun h' => p4 (by rw [upd_same (by decide)] at h'; exact h'), fun h' => p5 (upd_ne (by decide) h')⟩), fun h => (by obtain ⟨p1, p2, p3, p4, p5⟩ := h12 (upd_ne (by decide) h); exact ⟨p1, p2, p3, fun h' => p4 (by rw [upd_same (by decide)] at h'; exact h'), fun h' => p5 (upd_ne (by decide) h')⟩), fun _ => rfl, fun h => upd_of (n11 (upd_ne (by decide) h)), fun h => upd_of (n12 (upd_ne (by decide) h)), fun h => upd_of (d7_6 (upd_ne (by decide) h)), fun h => upd_of (d8_6 (upd_ne (by decide) h)), fun h => upd_of (d9_6 (upd_ne (by decide) h)), fun h => upd_of (d13_6 (upd_ne (by decide) h)), fun h => upd_of (d14_6 (upd_ne (by decide) h)), fun h h' => m2_6 (upd_ne (by decide) h) (upd_ne (by decide) h'), fun h h' => m2_11 (upd_ne (by decide) h) (upd_ne (by decide) h'), fun h h' => m2_12 (upd_ne (by decide) h) (upd_ne (by decide) h'), fun h h' => m6_11 (upd_ne (by decide) h) (upd_ne (by decide) h'), fun h h' => m6_12 (upd_ne (by decide) h) (upd_ne (by decide) h'), fun h h' => m11_12 (upd_ne (by decide) h) (upd_ne (by decide) h'), hB⟩
    rintro f a w3 ⟨x29, x30, x31, x32, x33, x34, x35, x28, x36, x37, x38, x10, x11, x12, r11, r12, rG2, ra6, rC6, ro6, rb6, rD6, ru6, rfl, H⟩ hall
    have h0 := H.1
    replace H := H.2
    have h1 := H.1
    replace H := H.2
    have h2 := H.1
    replace H := H.2
    have h3 := H.1
    replace H := H.2
    have h4 := H.1
    replace H := H.2
    have h5 := H.1
    replace H := H.2
    have h6 := H.1
    replace H := H.2
    have h7 := H.1
    replace H := H.2
    have h8 := H.1
    replace H := H.2
    have h9 := H.1
    replace H := H.2
    have h10 := H.1
    replace H := H.2
    have h11 := H.1
    replace H := H.2
    have h12 := H.1
    replace H := H.2
    have h15 := H.1
    replace H := H.2
    have n11 := H.1
    replace H := H.2
    have n12 := H.1
    replace H := H.2
    have d7_6 := H.1
    replace H := H.2
    have d8_6 := H.1
    replace H := H.2
    have d9_6 := H.1
    replace H := H.2
    have d13_6 := H.1
    replace H := H.2
    have d14_6 := H.1
    replace H := H.2
    have m2_6 := H.1
    replace H := H.2
    have m2_11 := H.1
    replace H := H.2
    have m2_12 := H.1
    replace H := H.2
    have m6_11 := H.1
    replace H := H.2
    have m6_12 := H.1
    replace H := H.2
    have m11_12 := H.1
    replace H := H.2
    have qB := H
    clear H
    have e0 := h0 (hall 0 (by decide))
    subst e0
    have e1 := h1 (hall 1 (by decide))
    subst e1
    obtain ⟨e2, u2, s2, c2_⟩ := h2 (hall 2 (by decide))
    subst e2
    have e3 := h3 (hall 3 (by decide))
    subst e3
    have e4 := h4 (hall 4 (by decide))
    subst e4
    have e5 := h5 (hall 5 (by decide))
    subst e5
    obtain ⟨e6, u6, s6, c6_⟩ := h6 (hall 6 (by decide))
    subst e6
    have e7 := h7 (hall 7 (by decide))
    subst e7
    have e8 := h8 (hall 8 (by decide))
    subst e8
    have e9 := h9 (hall 9 (by decide))
    subst e9
    have e10 := h10 (hall 10 (by decide))
    subst e10
    obtain ⟨e11, u11, -, -, s11⟩ := h11 (hall 11 (by decide))
    replace s11 := s11 (hall 13 (by decide))
    subst e11
    obtain ⟨e12, u12, -, -, s12⟩ := h12 (hall 12 (by decide))
    replace s12 := s12 (hall 14 (by decide))
    subst e12
    have e15 := h15 (hall 15 (by decide))
    subst e15
    replace m2_6 := m2_6 (hall 2 (by decide)) (hall 6 (by decide))
    replace m2_11 := m2_11 (hall 2 (by decide)) (hall 11 (by decide))
    replace m2_12 := m2_12 (hall 2 (by decide)) (hall 12 (by decide))
    replace m6_11 := m6_11 (hall 6 (by decide)) (hall 11 (by decide))
    replace m6_12 := m6_12 (hall 6 (by decide)) (hall 12 (by decide))
    replace m11_12 := m11_12 (hall 11 (by decide)) (hall 12 (by decide))
    clear hall h0 h1 h2 h3 h4 h5 h6 h7 h8 h9 h10 h11 h12 h15 n11 n12 d7_6 d8_6 d9_6 d13_6 d14_6
    try dsimp only
    have n3 : Hid ((∀ G, ro6 = some G → w.heap.size + 1 < G ∧ G < w3.heap.size) ∧ (∀ G, ru6 = some G → w.heap.size + 1 < G ∧ G < w3.heap.size) ∧ (w.heap.size + 1 < r11 ∧ r11 < w3.heap.size) ∧ (w.heap.size + 1 < r12 ∧ r12 < w3.heap.size)) :=
      ⟨fun G hG => ⟨by have := u6 _ (List.mem_cons_self ..) G hG; omega, (s6 _ (List.mem_cons_self ..)).lt G hG⟩, fun G hG => ⟨by have := u6 (rb6, B, ru6) (by simp) G hG; omega, (s6 (rb6, B, ru6) (by simp)).lt G hG⟩, ⟨by omega, s11.lt⟩, ⟨by omega, s12.lt⟩⟩
    obtain ⟨hcw, hcv, hwv⟩ := c6_
    replace F : Hid (Facts _ [.bel w, .own w.heap.size [.slice ad len cap], .args w.heap.size ad ps, .own (w.heap.size + 1) [.int .i64 g, .int .i64 gh], .has ra6 A ro6, .has rb6 B ru6, .own r11 [.slice ra6 A.length rC6], .own r12 [.slice rb6 B.length rD6]]) := ((((F.out.below qB).push (f := .has ra6 A ro6) (s6 (ra6, A, ro6) (by simp))).push (f := .has rb6 B ru6) (s6 (rb6, B, ru6) (by simp))).push (f := .own _ _) s11).push (f := .own _ _) s12
    clear l1 c1 l3 g0 g1 qB u2 s2 c2_ u6 s6 s11 s12 u11 u12 m2_6 m2_11 m2_12 m6_11 m6_12 m11_12 hwv
    have c1 := (F.out.own 1 rfl).cell 0 _ rfl
    go_wp2_with first
      | (go_at_call 11; refine (t2 _ (F.out.args 2 rfl)).mono ?_; clear t2 c1; rintro e w4 ⟨Gx, hGx, rfl, ox, q⟩
         have n4 : Hid (w3.heap.size ≤ Gx ∧ Gx < w4.heap.size) := ⟨hGx, ox.lt⟩
         replace F : Hid (Facts _ [.bel w, .own w.heap.size [.slice ad len cap], .args w.heap.size ad ps, .own (w.heap.size + 1) [.int .i64 g, .int .i64 gh], .has ra6 A ro6, .has rb6 B ru6, .own r11 [.slice ra6 A.length rC6], .own r12 [.slice rb6 B.length rD6], .has (some ⟨Gx, 0, none⟩) ps (some Gx), .own w4.heap.size [.slice (some ⟨Gx, 0, none⟩) len len]]) := ((F.out.below q).pushHas (ox.has hw)).cells #[.slice (some ⟨Gx, 0, none⟩) len len] 29
         clear q hGx ox)
    have l9 : w4.heap.size < (w4.alloc (.cells #[.slice (some ⟨Gx, 0, none⟩) len len] 29)).heap.size := by simp
    generalize w4.alloc (.cells #[.slice (some ⟨Gx, 0, none⟩) len len] 29) = w4b at *
    have lx := (F.out.own 9 rfl).lt
    have cx := (F.out.own 9 rfl).cell 0 _ rfl
    have l3 := (F.out.own 3 rfl).lt
    have g0 := (F.out.own 3 rfl).cell 0 _ rfl
    have g1 := (F.out.own 3 rfl).cell 1 _ rfl
    refine region_steps (by kernel_rfl) (by kernel_rfl) (by kernel_rfl) (fun A0 f a W => ∃ (x42 : Value) (x43 : Value) (x44 : Value) (x45 : Value) (x46 : Value) (x47 : Value) (x41 : Value) (x48 : Value) (x49 : Value) (x50 : Value) (x14 : Value) (x15 : Value) (x16 : Value) (j10 : Nat) (j11 : Nat) (ja5 : Option Addr) (jC5 : Nat) (jo5 : Option Nat) (jb5 : Option Addr) (jD5 : Nat) (ju5 : Option Nat), a = { tmps := #[.int .i64 n, .agg #[.slice ad len cap], .int .i64 k, .agg #[.int .i64 g, .int .i64 gh], undef, .pointer (some ⟨w.heap.size, 0, none⟩), undef, .pointer (some ⟨w.heap.size + 1, 0, none⟩), .bool false, .int .i64 L1, .pointer (some ⟨r11, 0, none⟩), .pointer (some ⟨r12, 0, none⟩), .bool K, .pointer (some ⟨w4.heap.size, 0, none⟩), x14, x15, x16, undef, undef, undef, undef, undef, undef, .agg #[.slice ad len cap], .int .i64 1048576, .int .i64 L1, .int .i64 L1, .bool (decide (L1 < 0)), .tuple #[.agg #[.slice ra6 A.length rC6], .agg #[.slice rb6 B.length rD6], .bool K], .int .i64 n, .agg #[.slice ad len cap], .agg #[.slice (some ⟨rG2, 0, none⟩) len len], .int .i64 k, .agg #[.int .i64 g, .int .i64 gh], .agg #[.int .i64 g, .int .i64 gh], .tuple #[.agg #[.slice ra6 A.length rC6], .agg #[.slice rb6 B.length rD6], .bool K], .agg #[.slice ra6 A.length rC6], .agg #[.slice rb6 B.length rD6], .bool K, .agg #[.slice ad len cap], .agg #[.slice (some ⟨Gx, 0, none⟩) len len], x41, x42, x43, x44, x45, x46, x47, x48, x49, x50, undef, undef, undef, undef, undef, undef, undef, undef, undef, undef, undef, undef, undef, undef, undef, undef, undef, undef, undef, undef, undef, undef, undef, undef, undef, undef, undef, undef, undef, undef, undef, undef, undef, undef, undef, undef, undef, undef, undef, undef, undef, undef, undef, undef, undef, undef, undef, undef, undef, undef, undef, undef, undef, undef, undef, undef, undef, undef, undef, undef, undef, undef, undef, undef, undef, undef, undef, undef, undef, undef, undef, undef, undef, undef, undef, undef, undef, undef, undef, undef, undef, undef, undef, undef, undef, undef, undef, undef, undef, undef, undef, undef, undef, undef, undef, undef, undef, undef, undef, undef], defers := [] } ∧ (f 0 = true → x42 = .int .i64 n) ∧ (f 1 = true → x43 = .agg #[.slice (some ⟨Gx, 0, none⟩) len len]) ∧ (f 2 = true → x44 = .int .i64 k) ∧ (f 3 = true → x45 = .agg #[.int .i64 g, .int .i64 gh]) ∧ (f 4 = true → x46 = .agg #[.int .i64 g, .int .i64 gh]) ∧ (f 5 = true → x47 = .tuple #[.agg #[.slice ja5 A.length jC5], .agg #[.slice jb5 B.length jD5], .bool K] ∧ (∀ c ∈ [(ja5, A, jo5), (jb5, B, ju5)], ∀ G, c.2.2 = some G → w4b.heap.size ≤ G) ∧ HasL W [(ja5, A, jo5), (jb5, B, ju5)] ∧ A.length ≤ jC5 ∧ B.length ≤ jD5 ∧ (∀ G, jo5 = some G → ju5 ≠ some G)) ∧ (f 6 = true → x41 = .tuple #[.agg #[.slice ja5 A.length jC5], .agg #[.slice jb5 B.length jD5], .bool K]) ∧ (f 7 = true → x48 = .agg #[.slice ja5 A.length jC5]) ∧ (f 8 = true → x49 = .agg #[.slice jb5 B.length jD5]) ∧ (f 9 = true → x50 = .bool K) ∧ (f 10 = true → x14 = .pointer (some ⟨j10, 0, none⟩) ∧ w4b.heap.size ≤ j10 ∧ j10 < W.heap.size ∧ (f 12 = false → Own W j10 [.slice none 0 0]) ∧ (f 12 = true → Own W j10 [.slice ja5 A.length jC5])) ∧ (f 11 = true → x15 = .pointer (some ⟨j11, 0, none⟩) ∧ w4b.heap.size ≤ j11 ∧ j11 < W.heap.size ∧ (f 13 = false → Own W j11 [.slice none 0 0]) ∧ (f 13 = true → Own W j11 [.slice jb5 B.length jD5])) ∧ (f 14 = true → x16 = .bool K) ∧ (f 12 = true → f 10 = true) ∧ (f 13 = true → f 11 = true) ∧ (f 6 = true → f 5 = true) ∧ (f 7 = true → f 5 = true) ∧ (f 8 = true → f 5 = true) ∧ (f 12 = true → f 5 = true) ∧ (f 13 = true → f 5 = true) ∧ (f 5 = true → f 10 = true → (∀ c ∈ [(ja5, A, jo5), (jb5, B, ju5)], ∀ G, c.2.2 = some G → G ≠ j10)) ∧ (f 5 = true → f 11 = true → (∀ c ∈ [(ja5, A, jo5), (jb5, B, ju5)], ∀ G, c.2.2 = some G → G ≠ j11)) ∧ (f 10 = true → f 11 = true → j10 ≠ j11) ∧ Below w4b.heap.size w4b W) ?_ ⟨?_, ?_, ?_, ?_, ?_, ?_, ?_, ?_, ?_, ?_, ?_, ?_, ?_, ?_, ?_, trivial⟩ ?_
    · exact ⟨undef, undef, undef, undef, undef, undef, undef, undef, undef, undef, undef, undef, undef, 0, 0, none, 0, none, none, 0, none, rfl, (fun h => (by cases h)), (fun h => (by cases h)), (fun h => (by cases h)), (fun h => (by cases h)), (fun h => (by cases h)), (fun h => (by cases h)), (fun h => (by cases h)), (fun h => (by cases h)), (fun h => (by cases h)), (fun h => (by cases h)), (fun h => (by cases h)), (fun h => (by cases h)), (fun h => (by cases h)), (fun h => (by cases h)), (fun h => (by cases h)), (fun h => (by cases h)), (fun h => (by cases h)), (fun h => (by cases h)), (fun h => (by cases h)), (fun h => (by cases h)), (fun h => (by cases h)), (fun h => (by cases h)), (fun h => (by cases h)), (Below.refl _ _).drew⟩
    · rintro f a W ⟨x42, x43, x44, x45, x46, x47, x41, x48, x49, x50, x14, x15, x16, j10, j11, ja5, jC5, jo5, jb5, jD5, ju5, rfl, H⟩ hf hd K hK
      have h0 := H.1
      replace H := H.2
      have h1 := H.1
      replace H := H.2
      have h2 := H.1
      replace H := H.2
      have h3 := H.1
      replace H := H.2
      have h4 := H.1
      replace H := H.2
      have h5 := H.1
      replace H := H.2
      have h6 := H.1
      replace H := H.2
      have h7 := H.1
      replace H := H.2
      have h8 := H.1
      replace H := H.2
      have h9 := H.1
      replace H := H.2
      have h10 := H.1
      replace H := H.2
      have h11 := H.1
      replace H := H.2
      have h14 := H.1
      replace H := H.2
      have n10 := H.1
      replace H := H.2
      have n11 := H.1
      replace H := H.2
      have d6_5 := H.1
      replace H := H.2
      have d7_5 := H.1
      replace H := H.2
      have d8_5 := H.1
      replace H := H.2
      have d12_5 := H.1
      replace H := H.2
      have d13_5 := H.1
      replace H := H.2
      have m5_10 := H.1
      replace H := H.2
      have m5_11 := H.1
      replace H := H.2
      have m10_11 := H.1
      replace H := H.2
      have hB := H
      clear H
      go_simp
      refine hK _ _ ?_
      exact ⟨_, x43, x44, x45, x46, x47, x41, x48, x49, x50, x14, x15, x16, j10, j11, ja5, jC5, jo5, jb5, jD5, ju5, rfl, fun _ => rfl, fun h => h1 (upd_ne (by decide) h), fun h => h2 (upd_ne (by decide) h), fun h => h3 (upd_ne (by decide) h), fun h => h4 (upd_ne (by decide) h), fun h => h5 (upd_ne (by decide) h), fun h => h6 (upd_ne (by decide) h), fun h => h7 (upd_ne (by decide) h), fun h => h8 (upd_ne (by decide) h), fun h => h9 (upd_ne (by decide) h), fun h => (by obtain ⟨p1, p2, p3, p4, p5⟩ := h10 (upd_ne (by decide) h); exact ⟨p1, p2, p3, fun h' => p4 (by rw [upd_same (by decide)] at h'; exact h'), fun h' => p5 (upd_ne (by decide) h')⟩), fun h => (by obtain ⟨p1, p2, p3, p4, p5⟩ := h11 (upd_ne (by decide) h); exact ⟨p1, p2, p3, fun h' => p4 (by rw [upd_same (by decide)] at h'; exact h'), fun h' => p5 (upd_ne (by decide) h')⟩), fun h => h14 (upd_ne (by decide) h), fun h => upd_of (n10 (upd_ne (by decide) h)), fun h => upd_of (n11 (upd_ne (by decide) h)), fun h => upd_of (d6_5 (upd_ne (by decide) h)), fun h => upd_of (d7_5 (upd_ne (by decide) h)), fun h => upd_of (d8_5 (upd_ne (by decide) h)), fun h => upd_of (d12_5 (upd_ne (by decide) h)), fun h => upd_of (d13_5 (upd_ne (by decide) h)), fun h h' => m5_10 (upd_ne (by decide) h) (upd_ne (by decide) h'), fun h h' => m5_11 (upd_ne (by decide) h) (upd_ne (by decide) h'), fun h h' => m10_11 (upd_ne (by decide) h) (upd_ne (by decide) h'), hB⟩
    · rintro f a W ⟨x42, x43, x44, x45, x46, x47, x41, x48, x49, x50, x14, x15, x16, j10, j11, ja5, jC5, jo5, jb5, jD5, ju5, rfl, H⟩ hf hd K hK
      have h0 := H.1
      replace H := H.2
      have h1 := H.1
      replace H := H.2
      have h2 := H.1
      replace H := H.2
      have h3 := H.1
      replace H := H.2
      have h4 := H.1
      replace H := H.2
      have h5 := H.1
      replace H := H.2
      have h6 := H.1
      replace H := H.2
      have h7 := H.1
      replace H := H.2
      have h8 := H.1
      replace H := H.2
      have h9 := H.1
      replace H := H.2
      have h10 := H.1
      replace H := H.2
      have h11 := H.1
      replace H := H.2
      have h14 := H.1
      replace H := H.2
      have n10 := H.1
      replace H := H.2
      have n11 := H.1
      replace H := H.2
      have d6_5 := H.1
      replace H := H.2
      have d7_5 := H.1
      replace H := H.2
      have d8_5 := H.1
      replace H := H.2
      have d12_5 := H.1
      replace H := H.2
      have d13_5 := H.1
      replace H := H.2
      have m5_10 := H.1
      replace H := H.2
      have m5_11 := H.1
      replace H := H.2
      have m10_11 := H.1
      replace H := H.2
      have hB := H
      clear H
      have r0 := (hB.cell (p := ⟨w4.heap.size, 0, none⟩) lx).trans cx
      go_simp
      refine hK _ _ ?_
      exact ⟨x42, _, x44, x45, x46, x47, x41, x48, x49, x50, x14, x15, x16, j10, j11, ja5, jC5, jo5, jb5, jD5, ju5, rfl, fun h => h0 (upd_ne (by decide) h), fun _ => rfl, fun h => h2 (upd_ne (by decide) h), fun h => h3 (upd_ne (by decide) h), fun h => h4 (upd_ne (by decide) h), fun h => h5 (upd_ne (by decide) h), fun h => h6 (upd_ne (by decide) h), fun h => h7 (upd_ne (by decide) h), fun h => h8 (upd_ne (by decide) h), fun h => h9 (upd_ne (by decide) h), fun h => (by obtain ⟨p1, p2, p3, p4, p5⟩ := h10 (upd_ne (by decide) h); exact ⟨p1, p2, p3, fun h' => p4 (by rw [upd_same (by decide)] at h'; exact h'), fun h' => p5 (upd_ne (by decide) h')⟩), fun h => (by obtain ⟨p1, p2, p3, p4, p5⟩ := h11 (upd_ne (by decide) h); exact ⟨p1, p2, p3, fun h' => p4 (by rw [upd_same (by decide)] at h'; exact h'), fun h' => p5 (upd_ne (by decide) h')⟩), fun h => h14 (upd_ne (by decide) h), fun h => upd_of (n10 (upd_ne (by decide) h)), fun h => upd_of (n11 (upd_ne (by decide) h)), fun h => upd_of (d6_5 (upd_ne (by decide) h)), fun h => upd_of (d7_5 (upd_ne (by decide) h)), fun h => upd_of (d8_5 (upd_ne (by decide) h)), fun h => upd_of (d12_5 (upd_ne (by decide) h)), fun h => upd_of (d13_5 (upd_ne (by decide) h)), fun h h' => m5_10 (upd_ne (by decide) h) (upd_ne (by decide) h'), fun h h' => m5_11 (upd_ne (by decide) h) (upd_ne (by decide) h'), fun h h' => m10_11 (upd_ne (by decide) h) (upd_ne (by decide) h'), hB⟩
    · rintro f a W ⟨x42, x43, x44, x45, x46, x47, x41, x48, x49, x50, x14, x15, x16, j10, j11, ja5, jC5, jo5, jb5, jD5, ju5, rfl, H⟩ hf hd K hK
      have h0 := H.1
      replace H := H.2
      have h1 := H.1
      replace H := H.2
      have h2 := H.1
      replace H := H.2
      have h3 := H.1
      replace H := H.2
      have h4 := H.1
      replace H := H.2
      have h5 := H.1
      replace H := H.2
      have h6 := H.1
      replace H := H.2
      have h7 := H.1
      replace H := H.2
      have h8 := H.1
      replace H := H.2
      have h9 := H.1
      replace H := H.2
      have h10 := H.1
      replace H := H.2
      have h11 := H.1
      replace H := H.2
      have h14 := H.1
      replace H := H.2
      have n10 := H.1
      replace H := H.2
      have n11 := H.1
      replace H := H.2
      have d6_5 := H.1
      replace H := H.2
      have d7_5 := H.1
      replace H := H.2
      have d8_5 := H.1
      replace H := H.2
      have d12_5 := H.1
      replace H := H.2
      have d13_5 := H.1
      replace H := H.2
      have m5_10 := H.1
      replace H := H.2
      have m5_11 := H.1
      replace H := H.2
      have m10_11 := H.1
      replace H := H.2
      have hB := H
      clear H
      go_simp
      refine hK _ _ ?_
      exact ⟨x42, x43, _, x45, x46, x47, x41, x48, x49, x50, x14, x15, x16, j10, j11, ja5, jC5, jo5, jb5, jD5, ju5, rfl, fun h => h0 (upd_ne (by decide) h), fun h => h1 (upd_ne (by decide) h), fun _ => rfl, fun h => h3 (upd_ne (by decide) h), fun h => h4 (upd_ne (by decide) h), fun h => h5 (upd_ne (by decide) h), fun h => h6 (upd_ne (by decide) h), fun h => h7 (upd_ne (by decide) h), fun h => h8 (upd_ne (by decide) h), fun h => h9 (upd_ne (by decide) h), fun h => (by obtain ⟨p1, p2, p3, p4, p5⟩ := h10 (upd_ne (by decide) h); exact ⟨p1, p2, p3, fun h' => p4 (by rw [upd_same (by decide)] at h'; exact h'), fun h' => p5 (upd_ne (by decide) h')⟩), fun h => (by obtain ⟨p1, p2, p3, p4, p5⟩ := h11 (upd_ne (by decide) h); exact ⟨p1, p2, p3, fun h' => p4 (by rw [upd_same (by decide)] at h'; exact h'), fun h' => p5 (upd_ne (by decide) h')⟩), fun h => h14 (upd_ne (by decide) h), fun h => upd_of (n10 (upd_ne (by decide) h)), fun h => upd_of (n11 (upd_ne (by decide) h)), fun h => upd_of (d6_5 (upd_ne (by decide) h)), fun h => upd_of (d7_5 (upd_ne (by decide) h)), fun h => upd_of (d8_5 (upd_ne (by decide) h)), fun h => upd_of (d12_5 (upd_ne (by decide) h)), fun h => upd_of (d13_5 (upd_ne (by decide) h)), fun h h' => m5_10 (upd_ne (by decide) h) (upd_ne (by decide) h'), fun h h' => m5_11 (upd_ne (by decide) h) (upd_ne (by decide) h'), fun h h' => m10_11 (upd_ne (by decide) h) (upd_ne (by decide) h'), hB⟩
    · rintro f a W ⟨x42, x43, x44, x45, x46, x47, x41, x48, x49, x50, x14, x15, x16, j10, j11, ja5, jC5, jo5, jb5, jD5, ju5, rfl, H⟩ hf hd K hK
      have h0 := H.1
      replace H := H.2
      have h1 := H.1
      replace H := H.2
      have h2 := H.1
      replace H := H.2
      have h3 := H.1
      replace H := H.2
      have h4 := H.1
      replace H := H.2
      have h5 := H.1
      replace H := H.2
      have h6 := H.1
      replace H := H.2
      have h7 := H.1
      replace H := H.2
      have h8 := H.1
      replace H := H.2
      have h9 := H.1
      replace H := H.2
      have h10 := H.1
      replace H := H.2
      have h11 := H.1
      replace H := H.2
      have h14 := H.1
      replace H := H.2
      have n10 := H.1
      replace H := H.2
      have n11 := H.1
      replace H := H.2
      have d6_5 := H.1
      replace H := H.2
      have d7_5 := H.1
      replace H := H.2
      have d8_5 := H.1
      replace H := H.2
      have d12_5 := H.1
      replace H := H.2
      have d13_5 := H.1
      replace H := H.2
      have m5_10 := H.1
      replace H := H.2
      have m5_11 := H.1
      replace H := H.2
      have m10_11 := H.1
      replace H := H.2
      have hB := H
      clear H
      have r0 := (hB.cell (p := ⟨w.heap.size + 1, 0, none⟩) l3).trans g0
      have r1 := (hB.cell (p := ⟨w.heap.size + 1, 1, none⟩) l3).trans g1
      go_simp
      refine hK _ _ ?_
      exact ⟨x42, x43, x44, _, x46, x47, x41, x48, x49, x50, x14, x15, x16, j10, j11, ja5, jC5, jo5, jb5, jD5, ju5, rfl, fun h => h0 (upd_ne (by decide) h), fun h => h1 (upd_ne (by decide) h), fun h => h2 (upd_ne (by decide) h), fun _ => rfl, fun h => h4 (upd_ne (by decide) h), fun h => h5 (upd_ne (by decide) h), fun h => h6 (upd_ne (by decide) h), fun h => h7 (upd_ne (by decide) h), fun h => h8 (upd_ne (by decide) h), fun h => h9 (upd_ne (by decide) h), fun h => (by obtain ⟨p1, p2, p3, p4, p5⟩ := h10 (upd_ne (by decide) h); exact ⟨p1, p2, p3, fun h' => p4 (by rw [upd_same (by decide)] at h'; exact h'), fun h' => p5 (upd_ne (by decide) h')⟩), fun h => (by obtain ⟨p1, p2, p3, p4, p5⟩ := h11 (upd_ne (by decide) h); exact ⟨p1, p2, p3, fun h' => p4 (by rw [upd_same (by decide)] at h'; exact h'), fun h' => p5 (upd_ne (by decide) h')⟩), fun h => h14 (upd_ne (by decide) h), fun h => upd_of (n10 (upd_ne (by decide) h)), fun h => upd_of (n11 (upd_ne (by decide) h)), fun h => upd_of (d6_5 (upd_ne (by decide) h)), fun h => upd_of (d7_5 (upd_ne (by decide) h)), fun h => upd_of (d8_5 (upd_ne (by decide) h)), fun h => upd_of (d12_5 (upd_ne (by decide) h)), fun h => upd_of (d13_5 (upd_ne (by decide) h)), fun h h' => m5_10 (upd_ne (by decide) h) (upd_ne (by decide) h'), fun h h' => m5_11 (upd_ne (by decide) h) (upd_ne (by decide) h'), fun h h' => m10_11 (upd_ne (by decide) h) (upd_ne (by decide) h'), hB⟩
    · rintro f a W ⟨x42, x43, x44, x45, x46, x47, x41, x48, x49, x50, x14, x15, x16, j10, j11, ja5, jC5, jo5, jb5, jD5, ju5, rfl, H⟩ hf hd K hK
      have h0 := H.1
      replace H := H.2
      have h1 := H.1
      replace H := H.2
      have h2 := H.1
      replace H := H.2
      have h3 := H.1
      replace H := H.2
      have h4 := H.1
      replace H := H.2
      have h5 := H.1
      replace H := H.2
      have h6 := H.1
      replace H := H.2
      have h7 := H.1
      replace H := H.2
      have h8 := H.1
      replace H := H.2
      have h9 := H.1
      replace H := H.2
      have h10 := H.1
      replace H := H.2
      have h11 := H.1
      replace H := H.2
      have h14 := H.1
      replace H := H.2
      have n10 := H.1
      replace H := H.2
      have n11 := H.1
      replace H := H.2
      have d6_5 := H.1
      replace H := H.2
      have d7_5 := H.1
      replace H := H.2
      have d8_5 := H.1
      replace H := H.2
      have d12_5 := H.1
      replace H := H.2
      have d13_5 := H.1
      replace H := H.2
      have m5_10 := H.1
      replace H := H.2
      have m5_11 := H.1
      replace H := H.2
      have m10_11 := H.1
      replace H := H.2
      have hB := H
      clear H
      have e3 := h3 (dep_of hd (e := ⟨3, .data⟩) (by simp) rfl)
      subst e3
      go_simp
      refine (toPair _ g gh).mono ?_
      rintro e W2 ⟨rfl, q⟩
      refine hK _ _ ?_
      exact ⟨x42, x43, x44, _, _, x47, x41, x48, x49, x50, x14, x15, x16, j10, j11, ja5, jC5, jo5, jb5, jD5, ju5, rfl, fun h => h0 (upd_ne (by decide) h), fun h => h1 (upd_ne (by decide) h), fun h => h2 (upd_ne (by decide) h), fun _ => rfl, fun _ => rfl, fun h => (by obtain ⟨p1, p2, p3, p4⟩ := h5 (upd_ne (by decide) h); exact ⟨p1, p2, p3.below q, p4⟩), fun h => h6 (upd_ne (by decide) h), fun h => h7 (upd_ne (by decide) h), fun h => h8 (upd_ne (by decide) h), fun h => h9 (upd_ne (by decide) h), fun h => (by obtain ⟨p1, p2, p3, p4, p5⟩ := h10 (upd_ne (by decide) h); exact ⟨p1, p2, Nat.lt_of_lt_of_le (p3) q.size, fun h' => (p4 (by rw [upd_same (by decide)] at h'; exact h')).below q, fun h' => (p5 (upd_ne (by decide) h')).below q⟩), fun h => (by obtain ⟨p1, p2, p3, p4, p5⟩ := h11 (upd_ne (by decide) h); exact ⟨p1, p2, Nat.lt_of_lt_of_le (p3) q.size, fun h' => (p4 (by rw [upd_same (by decide)] at h'; exact h')).below q, fun h' => (p5 (upd_ne (by decide) h')).below q⟩), fun h => h14 (upd_ne (by decide) h), fun h => upd_of (n10 (upd_ne (by decide) h)), fun h => upd_of (n11 (upd_ne (by decide) h)), fun h => upd_of (d6_5 (upd_ne (by decide) h)), fun h => upd_of (d7_5 (upd_ne (by decide) h)), fun h => upd_of (d8_5 (upd_ne (by decide) h)), fun h => upd_of (d12_5 (upd_ne (by decide) h)), fun h => upd_of (d13_5 (upd_ne (by decide) h)), fun h h' => m5_10 (upd_ne (by decide) h) (upd_ne (by decide) h'), fun h h' => m5_11 (upd_ne (by decide) h) (upd_ne (by decide) h'), fun h h' => m10_11 (upd_ne (by decide) h) (upd_ne (by decide) h'), hB.trans (q.mono hB.size)⟩
    · rintro f a W ⟨x42, x43, x44, x45, x46, x47, x41, x48, x49, x50, x14, x15, x16, j10, j11, ja5, jC5, jo5, jb5, jD5, ju5, rfl, H⟩ hf hd K hK
      have h0 := H.1
      replace H := H.2
      have h1 := H.1
      replace H := H.2
      have h2 := H.1
      replace H := H.2
      have h3 := H.1
      replace H := H.2
      have h4 := H.1
      replace H := H.2
      have h5 := H.1
      replace H := H.2
      have h6 := H.1
      replace H := H.2
      have h7 := H.1
      replace H := H.2
      have h8 := H.1
      replace H := H.2
      have h9 := H.1
      replace H := H.2
      have h10 := H.1
      replace H := H.2
      have h11 := H.1
      replace H := H.2
      have h14 := H.1
      replace H := H.2
      have n10 := H.1
      replace H := H.2
      have n11 := H.1
      replace H := H.2
      have d6_5 := H.1
      replace H := H.2
      have d7_5 := H.1
      replace H := H.2
      have d8_5 := H.1
      replace H := H.2
      have d12_5 := H.1
      replace H := H.2
      have d13_5 := H.1
      replace H := H.2
      have m5_10 := H.1
      replace H := H.2
      have m5_11 := H.1
      replace H := H.2
      have m10_11 := H.1
      replace H := H.2
      have hB := H
      clear H
      have e0 := h0 (dep_of hd (e := ⟨0, .data⟩) (by simp) rfl)
      subst e0
      have e1 := h1 (dep_of hd (e := ⟨1, .data⟩) (by simp) rfl)
      subst e1
      have e2 := h2 (dep_of hd (e := ⟨2, .data⟩) (by simp) rfl)
      subst e2
      have e4 := h4 (dep_of hd (e := ⟨4, .data⟩) (by simp) rfl)
      subst e4
      go_simp
      refine (hi _ _ ((F.out.has 8 rfl).at.below hB)).mono ?_
      rintro e W2 ⟨a_, C_, o_, b_, D_, u_, rfl, ⟨hc1, hp1, ho1⟩, ⟨hc2, hp2, ho2⟩, hoo, q⟩; have on := HasL.two hp1 hp2; have ho := from_two (a := a_) (b := b_) (ps := A) (qs := B) ho1 ho2
      refine hK _ _ ?_
      exact ⟨_, _, _, x45, _, _, x41, x48, x49, x50, x14, x15, x16, j10, j11, a_, C_, o_, b_, D_, u_, rfl, fun _ => rfl, fun _ => rfl, fun _ => rfl, fun h => h3 (upd_ne (by decide) h), fun _ => rfl, fun _ => ⟨rfl, (fun c hc G hG => Nat.le_trans hB.size (ho c hc G hG)), on, ⟨hc1, hc2, hoo⟩⟩, fun h => absurd (d6_5 (upd_ne (by decide) h)) (by rw [hf]; decide), fun h => absurd (d7_5 (upd_ne (by decide) h)) (by rw [hf]; decide), fun h => absurd (d8_5 (upd_ne (by decide) h)) (by rw [hf]; decide), fun h => h9 (upd_ne (by decide) h), fun h => (by obtain ⟨p1, p2, p3, p4, p5⟩ := h10 (upd_ne (by decide) h); exact ⟨p1, p2, Nat.lt_of_lt_of_le (p3) q.size, fun h' => (p4 (by rw [upd_same (by decide)] at h'; exact h')).below q, fun h' => absurd (d12_5 (upd_ne (by decide) h')) (by rw [hf]; decide)⟩), fun h => (by obtain ⟨p1, p2, p3, p4, p5⟩ := h11 (upd_ne (by decide) h); exact ⟨p1, p2, Nat.lt_of_lt_of_le (p3) q.size, fun h' => (p4 (by rw [upd_same (by decide)] at h'; exact h')).below q, fun h' => absurd (d13_5 (upd_ne (by decide) h')) (by rw [hf]; decide)⟩), fun h => h14 (upd_ne (by decide) h), fun h => upd_of (n10 (upd_ne (by decide) h)), fun h => upd_of (n11 (upd_ne (by decide) h)), fun _ => upd_self, fun _ => upd_self, fun _ => upd_self, fun _ => upd_self, fun _ => upd_self, fun _ h => (by obtain ⟨-, -, p3, -, -⟩ := h10 (upd_ne (by decide) h); intro c hc G h1; have p4 := ho c hc G h1; omega), fun _ h => (by obtain ⟨-, -, p3, -, -⟩ := h11 (upd_ne (by decide) h); intro c hc G h1; have p4 := ho c hc G h1; omega), fun h h' => m10_11 (upd_ne (by decide) h) (upd_ne (by decide) h'), hB.trans (q.mono hB.size)⟩
    · rintro f a W ⟨x42, x43, x44, x45, x46, x47, x41, x48, x49, x50, x14, x15, x16, j10, j11, ja5, jC5, jo5, jb5, jD5, ju5, rfl, H⟩ hf hd K hK
      have h0 := H.1
      replace H := H.2
      have h1 := H.1
      replace H := H.2
      have h2 := H.1
      replace H := H.2
      have h3 := H.1
      replace H := H.2
      have h4 := H.1
      replace H := H.2
      have h5 := H.1
      replace H := H.2
      have h6 := H.1
      replace H := H.2
      have h7 := H.1
      replace H := H.2
      have h8 := H.1
      replace H := H.2
      have h9 := H.1
      replace H := H.2
      have h10 := H.1
      replace H := H.2
      have h11 := H.1
      replace H := H.2
      have h14 := H.1
      replace H := H.2
      have n10 := H.1
      replace H := H.2
      have n11 := H.1
      replace H := H.2
      have d6_5 := H.1
      replace H := H.2
      have d7_5 := H.1
      replace H := H.2
      have d8_5 := H.1
      replace H := H.2
      have d12_5 := H.1
      replace H := H.2
      have d13_5 := H.1
      replace H := H.2
      have m5_10 := H.1
      replace H := H.2
      have m5_11 := H.1
      replace H := H.2
      have m10_11 := H.1
      replace H := H.2
      have hB := H
      clear H
      obtain ⟨e5, u5, o5, c5⟩ := h5 (dep_of hd (e := ⟨5, .data⟩) (by simp) rfl)
      subst e5
      go_simp
      refine hK _ _ ?_
      exact ⟨x42, x43, x44, x45, x46, _, _, x48, x49, x50, x14, x15, x16, j10, j11, ja5, jC5, jo5, jb5, jD5, ju5, rfl, fun h => h0 (upd_ne (by decide) h), fun h => h1 (upd_ne (by decide) h), fun h => h2 (upd_ne (by decide) h), fun h => h3 (upd_ne (by decide) h), fun h => h4 (upd_ne (by decide) h), fun _ => ⟨rfl, u5, o5, c5⟩, fun _ => rfl, fun h => h7 (upd_ne (by decide) h), fun h => h8 (upd_ne (by decide) h), fun h => h9 (upd_ne (by decide) h), fun h => (by obtain ⟨p1, p2, p3, p4, p5⟩ := h10 (upd_ne (by decide) h); exact ⟨p1, p2, p3, fun h' => p4 (by rw [upd_same (by decide)] at h'; exact h'), fun h' => p5 (upd_ne (by decide) h')⟩), fun h => (by obtain ⟨p1, p2, p3, p4, p5⟩ := h11 (upd_ne (by decide) h); exact ⟨p1, p2, p3, fun h' => p4 (by rw [upd_same (by decide)] at h'; exact h'), fun h' => p5 (upd_ne (by decide) h')⟩), fun h => h14 (upd_ne (by decide) h), fun h => upd_of (n10 (upd_ne (by decide) h)), fun h => upd_of (n11 (upd_ne (by decide) h)), fun _ => upd_of (dep_of hd (e := ⟨5, .data⟩) (by simp) rfl), fun h => upd_of (d7_5 (upd_ne (by decide) h)), fun h => upd_of (d8_5 (upd_ne (by decide) h)), fun h => upd_of (d12_5 (upd_ne (by decide) h)), fun h => upd_of (d13_5 (upd_ne (by decide) h)), fun h h' => m5_10 (upd_ne (by decide) h) (upd_ne (by decide) h'), fun h h' => m5_11 (upd_ne (by decide) h) (upd_ne (by decide) h'), fun h h' => m10_11 (upd_ne (by decide) h) (upd_ne (by decide) h'), hB⟩
    · rintro f a W ⟨x42, x43, x44, x45, x46, x47, x41, x48, x49, x50, x14, x15, x16, j10, j11, ja5, jC5, jo5, jb5, jD5, ju5, rfl, H⟩ hf hd K hK
      have h0 := H.1
      replace H := H.2
      have h1 := H.1
      replace H := H.2
      have h2 := H.1
      replace H := H.2
      have h3 := H.1
      replace H := H.2
      have h4 := H.1
      replace H := H.2
      have h5 := H.1
      replace H := H.2
      have h6 := H.1
      replace H := H.2
      have h7 := H.1
      replace H := H.2
      have h8 := H.1
      replace H := H.2
      have h9 := H.1
      replace H := H.2
      have h10 := H.1
      replace H := H.2
      have h11 := H.1
      replace H := H.2
      have h14 := H.1
      replace H := H.2
      have n10 := H.1
      replace H := H.2
      have n11 := H.1
      replace H := H.2
      have d6_5 := H.1
      replace H := H.2
      have d7_5 := H.1
      replace H := H.2
      have d8_5 := H.1
      replace H := H.2
      have d12_5 := H.1
      replace H := H.2
      have d13_5 := H.1
      replace H := H.2
      have m5_10 := H.1
      replace H := H.2
      have m5_11 := H.1
      replace H := H.2
      have m10_11 := H.1
      replace H := H.2
      have hB := H
      clear H
      have e6 := h6 (dep_of hd (e := ⟨6, .data⟩) (by simp) rfl)
      subst e6
      go_simp
      refine hK _ _ ?_
      exact ⟨x42, x43, x44, x45, x46, x47, _, _, x49, x50, x14, x15, x16, j10, j11, ja5, jC5, jo5, jb5, jD5, ju5, rfl, fun h => h0 (upd_ne (by decide) h), fun h => h1 (upd_ne (by decide) h), fun h => h2 (upd_ne (by decide) h), fun h => h3 (upd_ne (by decide) h), fun h => h4 (upd_ne (by decide) h), fun h => h5 (upd_ne (by decide) h), fun _ => rfl, fun _ => rfl, fun h => h8 (upd_ne (by decide) h), fun h => h9 (upd_ne (by decide) h), fun h => (by obtain ⟨p1, p2, p3, p4, p5⟩ := h10 (upd_ne (by decide) h); exact ⟨p1, p2, p3, fun h' => p4 (by rw [upd_same (by decide)] at h'; exact h'), fun h' => p5 (upd_ne (by decide) h')⟩), fun h => (by obtain ⟨p1, p2, p3, p4, p5⟩ := h11 (upd_ne (by decide) h); exact ⟨p1, p2, p3, fun h' => p4 (by rw [upd_same (by decide)] at h'; exact h'), fun h' => p5 (upd_ne (by decide) h')⟩), fun h => h14 (upd_ne (by decide) h), fun h => upd_of (n10 (upd_ne (by decide) h)), fun h => upd_of (n11 (upd_ne (by decide) h)), fun h => upd_of (d6_5 (upd_ne (by decide) h)), fun _ => upd_of (d6_5 (dep_of hd (e := ⟨6, .data⟩) (by simp) rfl)), fun h => upd_of (d8_5 (upd_ne (by decide) h)), fun h => upd_of (d12_5 (upd_ne (by decide) h)), fun h => upd_of (d13_5 (upd_ne (by decide) h)), fun h h' => m5_10 (upd_ne (by decide) h) (upd_ne (by decide) h'), fun h h' => m5_11 (upd_ne (by decide) h) (upd_ne (by decide) h'), fun h h' => m10_11 (upd_ne (by decide) h) (upd_ne (by decide) h'), hB⟩
    · rintro f a W ⟨x42, x43, x44, x45, x46, x47, x41, x48, x49, x50, x14, x15, x16, j10, j11, ja5, jC5, jo5, jb5, jD5, ju5, rfl, H⟩ hf hd K hK
      have h0 := H.1
      replace H := H.2
      have h1 := H.1
      replace H := H.2
      have h2 := H.1
      replace H := H.2
      have h3 := H.1
      replace H := H.2
      have h4 := H.1
      replace H := H.2
      have h5 := H.1
      replace H := H.2
      have h6 := H.1
      replace H := H.2
      have h7 := H.1
      replace H := H.2
      have h8 := H.1
      replace H := H.2
      have h9 := H.1
      replace H := H.2
      have h10 := H.1
      replace H := H.2
      have h11 := H.1
      replace H := H.2
      have h14 := H.1
      replace H := H.2
      have n10 := H.1
      replace H := H.2
      have n11 := H.1
      replace H := H.2
      have d6_5 := H.1
      replace H := H.2
      have d7_5 := H.1
      replace H := H.2
      have d8_5 := H.1
      replace H := H.2
      have d12_5 := H.1
      replace H := H.2
      have d13_5 := H.1
      replace H := H.2
      have m5_10 := H.1
      replace H := H.2
      have m5_11 := H.1
      replace H := H.2
      have m10_11 := H.1
      replace H := H.2
      have hB := H
      clear H
      have e6 := h6 (dep_of hd (e := ⟨6, .data⟩) (by simp) rfl)
      subst e6
      go_simp
      refine hK _ _ ?_
      exact ⟨x42, x43, x44, x45, x46, x47, _, x48, _, x50, x14, x15, x16, j10, j11, ja5, jC5, jo5, jb5, jD5, ju5, rfl, fun h => h0 (upd_ne (by decide) h), fun h => h1 (upd_ne (by decide) h), fun h => h2 (upd_ne (by decide) h), fun h => h3 (upd_ne (by decide) h), fun h => h4 (upd_ne (by decide) h), fun h => h5 (upd_ne (by decide) h), fun _ => rfl, fun h => h7 (upd_ne (by decide) h), fun _ => rfl, fun h => h9 (upd_ne (by decide) h), fun h => (by obtain ⟨p1, p2, p3, p4, p5⟩ := h10 (upd_ne (by decide) h); exact ⟨p1, p2, p3, fun h' => p4 (by rw [upd_same (by decide)] at h'; exact h'), fun h' => p5 (upd_ne (by decide) h')⟩), fun h => (by obtain ⟨p1, p2, p3, p4, p5⟩ := h11 (upd_ne (by decide) h); exact ⟨p1, p2, p3, fun h' => p4 (by rw [upd_same (by decide)] at h'; exact h'), fun h' => p5 (upd_ne (by decide) h')⟩), fun h => h14 (upd_ne (by decide) h), fun h => upd_of (n10 (upd_ne (by decide) h)), fun h => upd_of (n11 (upd_ne (by decide) h)), fun h => upd_of (d6_5 (upd_ne (by decide) h)), fun h => upd_of (d7_5 (upd_ne (by decide) h)), fun _ => upd_of (d6_5 (dep_of hd (e := ⟨6, .data⟩) (by simp) rfl)), fun h => upd_of (d12_5 (upd_ne (by decide) h)), fun h => upd_of (d13_5 (upd_ne (by decide) h)), fun h h' => m5_10 (upd_ne (by decide) h) (upd_ne (by decide) h'), fun h h' => m5_11 (upd_ne (by decide) h) (upd_ne (by decide) h'), fun h h' => m10_11 (upd_ne (by decide) h) (upd_ne (by decide) h'), hB⟩
    · rintro f a W ⟨x42, x43, x44, x45, x46, x47, x41, x48, x49, x50, x14, x15, x16, j10, j11, ja5, jC5, jo5, jb5, jD5, ju5, rfl, H⟩ hf hd K hK
      have h0 := H.1
      replace H := H.2
      have h1 := H.1
      replace H := H.2
      have h2 := H.1
      replace H := H.2
      have h3 := H.1
      replace H := H.2
      have h4 := H.1
      replace H := H.2
      have h5 := H.1
      replace H := H.2
      have h6 := H.1
      replace H := H.2
      have h7 := H.1
      replace H := H.2
      have h8 := H.1
      replace H := H.2
      have h9 := H.1
      replace H := H.2
      have h10 := H.1
      replace H := H.2
      have h11 := H.1
      replace H := H.2
      have h14 := H.1
      replace H := H.2
      have n10 := H.1
      replace H := H.2
      have n11 := H.1
      replace H := H.2
      have d6_5 := H.1
      replace H := H.2
      have d7_5 := H.1
      replace H := H.2
      have d8_5 := H.1
      replace H := H.2
      have d12_5 := H.1
      replace H := H.2
      have d13_5 := H.1
      replace H := H.2
      have m5_10 := H.1
      replace H := H.2
      have m5_11 := H.1
      replace H := H.2
      have m10_11 := H.1
      replace H := H.2
      have hB := H
      clear H
      have e6 := h6 (dep_of hd (e := ⟨6, .data⟩) (by simp) rfl)
      subst e6
      go_simp
      refine hK _ _ ?_
      exact ⟨x42, x43, x44, x45, x46, x47, _, x48, x49, _, x14, x15, x16, j10, j11, ja5, jC5, jo5, jb5, jD5, ju5, rfl, fun h => h0 (upd_ne (by decide) h), fun h => h1 (upd_ne (by decide) h), fun h => h2 (upd_ne (by decide) h), fun h => h3 (upd_ne (by decide) h), fun h => h4 (upd_ne (by decide) h), fun h => h5 (upd_ne (by decide) h), fun _ => rfl, fun h => h7 (upd_ne (by decide) h), fun h => h8 (upd_ne (by decide) h), fun _ => rfl, fun h => (by obtain ⟨p1, p2, p3, p4, p5⟩ := h10 (upd_ne (by decide) h); exact ⟨p1, p2, p3, fun h' => p4 (by rw [upd_same (by decide)] at h'; exact h'), fun h' => p5 (upd_ne (by decide) h')⟩), fun h => (by obtain ⟨p1, p2, p3, p4, p5⟩ := h11 (upd_ne (by decide) h); exact ⟨p1, p2, p3, fun h' => p4 (by rw [upd_same (by decide)] at h'; exact h'), fun h' => p5 (upd_ne (by decide) h')⟩), fun h => h14 (upd_ne (by decide) h), fun h => upd_of (n10 (upd_ne (by decide) h)), fun h => upd_of (n11 (upd_ne (by decide) h)), fun h => upd_of (d6_5 (upd_ne (by decide) h)), fun h => upd_of (d7_5 (upd_ne (by decide) h)), fun h => upd_of (d8_5 (upd_ne (by decide) h)), fun h => upd_of (d12_5 (upd_ne (by decide) h)), fun h => upd_of (d13_5 (upd_ne (by decide) h)), fun h h' => m5_10 (upd_ne (by decide) h) (upd_ne (by decide) h'), fun h h' => m5_11 (upd_ne (by decide) h) (upd_ne (by decide) h'), fun h h' => m10_11 (upd_ne (by decide) h) (upd_ne (by decide) h'), hB⟩
    · rintro f a W ⟨x42, x43, x44, x45, x46, x47, x41, x48, x49, x50, x14, x15, x16, j10, j11, ja5, jC5, jo5, jb5, jD5, ju5, rfl, H⟩ hf hd K hK
      have h0 := H.1
      replace H := H.2
      have h1 := H.1
      replace H := H.2
      have h2 := H.1
      replace H := H.2
      have h3 := H.1
      replace H := H.2
      have h4 := H.1
      replace H := H.2
      have h5 := H.1
      replace H := H.2
      have h6 := H.1
      replace H := H.2
      have h7 := H.1
      replace H := H.2
      have h8 := H.1
      replace H := H.2
      have h9 := H.1
      replace H := H.2
      have h10 := H.1
      replace H := H.2
      have h11 := H.1
      replace H := H.2
      have h14 := H.1
      replace H := H.2
      have n10 := H.1
      replace H := H.2
      have n11 := H.1
      replace H := H.2
      have d6_5 := H.1
      replace H := H.2
      have d7_5 := H.1
      replace H := H.2
      have d8_5 := H.1
      replace H := H.2
      have d12_5 := H.1
      replace H := H.2
      have d13_5 := H.1
      replace H := H.2
      have m5_10 := H.1
      replace H := H.2
      have m5_11 := H.1
      replace H := H.2
      have m10_11 := H.1
      replace H := H.2
      have hB := H
      clear H
      go_simp
      refine hK _ _ ?_
      exact ⟨x42, x43, x44, x45, x46, x47, x41, x48, x49, x50, _, x15, x16, W.heap.size, j11, ja5, jC5, jo5, jb5, jD5, ju5, rfl, fun h => h0 (upd_ne (by decide) h), fun h => h1 (upd_ne (by decide) h), fun h => h2 (upd_ne (by decide) h), fun h => h3 (upd_ne (by decide) h), fun h => h4 (upd_ne (by decide) h), fun h => (by obtain ⟨p1, p2, p3, p4⟩ := h5 (upd_ne (by decide) h); exact ⟨p1, p2, p3.below ((Below.refl _ _).alloc (Nat.le_refl _) _), p4⟩), fun h => h6 (upd_ne (by decide) h), fun h => h7 (upd_ne (by decide) h), fun h => h8 (upd_ne (by decide) h), fun h => h9 (upd_ne (by decide) h), fun _ => ⟨rfl, hB.size, (by simp), fun _ => Own.new W _ _, fun h' => absurd (n10 (upd_ne (by decide) h')) (by rw [hf]; decide)⟩, fun h => (by obtain ⟨p1, p2, p3, p4, p5⟩ := h11 (upd_ne (by decide) h); exact ⟨p1, p2, (by have := p3; simp; omega), fun h' => (p4 (by rw [upd_same (by decide)] at h'; exact h')).alloc _, fun h' => (p5 (upd_ne (by decide) h')).alloc _⟩), fun h => h14 (upd_ne (by decide) h), fun _ => upd_self, fun h => upd_of (n11 (upd_ne (by decide) h)), fun h => upd_of (d6_5 (upd_ne (by decide) h)), fun h => upd_of (d7_5 (upd_ne (by decide) h)), fun h => upd_of (d8_5 (upd_ne (by decide) h)), fun h => upd_of (d12_5 (upd_ne (by decide) h)), fun h => upd_of (d13_5 (upd_ne (by decide) h)), fun h _ => (by obtain ⟨-, -, p3, -⟩ := h5 (upd_ne (by decide) h); intro c hc G h1; have p4 := p3.lt c hc G h1; omega), fun h h' => m5_11 (upd_ne (by decide) h) (upd_ne (by decide) h'), fun _ h => (by obtain ⟨-, -, p3, -, -⟩ := h11 (upd_ne (by decide) h); omega), hB.alloc hB.size _⟩
    · rintro f a W ⟨x42, x43, x44, x45, x46, x47, x41, x48, x49, x50, x14, x15, x16, j10, j11, ja5, jC5, jo5, jb5, jD5, ju5, rfl, H⟩ hf hd K hK
      have h0 := H.1
      replace H := H.2
      have h1 := H.1
      replace H := H.2
      have h2 := H.1
      replace H := H.2
      have h3 := H.1
      replace H := H.2
      have h4 := H.1
      replace H := H.2
      have h5 := H.1
      replace H := H.2
      have h6 := H.1
      replace H := H.2
      have h7 := H.1
      replace H := H.2
      have h8 := H.1
      replace H := H.2
      have h9 := H.1
      replace H := H.2
      have h10 := H.1
      replace H := H.2
      have h11 := H.1
      replace H := H.2
      have h14 := H.1
      replace H := H.2
      have n10 := H.1
      replace H := H.2
      have n11 := H.1
      replace H := H.2
      have d6_5 := H.1
      replace H := H.2
      have d7_5 := H.1
      replace H := H.2
      have d8_5 := H.1
      replace H := H.2
      have d12_5 := H.1
      replace H := H.2
      have d13_5 := H.1
      replace H := H.2
      have m5_10 := H.1
      replace H := H.2
      have m5_11 := H.1
      replace H := H.2
      have m10_11 := H.1
      replace H := H.2
      have hB := H
      clear H
      go_simp
      refine hK _ _ ?_
      exact ⟨x42, x43, x44, x45, x46, x47, x41, x48, x49, x50, x14, _, x16, j10, W.heap.size, ja5, jC5, jo5, jb5, jD5, ju5, rfl, fun h => h0 (upd_ne (by decide) h), fun h => h1 (upd_ne (by decide) h), fun h => h2 (upd_ne (by decide) h), fun h => h3 (upd_ne (by decide) h), fun h => h4 (upd_ne (by decide) h), fun h => (by obtain ⟨p1, p2, p3, p4⟩ := h5 (upd_ne (by decide) h); exact ⟨p1, p2, p3.below ((Below.refl _ _).alloc (Nat.le_refl _) _), p4⟩), fun h => h6 (upd_ne (by decide) h), fun h => h7 (upd_ne (by decide) h), fun h => h8 (upd_ne (by decide) h), fun h => h9 (upd_ne (by decide) h), fun h => (by obtain ⟨p1, p2, p3, p4, p5⟩ := h10 (upd_ne (by decide) h); exact ⟨p1, p2, (by have := p3; simp; omega), fun h' => (p4 (by rw [upd_same (by decide)] at h'; exact h')).alloc _, fun h' => (p5 (upd_ne (by decide) h')).alloc _⟩), fun _ => ⟨rfl, hB.size, (by simp), fun _ => Own.new W _ _, fun h' => absurd (n11 (upd_ne (by decide) h')) (by rw [hf]; decide)⟩, fun h => h14 (upd_ne (by decide) h), fun h => upd_of (n10 (upd_ne (by decide) h)), fun _ => upd_self, fun h => upd_of (d6_5 (upd_ne (by decide) h)), fun h => upd_of (d7_5 (upd_ne (by decide) h)), fun h => upd_of (d8_5 (upd_ne (by decide) h)), fun h => upd_of (d12_5 (upd_ne (by decide) h)), fun h => upd_of (d13_5 (upd_ne (by decide) h)), fun h h' => m5_10 (upd_ne (by decide) h) (upd_ne (by decide) h'), fun h _ => (by obtain ⟨-, -, p3, -⟩ := h5 (upd_ne (by decide) h); intro c hc G h1; have p4 := p3.lt c hc G h1; omega), fun h _ => (by obtain ⟨-, -, p3, -, -⟩ := h10 (upd_ne (by decide) h); omega), hB.alloc hB.size _⟩
    · rintro f a W ⟨x42, x43, x44, x45, x46, x47, x41, x48, x49, x50, x14, x15, x16, j10, j11, ja5, jC5, jo5, jb5, jD5, ju5, rfl, H⟩ hf hd K hK
      have h0 := H.1
      replace H := H.2
      have h1 := H.1
      replace H := H.2
      have h2 := H.1
      replace H := H.2
      have h3 := H.1
      replace H := H.2
      have h4 := H.1
      replace H := H.2
      have h5 := H.1
      replace H := H.2
      have h6 := H.1
      replace H := H.2
      have h7 := H.1
      replace H := H.2
      have h8 := H.1
      replace H := H.2
      have h9 := H.1
      replace H := H.2
      have h10 := H.1
      replace H := H.2
      have h11 := H.1
      replace H := H.2
      have h14 := H.1
      replace H := H.2
      have n10 := H.1
      replace H := H.2
      have n11 := H.1
      replace H := H.2
      have d6_5 := H.1
      replace H := H.2
      have d7_5 := H.1
      replace H := H.2
      have d8_5 := H.1
      replace H := H.2
      have d12_5 := H.1
      replace H := H.2
      have d13_5 := H.1
      replace H := H.2
      have m5_10 := H.1
      replace H := H.2
      have m5_11 := H.1
      replace H := H.2
      have m10_11 := H.1
      replace H := H.2
      have hB := H
      clear H
      obtain ⟨e10, u10, t10, z10, s10⟩ := h10 (dep_of hd (e := ⟨10, .data⟩) (by simp) rfl)
      subst e10
      have e7 := h7 (dep_of hd (e := ⟨7, .data⟩) (by simp) rfl)
      subst e7
      have oz := z10 hf
      have r0 := oz.cell 0 _ rfl
      have o0_ := oz.frz 0 _ rfl
      go_simp
      refine hK _ _ ?_
      exact ⟨x42, x43, x44, x45, x46, x47, x41, _, x49, x50, _, x15, x16, j10, j11, ja5, jC5, jo5, jb5, jD5, ju5, rfl, fun h => h0 (upd_ne (by decide) h), fun h => h1 (upd_ne (by decide) h), fun h => h2 (upd_ne (by decide) h), fun h => h3 (upd_ne (by decide) h), fun h => h4 (upd_ne (by decide) h), fun h => (by obtain ⟨p1, p2, p3, p4⟩ := h5 (upd_ne (by decide) h); have hne := m5_10 (upd_ne (by decide) h) (dep_of hd (e := ⟨10, .data⟩) (by simp) rfl); exact ⟨p1, p2, p3.keepO ((KeepO.of_below (some j10) (Below.refl _ _)).setCell (i := 0) _) (fun c hc G hG e => by have := hne c hc G hG; omega), p4⟩), fun h => h6 (upd_ne (by decide) h), fun _ => rfl, fun h => h8 (upd_ne (by decide) h), fun h => h9 (upd_ne (by decide) h), fun _ => ⟨rfl, u10, (by simpa [World.setCell] using t10), fun h' => (by rw [upd_self] at h'; cases h'), fun _ => Own.set (i := 0) (oz) _ (by simp)⟩, fun h => (by obtain ⟨p1, p2, p3, p4, p5⟩ := h11 (upd_ne (by decide) h); have hne : j10 ≠ j11 := (by have := m10_11 (dep_of hd (e := ⟨10, .data⟩) (by simp) rfl) (upd_ne (by decide) h); omega); exact ⟨p1, p2, (by simpa [World.setCell] using p3), fun h' => Own.other (i := 0) (p4 (by rw [upd_same (by decide)] at h'; exact h')) _ hne, fun h' => Own.other (i := 0) (p5 (upd_ne (by decide) h')) _ hne⟩), fun h => h14 (upd_ne (by decide) h), fun _ => upd_of (dep_of hd (e := ⟨10, .data⟩) (by simp) rfl), fun h => upd_of (n11 (upd_ne (by decide) h)), fun h => upd_of (d6_5 (upd_ne (by decide) h)), fun h => upd_of (d7_5 (upd_ne (by decide) h)), fun h => upd_of (d8_5 (upd_ne (by decide) h)), fun _ => upd_of (dep_of hd (e := ⟨5, .chain⟩) (by simp) rfl), fun h => upd_of (d13_5 (upd_ne (by decide) h)), fun h h' => m5_10 (upd_ne (by decide) h) (upd_ne (by decide) h'), fun h h' => m5_11 (upd_ne (by decide) h) (upd_ne (by decide) h'), fun h h' => m10_11 (upd_ne (by decide) h) (upd_ne (by decide) h'), (hB.setCell (p := ⟨j10, 0, none⟩) u10 _)⟩
    · rintro f a W ⟨x42, x43, x44, x45, x46, x47, x41, x48, x49, x50, x14, x15, x16, j10, j11, ja5, jC5, jo5, jb5, jD5, ju5, rfl, H⟩ hf hd K hK
      have h0 := H.1
      replace H := H.2
      have h1 := H.1
      replace H := H.2
      have h2 := H.1
      replace H := H.2
      have h3 := H.1
      replace H := H.2
      have h4 := H.1
      replace H := H.2
      have h5 := H.1
      replace H := H.2
      have h6 := H.1
      replace H := H.2
      have h7 := H.1
      replace H := H.2
      have h8 := H.1
      replace H := H.2
      have h9 := H.1
      replace H := H.2
      have h10 := H.1
      replace H := H.2
      have h11 := H.1
      replace H := H.2
      have h14 := H.1
      replace H := H.2
      have n10 := H.1
      replace H := H.2
      have n11 := H.1
      replace H := H.2
      have d6_5 := H.1
      replace H := H.2
      have d7_5 := H.1
      replace H := H.2
      have d8_5 := H.1
      replace H := H.2
      have d12_5 := H.1
      replace H := H.2
      have d13_5 := H.1
      replace H := H.2
      have m5_10 := H.1
      replace H := H.2
      have m5_11 := H.1
      replace H := H.2
      have m10_11 := H.1
      replace H := H.2
      have hB := H
      clear H
      obtain ⟨e11, u11, t11, z11, s11⟩ := h11 (dep_of hd (e := ⟨11, .data⟩) (by simp) rfl)
      subst e11
      have e8 := h8 (dep_of hd (e := ⟨8, .data⟩) (by simp) rfl)
      subst e8
      have oz := z11 hf
      have r0 := oz.cell 0 _ rfl
      have o0_ := oz.frz 0 _ rfl
      go_simp
      refine hK _ _ ?_
      exact ⟨x42, x43, x44, x45, x46, x47, x41, x48, _, x50, x14, _, x16, j10, j11, ja5, jC5, jo5, jb5, jD5, ju5, rfl, fun h => h0 (upd_ne (by decide) h), fun h => h1 (upd_ne (by decide) h), fun h => h2 (upd_ne (by decide) h), fun h => h3 (upd_ne (by decide) h), fun h => h4 (upd_ne (by decide) h), fun h => (by obtain ⟨p1, p2, p3, p4⟩ := h5 (upd_ne (by decide) h); have hne := m5_11 (upd_ne (by decide) h) (dep_of hd (e := ⟨11, .data⟩) (by simp) rfl); exact ⟨p1, p2, p3.keepO ((KeepO.of_below (some j11) (Below.refl _ _)).setCell (i := 0) _) (fun c hc G hG e => by have := hne c hc G hG; omega), p4⟩), fun h => h6 (upd_ne (by decide) h), fun h => h7 (upd_ne (by decide) h), fun _ => rfl, fun h => h9 (upd_ne (by decide) h), fun h => (by obtain ⟨p1, p2, p3, p4, p5⟩ := h10 (upd_ne (by decide) h); have hne : j11 ≠ j10 := (by have := m10_11 (upd_ne (by decide) h) (dep_of hd (e := ⟨11, .data⟩) (by simp) rfl); omega); exact ⟨p1, p2, (by simpa [World.setCell] using p3), fun h' => Own.other (i := 0) (p4 (by rw [upd_same (by decide)] at h'; exact h')) _ hne, fun h' => Own.other (i := 0) (p5 (upd_ne (by decide) h')) _ hne⟩), fun _ => ⟨rfl, u11, (by simpa [World.setCell] using t11), fun h' => (by rw [upd_self] at h'; cases h'), fun _ => Own.set (i := 0) (oz) _ (by simp)⟩, fun h => h14 (upd_ne (by decide) h), fun h => upd_of (n10 (upd_ne (by decide) h)), fun _ => upd_of (dep_of hd (e := ⟨11, .data⟩) (by simp) rfl), fun h => upd_of (d6_5 (upd_ne (by decide) h)), fun h => upd_of (d7_5 (upd_ne (by decide) h)), fun h => upd_of (d8_5 (upd_ne (by decide) h)), fun h => upd_of (d12_5 (upd_ne (by decide) h)), fun _ => upd_of (dep_of hd (e := ⟨5, .phase⟩) (by simp) rfl), fun h h' => m5_10 (upd_ne (by decide) h) (upd_ne (by decide) h'), fun h h' => m5_11 (upd_ne (by decide) h) (upd_ne (by decide) h'), fun h h' => m10_11 (upd_ne (by decide) h) (upd_ne (by decide) h'), (hB.setCell (p := ⟨j11, 0, none⟩) u11 _)⟩
    · rintro f a W ⟨x42, x43, x44, x45, x46, x47, x41, x48, x49, x50, x14, x15, x16, j10, j11, ja5, jC5, jo5, jb5, jD5, ju5, rfl, H⟩ hf hd K hK
      have h0 := H.1
      replace H := H.2
      have h1 := H.1
      replace H := H.2
      have h2 := H.1
      replace H := H.2
      have h3 := H.1
      replace H := H.2
      have h4 := H.1
      replace H := H.2
      have h5 := H.1
      replace H := H.2
      have h6 := H.1
      replace H := H.2
      have h7 := H.1
      replace H := H.2
      have h8 := H.1
      replace H := H.2
      have h9 := H.1
      replace H := H.2
      have h10 := H.1
      replace H := H.2
      have h11 := H.1
      replace H := H.2
      have h14 := H.1
      replace H := H.2
      have n10 := H.1
      replace H := H.2
      have n11 := H.1
      replace H := H.2
      have d6_5 := H.1
      replace H := H.2
      have d7_5 := H.1
      replace H := H.2
      have d8_5 := H.1
      replace H := H.2
      have d12_5 := H.1
      replace H := H.2
      have d13_5 := H.1
      replace H := H.2
      have m5_10 := H.1
      replace H := H.2
      have m5_11 := H.1
      replace H := H.2
      have m10_11 := H.1
      replace H := H.2
      have hB := H
      clear H
      have e9 := h9 (dep_of hd (e := ⟨9, .data⟩) (by simp) rfl)
      subst e9
      go_simp
      refine hK _ _ ?_
      exact ⟨x42, x43, x44, x45, x46, x47, x41, x48, x49, _, x14, x15, _, j10, j11, ja5, jC5, jo5, jb5, jD5, ju5, rfl, fun h => h0 (upd_ne (by decide) h), fun h => h1 (upd_ne (by decide) h), fun h => h2 (upd_ne (by decide) h), fun h => h3 (upd_ne (by decide) h), fun h => h4 (upd_ne (by decide) h), fun h => h5 (upd_ne (by decide) h), fun h => h6 (upd_ne (by decide) h), fun h => h7 (upd_ne (by decide) h), fun h => h8 (upd_ne (by decide) h), fun _ => rfl, fun h => (by obtain ⟨p1, p2, p3, p4, p5⟩ := h10 (upd_ne (by decide) h); exact ⟨p1, p2, p3, fun h' => p4 (by rw [upd_same (by decide)] at h'; exact h'), fun h' => p5 (upd_ne (by decide) h')⟩), fun h => (by obtain ⟨p1, p2, p3, p4, p5⟩ := h11 (upd_ne (by decide) h); exact ⟨p1, p2, p3, fun h' => p4 (by rw [upd_same (by decide)] at h'; exact h'), fun h' => p5 (upd_ne (by decide) h')⟩), fun _ => rfl, fun h => upd_of (n10 (upd_ne (by decide) h)), fun h => upd_of (n11 (upd_ne (by decide) h)), fun h => upd_of (d6_5 (upd_ne (by decide) h)), fun h => upd_of (d7_5 (upd_ne (by decide) h)), fun h => upd_of (d8_5 (upd_ne (by decide) h)), fun h => upd_of (d12_5 (upd_ne (by decide) h)), fun h => upd_of (d13_5 (upd_ne (by decide) h)), fun h h' => m5_10 (upd_ne (by decide) h) (upd_ne (by decide) h'), fun h h' => m5_11 (upd_ne (by decide) h) (upd_ne (by decide) h'), fun h h' => m10_11 (upd_ne (by decide) h) (upd_ne (by decide) h'), hB⟩
    rintro f a w5 ⟨x42, x43, x44, x45, x46, x47, x41, x48, x49, x50, x14, x15, x16, j10, j11, ja5, jC5, jo5, jb5, jD5, ju5, rfl, H⟩ hall
    have h0 := H.1
    replace H := H.2
    have h1 := H.1
    replace H := H.2
    have h2 := H.1
    replace H := H.2
    have h3 := H.1
    replace H := H.2
    have h4 := H.1
    replace H := H.2
    have h5 := H.1
    replace H := H.2
    have h6 := H.1
    replace H := H.2
    have h7 := H.1
    replace H := H.2
    have h8 := H.1
    replace H := H.2
    have h9 := H.1
    replace H := H.2
    have h10 := H.1
    replace H := H.2
    have h11 := H.1
    replace H := H.2
    have h14 := H.1
    replace H := H.2
    have n10 := H.1
    replace H := H.2
    have n11 := H.1
    replace H := H.2
    have d6_5 := H.1
    replace H := H.2
    have d7_5 := H.1
    replace H := H.2
    have d8_5 := H.1
    replace H := H.2
    have d12_5 := H.1
    replace H := H.2
    have d13_5 := H.1
    replace H := H.2
    have m5_10 := H.1
    replace H := H.2
    have m5_11 := H.1
    replace H := H.2
    have m10_11 := H.1
    replace H := H.2
    have qB := H
    clear H
    have e0 := h0 (hall 0 (by decide))
    subst e0
    have e1 := h1 (hall 1 (by decide))
    subst e1
    have e2 := h2 (hall 2 (by decide))
    subst e2
    have e3 := h3 (hall 3 (by decide))
    subst e3
    have e4 := h4 (hall 4 (by decide))
    subst e4
    obtain ⟨e5, u5, s5, c5_⟩ := h5 (hall 5 (by decide))
    subst e5
    have e6 := h6 (hall 6 (by decide))
    subst e6
    have e7 := h7 (hall 7 (by decide))
    subst e7
    have e8 := h8 (hall 8 (by decide))
    subst e8
    have e9 := h9 (hall 9 (by decide))
    subst e9
    obtain ⟨e10, u10, -, -, s10⟩ := h10 (hall 10 (by decide))
    replace s10 := s10 (hall 12 (by decide))
    subst e10
    obtain ⟨e11, u11, -, -, s11⟩ := h11 (hall 11 (by decide))
    replace s11 := s11 (hall 13 (by decide))
    subst e11
    have e14 := h14 (hall 14 (by decide))
    subst e14
    replace m5_10 := m5_10 (hall 5 (by decide)) (hall 10 (by decide))
    replace m5_11 := m5_11 (hall 5 (by decide)) (hall 11 (by decide))
    replace m10_11 := m10_11 (hall 10 (by decide)) (hall 11 (by decide))
    clear hall h0 h1 h2 h3 h4 h5 h6 h7 h8 h9 h10 h11 h14 n10 n11 d6_5 d7_5 d8_5 d12_5 d13_5
    try dsimp only
    obtain ⟨hcg, hch, hgh⟩ := c5_
    have n5 : Hid (w4.heap.size < w4b.heap.size ∧ (∀ G, jo5 = some G → w4b.heap.size ≤ G ∧ G ≠ j10 ∧ G ≠ j11) ∧ (∀ G, ju5 = some G → w4b.heap.size ≤ G ∧ G ≠ j10 ∧ G ≠ j11) ∧ (∀ G, jo5 = some G → ju5 ≠ some G) ∧ w4b.heap.size ≤ j10 ∧ w4b.heap.size ≤ j11) :=
      ⟨l9, fun G hG => ⟨u5 (ja5, A, jo5) (by simp) G hG, m5_10 (ja5, A, jo5) (by simp) G hG, m5_11 (ja5, A, jo5) (by simp) G hG⟩, fun G hG => ⟨u5 (jb5, B, ju5) (by simp) G hG, m5_10 (jb5, B, ju5) (by simp) G hG, m5_11 (jb5, B, ju5) (by simp) G hG⟩, hgh, u10, u11⟩
    replace F : Hid (Facts _ [.bel w, .own w.heap.size [.slice ad len cap], .args w.heap.size ad ps, .own (w.heap.size + 1) [.int .i64 g, .int .i64 gh], .has ra6 A ro6, .has rb6 B ru6, .own r11 [.slice ra6 A.length rC6], .own r12 [.slice rb6 B.length rD6], .has (some ⟨Gx, 0, none⟩) ps (some Gx), .own w4.heap.size [.slice (some ⟨Gx, 0, none⟩) len len], .has ja5 A jo5, .has jb5 B ju5, .own j10 [.slice ja5 A.length jC5], .own j11 [.slice jb5 B.length jD5]]) := ((((F.out.below qB).push (f := .has ja5 A jo5) (s5 (ja5, A, jo5) (by simp))).push (f := .has jb5 B ju5) (s5 (jb5, B, ju5) (by simp))).push (f := .own _ _) s10).push (f := .own _ _) s11
    clear lx cx l3 g0 g1 qB u5 s5 s10 s11 u10 u11 m5_10 m5_11 m10_11 hgh l9
    have c11 := (F.out.own 12 rfl).cell 0 _ rfl
    have c5 := (F.out.own 6 rfl).cell 0 _ rfl
    go_wp2_with first
      | (go_at_call 13; refine (e1 _ _ _ _ _ (F.out.has 10 rfl).at (F.out.has 4 rfl).at hcg hcw hL.out.1).mono ?_; clear e1 c11 c5; rintro e w6 ⟨rfl, q⟩; replace F : Hid (Facts _ _) := F.out.below q; clear q; have c12 := (F.out.own 13 rfl).cell 0 _ rfl; have c6 := (F.out.own 7 rfl).cell 0 _ rfl)
      | (go_at_call 13; refine (e1' _ _ _ _ _ (F.out.has 11 rfl).at (F.out.has 5 rfl).at hch hcv hL.out.2).mono ?_; clear e1' c12 c6; rintro e w7 ⟨rfl, q⟩; replace F : Hid (Facts _ _) := F.out.below q; clear q)
    have l1 := (F.out.own 1 rfl).lt
    have c1 := (F.out.own 1 rfl).cell 0 _ rfl
    have l6 := (F.out.own 9 rfl).lt
    have c6 := (F.out.own 9 rfl).cell 0 _ rfl
    refine region_steps (by kernel_rfl) (by kernel_rfl) (by kernel_rfl) (fun A0 f a W => ∃ (x66 : Value) (x67 : Value) (x68 : Value) (x69 : Value) (x70 : Value) (sg2 : Nat), a = { tmps := #[.int .i64 n, .agg #[.slice ad len cap], .int .i64 k, .agg #[.int .i64 g, .int .i64 gh], undef, .pointer (some ⟨w.heap.size, 0, none⟩), undef, .pointer (some ⟨w.heap.size + 1, 0, none⟩), .bool false, .int .i64 L1, .pointer (some ⟨r11, 0, none⟩), .pointer (some ⟨r12, 0, none⟩), .bool K, .pointer (some ⟨w4.heap.size, 0, none⟩), .pointer (some ⟨j10, 0, none⟩), .pointer (some ⟨j11, 0, none⟩), .bool K, undef, undef, undef, undef, undef, undef, .agg #[.slice ad len cap], .int .i64 1048576, .int .i64 L1, .int .i64 L1, .bool (decide (L1 < 0)), .tuple #[.agg #[.slice ra6 A.length rC6], .agg #[.slice rb6 B.length rD6], .bool K], .int .i64 n, .agg #[.slice ad len cap], .agg #[.slice (some ⟨rG2, 0, none⟩) len len], .int .i64 k, .agg #[.int .i64 g, .int .i64 gh], .agg #[.int .i64 g, .int .i64 gh], .tuple #[.agg #[.slice ra6 A.length rC6], .agg #[.slice rb6 B.length rD6], .bool K], .agg #[.slice ra6 A.length rC6], .agg #[.slice rb6 B.length rD6], .bool K, .agg #[.slice ad len cap], .agg #[.slice (some ⟨Gx, 0, none⟩) len len], .tuple #[.agg #[.slice ja5 A.length jC5], .agg #[.slice jb5 B.length jD5], .bool K], .int .i64 n, .agg #[.slice (some ⟨Gx, 0, none⟩) len len], .int .i64 k, .agg #[.int .i64 g, .int .i64 gh], .agg #[.int .i64 g, .int .i64 gh], .tuple #[.agg #[.slice ja5 A.length jC5], .agg #[.slice jb5 B.length jD5], .bool K], .agg #[.slice ja5 A.length jC5], .agg #[.slice jb5 B.length jD5], .bool K, .agg #[.slice ja5 A.length jC5], .agg #[.slice ra6 A.length rC6], .bool true, .bool false, .bool false, .agg #[.slice jb5 B.length jD5], .agg #[.slice rb6 B.length rD6], .bool true, .bool false, .bool false, .bool false, .bool K, .bool K, .bool false, .bool false, x66, x67, x68, x69, x70, undef, undef, undef, undef, undef, undef, undef, undef, undef, undef, undef, undef, undef, undef, undef, undef, undef, undef, undef, undef, undef, undef, undef, undef, undef, undef, undef, undef, undef, undef, undef, undef, undef, undef, undef, undef, undef, undef, undef, undef, undef, undef, undef, undef, undef, undef, undef, undef, undef, undef, undef, undef, undef, undef, undef, undef, undef, undef, undef, undef, undef, undef, undef, undef, undef, undef, undef, undef, undef, undef, undef, undef, undef, undef, undef, undef, undef, undef, undef, undef], defers := [] } ∧ (f 0 = true → x66 = .agg #[.slice (some ⟨Gx, 0, none⟩) len len]) ∧ (f 1 = true → x67 = .agg #[.slice ad len cap]) ∧ (f 2 = true → x68 = .agg #[.slice (some ⟨sg2, 0, none⟩) len len] ∧ w7.heap.size ≤ sg2 ∧ OwnP W sg2 ps) ∧ (f 3 = true → x69 = .bool true) ∧ (f 4 = true → x70 = .bool false) ∧ Below w7.heap.size w7 W) ?_ ⟨?_, ?_, ?_, ?_, ?_, trivial⟩ ?_
    · exact ⟨undef, undef, undef, undef, undef, 0, rfl, (fun h => (by cases h)), (fun h => (by cases h)), (fun h => (by cases h)), (fun h => (by cases h)), (fun h => (by cases h)), (Below.refl _ _).drew⟩
    · rintro f a W ⟨x66, x67, x68, x69, x70, sg2, rfl, h0, h1, h2, h3, h4, hB⟩ hf hd K hK
      have r0 := (hB.cell (p := ⟨w4.heap.size, 0, none⟩) l6).trans c6
      go_simp
      refine hK _ _ ?_
      exact ⟨_, x67, x68, x69, x70, sg2, rfl, fun _ => rfl, fun h => h1 (upd_ne (by decide) h), fun h => h2 (upd_ne (by decide) h), fun h => h3 (upd_ne (by decide) h), fun h => h4 (upd_ne (by decide) h), hB⟩
    · rintro f a W ⟨x66, x67, x68, x69, x70, sg2, rfl, h0, h1, h2, h3, h4, hB⟩ hf hd K hK
      have r0 := (hB.cell (p := ⟨w.heap.size, 0, none⟩) l1).trans c1
      go_simp
      refine hK _ _ ?_
      exact ⟨x66, _, x68, x69, x70, sg2, rfl, fun h => h0 (upd_ne (by decide) h), fun _ => rfl, fun h => h2 (upd_ne (by decide) h), fun h => h3 (upd_ne (by decide) h), fun h => h4 (upd_ne (by decide) h), hB⟩
    · rintro f a W ⟨x66, x67, x68, x69, x70, sg2, rfl, h0, h1, h2, h3, h4, hB⟩ hf hd K hK
      have e1 := h1 (dep_of hd (e := ⟨1, .data⟩) (by simp) rfl)
      subst e1
      go_simp
      refine (toBox _ ad ps len cap hlen ((F.out.args 2 rfl).below hB) hl hm).mono ?_
      rintro e W2 ⟨G, hG, rfl, on, q⟩
      refine hK _ _ ?_
      exact ⟨x66, _, _, x69, x70, G, rfl, fun h => h0 (upd_ne (by decide) h), fun _ => rfl, fun _ => ⟨rfl, Nat.le_trans hB.size hG, on⟩, fun h => h3 (upd_ne (by decide) h), fun h => h4 (upd_ne (by decide) h), hB.trans (q.mono hB.size)⟩
    · rintro f a W ⟨x66, x67, x68, x69, x70, sg2, rfl, h0, h1, h2, h3, h4, hB⟩ hf hd K hK
      have e0 := h0 (dep_of hd (e := ⟨0, .data⟩) (by simp) rfl)
      subst e0
      obtain ⟨e2, u2, o2⟩ := h2 (dep_of hd (e := ⟨2, .data⟩) (by simp) rfl)
      subst e2
      go_simp
      refine (eqBox _ _ _ ps len len len hlen ((F.out.has 8 rfl).at.below hB) (o2.at hw) (Nat.le_refl _) (Nat.le_refl _) hm).mono ?_
      rintro e W2 ⟨rfl, q⟩
      refine hK _ _ ?_
      exact ⟨_, x67, _, _, x70, sg2, rfl, fun _ => rfl, fun h => h1 (upd_ne (by decide) h), fun h => (by obtain ⟨p1, p2, p3⟩ := h2 (upd_ne (by decide) h); exact ⟨p1, p2, p3.below q⟩), fun _ => rfl, fun h => h4 (upd_ne (by decide) h), hB.trans (q.mono hB.size)⟩
    · rintro f a W ⟨x66, x67, x68, x69, x70, sg2, rfl, h0, h1, h2, h3, h4, hB⟩ hf hd K hK
      have e3 := h3 (dep_of hd (e := ⟨3, .data⟩) (by simp) rfl)
      subst e3
      go_simp
      refine hK _ _ ?_
      exact ⟨x66, x67, x68, _, _, sg2, rfl, fun h => h0 (upd_ne (by decide) h), fun h => h1 (upd_ne (by decide) h), fun h => h2 (upd_ne (by decide) h), fun _ => rfl, fun _ => rfl, hB⟩
    rintro f a w7b ⟨x66, x67, x68, x69, x70, sg2, rfl, h0, h1, h2, h3, h4, qB⟩ hall
    have e0 := h0 (hall 0 (by decide))
    subst e0
    have e1 := h1 (hall 1 (by decide))
    subst e1
    obtain ⟨e2, u2, s2⟩ := h2 (hall 2 (by decide))
    subst e2
    have e3 := h3 (hall 3 (by decide))
    subst e3
    have e4 := h4 (hall 4 (by decide))
    subst e4
    clear hall h0 h1 h2 h3 h4
    try dsimp only
    replace F : Hid (Facts _ _) := F.out.below qB
    clear l1 c1 l6 c6 qB
    have c6 := (F.out.own 9 rfl).cell 0 _ rfl
    go_wp2_with first
      | (go_at_call 16; refine (m1 _ _ (F.out.has 8 rfl)).mono ?_; clear m1 c6; rintro e w8 ⟨rfl, hp, q⟩
         have hfr : freeBut (some Gx) 8 [.bel w, .own w.heap.size [.slice ad len cap], .args w.heap.size ad ps, .own (w.heap.size + 1) [.int .i64 g, .int .i64 gh], .has ra6 A ro6, .has rb6 B ru6, .own r11 [.slice ra6 A.length rC6], .own r12 [.slice rb6 B.length rD6], .has (some ⟨Gx, 0, none⟩) ps (some Gx), .own w4.heap.size [.slice (some ⟨Gx, 0, none⟩) len len], .has ja5 A jo5, .has jb5 B ju5, .own j10 [.slice ja5 A.length jC5], .own j11 [.slice jb5 B.length jD5]] := by
           obtain ⟨n3a, n3b, n3c, n3d⟩ := n3.out
           have n4' := n4.out
           obtain ⟨n5a, n5b, n5c, n5d, n5e, n5f⟩ := n5.out
           simp only [freeBut, freeAll, Fact.free, and_true]
           exact ⟨fun G hG => by have := Option.some.inj hG; omega, fun hG => by have := Option.some.inj hG; omega, fun G hG => by have := Option.some.inj hG; omega, fun hG => by have := Option.some.inj hG; omega, fun G hG hG' => by have := Option.some.inj hG'; have := n3a G hG; omega, fun G hG hG' => by have := Option.some.inj hG'; have := n3b G hG; omega, fun hG => by have := Option.some.inj hG; omega, fun hG => by have := Option.some.inj hG; omega, fun hG => by have := Option.some.inj hG; omega, fun G hG hG' => by have := Option.some.inj hG'; have := n5b G hG; omega, fun G hG hG' => by have := Option.some.inj hG'; have := n5c G hG; omega, fun hG => by have := Option.some.inj hG; omega, fun hG => by have := Option.some.inj hG; omega⟩
         replace F : Hid (Facts _ [.bel w, .own w.heap.size [.slice ad len cap], .args w.heap.size ad ps, .own (w.heap.size + 1) [.int .i64 g, .int .i64 gh], .has ra6 A ro6, .has rb6 B ru6, .own r11 [.slice ra6 A.length rC6], .own r12 [.slice rb6 B.length rD6], .has (some ⟨Gx, 0, none⟩) (marks 1 len) (some Gx), .own w4.heap.size [.slice (some ⟨Gx, 0, none⟩) len len], .has ja5 A jo5, .has jb5 B ju5, .own j10 [.slice ja5 A.length jC5], .own j11 [.slice jb5 B.length jD5]]) := F.out.marked q 8 hfr (f2 := .has _ _ _) hp
         clear q hp hfr; have c11 := (F.out.own 12 rfl).cell 0 _ rfl; have c5 := (F.out.own 6 rfl).cell 0 _ rfl)
      | (go_at_call 13; refine (e2 _ _ _ _ _ (F.out.has 10 rfl).at (F.out.has 4 rfl).at hcg hcw hL.out.1).mono ?_; clear e2 c11 c5; rintro e w9 ⟨rfl, q⟩; replace F : Hid (Facts _ _) := F.out.below q; clear q; have c12 := (F.out.own 13 rfl).cell 0 _ rfl; have c6 := (F.out.own 7 rfl).cell 0 _ rfl)
      | (go_at_call 13; refine (e2' _ _ _ _ _ (F.out.has 11 rfl).at (F.out.has 5 rfl).at hch hcv hL.out.2).mono ?_; clear e2' c12 c6; rintro e w9' ⟨rfl, q⟩; replace F : Hid (Facts _ _) := F.out.below q; clear q; have c11 := (F.out.own 12 rfl).cell 0 _ rfl)
      | (go_at_call 16; refine (m2 _ _ _ _ (F.out.has 10 rfl) hcg).mono ?_; clear m2 c11; rintro e w10 ⟨rfl, hp, q⟩
         have hfr : freeBut (jo5) 10 [.bel w, .own w.heap.size [.slice ad len cap], .args w.heap.size ad ps, .own (w.heap.size + 1) [.int .i64 g, .int .i64 gh], .has ra6 A ro6, .has rb6 B ru6, .own r11 [.slice ra6 A.length rC6], .own r12 [.slice rb6 B.length rD6], .has (some ⟨Gx, 0, none⟩) (marks 1 len) (some Gx), .own w4.heap.size [.slice (some ⟨Gx, 0, none⟩) len len], .has ja5 A jo5, .has jb5 B ju5, .own j10 [.slice ja5 A.length jC5], .own j11 [.slice jb5 B.length jD5]] := by
           obtain ⟨n3a, n3b, n3c, n3d⟩ := n3.out
           have n4' := n4.out
           obtain ⟨n5a, n5b, n5c, n5d, n5e, n5f⟩ := n5.out
           simp only [freeBut, freeAll, Fact.free, and_true]
           exact ⟨fun G hG => by have := n5b G hG; omega, fun hG => by have := n5b _ hG; omega, fun G hG => by have := n5b G hG; omega, fun hG => by have := n5b _ hG; omega, fun G hG hG' => by have := n5b G hG'; have := n3a G hG; omega, fun G hG hG' => by have := n5b G hG'; have := n3b G hG; omega, fun hG => by have := n5b _ hG; omega, fun hG => by have := n5b _ hG; omega, fun G hG hG' => by have := n5b G hG'; have := Option.some.inj hG; omega, fun hG => by have := n5b _ hG; omega, fun G hG hG' => n5d G hG' hG, fun hG => by have := n5b _ hG; omega, fun hG => by have := n5b _ hG; omega⟩
         replace F : Hid (Facts _ [.bel w, .own w.heap.size [.slice ad len cap], .args w.heap.size ad ps, .own (w.heap.size + 1) [.int .i64 g, .int .i64 gh], .has ra6 A ro6, .has rb6 B ru6, .own r11 [.slice ra6 A.length rC6], .own r12 [.slice rb6 B.length rD6], .has (some ⟨Gx, 0, none⟩) (marks 1 len) (some Gx), .own w4.heap.size [.slice (some ⟨Gx, 0, none⟩) len len], .has ja5 (marks 1 A.length) jo5, .has jb5 B ju5, .own j10 [.slice ja5 A.length jC5], .own j11 [.slice jb5 B.length jD5]]) := F.out.marked q 10 hfr (f2 := .has _ _ _) hp
         clear q hp hfr; have c12 := (F.out.own 13 rfl).cell 0 _ rfl)
      | (go_at_call 16; refine (m3 _ _ _ _ (F.out.has 11 rfl) hch).mono ?_; clear m3 c12; rintro e w10' ⟨rfl, hp, q⟩
         have hfr : freeBut (ju5) 11 [.bel w, .own w.heap.size [.slice ad len cap], .args w.heap.size ad ps, .own (w.heap.size + 1) [.int .i64 g, .int .i64 gh], .has ra6 A ro6, .has rb6 B ru6, .own r11 [.slice ra6 A.length rC6], .own r12 [.slice rb6 B.length rD6], .has (some ⟨Gx, 0, none⟩) (marks 1 len) (some Gx), .own w4.heap.size [.slice (some ⟨Gx, 0, none⟩) len len], .has ja5 (marks 1 A.length) jo5, .has jb5 B ju5, .own j10 [.slice ja5 A.length jC5], .own j11 [.slice jb5 B.length jD5]] := by
           obtain ⟨n3a, n3b, n3c, n3d⟩ := n3.out
           have n4' := n4.out
           obtain ⟨n5a, n5b, n5c, n5d, n5e, n5f⟩ := n5.out
           simp only [freeBut, freeAll, Fact.free, and_true]
           exact ⟨fun G hG => by have := n5c G hG; omega, fun hG => by have := n5c _ hG; omega, fun G hG => by have := n5c G hG; omega, fun hG => by have := n5c _ hG; omega, fun G hG hG' => by have := n5c G hG'; have := n3a G hG; omega, fun G hG hG' => by have := n5c G hG'; have := n3b G hG; omega, fun hG => by have := n5c _ hG; omega, fun hG => by have := n5c _ hG; omega, fun G hG hG' => by have := n5c G hG'; have := Option.some.inj hG; omega, fun hG => by have := n5c _ hG; omega, fun G hG hG' => n5d G hG hG', fun hG => by have := n5c _ hG; omega, fun hG => by have := n5c _ hG; omega⟩
         replace F : Hid (Facts _ [.bel w, .own w.heap.size [.slice ad len cap], .args w.heap.size ad ps, .own (w.heap.size + 1) [.int .i64 g, .int .i64 gh], .has ra6 A ro6, .has rb6 B ru6, .own r11 [.slice ra6 A.length rC6], .own r12 [.slice rb6 B.length rD6], .has (some ⟨Gx, 0, none⟩) (marks 1 len) (some Gx), .own w4.heap.size [.slice (some ⟨Gx, 0, none⟩) len len], .has ja5 (marks 1 A.length) jo5, .has jb5 (marks (1 + 2 * (A.length : Int)) B.length) ju5, .own j10 [.slice ja5 A.length jC5], .own j11 [.slice jb5 B.length jD5]]) := F.out.marked q 11 hfr (f2 := .has _ _ _) hp
         clear q hp hfr; have c11 := (F.out.own 12 rfl).cell 0 _ rfl)
      | (go_at_call 17; refine (d1 _ _ _ (F.out.has 10 rfl).at hcg).mono ?_; clear d1 c11; rintro e w11 ⟨rfl, q⟩; replace F : Hid (Facts _ _) := F.out.below q; clear q; have c12 := (F.out.own 13 rfl).cell 0 _ rfl)
      | (go_at_call 17; refine (d2 _ _ _ (F.out.has 11 rfl).at hch).mono ?_; clear d2 c12; rintro e WB ⟨rfl, q⟩; replace F : Hid (Facts _ _) := F.out.below q; clear q)
    have l1 := (F.out.own 1 rfl).lt
    have c1 := (F.out.own 1 rfl).cell 0 _ rfl
    have l3 := (F.out.own 3 rfl).lt
    have g0 := (F.out.own 3 rfl).cell 0 _ rfl
    have g1 := (F.out.own 3 rfl).cell 1 _ rfl
    refine region_steps (by kernel_rfl) (by kernel_rfl) (by kernel_rfl) (fun A0 f a W => ∃ (x113 : Value) (x114 : Value) (x115 : Value) (x116 : Value) (x117 : Value) (x118 : Value) (x119 : Value) (x112 : Value) (x120 : Value) (x121 : Value) (x122 : Value) (x20 : Value) (x21 : Value) (x22 : Value) (v11 : Nat) (v12 : Nat) (vG2 : Nat) (va6 : Option Addr) (vC6 : Nat) (vo6 : Option Nat) (vb6 : Option Addr) (vD6 : Nat) (vu6 : Option Nat), a = { tmps := #[.int .i64 n, .agg #[.slice ad len cap], .int .i64 k, .agg #[.int .i64 g, .int .i64 gh], undef, .pointer (some ⟨w.heap.size, 0, none⟩), undef, .pointer (some ⟨w.heap.size + 1, 0, none⟩), .bool false, .int .i64 L1, .pointer (some ⟨r11, 0, none⟩), .pointer (some ⟨r12, 0, none⟩), .bool K, .pointer (some ⟨w4.heap.size, 0, none⟩), .pointer (some ⟨j10, 0, none⟩), .pointer (some ⟨j11, 0, none⟩), .bool K, .int .i64 (1 + 2 * (len : Int)), .int .i64 (1 + 2 * (A.length : Int) + 2 * (B.length : Int)), .int .i64 (1 + 2 * (A.length : Int) + 2 * (B.length : Int)), x20, x21, x22, .agg #[.slice ad len cap], .int .i64 1048576, .int .i64 L1, .int .i64 L1, .bool (decide (L1 < 0)), .tuple #[.agg #[.slice ra6 A.length rC6], .agg #[.slice rb6 B.length rD6], .bool K], .int .i64 n, .agg #[.slice ad len cap], .agg #[.slice (some ⟨rG2, 0, none⟩) len len], .int .i64 k, .agg #[.int .i64 g, .int .i64 gh], .agg #[.int .i64 g, .int .i64 gh], .tuple #[.agg #[.slice ra6 A.length rC6], .agg #[.slice rb6 B.length rD6], .bool K], .agg #[.slice ra6 A.length rC6], .agg #[.slice rb6 B.length rD6], .bool K, .agg #[.slice ad len cap], .agg #[.slice (some ⟨Gx, 0, none⟩) len len], .tuple #[.agg #[.slice ja5 A.length jC5], .agg #[.slice jb5 B.length jD5], .bool K], .int .i64 n, .agg #[.slice (some ⟨Gx, 0, none⟩) len len], .int .i64 k, .agg #[.int .i64 g, .int .i64 gh], .agg #[.int .i64 g, .int .i64 gh], .tuple #[.agg #[.slice ja5 A.length jC5], .agg #[.slice jb5 B.length jD5], .bool K], .agg #[.slice ja5 A.length jC5], .agg #[.slice jb5 B.length jD5], .bool K, .agg #[.slice ja5 A.length jC5], .agg #[.slice ra6 A.length rC6], .bool true, .bool false, .bool false, .agg #[.slice jb5 B.length jD5], .agg #[.slice rb6 B.length rD6], .bool true, .bool false, .bool false, .bool false, .bool K, .bool K, .bool false, .bool false, .agg #[.slice (some ⟨Gx, 0, none⟩) len len], .agg #[.slice ad len cap], .agg #[.slice (some ⟨sg2, 0, none⟩) len len], .bool true, .bool false, .agg #[.slice (some ⟨Gx, 0, none⟩) len len], .int .i64 1, .int .i64 (1 + 2 * (len : Int)), .int .i64 (1 + 2 * (len : Int)), .bool (decide (1 + 2 * (len : Int) < 0)), .bool (decide (1 + 2 * (len : Int) < 0)), .agg #[.slice ja5 A.length jC5], .agg #[.slice ra6 A.length rC6], .bool true, .bool false, .bool (decide (1 + 2 * (len : Int) < 0)), .bool (decide (1 + 2 * (len : Int) < 0)), .agg #[.slice jb5 B.length jD5], .agg #[.slice rb6 B.length rD6], .bool true, .bool false, .bool (decide (1 + 2 * (len : Int) < 0)), .bool (decide (1 + 2 * (len : Int) < 0)), .bool K, .bool K, .bool false, .bool (decide (1 + 2 * (len : Int) < 0)), .agg #[.slice ja5 A.length jC5], .int .i64 1, .int .i64 (1 + 2 * (A.length : Int)), .agg #[.slice jb5 B.length jD5], .int .i64 (1 + 2 * (A.length : Int)), .int .i64 (1 + 2 * (A.length : Int) + 2 * (B.length : Int)), .agg #[.slice ja5 A.length jC5], .int .i64 1, .int .i64 (1 + 2 * (A.length : Int)), .int .i64 (1 + 2 * (A.length : Int)), .bool (decide (1 + 2 * (A.length : Int) < 0)), .agg #[.slice jb5 B.length jD5], .int .i64 (1 + 2 * (A.length : Int)), .int .i64 (1 + 2 * (A.length : Int) + 2 * (B.length : Int)), .int .i64 (1 + 2 * (A.length : Int) + 2 * (B.length : Int)), .bool (decide (1 + 2 * (A.length : Int) + 2 * (B.length : Int) < 0)), .int .i64 (1 + 2 * (A.length : Int) + 2 * (B.length : Int)), .int .i64 (1 + 2 * (A.length : Int) + 2 * (B.length : Int)), .bool false, x112, x113, x114, x115, x116, x117, x118, x119, x120, x121, x122, undef, undef, undef, undef, undef, undef, undef, undef, undef, undef, undef, undef, undef, undef, undef, undef, undef, undef, undef, undef, undef, undef, undef, undef, undef, undef, undef, undef], defers := [] } ∧ (f 0 = true → x113 = .int .i64 n) ∧ (f 1 = true → x114 = .agg #[.slice ad len cap]) ∧ (f 2 = true → x115 = .agg #[.slice (some ⟨vG2, 0, none⟩) len len] ∧ WB.heap.size ≤ vG2 ∧ OwnP W vG2 (ps) ∧ True) ∧ (f 3 = true → x116 = .int .i64 k) ∧ (f 4 = true → x117 = .agg #[.int .i64 g, .int .i64 gh]) ∧ (f 5 = true → x118 = .agg #[.int .i64 g, .int .i64 gh]) ∧ (f 6 = true → x119 = .tuple #[.agg #[.slice va6 A.length vC6], .agg #[.slice vb6 B.length vD6], .bool K] ∧ (∀ c ∈ [(va6, A, vo6), (vb6, B, vu6)], ∀ G, c.2.2 = some G → WB.heap.size ≤ G) ∧ HasL W [(va6, A, vo6), (vb6, B, vu6)] ∧ A.length ≤ vC6 ∧ B.length ≤ vD6 ∧ (∀ G, vo6 = some G → vu6 ≠ some G)) ∧ (f 7 = true → x112 = .tuple #[.agg #[.slice va6 A.length vC6], .agg #[.slice vb6 B.length vD6], .bool K]) ∧ (f 8 = true → x120 = .agg #[.slice va6 A.length vC6]) ∧ (f 9 = true → x121 = .agg #[.slice vb6 B.length vD6]) ∧ (f 10 = true → x122 = .bool K) ∧ (f 11 = true → x20 = .pointer (some ⟨v11, 0, none⟩) ∧ WB.heap.size ≤ v11 ∧ v11 < W.heap.size ∧ (f 13 = false → Own W v11 [.slice none 0 0]) ∧ (f 13 = true → Own W v11 [.slice va6 A.length vC6])) ∧ (f 12 = true → x21 = .pointer (some ⟨v12, 0, none⟩) ∧ WB.heap.size ≤ v12 ∧ v12 < W.heap.size ∧ (f 14 = false → Own W v12 [.slice none 0 0]) ∧ (f 14 = true → Own W v12 [.slice vb6 B.length vD6])) ∧ (f 15 = true → x22 = .bool K) ∧ (f 13 = true → f 11 = true) ∧ (f 14 = true → f 12 = true) ∧ (f 7 = true → f 6 = true) ∧ (f 8 = true → f 6 = true) ∧ (f 9 = true → f 6 = true) ∧ (f 13 = true → f 6 = true) ∧ (f 14 = true → f 6 = true) ∧ (f 2 = true → f 6 = true → (∀ c ∈ [(va6, A, vo6), (vb6, B, vu6)], ∀ G, c.2.2 = some G → G ≠ vG2)) ∧ (f 2 = true → f 11 = true → v11 ≠ vG2) ∧ (f 2 = true → f 12 = true → v12 ≠ vG2) ∧ (f 6 = true → f 11 = true → (∀ c ∈ [(va6, A, vo6), (vb6, B, vu6)], ∀ G, c.2.2 = some G → G ≠ v11)) ∧ (f 6 = true → f 12 = true → (∀ c ∈ [(va6, A, vo6), (vb6, B, vu6)], ∀ G, c.2.2 = some G → G ≠ v12)) ∧ (f 11 = true → f 12 = true → v11 ≠ v12) ∧ Below WB.heap.size WB W) ?_ ⟨?_, ?_, ?_, ?_, ?_, ?_, ?_, ?_, ?_, ?_, ?_, ?_, ?_, ?_, ?_, ?_, trivial⟩ ?_
    · exact ⟨undef, undef, undef, undef, undef, undef, undef, undef, undef, undef, undef, undef, undef, undef, 0, 0, 0, none, 0, none, none, 0, none, rfl, (fun h => (by cases h)), (fun h => (by cases h)), (fun h => (by cases h)), (fun h => (by cases h)), (fun h => (by cases h)), (fun h => (by cases h)), (fun h => (by cases h)), (fun h => (by cases h)), (fun h => (by cases h)), (fun h => (by cases h)), (fun h => (by cases h)), (fun h => (by cases h)), (fun h => (by cases h)), (fun h => (by cases h)), (fun h => (by cases h)), (fun h => (by cases h)), (fun h => (by cases h)), (fun h => (by cases h)), (fun h => (by cases h)), (fun h => (by cases h)), (fun h => (by cases h)), (fun h => (by cases h)), (fun h => (by cases h)), (fun h => (by cases h)), (fun h => (by cases h)), (fun h => (by cases h)), (fun h => (by cases h)), (Below.refl _ _).drew⟩
    · rintro f a W ⟨x113, x114, x115, x116, x117, x118, x119, x112, x120, x121, x122, x20, x21, x22, v11, v12, vG2, va6, vC6, vo6, vb6, vD6, vu6, rfl, H⟩ hf hd K hK
      have h0 := H.1
      replace H := H.2
      have h1 := H.1
      replace H := H.2
      have h2 := H.1
      replace H := H.2
      have h3 := H.1
      replace H := H.2
      have h4 := H.1
      replace H := H.2
      have h5 := H.1
      replace H := H.2
      have h6 := H.1
      replace H := H.2
      have h7 := H.1
      replace H := H.2
      have h8 := H.1
      replace H := H.2
      have h9 := H.1
      replace H := H.2
      have h10 := H.1
      replace H := H.2
      have h11 := H.1
      replace H := H.2
      have h12 := H.1
      replace H := H.2
      have h15 := H.1
      replace H := H.2
      have n11 := H.1
      replace H := H.2
      have n12 := H.1
      replace H := H.2
      have d7_6 := H.1
      replace H := H.2
      have d8_6 := H.1
      replace H := H.2
      have d9_6 := H.1
      replace H := H.2
      have d13_6 := H.1
      replace H := H.2
      have d14_6 := H.1
      replace H := H.2
      have m2_6 := H.1
      replace H := H.2
      have m2_11 := H.1
      replace H := H.2
      have m2_12 := H.1
      replace H := H.2
      have m6_11 := H.1
      replace H := H.2
      have m6_12 := H.1
      replace H := H.2
      have m11_12 := H.1
      replace H := H.2
      have hB := H
      clear H
      go_simp
      refine hK _ _ ?_
      exact ⟨_, x114, x115, x116, x117, x118, x119, x112, x120, x121, x122, x20, x21, x22, v11, v12, vG2, va6, vC6, vo6, vb6, vD6, vu6, rfl, fun _ => rfl, fun h => h1 (upd_ne (by decide) h), fun h => h2 (upd_ne (by decide) h), fun h => h3 (upd_ne (by decide) h), fun h => h4 (upd_ne (by decide) h), fun h => h5 (upd_ne (by decide) h), fun h => h6 (upd_ne (by decide) h), fun h => h7 (upd_ne (by decide) h), fun h => h8 (upd_ne (by decide) h), fun h => h9 (upd_ne (by decide) h), fun h => h10 (upd_ne (by decide) h), fun h => (by obtain ⟨p1, p2, p3, p4, p5⟩ := h11 (upd_ne (by decide) h); exact ⟨p1, p2, p3, fun h' => p4 (by rw [upd_same (by decide)] at h'; exact h'), fun h' => p5 (upd_ne (by decide) h')⟩), fun h => (by obtain ⟨p1, p2, p3, p4, p5⟩ := h12 (upd_ne (by decide) h); exact ⟨p1, p2, p3, fun h' => p4 (by rw [upd_same (by decide)] at h'; exact h'), fun h' => p5 (upd_ne (by decide) h')⟩), fun h => h15 (upd_ne (by decide) h), fun h => upd_of (n11 (upd_ne (by decide) h)), fun h => upd_of (n12 (upd_ne (by decide) h)), fun h => upd_of (d7_6 (upd_ne (by decide) h)), fun h => upd_of (d8_6 (upd_ne (by decide) h)), fun h => upd_of (d9_6 (upd_ne (by decide) h)), fun h => upd_of (d13_6 (upd_ne (by decide) h)), fun h => upd_of (d14_6 (upd_ne (by decide) h)), fun h h' => m2_6 (upd_ne (by decide) h) (upd_ne (by decide) h'), fun h h' => m2_11 (upd_ne (by decide) h) (upd_ne (by decide) h'), fun h h' => m2_12 (upd_ne (by decide) h) (upd_ne (by decide) h'), fun h h' => m6_11 (upd_ne (by decide) h) (upd_ne (by decide) h'), fun h h' => m6_12 (upd_ne (by decide) h) (upd_ne (by decide) h'), fun h h' => m11_12 (upd_ne (by decide) h) (upd_ne (by decide) h'), hB⟩
    · rintro f a W ⟨x113, x114, x115, x116, x117, x118, x119, x112, x120, x121, x122, x20, x21, x22, v11, v12, vG2, va6, vC6, vo6, vb6, vD6, vu6, rfl, H⟩ hf hd K hK
      have h0 := H.1
      replace H := H.2
      have h1 := H.1
      replace H := H.2
      have h2 := H.1
      replace H := H.2
      have h3 := H.1
      replace H := H.2
      have h4 := H.1
      replace H := H.2
      have h5 := H.1
      replace H := H.2
      have h6 := H.1
      replace H := H.2
      have h7 := H.1
      replace H := H.2
      have h8 := H.1
      replace H := H.2
      have h9 := H.1
      replace H := H.2
      have h10 := H.1
      replace H := H.2
      have h11 := H.1
      replace H := H.2
      have h12 := H.1
      replace H := H.2
      have h15 := H.1
      replace H := H.2
      have n11 := H.1
      replace H := H.2
      have n12 := H.1
      replace H := H.2
      have d7_6 := H.1
      replace H := H.2
      have d8_6 := H.1
      replace H := H.2
      have d9_6 := H.1
      replace H := H.2
      have d13_6 := H.1
      replace H := H.2
      have d14_6 := H.1
      replace H := H.2
      have m2_6 := H.1
      replace H := H.2
      have m2_11 := H.1
      replace H := H.2
      have m2_12 := H.1
      replace H := H.2
      have m6_11 := H.1
      replace H := H.2
      have m6_12 := H.1
      replace H := H.2
      have m11_12 := H.1
      replace H := H.2
      have hB := H
      clear H
      have r0 := (hB.cell (p := ⟨w.heap.size, 0, none⟩) l1).trans c1
      go_simp
      refine hK _ _ ?_
      exact ⟨x113, _, x115, x116, x117, x118, x119, x112, x120, x121, x122, x20, x21, x22, v11, v12, vG2, va6, vC6, vo6, vb6, vD6, vu6, rfl, fun h => h0 (upd_ne (by decide) h), fun _ => rfl, fun h => h2 (upd_ne (by decide) h), fun h => h3 (upd_ne (by decide) h), fun h => h4 (upd_ne (by decide) h), fun h => h5 (upd_ne (by decide) h), fun h => h6 (upd_ne (by decide) h), fun h => h7 (upd_ne (by decide) h), fun h => h8 (upd_ne (by decide) h), fun h => h9 (upd_ne (by decide) h), fun h => h10 (upd_ne (by decide) h), fun h => (by obtain ⟨p1, p2, p3, p4, p5⟩ := h11 (upd_ne (by decide) h); exact ⟨p1, p2, p3, fun h' => p4 (by rw [upd_same (by decide)] at h'; exact h'), fun h' => p5 (upd_ne (by decide) h')⟩), fun h => (by obtain ⟨p1, p2, p3, p4, p5⟩ := h12 (upd_ne (by decide) h); exact ⟨p1, p2, p3, fun h' => p4 (by rw [upd_same (by decide)] at h'; exact h'), fun h' => p5 (upd_ne (by decide) h')⟩), fun h => h15 (upd_ne (by decide) h), fun h => upd_of (n11 (upd_ne (by decide) h)), fun h => upd_of (n12 (upd_ne (by decide) h)), fun h => upd_of (d7_6 (upd_ne (by decide) h)), fun h => upd_of (d8_6 (upd_ne (by decide) h)), fun h => upd_of (d9_6 (upd_ne (by decide) h)), fun h => upd_of (d13_6 (upd_ne (by decide) h)), fun h => upd_of (d14_6 (upd_ne (by decide) h)), fun h h' => m2_6 (upd_ne (by decide) h) (upd_ne (by decide) h'), fun h h' => m2_11 (upd_ne (by decide) h) (upd_ne (by decide) h'), fun h h' => m2_12 (upd_ne (by decide) h) (upd_ne (by decide) h'), fun h h' => m6_11 (upd_ne (by decide) h) (upd_ne (by decide) h'), fun h h' => m6_12 (upd_ne (by decide) h) (upd_ne (by decide) h'), fun h h' => m11_12 (upd_ne (by decide) h) (upd_ne (by decide) h'), hB⟩
    · rintro f a W ⟨x113, x114, x115, x116, x117, x118, x119, x112, x120, x121, x122, x20, x21, x22, v11, v12, vG2, va6, vC6, vo6, vb6, vD6, vu6, rfl, H⟩ hf hd K hK
      have h0 := H.1
      replace H := H.2
      have h1 := H.1
      replace H := H.2
      have h2 := H.1
      replace H := H.2
      have h3 := H.1
      replace H := H.2
      have h4 := H.1
      replace H := H.2
      have h5 := H.1
      replace H := H.2
      have h6 := H.1
      replace H := H.2
      have h7 := H.1
      replace H := H.2
      have h8 := H.1
      replace H := H.2
      have h9 := H.1
      replace H := H.2
      have h10 := H.1
      replace H := H.2
      have h11 := H.1
      replace H := H.2
      have h12 := H.1
      replace H := H.2
      have h15 := H.1
      replace H := H.2
      have n11 := H.1
      replace H := H.2
      have n12 := H.1
      replace H := H.2
      have d7_6 := H.1
      replace H := H.2
      have d8_6 := H.1
      replace H := H.2
      have d9_6 := H.1
      replace H := H.2
      have d13_6 := H.1
      replace H := H.2
      have d14_6 := H.1
      replace H := H.2
      have m2_6 := H.1
      replace H := H.2
      have m2_11 := H.1
      replace H := H.2
      have m2_12 := H.1
      replace H := H.2
      have m6_11 := H.1
      replace H := H.2
      have m6_12 := H.1
      replace H := H.2
      have m11_12 := H.1
      replace H := H.2
      have hB := H
      clear H
      have e1 := h1 (dep_of hd (e := ⟨1, .data⟩) (by simp) rfl)
      subst e1
      go_simp
      refine (toBox _ ad ps len cap hlen ((F.out.args 2 rfl).below hB) hl hm).mono ?_
      rintro e W2 ⟨G_, hG, rfl, on, q⟩
      refine hK _ _ ?_
      exact ⟨x113, _, _, x116, x117, x118, x119, x112, x120, x121, x122, x20, x21, x22, v11, v12, G_, va6, vC6, vo6, vb6, vD6, vu6, rfl, fun h => h0 (upd_ne (by decide) h), fun _ => rfl, fun _ => ⟨rfl, Nat.le_trans hB.size hG, on, trivial⟩, fun h => h3 (upd_ne (by decide) h), fun h => h4 (upd_ne (by decide) h), fun h => h5 (upd_ne (by decide) h), fun h => (by obtain ⟨p1, p2, p3, p4⟩ := h6 (upd_ne (by decide) h); exact ⟨p1, p2, p3.below q, p4⟩), fun h => h7 (upd_ne (by decide) h), fun h => h8 (upd_ne (by decide) h), fun h => h9 (upd_ne (by decide) h), fun h => h10 (upd_ne (by decide) h), fun h => (by obtain ⟨p1, p2, p3, p4, p5⟩ := h11 (upd_ne (by decide) h); exact ⟨p1, p2, Nat.lt_of_lt_of_le (p3) q.size, fun h' => (p4 (by rw [upd_same (by decide)] at h'; exact h')).below q, fun h' => (p5 (upd_ne (by decide) h')).below q⟩), fun h => (by obtain ⟨p1, p2, p3, p4, p5⟩ := h12 (upd_ne (by decide) h); exact ⟨p1, p2, Nat.lt_of_lt_of_le (p3) q.size, fun h' => (p4 (by rw [upd_same (by decide)] at h'; exact h')).below q, fun h' => (p5 (upd_ne (by decide) h')).below q⟩), fun h => h15 (upd_ne (by decide) h), fun h => upd_of (n11 (upd_ne (by decide) h)), fun h => upd_of (n12 (upd_ne (by decide) h)), fun h => upd_of (d7_6 (upd_ne (by decide) h)), fun h => upd_of (d8_6 (upd_ne (by decide) h)), fun h => upd_of (d9_6 (upd_ne (by decide) h)), fun h => upd_of (d13_6 (upd_ne (by decide) h)), fun h => upd_of (d14_6 (upd_ne (by decide) h)), fun _ h => (by obtain ⟨-, -, p3, -⟩ := h6 (upd_ne (by decide) h); intro c hc G h1; have p4 := p3.lt c hc G h1; omega), fun _ h => (by obtain ⟨-, -, p3, -, -⟩ := h11 (upd_ne (by decide) h); omega), fun _ h => (by obtain ⟨-, -, p3, -, -⟩ := h12 (upd_ne (by decide) h); omega), fun h h' => m6_11 (upd_ne (by decide) h) (upd_ne (by decide) h'), fun h h' => m6_12 (upd_ne (by decide) h) (upd_ne (by decide) h'), fun h h' => m11_12 (upd_ne (by decide) h) (upd_ne (by decide) h'), hB.trans (q.mono hB.size)⟩
    · rintro f a W ⟨x113, x114, x115, x116, x117, x118, x119, x112, x120, x121, x122, x20, x21, x22, v11, v12, vG2, va6, vC6, vo6, vb6, vD6, vu6, rfl, H⟩ hf hd K hK
      have h0 := H.1
      replace H := H.2
      have h1 := H.1
      replace H := H.2
      have h2 := H.1
      replace H := H.2
      have h3 := H.1
      replace H := H.2
      have h4 := H.1
      replace H := H.2
      have h5 := H.1
      replace H := H.2
      have h6 := H.1
      replace H := H.2
      have h7 := H.1
      replace H := H.2
      have h8 := H.1
      replace H := H.2
      have h9 := H.1
      replace H := H.2
      have h10 := H.1
      replace H := H.2
      have h11 := H.1
      replace H := H.2
      have h12 := H.1
      replace H := H.2
      have h15 := H.1
      replace H := H.2
      have n11 := H.1
      replace H := H.2
      have n12 := H.1
      replace H := H.2
      have d7_6 := H.1
      replace H := H.2
      have d8_6 := H.1
      replace H := H.2
      have d9_6 := H.1
      replace H := H.2
      have d13_6 := H.1
      replace H := H.2
      have d14_6 := H.1
      replace H := H.2
      have m2_6 := H.1
      replace H := H.2
      have m2_11 := H.1
      replace H := H.2
      have m2_12 := H.1
      replace H := H.2
      have m6_11 := H.1
      replace H := H.2
      have m6_12 := H.1
      replace H := H.2
      have m11_12 := H.1
      replace H := H.2
      have hB := H
      clear H
      go_simp
      refine hK _ _ ?_
      exact ⟨x113, x114, x115, _, x117, x118, x119, x112, x120, x121, x122, x20, x21, x22, v11, v12, vG2, va6, vC6, vo6, vb6, vD6, vu6, rfl, fun h => h0 (upd_ne (by decide) h), fun h => h1 (upd_ne (by decide) h), fun h => h2 (upd_ne (by decide) h), fun _ => rfl, fun h => h4 (upd_ne (by decide) h), fun h => h5 (upd_ne (by decide) h), fun h => h6 (upd_ne (by decide) h), fun h => h7 (upd_ne (by decide) h), fun h => h8 (upd_ne (by decide) h), fun h => h9 (upd_ne (by decide) h), fun h => h10 (upd_ne (by decide) h), fun h => (by obtain ⟨p1, p2, p3, p4, p5⟩ := h11 (upd_ne (by decide) h); exact ⟨p1, p2, p3, fun h' => p4 (by rw [upd_same (by decide)] at h'; exact h'), fun h' => p5 (upd_ne (by decide) h')⟩), fun h => (by obtain ⟨p1, p2, p3, p4, p5⟩ := h12 (upd_ne (by decide) h); exact ⟨p1, p2, p3, fun h' => p4 (by rw [upd_same (by decide)] at h'; exact h'), fun h' => p5 (upd_ne (by decide) h')⟩), fun h => h15 (upd_ne (by decide) h), fun h => upd_of (n11 (upd_ne (by decide) h)), fun h => upd_of (n12 (upd_ne (by decide) h)), fun h => upd_of (d7_6 (upd_ne (by decide) h)), fun h => upd_of (d8_6 (upd_ne (by decide) h)), fun h => upd_of (d9_6 (upd_ne (by decide) h)), fun h => upd_of (d13_6 (upd_ne (by decide) h)), fun h => upd_of (d14_6 (upd_ne (by decide) h)), fun h h' => m2_6 (upd_ne (by decide) h) (upd_ne (by decide) h'), fun h h' => m2_11 (upd_ne (by decide) h) (upd_ne (by decide) h'), fun h h' => m2_12 (upd_ne (by decide) h) (upd_ne (by decide) h'), fun h h' => m6_11 (upd_ne (by decide) h) (upd_ne (by decide) h'), fun h h' => m6_12 (upd_ne (by decide) h) (upd_ne (by decide) h'), fun h h' => m11_12 (upd_ne (by decide) h) (upd_ne (by decide) h'), hB⟩
    · rintro f a W ⟨x113, x114, x115, x116, x117, x118, x119, x112, x120, x121, x122, x20, x21, x22, v11, v12, vG2, va6, vC6, vo6, vb6, vD6, vu6, rfl, H⟩ hf hd K hK
      have h0 := H.1
      replace H := H.2
      have h1 := H.1
      replace H := H.2
      have h2 := H.1
      replace H := H.2
      have h3 := H.1
      replace H := H.2
      have h4 := H.1
      replace H := H.2
      have h5 := H.1
      replace H := H.2
      have h6 := H.1
      replace H := H.2
      have h7 := H.1
      replace H := H.2
      have h8 := H.1
      replace H := H.2
      have h9 := H.1
      replace H := H.2
      have h10 := H.1
      replace H := H.2
      have h11 := H.1
      replace H := H.2
      have h12 := H.1
      replace H := H.2
      have h15 := H.1
      replace H := H.2
      have n11 := H.1
      replace H := H.2
      have n12 := H.1
      replace H := H.2
      have d7_6 := H.1
      replace H := H.2
      have d8_6 := H.1
      replace H := H.2
      have d9_6 := H.1
      replace H := H.2
      have d13_6 := H.1
      replace H := H.2
      have d14_6 := H.1
      replace H := H.2
      have m2_6 := H.1
      replace H := H.2
      have m2_11 := H.1
      replace H := H.2
      have m2_12 := H.1
      replace H := H.2
      have m6_11 := H.1
      replace H := H.2
      have m6_12 := H.1
      replace H := H.2
      have m11_12 := H.1
      replace H := H.2
      have hB := H
      clear H
      have r0 := (hB.cell (p := ⟨w.heap.size + 1, 0, none⟩) l3).trans g0
      have r1 := (hB.cell (p := ⟨w.heap.size + 1, 1, none⟩) l3).trans g1
      go_simp
      refine hK _ _ ?_
      exact ⟨x113, x114, x115, x116, _, x118, x119, x112, x120, x121, x122, x20, x21, x22, v11, v12, vG2, va6, vC6, vo6, vb6, vD6, vu6, rfl, fun h => h0 (upd_ne (by decide) h), fun h => h1 (upd_ne (by decide) h), fun h => h2 (upd_ne (by decide) h), fun h => h3 (upd_ne (by decide) h), fun _ => rfl, fun h => h5 (upd_ne (by decide) h), fun h => h6 (upd_ne (by decide) h), fun h => h7 (upd_ne (by decide) h), fun h => h8 (upd_ne (by decide) h), fun h => h9 (upd_ne (by decide) h), fun h => h10 (upd_ne (by decide) h), fun h => (by obtain ⟨p1, p2, p3, p4, p5⟩ := h11 (upd_ne (by decide) h); exact ⟨p1, p2, p3, fun h' => p4 (by rw [upd_same (by decide)] at h'; exact h'), fun h' => p5 (upd_ne (by decide) h')⟩), fun h => (by obtain ⟨p1, p2, p3, p4, p5⟩ := h12 (upd_ne (by decide) h); exact ⟨p1, p2, p3, fun h' => p4 (by rw [upd_same (by decide)] at h'; exact h'), fun h' => p5 (upd_ne (by decide) h')⟩), fun h => h15 (upd_ne (by decide) h), fun h => upd_of (n11 (upd_ne (by decide) h)), fun h => upd_of (n12 (upd_ne (by decide) h)), fun h => upd_of (d7_6 (upd_ne (by decide) h)), fun h => upd_of (d8_6 (upd_ne (by decide) h)), fun h => upd_of (d9_6 (upd_ne (by decide) h)), fun h => upd_of (d13_6 (upd_ne (by decide) h)), fun h => upd_of (d14_6 (upd_ne (by decide) h)), fun h h' => m2_6 (upd_ne (by decide) h) (upd_ne (by decide) h'), fun h h' => m2_11 (upd_ne (by decide) h) (upd_ne (by decide) h'), fun h h' => m2_12 (upd_ne (by decide) h) (upd_ne (by decide) h'), fun h h' => m6_11 (upd_ne (by decide) h) (upd_ne (by decide) h'), fun h h' => m6_12 (upd_ne (by decide) h) (upd_ne (by decide) h'), fun h h' => m11_12 (upd_ne (by decide) h) (upd_ne (by decide) h'), hB⟩
    · rintro f a W ⟨x113, x114, x115, x116, x117, x118, x119, x112, x120, x121, x122, x20, x21, x22, v11, v12, vG2, va6, vC6, vo6, vb6, vD6, vu6, rfl, H⟩ hf hd K hK
      have h0 := H.1
      replace H := H.2
      have h1 := H.1
      replace H := H.2
      have h2 := H.1
      replace H := H.2
      have h3 := H.1
      replace H := H.2
      have h4 := H.1
      replace H := H.2
      have h5 := H.1
      replace H := H.2
      have h6 := H.1
      replace H := H.2
      have h7 := H.1
      replace H := H.2
      have h8 := H.1
      replace H := H.2
      have h9 := H.1
      replace H := H.2
      have h10 := H.1
      replace H := H.2
      have h11 := H.1
      replace H := H.2
      have h12 := H.1
      replace H := H.2
      have h15 := H.1
      replace H := H.2
      have n11 := H.1
      replace H := H.2
      have n12 := H.1
      replace H := H.2
      have d7_6 := H.1
      replace H := H.2
      have d8_6 := H.1
      replace H := H.2
      have d9_6 := H.1
      replace H := H.2
      have d13_6 := H.1
      replace H := H.2
      have d14_6 := H.1
      replace H := H.2
      have m2_6 := H.1
      replace H := H.2
      have m2_11 := H.1
      replace H := H.2
      have m2_12 := H.1
      replace H := H.2
      have m6_11 := H.1
      replace H := H.2
      have m6_12 := H.1
      replace H := H.2
      have m11_12 := H.1
      replace H := H.2
      have hB := H
      clear H
      have e4 := h4 (dep_of hd (e := ⟨4, .data⟩) (by simp) rfl)
      subst e4
      go_simp
      refine (toPair _ g gh).mono ?_
      rintro e W2 ⟨rfl, q⟩
      refine hK _ _ ?_
      exact ⟨x113, x114, x115, x116, _, _, x119, x112, x120, x121, x122, x20, x21, x22, v11, v12, vG2, va6, vC6, vo6, vb6, vD6, vu6, rfl, fun h => h0 (upd_ne (by decide) h), fun h => h1 (upd_ne (by decide) h), fun h => (by obtain ⟨p1, p2, p3, p4⟩ := h2 (upd_ne (by decide) h); exact ⟨p1, p2, p3.below q, p4⟩), fun h => h3 (upd_ne (by decide) h), fun _ => rfl, fun _ => rfl, fun h => (by obtain ⟨p1, p2, p3, p4⟩ := h6 (upd_ne (by decide) h); exact ⟨p1, p2, p3.below q, p4⟩), fun h => h7 (upd_ne (by decide) h), fun h => h8 (upd_ne (by decide) h), fun h => h9 (upd_ne (by decide) h), fun h => h10 (upd_ne (by decide) h), fun h => (by obtain ⟨p1, p2, p3, p4, p5⟩ := h11 (upd_ne (by decide) h); exact ⟨p1, p2, Nat.lt_of_lt_of_le (p3) q.size, fun h' => (p4 (by rw [upd_same (by decide)] at h'; exact h')).below q, fun h' => (p5 (upd_ne (by decide) h')).below q⟩), fun h => (by obtain ⟨p1, p2, p3, p4, p5⟩ := h12 (upd_ne (by decide) h); exact ⟨p1, p2, Nat.lt_of_lt_of_le (p3) q.size, fun h' => (p4 (by rw [upd_same (by decide)] at h'; exact h')).below q, fun h' => (p5 (upd_ne (by decide) h')).below q⟩), fun h => h15 (upd_ne (by decide) h), fun h => upd_of (n11 (upd_ne (by decide) h)), fun h => upd_of (n12 (upd_ne (by decide) h)), fun h => upd_of (d7_6 (upd_ne (by decide) h)), fun h => upd_of (d8_6 (upd_ne (by decide) h)), fun h => upd_of (d9_6 (upd_ne (by decide) h)), fun h => upd_of (d13_6 (upd_ne (by decide) h)), fun h => upd_of (d14_6 (upd_ne (by decide) h)), fun h h' => m2_6 (upd_ne (by decide) h) (upd_ne (by decide) h'), fun h h' => m2_11 (upd_ne (by decide) h) (upd_ne (by decide) h'), fun h h' => m2_12 (upd_ne (by decide) h) (upd_ne (by decide) h'), fun h h' => m6_11 (upd_ne (by decide) h) (upd_ne (by decide) h'), fun h h' => m6_12 (upd_ne (by decide) h) (upd_ne (by decide) h'), fun h h' => m11_12 (upd_ne (by decide) h) (upd_ne (by decide) h'), hB.trans (q.mono hB.size)⟩
    · rintro f a W ⟨x113, x114, x115, x116, x117, x118, x119, x112, x120, x121, x122, x20, x21, x22, v11, v12, vG2, va6, vC6, vo6, vb6, vD6, vu6, rfl, H⟩ hf hd K hK
      have h0 := H.1
      replace H := H.2
      have h1 := H.1
      replace H := H.2
      have h2 := H.1
      replace H := H.2
      have h3 := H.1
      replace H := H.2
      have h4 := H.1
      replace H := H.2
      have h5 := H.1
      replace H := H.2
      have h6 := H.1
      replace H := H.2
      have h7 := H.1
      replace H := H.2
      have h8 := H.1
      replace H := H.2
      have h9 := H.1
      replace H := H.2
      have h10 := H.1
      replace H := H.2
      have h11 := H.1
      replace H := H.2
      have h12 := H.1
      replace H := H.2
      have h15 := H.1
      replace H := H.2
      have n11 := H.1
      replace H := H.2
      have n12 := H.1
      replace H := H.2
      have d7_6 := H.1
      replace H := H.2
      have d8_6 := H.1
      replace H := H.2
      have d9_6 := H.1
      replace H := H.2
      have d13_6 := H.1
      replace H := H.2
      have d14_6 := H.1
      replace H := H.2
      have m2_6 := H.1
      replace H := H.2
      have m2_11 := H.1
      replace H := H.2
      have m2_12 := H.1
      replace H := H.2
      have m6_11 := H.1
      replace H := H.2
      have m6_12 := H.1
      replace H := H.2
      have m11_12 := H.1
      replace H := H.2
      have hB := H
      clear H
      have e0 := h0 (dep_of hd (e := ⟨0, .data⟩) (by simp) rfl)
      subst e0
      obtain ⟨e2, u2, o2, c2⟩ := h2 (dep_of hd (e := ⟨2, .data⟩) (by simp) rfl)
      subst e2
      have e3 := h3 (dep_of hd (e := ⟨3, .data⟩) (by simp) rfl)
      subst e3
      have e5 := h5 (dep_of hd (e := ⟨5, .data⟩) (by simp) rfl)
      subst e5
      go_simp
      refine (hi2 _ _ (o2.at hw)).mono ?_
      rintro e W2 ⟨a_, C_, o_, b_, D_, u_, rfl, ⟨hc1, hp1, ho1⟩, ⟨hc2, hp2, ho2⟩, hoo, q⟩; have on := HasL.two hp1 hp2; have ho := from_two (a := a_) (b := b_) (ps := A) (qs := B) ho1 ho2
      refine hK _ _ ?_
      exact ⟨_, x114, _, _, x117, _, _, x112, x120, x121, x122, x20, x21, x22, v11, v12, vG2, a_, C_, o_, b_, D_, u_, rfl, fun _ => rfl, fun h => h1 (upd_ne (by decide) h), fun h => (by obtain ⟨p1, p2, p3, p4⟩ := h2 (upd_ne (by decide) h); exact ⟨p1, p2, p3.below q, p4⟩), fun _ => rfl, fun h => h4 (upd_ne (by decide) h), fun _ => rfl, fun _ => ⟨rfl, (fun c hc G hG => Nat.le_trans hB.size (ho c hc G hG)), on, ⟨hc1, hc2, hoo⟩⟩, fun h => absurd (d7_6 (upd_ne (by decide) h)) (by rw [hf]; decide), fun h => absurd (d8_6 (upd_ne (by decide) h)) (by rw [hf]; decide), fun h => absurd (d9_6 (upd_ne (by decide) h)) (by rw [hf]; decide), fun h => h10 (upd_ne (by decide) h), fun h => (by obtain ⟨p1, p2, p3, p4, p5⟩ := h11 (upd_ne (by decide) h); exact ⟨p1, p2, Nat.lt_of_lt_of_le (p3) q.size, fun h' => (p4 (by rw [upd_same (by decide)] at h'; exact h')).below q, fun h' => absurd (d13_6 (upd_ne (by decide) h')) (by rw [hf]; decide)⟩), fun h => (by obtain ⟨p1, p2, p3, p4, p5⟩ := h12 (upd_ne (by decide) h); exact ⟨p1, p2, Nat.lt_of_lt_of_le (p3) q.size, fun h' => (p4 (by rw [upd_same (by decide)] at h'; exact h')).below q, fun h' => absurd (d14_6 (upd_ne (by decide) h')) (by rw [hf]; decide)⟩), fun h => h15 (upd_ne (by decide) h), fun h => upd_of (n11 (upd_ne (by decide) h)), fun h => upd_of (n12 (upd_ne (by decide) h)), fun _ => upd_self, fun _ => upd_self, fun _ => upd_self, fun _ => upd_self, fun _ => upd_self, fun h _ => (by obtain ⟨-, -, p3, -⟩ := h2 (upd_ne (by decide) h); intro c hc G h1; have p4 := ho c hc G h1; have p5 := p3.lt; omega), fun h h' => m2_11 (upd_ne (by decide) h) (upd_ne (by decide) h'), fun h h' => m2_12 (upd_ne (by decide) h) (upd_ne (by decide) h'), fun _ h => (by obtain ⟨-, -, p3, -, -⟩ := h11 (upd_ne (by decide) h); intro c hc G h1; have p4 := ho c hc G h1; omega), fun _ h => (by obtain ⟨-, -, p3, -, -⟩ := h12 (upd_ne (by decide) h); intro c hc G h1; have p4 := ho c hc G h1; omega), fun h h' => m11_12 (upd_ne (by decide) h) (upd_ne (by decide) h'), hB.trans (q.mono hB.size)⟩
    · rintro f a W ⟨x113, x114, x115, x116, x117, x118, x119, x112, x120, x121, x122, x20, x21, x22, v11, v12, vG2, va6, vC6, vo6, vb6, vD6, vu6, rfl, H⟩ hf hd K hK
      have h0 := H.1
      replace H := H.2
      have h1 := H.1
      replace H := H.2
      have h2 := H.1
      replace H := H.2
      have h3 := H.1
      replace H := H.2
      have h4 := H.1
      replace H := H.2
      have h5 := H.1
      replace H := H.2
      have h6 := H.1
      replace H := H.2
      have h7 := H.1
      replace H := H.2
      have h8 := H.1
      replace H := H.2
      have h9 := H.1
      replace H := H.2
      have h10 := H.1
      replace H := H.2
      have h11 := H.1
      replace H := H.2
      have h12 := H.1
      replace H := H.2
      have h15 := H.1
      replace H := H.2
      have n11 := H.1
      replace H := H.2
      have n12 := H.1
      replace H := H.2
      have d7_6 := H.1
      replace H := H.2
      have d8_6 := H.1
      replace H := H.2
      have d9_6 := H.1
      replace H := H.2
      have d13_6 := H.1
      replace H := H.2
      have d14_6 := H.1
      replace H := H.2
      have m2_6 := H.1
      replace H := H.2
      have m2_11 := H.1
      replace H := H.2
      have m2_12 := H.1
      replace H := H.2
      have m6_11 := H.1
      replace H := H.2
      have m6_12 := H.1
      replace H := H.2
      have m11_12 := H.1
      replace H := H.2
      have hB := H
      clear H
      obtain ⟨e6, u6, o6, c6⟩ := h6 (dep_of hd (e := ⟨6, .data⟩) (by simp) rfl)
      subst e6
      go_simp
      refine hK _ _ ?_
      exact ⟨x113, x114, x115, x116, x117, x118, _, _, x120, x121, x122, x20, x21, x22, v11, v12, vG2, va6, vC6, vo6, vb6, vD6, vu6, rfl, fun h => h0 (upd_ne (by decide) h), fun h => h1 (upd_ne (by decide) h), fun h => h2 (upd_ne (by decide) h), fun h => h3 (upd_ne (by decide) h), fun h => h4 (upd_ne (by decide) h), fun h => h5 (upd_ne (by decide) h), fun _ => ⟨rfl, u6, o6, c6⟩, fun _ => rfl, fun h => h8 (upd_ne (by decide) h), fun h => h9 (upd_ne (by decide) h), fun h => h10 (upd_ne (by decide) h), fun h => (by obtain ⟨p1, p2, p3, p4, p5⟩ := h11 (upd_ne (by decide) h); exact ⟨p1, p2, p3, fun h' => p4 (by rw [upd_same (by decide)] at h'; exact h'), fun h' => p5 (upd_ne (by decide) h')⟩), fun h => (by obtain ⟨p1, p2, p3, p4, p5⟩ := h12 (upd_ne (by decide) h); exact ⟨p1, p2, p3, fun h' => p4 (by rw [upd_same (by decide)] at h'; exact h'), fun h' => p5 (upd_ne (by decide) h')⟩), fun h => h15 (upd_ne (by decide) h), fun h => upd_of (n11 (upd_ne (by decide) h)), fun h => upd_of (n12 (upd_ne (by decide) h)), fun _ => upd_of (dep_of hd (e := ⟨6, .data⟩) (by simp) rfl), fun h => upd_of (d8_6 (upd_ne (by decide) h)), fun h => upd_of (d9_6 (upd_ne (by decide) h)), fun h => upd_of (d13_6 (upd_ne (by decide) h)), fun h => upd_of (d14_6 (upd_ne (by decide) h)), fun h h' => m2_6 (upd_ne (by decide) h) (upd_ne (by decide) h'), fun h h' => m2_11 (upd_ne (by decide) h) (upd_ne (by decide) h'), fun h h' => m2_12 (upd_ne (by decide) h) (upd_ne (by decide) h'), fun h h' => m6_11 (upd_ne (by decide) h) (upd_ne (by decide) h'), fun h h' => m6_12 (upd_ne (by decide) h) (upd_ne (by decide) h'), fun h h' => m11_12 (upd_ne (by decide) h) (upd_ne (by decide) h'), hB⟩
    · rintro f a W ⟨x113, x114, x115, x116, x117, x118, x119, x112, x120, x121, x122, x20, x21, x22, v11, v12, vG2, va6, vC6, vo6, vb6, vD6, vu6, rfl, H⟩ hf hd K hK
      have h0 := H.1
      replace H := H.2
      have h1 := H.1
      replace H := H.2
      have h2 := H.1
      replace H := H.2
      have h3 := H.1
      replace H := H.2
      have h4 := H.1
      replace H := H.2
      have h5 := H.1
      replace H := H.2
      have h6 := H.1
      replace H := H.2
      have h7 := H.1
      replace H := H.2
      have h8 := H.1
      replace H := H.2
      have h9 := H.1
      replace H := H.2
      have h10 := H.1
      replace H := H.2
      have h11 := H.1
      replace H := H.2
      have h12 := H.1
      replace H := H.2
      have h15 := H.1
      replace H := H.2
      have n11 := H.1
      replace H := H.2
      have n12 := H.1
      replace H := H.2
      have d7_6 := H.1
      replace H := H.2
      have d8_6 := H.1
      replace H := H.2
      have d9_6 := H.1
      replace H := H.2
      have d13_6 := H.1
      replace H := H.2
      have d14_6 := H.1
      replace H := H.2
      have m2_6 := H.1
      replace H := H.2
      have m2_11 := H.1
      replace H := H.2
      have m2_12 := H.1
      replace H := H.2
      have m6_11 := H.1
      replace H := H.2
      have m6_12 := H.1
      replace H := H.2
      have m11_12 := H.1
      replace H := H.2
      have hB := H
      clear H
      have e7 := h7 (dep_of hd (e := ⟨7, .data⟩) (by simp) rfl)
      subst e7
      go_simp
      refine hK _ _ ?_
      exact ⟨x113, x114, x115, x116, x117, x118, x119, _, _, x121, x122, x20, x21, x22, v11, v12, vG2, va6, vC6, vo6, vb6, vD6, vu6, rfl, fun h => h0 (upd_ne (by decide) h), fun h => h1 (upd_ne (by decide) h), fun h => h2 (upd_ne (by decide) h), fun h => h3 (upd_ne (by decide) h), fun h => h4 (upd_ne (by decide) h), fun h => h5 (upd_ne (by decide) h), fun h => h6 (upd_ne (by decide) h), fun _ => rfl, fun _ => rfl, fun h => h9 (upd_ne (by decide) h), fun h => h10 (upd_ne (by decide) h), fun h => (by obtain ⟨p1, p2, p3, p4, p5⟩ := h11 (upd_ne (by decide) h); exact ⟨p1, p2, p3, fun h' => p4 (by rw [upd_same (by decide)] at h'; exact h'), fun h' => p5 (upd_ne (by decide) h')⟩), fun h => (by obtain ⟨p1, p2, p3, p4, p5⟩ := h12 (upd_ne (by decide) h); exact ⟨p1, p2, p3, fun h' => p4 (by rw [upd_same (by decide)] at h'; exact h'), fun h' => p5 (upd_ne (by decide) h')⟩), fun h => h15 (upd_ne (by decide) h), fun h => upd_of (n11 (upd_ne (by decide) h)), fun h => upd_of (n12 (upd_ne (by decide) h)), fun h => upd_of (d7_6 (upd_ne (by decide) h)), fun _ => upd_of (d7_6 (dep_of hd (e := ⟨7, .data⟩) (by simp) rfl)), fun h => upd_of (d9_6 (upd_ne (by decide) h)), fun h => upd_of (d13_6 (upd_ne (by decide) h)), fun h => upd_of (d14_6 (upd_ne (by decide) h)), fun h h' => m2_6 (upd_ne (by decide) h) (upd_ne (by decide) h'), fun h h' => m2_11 (upd_ne (by decide) h) (upd_ne (by decide) h'), fun h h' => m2_12 (upd_ne (by decide) h) (upd_ne (by decide) h'), fun h h' => m6_11 (upd_ne (by decide) h) (upd_ne (by decide) h'), fun h h' => m6_12 (upd_ne (by decide) h) (upd_ne (by decide) h'), fun h h' => m11_12 (upd_ne (by decide) h) (upd_ne (by decide) h'), hB⟩
    · rintro f a W ⟨x113, x114, x115, x116, x117, x118, x119, x112, x120, x121, x122, x20, x21, x22, v11, v12, vG2, va6, vC6, vo6, vb6, vD6, vu6, rfl, H⟩ hf hd K hK
      have h0 := H.1
      replace H := H.2
      have h1 := H.1
      replace H := H.2
      have h2 := H.1
      replace H := H.2
      have h3 := H.1
      replace H := H.2
      have h4 := H.1
      replace H := H.2
      have h5 := H.1
      replace H := H.2
      have h6 := H.1
      replace H := H.2
      have h7 := H.1
      replace H := H.2
      have h8 := H.1
      replace H := H.2
      have h9 := H.1
      replace H := H.2
      have h10 := H.1
      replace H := H.2
      have h11 := H.1
      replace H := H.2
      have h12 := H.1
      replace H := H.2
      have h15 := H.1
      replace H := H.2
      have n11 := H.1
      replace H := H.2
      have n12 := H.1
      replace H := H.2
      have d7_6 := H.1
      replace H := H.2
      have d8_6 := H.1
      replace H := H.2
      have d9_6 := H.1
      replace H := H.2
      have d13_6 := H.1
      replace H := H.2
      have d14_6 := H.1
      replace H := H.2
      have m2_6 := H.1
      replace H := H.2
      have m2_11 := H.1
      replace H := H.2
      have m2_12 := H.1
      replace H := H.2
      have m6_11 := H.1
      replace H := H.2
      have m6_12 := H.1
      replace H := H.2
      have m11_12 := H.1
      replace H := H.2
      have hB := H
      clear H
      have e7 := h7 (dep_of hd (e := ⟨7, .data⟩) (by simp) rfl)
      subst e7
      go_simp
      refine hK _ _ ?_
      exact ⟨x113, x114, x115, x116, x117, x118, x119, _, x120, _, x122, x20, x21, x22, v11, v12, vG2, va6, vC6, vo6, vb6, vD6, vu6, rfl, fun h => h0 (upd_ne (by decide) h), fun h => h1 (upd_ne (by decide) h), fun h => h2 (upd_ne (by decide) h), fun h => h3 (upd_ne (by decide) h), fun h => h4 (upd_ne (by decide) h), fun h => h5 (upd_ne (by decide) h), fun h => h6 (upd_ne (by decide) h), fun _ => rfl, fun h => h8 (upd_ne (by decide) h), fun _ => rfl, fun h => h10 (upd_ne (by decide) h), fun h => (by obtain ⟨p1, p2, p3, p4, p5⟩ := h11 (upd_ne (by decide) h); exact ⟨p1, p2, p3, fun h' => p4 (by rw [upd_same (by decide)] at h'; exact h'), fun h' => p5 (upd_ne (by decide) h')⟩), fun h => (by obtain ⟨p1, p2, p3, p4, p5⟩ := h12 (upd_ne (by decide) h); exact ⟨p1, p2, p3, fun h' => p4 (by rw [upd_same (by decide)] at h'; exact h'), fun h' => p5 (upd_ne (by decide) h')⟩), fun h => h15 (upd_ne (by decide) h), fun h => upd_of (n11 (upd_ne (by decide) h)), fun h => upd_of (n12 (upd_ne (by decide) h)), fun h => upd_of (d7_6 (upd_ne (by decide) h)), fun h => upd_of (d8_6 (upd_ne (by decide) h)), fun _ => upd_of (d7_6 (dep_of hd (e := ⟨7, .data⟩) (by simp) rfl)), fun h => upd_of (d13_6 (upd_ne (by decide) h)), fun h => upd_of (d14_6 (upd_ne (by decide) h)), fun h h' => m2_6 (upd_ne (by decide) h) (upd_ne (by decide) h'), fun h h' => m2_11 (upd_ne (by decide) h) (upd_ne (by decide) h'), fun h h' => m2_12 (upd_ne (by decide) h) (upd_ne (by decide) h'), fun h h' => m6_11 (upd_ne (by decide) h) (upd_ne (by decide) h'), fun h h' => m6_12 (upd_ne (by decide) h) (upd_ne (by decide) h'), fun h h' => m11_12 (upd_ne (by decide) h) (upd_ne (by decide) h'), hB⟩
    · rintro f a W ⟨x113, x114, x115, x116, x117, x118, x119, x112, x120, x121, x122, x20, x21, x22, v11, v12, vG2, va6, vC6, vo6, vb6, vD6, vu6, rfl, H⟩ hf hd K hK
      have h0 := H.1
      replace H := H.2
      have h1 := H.1
      replace H := H.2
      have h2 := H.1
      replace H := H.2
      have h3 := H.1
      replace H := H.2
      have h4 := H.1
      replace H := H.2
      have h5 := H.1
      replace H := H.2
      have h6 := H.1
      replace H := H.2
      have h7 := H.1
      replace H := H.2
      have h8 := H.1
      replace H := H.2
      have h9 := H.1
      replace H := H.2
      have h10 := H.1
      replace H := H.2
      have h11 := H.1
      replace H := H.2
      have h12 := H.1
      replace H := H.2
      have h15 := H.1
      replace H := H.2
      have n11 := H.1
      replace H := H.2
      have n12 := H.1
      replace H := H.2
      have d7_6 := H.1
      replace H := H.2
      have d8_6 := H.1
      replace H := H.2
      have d9_6 := H.1
      replace H := H.2
      have d13_6 := H.1
      replace H := H.2
      have d14_6 := H.1
      replace H := H.2
      have m2_6 := H.1
      replace H := H.2
      have m2_11 := H.1
      replace H := H.2
      have m2_12 := H.1
      replace H := H.2
      have m6_11 := H.1
      replace H := H.2
      have m6_12 := H.1
      replace H := H.2
      have m11_12 := H.1
      replace H := H.2
      have hB := H
      clear H
      have e7 := h7 (dep_of hd (e := ⟨7, .data⟩) (by simp) rfl)
      subst e7
      go_simp
      refine hK _ _ ?_
      exact ⟨x113, x114, x115, x116, x117, x118, x119, _, x120, x121, _, x20, x21, x22, v11, v12, vG2, va6, vC6, vo6, vb6, vD6, vu6, rfl, fun h => h0 (upd_ne (by decide) h), fun h => h1 (upd_ne (by decide) h), fun h => h2 (upd_ne (by decide) h), fun h => h3 (upd_ne (by decide) h), fun h => h4 (upd_ne (by decide) h), fun h => h5 (upd_ne (by decide) h), fun h => h6 (upd_ne (by decide) h), fun _ => rfl, fun h => h8 (upd_ne (by decide) h), fun h => h9 (upd_ne (by decide) h), fun _ => rfl, fun h => (by obtain ⟨p1, p2, p3, p4, p5⟩ := h11 (upd_ne (by decide) h); exact ⟨p1, p2, p3, fun h' => p4 (by rw [upd_same (by decide)] at h'; exact h'), fun h' => p5 (upd_ne (by decide) h')⟩), fun h => (by obtain ⟨p1, p2, p3, p4, p5⟩ := h12 (upd_ne (by decide) h); exact ⟨p1, p2, p3, fun h' => p4 (by rw [upd_same (by decide)] at h'; exact h'), fun h' => p5 (upd_ne (by decide) h')⟩), fun h => h15 (upd_ne (by decide) h), fun h => upd_of (n11 (upd_ne (by decide) h)), fun h => upd_of (n12 (upd_ne (by decide) h)), fun h => upd_of (d7_6 (upd_ne (by decide) h)), fun h => upd_of (d8_6 (upd_ne (by decide) h)), fun h => upd_of (d9_6 (upd_ne (by decide) h)), fun h => upd_of (d13_6 (upd_ne (by decide) h)), fun h => upd_of (d14_6 (upd_ne (by decide) h)), fun h h' => m2_6 (upd_ne (by decide) h) (upd_ne (by decide) h'), fun h h' => m2_11 (upd_ne (by decide) h) (upd_ne (by decide) h'), fun h h' => m2_12 (upd_ne (by decide) h) (upd_ne (by decide) h'), fun h h' => m6_11 (upd_ne (by decide) h) (upd_ne (by decide) h'), fun h h' => m6_12 (upd_ne (by decide) h) (upd_ne (by decide) h'), fun h h' => m11_12 (upd_ne (by decide) h) (upd_ne (by decide) h'), hB⟩
    · rintro f a W ⟨x113, x114, x115, x116, x117, x118, x119, x112, x120, x121, x122, x20, x21, x22, v11, v12, vG2, va6, vC6, vo6, vb6, vD6, vu6, rfl, H⟩ hf hd K hK
      have h0 := H.1
      replace H := H.2
      have h1 := H.1
      replace H := H.2
      have h2 := H.1
      replace H := H.2
      have h3 := H.1
      replace H := H.2
      have h4 := H.1
      replace H := H.2
      have h5 := H.1
      replace H := H.2
      have h6 := H.1
      replace H := H.2
      have h7 := H.1
      replace H := H.2
      have h8 := H.1
      replace H := H.2
      have h9 := H.1
      replace H := H.2
      have h10 := H.1
      replace H := H.2
      have h11 := H.1
      replace H := H.2
      have h12 := H.1
      replace H := H.2
      have h15 := H.1
      replace H := H.2
      have n11 := H.1
      replace H := H.2
      have n12 := H.1
      replace H := H.2
      have d7_6 := H.1
      replace H := H.2
      have d8_6 := H.1
      replace H := H.2
      have d9_6 := H.1
      replace H := H.2
      have d13_6 := H.1
      replace H := H.2
      have d14_6 := H.1
      replace H := H.2
      have m2_6 := H.1
      replace H := H.2
      have m2_11 := H.1
      replace H := H.2
      have m2_12 := H.1
      replace H := H.2
      have m6_11 := H.1
      replace H := H.2
      have m6_12 := H.1
      replace H := H.2
      have m11_12 := H.1
      replace H := H.2
      have hB := H
      clear H
      go_simp
      refine hK _ _ ?_
      exact ⟨x113, x114, x115, x116, x117, x118, x119, x112, x120, x121, x122, _, x21, x22, W.heap.size, v12, vG2, va6, vC6, vo6, vb6, vD6, vu6, rfl, fun h => h0 (upd_ne (by decide) h), fun h => h1 (upd_ne (by decide) h), fun h => (by obtain ⟨p1, p2, p3, p4⟩ := h2 (upd_ne (by decide) h); exact ⟨p1, p2, p3.below ((Below.refl _ _).alloc (Nat.le_refl _) _), p4⟩), fun h => h3 (upd_ne (by decide) h), fun h => h4 (upd_ne (by decide) h), fun h => h5 (upd_ne (by decide) h), fun h => (by obtain ⟨p1, p2, p3, p4⟩ := h6 (upd_ne (by decide) h); exact ⟨p1, p2, p3.below ((Below.refl _ _).alloc (Nat.le_refl _) _), p4⟩), fun h => h7 (upd_ne (by decide) h), fun h => h8 (upd_ne (by decide) h), fun h => h9 (upd_ne (by decide) h), fun h => h10 (upd_ne (by decide) h), fun _ => ⟨rfl, hB.size, (by simp), fun _ => Own.new W _ _, fun h' => absurd (n11 (upd_ne (by decide) h')) (by rw [hf]; decide)⟩, fun h => (by obtain ⟨p1, p2, p3, p4, p5⟩ := h12 (upd_ne (by decide) h); exact ⟨p1, p2, (by have := p3; simp; omega), fun h' => (p4 (by rw [upd_same (by decide)] at h'; exact h')).alloc _, fun h' => (p5 (upd_ne (by decide) h')).alloc _⟩), fun h => h15 (upd_ne (by decide) h), fun _ => upd_self, fun h => upd_of (n12 (upd_ne (by decide) h)), fun h => upd_of (d7_6 (upd_ne (by decide) h)), fun h => upd_of (d8_6 (upd_ne (by decide) h)), fun h => upd_of (d9_6 (upd_ne (by decide) h)), fun h => upd_of (d13_6 (upd_ne (by decide) h)), fun h => upd_of (d14_6 (upd_ne (by decide) h)), fun h h' => m2_6 (upd_ne (by decide) h) (upd_ne (by decide) h'), fun h _ => (by obtain ⟨-, -, p3, -⟩ := h2 (upd_ne (by decide) h); have p4 := p3.lt; omega), fun h h' => m2_12 (upd_ne (by decide) h) (upd_ne (by decide) h'), fun h _ => (by obtain ⟨-, -, p3, -⟩ := h6 (upd_ne (by decide) h); intro c hc G h1; have p4 := p3.lt c hc G h1; omega), fun h h' => m6_12 (upd_ne (by decide) h) (upd_ne (by decide) h'), fun _ h => (by obtain ⟨-, -, p3, -, -⟩ := h12 (upd_ne (by decide) h); omega), hB.alloc hB.size _⟩
    · rintro f a W ⟨x113, x114, x115, x116, x117, x118, x119, x112, x120, x121, x122, x20, x21, x22, v11, v12, vG2, va6, vC6, vo6, vb6, vD6, vu6, rfl, H⟩ hf hd K hK
      have h0 := H.1
      replace H := H.2
      have h1 := H.1
      replace H := H.2
      have h2 := H.1
      replace H := H.2
      have h3 := H.1
      replace H := H.2
      have h4 := H.1
      replace H := H.2
      have h5 := H.1
      replace H := H.2
      have h6 := H.1
      replace H := H.2
      have h7 := H.1
      replace H := H.2
      have h8 := H.1
      replace H := H.2
      have h9 := H.1
      replace H := H.2
      have h10 := H.1
      replace H := H.2
      have h11 := H.1
      replace H := H.2
      have h12 := H.1
      replace H := H.2
      have h15 := H.1
      replace H := H.2
      have n11 := H.1
      replace H := H.2
      have n12 := H.1
      replace H := H.2
      have d7_6 := H.1
      replace H := H.2
      have d8_6 := H.1
      replace H := H.2
      have d9_6 := H.1
      replace H := H.2
      have d13_6 := H.1
      replace H := H.2
      have d14_6 := H.1
      replace H := H.2
      have m2_6 := H.1
      replace H := H.2
      have m2_11 := H.1
      replace H := H.2
      have m2_12 := H.1
      replace H := H.2
      have m6_11 := H.1
      replace H := H.2
      have m6_12 := H.1
      replace H := H.2
      have m11_12 := H.1
      replace H := H.2
      have hB := H
      clear H
      go_simp
      refine hK _ _ ?_
      exact ⟨x113, x114, x115, x116, x117, x118, x119, x112, x120, x121, x122, x20, _, x22, v11, W.heap.size, vG2, va6, vC6, vo6, vb6, vD6, vu6, rfl, fun h => h0 (upd_ne (by decide) h), fun h => h1 (upd_ne (by decide) h), fun h => (by obtain ⟨p1, p2, p3, p4⟩ := h2 (upd_ne (by decide) h); exact ⟨p1, p2, p3.below ((Below.refl _ _).alloc (Nat.le_refl _) _), p4⟩), fun h => h3 (upd_ne (by decide) h), fun h => h4 (upd_ne (by decide) h), fun h => h5 (upd_ne (by decide) h), fun h => (by obtain ⟨p1, p2, p3, p4⟩ := h6 (upd_ne (by decide) h); exact ⟨p1, p2, p3.below ((Below.refl _ _).alloc (Nat.le_refl _) _), p4⟩), fun h => h7 (upd_ne (by decide) h), fun h => h8 (upd_ne (by decide) h), fun h => h9 (upd_ne (by decide) h), fun h => h10 (upd_ne (by decide) h), fun h => (by obtain ⟨p1, p2, p3, p4, p5⟩ := h11 (upd_ne (by decide) h); exact ⟨p1, p2, (by have := p3; simp; omega), fun h' => (p4 (by rw [upd_same (by decide)] at h'; exact h')).alloc _, fun h' => (p5 (upd_ne (by decide) h')).alloc _⟩), fun _ => ⟨rfl, hB.size, (by simp), fun _ => Own.new W _ _, fun h' => absurd (n12 (upd_ne (by decide) h')) (by rw [hf]; decide)⟩, fun h => h15 (upd_ne (by decide) h), fun h => upd_of (n11 (upd_ne (by decide) h)), fun _ => upd_self, fun h => upd_of (d7_6 (upd_ne (by decide) h)), fun h => upd_of (d8_6 (upd_ne (by decide) h)), fun h => upd_of (d9_6 (upd_ne (by decide) h)), fun h => upd_of (d13_6 (upd_ne (by decide) h)), fun h => upd_of (d14_6 (upd_ne (by decide) h)), fun h h' => m2_6 (upd_ne (by decide) h) (upd_ne (by decide) h'), fun h h' => m2_11 (upd_ne (by decide) h) (upd_ne (by decide) h'), fun h _ => (by obtain ⟨-, -, p3, -⟩ := h2 (upd_ne (by decide) h); have p4 := p3.lt; omega), fun h h' => m6_11 (upd_ne (by decide) h) (upd_ne (by decide) h'), fun h _ => (by obtain ⟨-, -, p3, -⟩ := h6 (upd_ne (by decide) h); intro c hc G h1; have p4 := p3.lt c hc G h1; omega), fun h _ => (by obtain ⟨-, -, p3, -, -⟩ := h11 (upd_ne (by decide) h); omega), hB.alloc hB.size _⟩
    · rintro f a W ⟨x113, x114, x115, x116, x117, x118, x119, x112, x120, x121, x122, x20, x21, x22, v11, v12, vG2, va6, vC6, vo6, vb6, vD6, vu6, rfl, H⟩ hf hd K hK
      have h0 := H.1
      replace H := H.2
      have h1 := H.1
      replace H := H.2
      have h2 := H.1
      replace H := H.2
      have h3 := H.1
      replace H := H.2
      have h4 := H.1
      replace H := H.2
      have h5 := H.1
      replace H := H.2
      have h6 := H.1
      replace H := H.2
      have h7 := H.1
      replace H := H.2
      have h8 := H.1
      replace H := H.2
      have h9 := H.1
      replace H := H.2
      have h10 := H.1
      replace H := H.2
      have h11 := H.1
      replace H := H.2
      have h12 := H.1
      replace H := H.2
      have h15 := H.1
      replace H := H.2
      have n11 := H.1
      replace H := H.2
      have n12 := H.1
      replace H := H.2
      have d7_6 := H.1
      replace H := H.2
      have d8_6 := H.1
      replace H := H.2
      have d9_6 := H.1
      replace H := H.2
      have d13_6 := H.1
      replace H := H.2
      have d14_6 := H.1
      replace H := H.2
      have m2_6 := H.1
      replace H := H.2
      have m2_11 := H.1
      replace H := H.2
      have m2_12 := H.1
      replace H := H.2
      have m6_11 := H.1
      replace H := H.2
      have m6_12 := H.1
      replace H := H.2
      have m11_12 := H.1
      replace H := H.2
      have hB := H
      clear H
      obtain ⟨e11, u11, t11, z11, s11⟩ := h11 (dep_of hd (e := ⟨11, .data⟩) (by simp) rfl)
      subst e11
      have e8 := h8 (dep_of hd (e := ⟨8, .data⟩) (by simp) rfl)
      subst e8
      have oz := z11 hf
      have r0 := oz.cell 0 _ rfl
      have o0_ := oz.frz 0 _ rfl
      go_simp
      refine hK _ _ ?_
      exact ⟨x113, x114, x115, x116, x117, x118, x119, x112, _, x121, x122, _, x21, x22, v11, v12, vG2, va6, vC6, vo6, vb6, vD6, vu6, rfl, fun h => h0 (upd_ne (by decide) h), fun h => h1 (upd_ne (by decide) h), fun h => (by obtain ⟨p1, p2, p3, p4⟩ := h2 (upd_ne (by decide) h); have hne := m2_11 (upd_ne (by decide) h) (dep_of hd (e := ⟨11, .data⟩) (by simp) rfl); exact ⟨p1, p2, p3.keepO ((KeepO.of_below (some v11) (Below.refl _ _)).setCell (i := 0) _) (fun e => by have := Option.some.inj e; omega), p4⟩), fun h => h3 (upd_ne (by decide) h), fun h => h4 (upd_ne (by decide) h), fun h => h5 (upd_ne (by decide) h), fun h => (by obtain ⟨p1, p2, p3, p4⟩ := h6 (upd_ne (by decide) h); have hne := m6_11 (upd_ne (by decide) h) (dep_of hd (e := ⟨11, .data⟩) (by simp) rfl); exact ⟨p1, p2, p3.keepO ((KeepO.of_below (some v11) (Below.refl _ _)).setCell (i := 0) _) (fun c hc G hG e => by have := hne c hc G hG; omega), p4⟩), fun h => h7 (upd_ne (by decide) h), fun _ => rfl, fun h => h9 (upd_ne (by decide) h), fun h => h10 (upd_ne (by decide) h), fun _ => ⟨rfl, u11, (by simpa [World.setCell] using t11), fun h' => (by rw [upd_self] at h'; cases h'), fun _ => Own.set (i := 0) (oz) _ (by simp)⟩, fun h => (by obtain ⟨p1, p2, p3, p4, p5⟩ := h12 (upd_ne (by decide) h); have hne : v11 ≠ v12 := (by have := m11_12 (dep_of hd (e := ⟨11, .data⟩) (by simp) rfl) (upd_ne (by decide) h); omega); exact ⟨p1, p2, (by simpa [World.setCell] using p3), fun h' => Own.other (i := 0) (p4 (by rw [upd_same (by decide)] at h'; exact h')) _ hne, fun h' => Own.other (i := 0) (p5 (upd_ne (by decide) h')) _ hne⟩), fun h => h15 (upd_ne (by decide) h), fun _ => upd_of (dep_of hd (e := ⟨11, .data⟩) (by simp) rfl), fun h => upd_of (n12 (upd_ne (by decide) h)), fun h => upd_of (d7_6 (upd_ne (by decide) h)), fun h => upd_of (d8_6 (upd_ne (by decide) h)), fun h => upd_of (d9_6 (upd_ne (by decide) h)), fun _ => upd_of (dep_of hd (e := ⟨6, .chain⟩) (by simp) rfl), fun h => upd_of (d14_6 (upd_ne (by decide) h)), fun h h' => m2_6 (upd_ne (by decide) h) (upd_ne (by decide) h'), fun h h' => m2_11 (upd_ne (by decide) h) (upd_ne (by decide) h'), fun h h' => m2_12 (upd_ne (by decide) h) (upd_ne (by decide) h'), fun h h' => m6_11 (upd_ne (by decide) h) (upd_ne (by decide) h'), fun h h' => m6_12 (upd_ne (by decide) h) (upd_ne (by decide) h'), fun h h' => m11_12 (upd_ne (by decide) h) (upd_ne (by decide) h'), (hB.setCell (p := ⟨v11, 0, none⟩) u11 _)⟩
    · rintro f a W ⟨x113, x114, x115, x116, x117, x118, x119, x112, x120, x121, x122, x20, x21, x22, v11, v12, vG2, va6, vC6, vo6, vb6, vD6, vu6, rfl, H⟩ hf hd K hK
      have h0 := H.1
      replace H := H.2
      have h1 := H.1
      replace H := H.2
      have h2 := H.1
      replace H := H.2
      have h3 := H.1
      replace H := H.2
      have h4 := H.1
      replace H := H.2
      have h5 := H.1
      replace H := H.2
      have h6 := H.1
      replace H := H.2
      have h7 := H.1
      replace H := H.2
      have h8 := H.1
      replace H := H.2
      have h9 := H.1
      replace H := H.2
      have h10 := H.1
      replace H := H.2
      have h11 := H.1
      replace H := H.2
      have h12 := H.1
      replace H := H.2
      have h15 := H.1
      replace H := H.2
      have n11 := H.1
      replace H := H.2
      have n12 := H.1
      replace H := H.2
      have d7_6 := H.1
      replace H := H.2
      have d8_6 := H.1
      replace H := H.2
      have d9_6 := H.1
      replace H := H.2
      have d13_6 := H.1
      replace H := H.2
      have d14_6 := H.1
      replace H := H.2
      have m2_6 := H.1
      replace H := H.2
      have m2_11 := H.1
      replace H := H.2
      have m2_12 := H.1
      replace H := H.2
      have m6_11 := H.1
      replace H := H.2
      have m6_12 := H.1
      replace H := H.2
      have m11_12 := H.1
      replace H := H.2
      have hB := H
      clear H
      obtain ⟨e12, u12, t12, z12, s12⟩ := h12 (dep_of hd (e := ⟨12, .data⟩) (by simp) rfl)
      subst e12
      have e9 := h9 (dep_of hd (e := ⟨9, .data⟩) (by simp) rfl)
      subst e9
      have oz := z12 hf
      have r0 := oz.cell 0 _ rfl
      have o0_ := oz.frz 0 _ rfl
      go_simp
      refine hK _ _ ?_
      exact ⟨x113, x114, x115, x116, x117, x118, x119, x112, x120, _, x122, x20, _, x22, v11, v12, vG2, va6, vC6, vo6, vb6, vD6, vu6, rfl, fun h => h0 (upd_ne (by decide) h), fun h => h1 (upd_ne (by decide) h), fun h => (by obtain ⟨p1, p2, p3, p4⟩ := h2 (upd_ne (by decide) h); have hne := m2_12 (upd_ne (by decide) h) (dep_of hd (e := ⟨12, .data⟩) (by simp) rfl); exact ⟨p1, p2, p3.keepO ((KeepO.of_below (some v12) (Below.refl _ _)).setCell (i := 0) _) (fun e => by have := Option.some.inj e; omega), p4⟩), fun h => h3 (upd_ne (by decide) h), fun h => h4 (upd_ne (by decide) h), fun h => h5 (upd_ne (by decide) h), fun h => (by obtain ⟨p1, p2, p3, p4⟩ := h6 (upd_ne (by decide) h); have hne := m6_12 (upd_ne (by decide) h) (dep_of hd (e := ⟨12, .data⟩) (by simp) rfl); exact ⟨p1, p2, p3.keepO ((KeepO.of_below (some v12) (Below.refl _ _)).setCell (i := 0) _) (fun c hc G hG e => by have := hne c hc G hG; omega), p4⟩), fun h => h7 (upd_ne (by decide) h), fun h => h8 (upd_ne (by decide) h), fun _ => rfl, fun h => h10 (upd_ne (by decide) h), fun h => (by obtain ⟨p1, p2, p3, p4, p5⟩ := h11 (upd_ne (by decide) h); have hne : v12 ≠ v11 := (by have := m11_12 (upd_ne (by decide) h) (dep_of hd (e := ⟨12, .data⟩) (by simp) rfl); omega); exact ⟨p1, p2, (by simpa [World.setCell] using p3), fun h' => Own.other (i := 0) (p4 (by rw [upd_same (by decide)] at h'; exact h')) _ hne, fun h' => Own.other (i := 0) (p5 (upd_ne (by decide) h')) _ hne⟩), fun _ => ⟨rfl, u12, (by simpa [World.setCell] using t12), fun h' => (by rw [upd_self] at h'; cases h'), fun _ => Own.set (i := 0) (oz) _ (by simp)⟩, fun h => h15 (upd_ne (by decide) h), fun h => upd_of (n11 (upd_ne (by decide) h)), fun _ => upd_of (dep_of hd (e := ⟨12, .data⟩) (by simp) rfl), fun h => upd_of (d7_6 (upd_ne (by decide) h)), fun h => upd_of (d8_6 (upd_ne (by decide) h)), fun h => upd_of (d9_6 (upd_ne (by decide) h)), fun h => upd_of (d13_6 (upd_ne (by decide) h)), fun _ => upd_of (dep_of hd (e := ⟨6, .phase⟩) (by simp) rfl), fun h h' => m2_6 (upd_ne (by decide) h) (upd_ne (by decide) h'), fun h h' => m2_11 (upd_ne (by decide) h) (upd_ne (by decide) h'), fun h h' => m2_12 (upd_ne (by decide) h) (upd_ne (by decide) h'), fun h h' => m6_11 (upd_ne (by decide) h) (upd_ne (by decide) h'), fun h h' => m6_12 (upd_ne (by decide) h) (upd_ne (by decide) h'), fun h h' => m11_12 (upd_ne (by decide) h) (upd_ne (by decide) h'), (hB.setCell (p := ⟨v12, 0, none⟩) u12 _)⟩
    · rintro f a W ⟨x113, x114, x115, x116, x117, x118, x119, x112, x120, x121, x122, x20, x21, x22, v11, v12, vG2, va6, vC6, vo6, vb6, vD6, vu6, rfl, H⟩ hf hd K hK
      have h0 := H.1
      replace H := H.2
      have h1 := H.1
      replace H := H.2
      have h2 := H.1
      replace H := H.2
      have h3 := H.1
      replace H := H.2
      have h4 := H.1
      replace H := H.2
      have h5 := H.1
      replace H := H.2
      have h6 := H.1
      replace H := H.2
      have h7 := H.1
      replace H := H.2
      have h8 := H.1
      replace H := H.2
      have h9 := H.1
      replace H := H.2
      have h10 := H.1
      replace H := H.2
      have h11 := H.1
      replace H := H.2
      have h12 := H.1
      replace H := H.2
      have h15 := H.1
      replace H := H.2
      have n11 := H.1
      replace H := H.2
      have n12 := H.1
      replace H := H.2
      have d7_6 := H.1
      replace H := H.2
      have d8_6 := H.1
      replace H := H.2
      have d9_6 := H.1
      replace H := H.2
      have d13_6 := H.1
      replace H := H.2
      have d14_6 := H.1
      replace H := H.2
      have m2_6 := H.1
      replace H := H.2
      have m2_11 := H.1
      replace H := H.2
      have m2_12 := H.1
      replace H := H.2
      have m6_11 := H.1
      replace H := H.2
      have m6_12 := H.1
      replace H := H.2
      have m11_12 := H.1
      replace H := H.2
      have hB := H
      clear H
      have e10 := h10 (dep_of hd (e := ⟨10, .data⟩) (by simp) rfl)
      subst e10
      go_simp
      refine hK _ _ ?_
      exact ⟨x113, x114, x115, x116, x117, x118, x119, x112, x120, x121, _, x20, x21, _, v11, v12, vG2, va6, vC6, vo6, vb6, vD6, vu6, rfl, fun h => h0 (upd_ne (by decide) h), fun h => h1 (upd_ne (by decide) h), fun h => h2 (upd_ne (by decide) h), fun h => h3 (upd_ne (by decide) h), fun h => h4 (upd_ne (by decide) h), fun h => h5 (upd_ne (by decide) h), fun h => h6 (upd_ne (by decide) h), fun h => h7 (upd_ne (by decide) h), fun h => h8 (upd_ne (by decide) h), fun h => h9 (upd_ne (by decide) h), fun _ => rfl, fun h => (by obtain ⟨p1, p2, p3, p4, p5⟩ := h11 (upd_ne (by decide) h); exact ⟨p1, p2, p3, fun h' => p4 (by rw [upd_same (by decide)] at h'; exact h'), fun h' => p5 (upd_ne (by decide) h')⟩), fun h => (by obtain ⟨p1, p2, p3, p4, p5⟩ := h12 (upd_ne (by decide) h); exact ⟨p1, p2, p3, fun h' => p4 (by rw [upd_same (by decide)] at h'; exact h'), fun h' => p5 (upd_ne (by decide) h')⟩), fun _ => rfl, fun h => upd_of (n11 (upd_ne (by decide) h)), fun h => upd_of (n12 (upd_ne (by decide) h)), fun h => upd_of (d7_6 (upd_ne (by decide) h)), fun h => upd_of (d8_6 (upd_ne (by decide) h)), fun h => upd_of (d9_6 (upd_ne (by decide) h)), fun h => upd_of (d13_6 (upd_ne (by decide) h)), fun h => upd_of (d14_6 (upd_ne (by decide) h)), fun h h' => m2_6 (upd_ne (by decide) h) (upd_ne (by decide) h'), fun h h' => m2_11 (upd_ne (by decide) h) (upd_ne (by decide) h'), fun h h' => m2_12 (upd_ne (by decide) h) (upd_ne (by decide) h'), fun h h' => m6_11 (upd_ne (by decide) h) (upd_ne (by decide) h'), fun h h' => m6_12 (upd_ne (by decide) h) (upd_ne (by decide) h'), fun h h' => m11_12 (upd_ne (by decide) h) (upd_ne (by decide) h'), hB⟩
    rintro f a w13 ⟨x113, x114, x115, x116, x117, x118, x119, x112, x120, x121, x122, x20, x21, x22, v11, v12, vG2, va6, vC6, vo6, vb6, vD6, vu6, rfl, H⟩ hall
    have h0 := H.1
    replace H := H.2
    have h1 := H.1
    replace H := H.2
    have h2 := H.1
    replace H := H.2
    have h3 := H.1
    replace H := H.2
    have h4 := H.1
    replace H := H.2
    have h5 := H.1
    replace H := H.2
    have h6 := H.1
    replace H := H.2
    have h7 := H.1
    replace H := H.2
    have h8 := H.1
    replace H := H.2
    have h9 := H.1
    replace H := H.2
    have h10 := H.1
    replace H := H.2
    have h11 := H.1
    replace H := H.2
    have h12 := H.1
    replace H := H.2
    have h15 := H.1
    replace H := H.2
    have n11 := H.1
    replace H := H.2
    have n12 := H.1
    replace H := H.2
    have d7_6 := H.1
    replace H := H.2
    have d8_6 := H.1
    replace H := H.2
    have d9_6 := H.1
    replace H := H.2
    have d13_6 := H.1
    replace H := H.2
    have d14_6 := H.1
    replace H := H.2
    have m2_6 := H.1
    replace H := H.2
    have m2_11 := H.1
    replace H := H.2
    have m2_12 := H.1
    replace H := H.2
    have m6_11 := H.1
    replace H := H.2
    have m6_12 := H.1
    replace H := H.2
    have m11_12 := H.1
    replace H := H.2
    have qB := H
    clear H
    have e0 := h0 (hall 0 (by decide))
    subst e0
    have e1 := h1 (hall 1 (by decide))
    subst e1
    obtain ⟨e2, u2, s2, c2_⟩ := h2 (hall 2 (by decide))
    subst e2
    have e3 := h3 (hall 3 (by decide))
    subst e3
    have e4 := h4 (hall 4 (by decide))
    subst e4
    have e5 := h5 (hall 5 (by decide))
    subst e5
    obtain ⟨e6, u6, s6, c6_⟩ := h6 (hall 6 (by decide))
    subst e6
    have e7 := h7 (hall 7 (by decide))
    subst e7
    have e8 := h8 (hall 8 (by decide))
    subst e8
    have e9 := h9 (hall 9 (by decide))
    subst e9
    have e10 := h10 (hall 10 (by decide))
    subst e10
    obtain ⟨e11, u11, -, -, s11⟩ := h11 (hall 11 (by decide))
    replace s11 := s11 (hall 13 (by decide))
    subst e11
    obtain ⟨e12, u12, -, -, s12⟩ := h12 (hall 12 (by decide))
    replace s12 := s12 (hall 14 (by decide))
    subst e12
    have e15 := h15 (hall 15 (by decide))
    subst e15
    replace m2_6 := m2_6 (hall 2 (by decide)) (hall 6 (by decide))
    replace m2_11 := m2_11 (hall 2 (by decide)) (hall 11 (by decide))
    replace m2_12 := m2_12 (hall 2 (by decide)) (hall 12 (by decide))
    replace m6_11 := m6_11 (hall 6 (by decide)) (hall 11 (by decide))
    replace m6_12 := m6_12 (hall 6 (by decide)) (hall 12 (by decide))
    replace m11_12 := m11_12 (hall 11 (by decide)) (hall 12 (by decide))
    clear hall h0 h1 h2 h3 h4 h5 h6 h7 h8 h9 h10 h11 h12 h15 n11 n12 d7_6 d8_6 d9_6 d13_6 d14_6
    try dsimp only
    obtain ⟨hcy, hcz, hyz⟩ := c6_
    replace F : Hid (Facts _ [.bel w, .own w.heap.size [.slice ad len cap], .args w.heap.size ad ps, .own (w.heap.size + 1) [.int .i64 g, .int .i64 gh], .has ra6 A ro6, .has rb6 B ru6, .own r11 [.slice ra6 A.length rC6], .own r12 [.slice rb6 B.length rD6], .has (some ⟨Gx, 0, none⟩) (marks 1 len) (some Gx), .own w4.heap.size [.slice (some ⟨Gx, 0, none⟩) len len], .has ja5 (marks 1 A.length) jo5, .has jb5 (marks (1 + 2 * (A.length : Int)) B.length) ju5, .own j10 [.slice ja5 A.length jC5], .own j11 [.slice jb5 B.length jD5], .has va6 A vo6, .has vb6 B vu6, .own v11 [.slice va6 A.length vC6], .own v12 [.slice vb6 B.length vD6]]) := ((((F.out.below qB).push (f := .has va6 A vo6) (s6 (va6, A, vo6) (by simp))).push (f := .has vb6 B vu6) (s6 (vb6, B, vu6) (by simp))).push (f := .own _ _) s11).push (f := .own _ _) s12
    clear l1 c1 l3 g0 g1 qB u2 s2 c2_ u6 s6 s11 s12 u11 u12 m2_6 m2_11 m2_12 m6_11 m6_12 m11_12 hyz
    have c15 := (F.out.own 16 rfl).cell 0 _ rfl
    have c5 := (F.out.own 6 rfl).cell 0 _ rfl
    go_wp2_with first
      | (go_at_call 13; refine (e3 _ _ _ _ _ (F.out.has 14 rfl).at (F.out.has 4 rfl).at hcy hcw hL.out.1).mono ?_; clear e3 c15 c5; rintro e w14 ⟨rfl, q⟩; replace F : Hid (Facts _ _) := F.out.below q; clear q; have c16 := (F.out.own 17 rfl).cell 0 _ rfl; have c6 := (F.out.own 7 rfl).cell 0 _ rfl)
      | (go_at_call 13; refine (e3' _ _ _ _ _ (F.out.has 15 rfl).at (F.out.has 5 rfl).at hcz hcv hL.out.2).mono ?_; clear e3' c16 c6; rintro e w14' ⟨rfl, q⟩; replace F : Hid (Facts _ _) := F.out.below q; clear q; have c11 := (F.out.own 12 rfl).cell 0 _ rfl)
      | (go_at_call 17; refine (d3 _ _ _ (F.out.has 10 rfl).at hcg).mono ?_; clear d3 c11; rintro e w15 ⟨rfl, q⟩; replace F : Hid (Facts _ _) := F.out.below q; clear q; have c12 := (F.out.own 13 rfl).cell 0 _ rfl)
      | (go_at_call 17; refine (d4 _ _ _ (F.out.has 11 rfl).at hch).mono ?_; clear d4 c12; rintro e w16 ⟨rfl, q⟩; replace F : Hid (Facts _ _) := F.out.below q; clear q)
    go_ret
    exact ⟨rfl, F.out.bel 0 rfl⟩
  · rw [if_pos (by omega)] at hz
    have hneg : (-1 : Int) < 0 := by omega
    clear hs hi
    go_enter Try.func5, Try.ntmps5
    go_wp2_with (go_at_call 9; refine (hz _).mono ?_; clear hz; rintro e w1 ⟨rfl, q⟩; replace F : Hid (Facts _ _) := F.out.below q; clear q)
    go_ret
    exact ⟨rfl, F.out.bel 0 rfl⟩

end Go.Proofs.Yteohgmmenlinbah
