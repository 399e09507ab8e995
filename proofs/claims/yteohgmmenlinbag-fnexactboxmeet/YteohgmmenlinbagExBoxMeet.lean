/- The walk of the exact law of BoxMeet: it returns true. -/
import Derived.Test.YteohgmmenlinbagBoxMt
import Derived.Test.YteohgmmenlinbagBoxMtS
import Derived.Test.YteohgmmenlinbagBoxE
import Derived.Test.YteohgmmenlinbagBoxL
import Derived.Test.YteohgmmenlinbagMark
import Derived.Test.YteohgmmenlinbagRegM
namespace Go.Proofs.Yteohgmmenlinbag
open Go.ChangeShapes Go.WideShapes Go.ChangeAt Go.RowKit
set_option linter.unusedVariables false

set_option maxRecDepth 100000 in
set_option maxHeartbeats 16000000 in
theorem walkExBoxMeet (w : World) (n : Int) (wn : (Lit.int .i64 n).wf = true) (ad : Option Addr) (ps : List (Int × Int)) (cap : Nat) (h : PairsAt w ad ps) (hl : ps.length ≤ cap) (hx : ps.length ≤ maxLen) (bd : Option Addr) (qs : List (Int × Int)) (cap2 : Nat) (h2 : PairsAt w bd qs) (hl2 : qs.length ≤ cap2) (hx2 : qs.length ≤ maxLen) :
    Calls Try.prog 5 #[.int .i64 n, .agg #[.slice ad ps.length cap], .agg #[.slice bd qs.length cap2]] w fun e w' => e = .returned (.bool true) ∧ Below w.heap.size w w' := by
  have hL6 := meet_len n ps qs
  have hs := fun W (c d : Option Addr) (x : PairsAt W c ps) (y : PairsAt W d qs) (hm : ps.length ≤ 1048576) (hm2 : qs.length ≤ 1048576) => specBoxMeet W n c d ps qs ps.length qs.length x y (Nat.le_refl _) (Nat.le_refl _) hm hm2
  have hi := fun W (c d : Option Addr) (x : PairsAt W c ps) (y : PairsAt W d qs) (hm : ps.length ≤ 1048576) (hm2 : qs.length ≤ 1048576) => implBoxMeet W n c d ps qs ps.length qs.length x y (Nat.le_refl _) (Nat.le_refl _) hm hm2
  obtain ⟨len, hlen⟩ : ∃ len, ps.length = len := ⟨_, rfl⟩
  obtain ⟨len2, hlen2⟩ : ∃ len2, qs.length = len2 := ⟨_, rfl⟩
  rw [hlen] at hl hx hs hi ⊢
  rw [hlen2] at hl2 hx2 hs hi ⊢
  generalize meetL n ps qs = L at *
  generalize meetK n ps qs = K at *
  have F : Hid (Facts ((w.alloc (.cells #[.slice ad len cap] 24)).alloc (.cells #[.slice bd len2 cap2] 24)) [.bel w, .own w.heap.size [.slice ad len cap], .args w.heap.size ad ps, .own (w.heap.size + 1) [.slice bd len2 cap2], .args w.heap.size bd qs]) := by
    have q0 : Below w.heap.size w ((w.alloc (.cells #[.slice ad len cap] 24)).alloc (.cells #[.slice bd len2 cap2] 24)) := ((Below.refl _ w).alloc (Nat.le_refl _) _).alloc (by simp) _
    have oX := Own.new (w.alloc (.cells #[.slice ad len cap] 24)) #[.slice bd len2 cap2] 24
    simp only [World.size_alloc] at oX
    exact (((((Facts.nil _).push (f := .bel w) q0).push (f := .own w.heap.size [.slice ad len cap]) ((Own.new w _ _).alloc _)).push (f := .args w.heap.size ad ps) (Fact.below (.args w.heap.size ad ps) (args_of h rfl) q0)).push (f := .own (w.heap.size + 1) [.slice bd len2 cap2]) oX).push (f := .args w.heap.size bd qs) (Fact.below (.args w.heap.size bd qs) (args_of h2 rfl) q0)
  have hw := h.1
  have hw2 := h2.1
  clear h h2
  have hz := fun W => szBox W ad len cap 1048576 (by omega) (by omega) hx
  have c1 := (F.out.own 1 rfl).cell 0 _ rfl
  by_cases hm : len ≤ 1048576
  · rw [if_neg (by omega)] at hz
    have hpos : ¬ (1048576 : Int) - len < 0 := by omega
    have hz2 := fun W => szBox W bd len2 cap2 (1048576 - len) (by omega) (by omega) hx2
    by_cases hm3 : (1048576 - len : Int) < len2
    · rw [if_pos hm3] at hz2
      have hneg : (-1 : Int) < 0 := by omega
      clear hs hi
      go_enter Try.func5, Try.ntmps5
      go_wp2_with first
        | (go_at_call 8; refine (hz _).mono ?_; clear hz c1; rintro e w1 ⟨rfl, q⟩; replace F : Hid (Facts _ _) := F.out.below q; clear q; have c3 := (F.out.own 3 rfl).cell 0 _ rfl)
        | (go_at_call 8; refine (hz2 _).mono ?_; clear hz2; rintro e w2 ⟨rfl, q⟩; replace F : Hid (Facts _ _) := F.out.below q; clear q)
      go_ret
      exact ⟨rfl, F.out.bel 0 rfl⟩
    · rw [if_neg hm3] at hz2
      have hpos2 : ¬ (1048576 : Int) - len - len2 < 0 := by omega
      have hm2 : len2 ≤ 1048576 := by omega
      obtain ⟨N1, hN1⟩ : ∃ N1 : Int, 1048576 - (len : Int) = N1 := ⟨_, rfl⟩
      rw [hN1] at hz hz2 hpos hpos2
      obtain ⟨N2, hN2⟩ : ∃ N2 : Int, N1 - (len2 : Int) = N2 := ⟨_, rfl⟩
      rw [hN2] at hz2 hpos2
      replace hs := fun W c d x y => hs W c d x y hm hm2
      replace hi := fun W c d x y => hi W c d x y hm hm2
      have hi2 := hi
      have t1 := fun W h => toBox W ad ps len cap hlen h hl hm
      have t2 := fun W h => toBox W bd qs len2 cap2 hlen2 h hl2 hm2
      have e1 := fun W a b c d => eqBox W a b L L.length c d rfl
      have e2 := e1
      have e3 := e1
      have m1 := fun W G (x : HasO W (some ⟨G, 0, none⟩) ps (some G)) => markBox W _ ps _ len len 1 hlen x (Nat.le_refl _) hm (by omega) (by omega)
      have m2 := fun W G (x : HasO W (some ⟨G, 0, none⟩) qs (some G)) => markBox W _ qs _ len2 len2 (1 + 2 * (len : Int)) hlen2 x (Nat.le_refl _) hm2 (by omega) (by omega)
      have m3 := fun W a o c (x : HasO W a L o) (hc : L.length ≤ c) => markBox W a L o L.length c 1 rfl x hc (by omega) (by omega) (by omega)
      have d1 := fun W a c (x : PairsAt W a (marks 1 L.length)) (hc : L.length ≤ c) => heldBox W a L.length c 1 x hc (by omega) (by omega) (by omega)
      have d2 := d1
      have hk1 : ¬ (1 + 2 * (len : Int) + 2 * (len2 : Int)) < 0 := by omega
      have hk2 : ¬ (1 + 2 * (L.length : Int)) < 0 := by omega
      have hL : Hid (L.length ≤ 1048576) := by show L.length ≤ 1048576; omega
      clear hL6 hm3
      go_enter Try.func5, Try.ntmps5
      go_wp2_with first
        | (go_at_call 8; refine (hz _).mono ?_; clear hz c1; rintro e w1 ⟨rfl, q⟩; replace F : Hid (Facts _ _) := F.out.below q; clear q; have c3 := (F.out.own 3 rfl).cell 0 _ rfl)
        | (go_at_call 8; refine (hz2 _).mono ?_; clear hz2 c3; rintro e w2 ⟨rfl, q⟩; replace F : Hid (Facts _ _) := F.out.below q; clear q)
      have l1 := (F.out.own 1 rfl).lt
      have c1 := (F.out.own 1 rfl).cell 0 _ rfl
      have l3 := (F.out.own 3 rfl).lt
      have c3 := (F.out.own 3 rfl).cell 0 _ rfl
      refine region_steps (by kernel_rfl) (by kernel_rfl) (by kernel_rfl) (fun A0 f a W => ∃ (x30 : Value) (x31 : Value) (x32 : Value) (x33 : Value) (x34 : Value) (x35 : Value) (x29 : Value) (x36 : Value) (x37 : Value) (x8 : Value) (x9 : Value) (r9 : Nat) (rG2 : Nat) (rG4 : Nat) (ra5 : Option Addr) (rC5 : Nat) (ro5 : Option Nat), a = { tmps := #[.int .i64 n, .agg #[.slice ad len cap], .agg #[.slice bd len2 cap2], undef, .pointer (some ⟨w.heap.size, 0, none⟩), .pointer (some ⟨w.heap.size + 1, 0, none⟩), .bool false, .int .i64 N2, x8, x9, undef, undef, undef, undef, undef, undef, undef, undef, undef, .agg #[.slice ad len cap], .int .i64 1048576, .int .i64 N1, .int .i64 N1, .bool (decide (N1 < 0)), .agg #[.slice bd len2 cap2], .int .i64 N1, .int .i64 N2, .int .i64 N2, .bool (decide (N2 < 0)), x29, x30, x31, x32, x33, x34, x35, x36, x37, undef, undef, undef, undef, undef, undef, undef, undef, undef, undef, undef, undef, undef, undef, undef, undef, undef, undef, undef, undef, undef, undef, undef, undef, undef, undef, undef, undef, undef, undef, undef, undef, undef, undef, undef, undef, undef, undef, undef, undef, undef, undef, undef, undef, undef, undef, undef, undef, undef, undef, undef, undef, undef, undef, undef, undef, undef, undef, undef, undef, undef, undef, undef, undef, undef, undef, undef, undef, undef, undef, undef, undef, undef, undef, undef, undef, undef, undef, undef, undef, undef, undef, undef, undef, undef, undef], defers := [] } ∧ (f 0 = true → x30 = .int .i64 n) ∧ (f 1 = true → x31 = .agg #[.slice ad len cap]) ∧ (f 2 = true → x32 = .agg #[.slice (some ⟨rG2, 0, none⟩) len len] ∧ w2.heap.size ≤ rG2 ∧ OwnP W rG2 (ps) ∧ True) ∧ (f 3 = true → x33 = .agg #[.slice bd len2 cap2]) ∧ (f 4 = true → x34 = .agg #[.slice (some ⟨rG4, 0, none⟩) len2 len2] ∧ w2.heap.size ≤ rG4 ∧ OwnP W rG4 (qs) ∧ True) ∧ (f 5 = true → x35 = .tuple #[.agg #[.slice ra5 L.length rC5], .bool K] ∧ (∀ c ∈ [(ra5, L, ro5)], ∀ G, c.2.2 = some G → w2.heap.size ≤ G) ∧ HasL W [(ra5, L, ro5)] ∧ L.length ≤ rC5) ∧ (f 6 = true → x29 = .tuple #[.agg #[.slice ra5 L.length rC5], .bool K]) ∧ (f 7 = true → x36 = .agg #[.slice ra5 L.length rC5]) ∧ (f 8 = true → x37 = .bool K) ∧ (f 9 = true → x8 = .pointer (some ⟨r9, 0, none⟩) ∧ w2.heap.size ≤ r9 ∧ r9 < W.heap.size ∧ (f 10 = false → Own W r9 [.slice none 0 0]) ∧ (f 10 = true → Own W r9 [.slice ra5 L.length rC5])) ∧ (f 11 = true → x9 = .bool K) ∧ (f 10 = true → f 9 = true) ∧ (f 6 = true → f 5 = true) ∧ (f 7 = true → f 5 = true) ∧ (f 10 = true → f 5 = true) ∧ (f 2 = true → f 4 = true → rG2 ≠ rG4) ∧ (f 2 = true → f 5 = true → (∀ c ∈ [(ra5, L, ro5)], ∀ G, c.2.2 = some G → G ≠ rG2)) ∧ (f 2 = true → f 9 = true → r9 ≠ rG2) ∧ (f 4 = true → f 5 = true → (∀ c ∈ [(ra5, L, ro5)], ∀ G, c.2.2 = some G → G ≠ rG4)) ∧ (f 4 = true → f 9 = true → r9 ≠ rG4) ∧ (f 5 = true → f 9 = true → (∀ c ∈ [(ra5, L, ro5)], ∀ G, c.2.2 = some G → G ≠ r9)) ∧ Below w2.heap.size w2 W) ?_ ⟨?_, ?_, ?_, ?_, ?_, ?_, ?_, ?_, ?_, ?_, ?_, ?_, trivial⟩ ?_
      · exact ⟨undef, undef, undef, undef, undef, undef, undef, undef, undef, undef, undef, 0, 0, 0, none, 0, none, rfl, (fun h => (by cases h)), (fun h => (by cases h)), (fun h => (by cases h)), (fun h => (by cases h)), (fun h => (by cases h)), (fun h => (by cases h)), (fun h => (by cases h)), (fun h => (by cases h)), (fun h => (by cases h)), (fun h => (by cases h)), (fun h => (by cases h)), (fun h => (by cases h)), (fun h => (by cases h)), (fun h => (by cases h)), (fun h => (by cases h)), (fun h => (by cases h)), (fun h => (by cases h)), (fun h => (by cases h)), (fun h => (by cases h)), (fun h => (by cases h)), (fun h => (by cases h)), (Below.refl _ _).drew⟩
      · rintro f a W ⟨x30, x31, x32, x33, x34, x35, x29, x36, x37, x8, x9, r9, rG2, rG4, ra5, rC5, ro5, rfl, H⟩ hf hd K hK
        have h0 := H.1
        replace H := H.2
        have h1 := H.1
        replace H := H.2
        have h2 := H.1
        replace H := H.2
        have h3 := H.1
        replace H := H.2
        have h4 := H.1
        replace H := H.2
        have h5 := H.1
        replace H := H.2
        have h6 := H.1
        replace H := H.2
        have h7 := H.1
        replace H := H.2
        have h8 := H.1
        replace H := H.2
        have h9 := H.1
        replace H := H.2
        have h11 := H.1
        replace H := H.2
        have n9 := H.1
        replace H := H.2
        have d6_5 := H.1
        replace H := H.2
        have d7_5 := H.1
        replace H := H.2
        have d10_5 := H.1
        replace H := H.2
        have m2_4 := H.1
        replace H := H.2
        have m2_5 := H.1
        replace H := H.2
        have m2_9 := H.1
        replace H := H.2
        have m4_5 := H.1
        replace H := H.2
        have m4_9 := H.1
        replace H := H.2
        have m5_9 := H.1
        replace H := H.2
        have hB := H
        clear H
        go_simp
        refine hK _ _ ?_
        exact ⟨_, x31, x32, x33, x34, x35, x29, x36, x37, x8, x9, r9, rG2, rG4, ra5, rC5, ro5, rfl, fun _ => rfl, fun h => h1 (upd_ne (by decide) h), fun h => h2 (upd_ne (by decide) h), fun h => h3 (upd_ne (by decide) h), fun h => h4 (upd_ne (by decide) h), fun h => h5 (upd_ne (by decide) h), fun h => h6 (upd_ne (by decide) h), fun h => h7 (upd_ne (by decide) h), fun h => h8 (upd_ne (by decide) h), fun h => (by obtain ⟨p1, p2, p3, p4, p5⟩ := h9 (upd_ne (by decide) h); exact ⟨p1, p2, p3, fun h' => p4 (by rw [upd_same (by decide)] at h'; exact h'), fun h' => p5 (upd_ne (by decide) h')⟩), fun h => h11 (upd_ne (by decide) h), fun h => upd_of (n9 (upd_ne (by decide) h)), fun h => upd_of (d6_5 (upd_ne (by decide) h)), fun h => upd_of (d7_5 (upd_ne (by decide) h)), fun h => upd_of (d10_5 (upd_ne (by decide) h)), fun h h' => m2_4 (upd_ne (by decide) h) (upd_ne (by decide) h'), fun h h' => m2_5 (upd_ne (by decide) h) (upd_ne (by decide) h'), fun h h' => m2_9 (upd_ne (by decide) h) (upd_ne (by decide) h'), fun h h' => m4_5 (upd_ne (by decide) h) (upd_ne (by decide) h'), fun h h' => m4_9 (upd_ne (by decide) h) (upd_ne (by decide) h'), fun h h' => m5_9 (upd_ne (by decide) h) (upd_ne (by decide) h'), hB⟩
      · rintro f a W ⟨x30, x31, x32, x33, x34, x35, x29, x36, x37, x8, x9, r9, rG2, rG4, ra5, rC5, ro5, rfl, H⟩ hf hd K hK
        have h0 := H.1
        replace H := H.2
        have h1 := H.1
        replace H := H.2
        have h2 := H.1
        replace H := H.2
        have h3 := H.1
        replace H := H.2
        have h4 := H.1
        replace H := H.2
        have h5 := H.1
        replace H := H.2
        have h6 := H.1
        replace H := H.2
        have h7 := H.1
        replace H := H.2
        have h8 := H.1
        replace H := H.2
        have h9 := H.1
        replace H := H.2
        have h11 := H.1
        replace H := H.2
        have n9 := H.1
        replace H := H.2
        have d6_5 := H.1
        replace H := H.2
        have d7_5 := H.1
        replace H := H.2
        have d10_5 := H.1
        replace H := H.2
        have m2_4 := H.1
        replace H := H.2
        have m2_5 := H.1
        replace H := H.2
        have m2_9 := H.1
        replace H := H.2
        have m4_5 := H.1
        replace H := H.2
        have m4_9 := H.1
        replace H := H.2
        have m5_9 := H.1
        replace H := H.2
        have hB := H
        clear H
        have r0 := (hB.cell (p := ⟨w.heap.size, 0, none⟩) l1).trans c1
        go_simp
        refine hK _ _ ?_
        exact ⟨x30, _, x32, x33, x34, x35, x29, x36, x37, x8, x9, r9, rG2, rG4, ra5, rC5, ro5, rfl, fun h => h0 (upd_ne (by decide) h), fun _ => rfl, fun h => h2 (upd_ne (by decide) h), fun h => h3 (upd_ne (by decide) h), fun h => h4 (upd_ne (by decide) h), fun h => h5 (upd_ne (by decide) h), fun h => h6 (upd_ne (by decide) h), fun h => h7 (upd_ne (by decide) h), fun h => h8 (upd_ne (by decide) h), fun h => (by obtain ⟨p1, p2, p3, p4, p5⟩ := h9 (upd_ne (by decide) h); exact ⟨p1, p2, p3, fun h' => p4 (by rw [upd_same (by decide)] at h'; exact h'), fun h' => p5 (upd_ne (by decide) h')⟩), fun h => h11 (upd_ne (by decide) h), fun h => upd_of (n9 (upd_ne (by decide) h)), fun h => upd_of (d6_5 (upd_ne (by decide) h)), fun h => upd_of (d7_5 (upd_ne (by decide) h)), fun h => upd_of (d10_5 (upd_ne (by decide) h)), fun h h' => m2_4 (upd_ne (by decide) h) (upd_ne (by decide) h'), fun h h' => m2_5 (upd_ne (by decide) h) (upd_ne (by decide) h'), fun h h' => m2_9 (upd_ne (by decide) h) (upd_ne (by decide) h'), fun h h' => m4_5 (upd_ne (by decide) h) (upd_ne (by decide) h'), fun h h' => m4_9 (upd_ne (by decide) h) (upd_ne (by decide) h'), fun h h' => m5_9 (upd_ne (by decide) h) (upd_ne (by decide) h'), hB⟩
      · rintro f a W ⟨x30, x31, x32, x33, x34, x35, x29, x36, x37, x8, x9, r9, rG2, rG4, ra5, rC5, ro5, rfl, H⟩ hf hd K hK
        have h0 := H.1
        replace H := H.2
        have h1 := H.1
        replace H := H.2
        have h2 := H.1
        replace H := H.2
        have h3 := H.1
        replace H := H.2
        have h4 := H.1
        replace H := H.2
        have h5 := H.1
        replace H := H.2
        have h6 := H.1
        replace H := H.2
        have h7 := H.1
        replace H := H.2
        have h8 := H.1
        replace H := H.2
        have h9 := H.1
        replace H := H.2
        have h11 := H.1
        replace H := H.2
        have n9 := H.1
        replace H := H.2
        have d6_5 := H.1
        replace H := H.2
        have d7_5 := H.1
        replace H := H.2
        have d10_5 := H.1
        replace H := H.2
        have m2_4 := H.1
        replace H := H.2
        have m2_5 := H.1
        replace H := H.2
        have m2_9 := H.1
        replace H := H.2
        have m4_5 := H.1
        replace H := H.2
        have m4_9 := H.1
        replace H := H.2
        have m5_9 := H.1
        replace H := H.2
        have hB := H
        clear H
        have e1 := h1 (dep_of hd (e := ⟨1, .data⟩) (by simp) rfl)
        subst e1
        go_simp
        refine (toBox _ ad ps len cap hlen ((F.out.args 2 rfl).below hB) hl hm).mono ?_
        rintro e W2 ⟨G_, hG, rfl, on, q⟩
        refine hK _ _ ?_
        exact ⟨x30, _, _, x33, x34, x35, x29, x36, x37, x8, x9, r9, G_, rG4, ra5, rC5, ro5, rfl, fun h => h0 (upd_ne (by decide) h), fun _ => rfl, fun _ => ⟨rfl, Nat.le_trans hB.size hG, on, trivial⟩, fun h => h3 (upd_ne (by decide) h), fun h => (by obtain ⟨p1, p2, p3, p4⟩ := h4 (upd_ne (by decide) h); exact ⟨p1, p2, p3.below q, p4⟩), fun h => (by obtain ⟨p1, p2, p3, p4⟩ := h5 (upd_ne (by decide) h); exact ⟨p1, p2, p3.below q, p4⟩), fun h => h6 (upd_ne (by decide) h), fun h => h7 (upd_ne (by decide) h), fun h => h8 (upd_ne (by decide) h), fun h => (by obtain ⟨p1, p2, p3, p4, p5⟩ := h9 (upd_ne (by decide) h); exact ⟨p1, p2, Nat.lt_of_lt_of_le (p3) q.size, fun h' => (p4 (by rw [upd_same (by decide)] at h'; exact h')).below q, fun h' => (p5 (upd_ne (by decide) h')).below q⟩), fun h => h11 (upd_ne (by decide) h), fun h => upd_of (n9 (upd_ne (by decide) h)), fun h => upd_of (d6_5 (upd_ne (by decide) h)), fun h => upd_of (d7_5 (upd_ne (by decide) h)), fun h => upd_of (d10_5 (upd_ne (by decide) h)), fun _ h => (by obtain ⟨-, -, p3, -⟩ := h4 (upd_ne (by decide) h); have p4 := p3.lt; omega), fun _ h => (by obtain ⟨-, -, p3, -⟩ := h5 (upd_ne (by decide) h); intro c hc G h1; have p4 := p3.lt c hc G h1; omega), fun _ h => (by obtain ⟨-, -, p3, -, -⟩ := h9 (upd_ne (by decide) h); omega), fun h h' => m4_5 (upd_ne (by decide) h) (upd_ne (by decide) h'), fun h h' => m4_9 (upd_ne (by decide) h) (upd_ne (by decide) h'), fun h h' => m5_9 (upd_ne (by decide) h) (upd_ne (by decide) h'), hB.trans (q.mono hB.size)⟩
      · rintro f a W ⟨x30, x31, x32, x33, x34, x35, x29, x36, x37, x8, x9, r9, rG2, rG4, ra5, rC5, ro5, rfl, H⟩ hf hd K hK
        have h0 := H.1
        replace H := H.2
        have h1 := H.1
        replace H := H.2
        have h2 := H.1
        replace H := H.2
        have h3 := H.1
        replace H := H.2
        have h4 := H.1
        replace H := H.2
        have h5 := H.1
        replace H := H.2
        have h6 := H.1
        replace H := H.2
        have h7 := H.1
        replace H := H.2
        have h8 := H.1
        replace H := H.2
        have h9 := H.1
        replace H := H.2
        have h11 := H.1
        replace H := H.2
        have n9 := H.1
        replace H := H.2
        have d6_5 := H.1
        replace H := H.2
        have d7_5 := H.1
        replace H := H.2
        have d10_5 := H.1
        replace H := H.2
        have m2_4 := H.1
        replace H := H.2
        have m2_5 := H.1
        replace H := H.2
        have m2_9 := H.1
        replace H := H.2
        have m4_5 := H.1
        replace H := H.2
        have m4_9 := H.1
        replace H := H.2
        have m5_9 := H.1
        replace H := H.2
        have hB := H
        clear H
        have r0 := (hB.cell (p := ⟨w.heap.size + 1, 0, none⟩) l3).trans c3
        go_simp
        refine hK _ _ ?_
        exact ⟨x30, x31, x32, _, x34, x35, x29, x36, x37, x8, x9, r9, rG2, rG4, ra5, rC5, ro5, rfl, fun h => h0 (upd_ne (by decide) h), fun h => h1 (upd_ne (by decide) h), fun h => h2 (upd_ne (by decide) h), fun _ => rfl, fun h => h4 (upd_ne (by decide) h), fun h => h5 (upd_ne (by decide) h), fun h => h6 (upd_ne (by decide) h), fun h => h7 (upd_ne (by decide) h), fun h => h8 (upd_ne (by decide) h), fun h => (by obtain ⟨p1, p2, p3, p4, p5⟩ := h9 (upd_ne (by decide) h); exact ⟨p1, p2, p3, fun h' => p4 (by rw [upd_same (by decide)] at h'; exact h'), fun h' => p5 (upd_ne (by decide) h')⟩), fun h => h11 (upd_ne (by decide) h), fun h => upd_of (n9 (upd_ne (by decide) h)), fun h => upd_of (d6_5 (upd_ne (by decide) h)), fun h => upd_of (d7_5 (upd_ne (by decide) h)), fun h => upd_of (d10_5 (upd_ne (by decide) h)), fun h h' => m2_4 (upd_ne (by decide) h) (upd_ne (by decide) h'), fun h h' => m2_5 (upd_ne (by decide) h) (upd_ne (by decide) h'), fun h h' => m2_9 (upd_ne (by decide) h) (upd_ne (by decide) h'), fun h h' => m4_5 (upd_ne (by decide) h) (upd_ne (by decide) h'), fun h h' => m4_9 (upd_ne (by decide) h) (upd_ne (by decide) h'), fun h h' => m5_9 (upd_ne (by decide) h) (upd_ne (by decide) h'), hB⟩
      · rintro f a W ⟨x30, x31, x32, x33, x34, x35, x29, x36, x37, x8, x9, r9, rG2, rG4, ra5, rC5, ro5, rfl, H⟩ hf hd K hK
        have h0 := H.1
        replace H := H.2
        have h1 := H.1
        replace H := H.2
        have h2 := H.1
        replace H := H.2
        have h3 := H.1
        replace H := H.2
        have h4 := H.1
        replace H := H.2
        have h5 := H.1
        replace H := H.2
        have h6 := H.1
        replace H := H.2
        have h7 := H.1
        replace H := H.2
        have h8 := H.1
        replace H := H.2
        have h9 := H.1
        replace H := H.2
        have h11 := H.1
        replace H := H.2
        have n9 := H.1
        replace H := H.2
        have d6_5 := H.1
        replace H := H.2
        have d7_5 := H.1
        replace H := H.2
        have d10_5 := H.1
        replace H := H.2
        have m2_4 := H.1
        replace H := H.2
        have m2_5 := H.1
        replace H := H.2
        have m2_9 := H.1
        replace H := H.2
        have m4_5 := H.1
        replace H := H.2
        have m4_9 := H.1
        replace H := H.2
        have m5_9 := H.1
        replace H := H.2
        have hB := H
        clear H
        have e3 := h3 (dep_of hd (e := ⟨3, .data⟩) (by simp) rfl)
        subst e3
        go_simp
        refine (toBox _ bd qs len2 cap2 hlen2 ((F.out.args 4 rfl).below hB) hl2 hm2).mono ?_
        rintro e W2 ⟨G_, hG, rfl, on, q⟩
        refine hK _ _ ?_
        exact ⟨x30, x31, x32, _, _, x35, x29, x36, x37, x8, x9, r9, rG2, G_, ra5, rC5, ro5, rfl, fun h => h0 (upd_ne (by decide) h), fun h => h1 (upd_ne (by decide) h), fun h => (by obtain ⟨p1, p2, p3, p4⟩ := h2 (upd_ne (by decide) h); exact ⟨p1, p2, p3.below q, p4⟩), fun _ => rfl, fun _ => ⟨rfl, Nat.le_trans hB.size hG, on, trivial⟩, fun h => (by obtain ⟨p1, p2, p3, p4⟩ := h5 (upd_ne (by decide) h); exact ⟨p1, p2, p3.below q, p4⟩), fun h => h6 (upd_ne (by decide) h), fun h => h7 (upd_ne (by decide) h), fun h => h8 (upd_ne (by decide) h), fun h => (by obtain ⟨p1, p2, p3, p4, p5⟩ := h9 (upd_ne (by decide) h); exact ⟨p1, p2, Nat.lt_of_lt_of_le (p3) q.size, fun h' => (p4 (by rw [upd_same (by decide)] at h'; exact h')).below q, fun h' => (p5 (upd_ne (by decide) h')).below q⟩), fun h => h11 (upd_ne (by decide) h), fun h => upd_of (n9 (upd_ne (by decide) h)), fun h => upd_of (d6_5 (upd_ne (by decide) h)), fun h => upd_of (d7_5 (upd_ne (by decide) h)), fun h => upd_of (d10_5 (upd_ne (by decide) h)), fun h _ => (by obtain ⟨-, -, p3, -⟩ := h2 (upd_ne (by decide) h); have p4 := p3.lt; omega), fun h h' => m2_5 (upd_ne (by decide) h) (upd_ne (by decide) h'), fun h h' => m2_9 (upd_ne (by decide) h) (upd_ne (by decide) h'), fun _ h => (by obtain ⟨-, -, p3, -⟩ := h5 (upd_ne (by decide) h); intro c hc G h1; have p4 := p3.lt c hc G h1; omega), fun _ h => (by obtain ⟨-, -, p3, -, -⟩ := h9 (upd_ne (by decide) h); omega), fun h h' => m5_9 (upd_ne (by decide) h) (upd_ne (by decide) h'), hB.trans (q.mono hB.size)⟩
      · rintro f a W ⟨x30, x31, x32, x33, x34, x35, x29, x36, x37, x8, x9, r9, rG2, rG4, ra5, rC5, ro5, rfl, H⟩ hf hd K hK
        have h0 := H.1
        replace H := H.2
        have h1 := H.1
        replace H := H.2
        have h2 := H.1
        replace H := H.2
        have h3 := H.1
        replace H := H.2
        have h4 := H.1
        replace H := H.2
        have h5 := H.1
        replace H := H.2
        have h6 := H.1
        replace H := H.2
        have h7 := H.1
        replace H := H.2
        have h8 := H.1
        replace H := H.2
        have h9 := H.1
        replace H := H.2
        have h11 := H.1
        replace H := H.2
        have n9 := H.1
        replace H := H.2
        have d6_5 := H.1
        replace H := H.2
        have d7_5 := H.1
        replace H := H.2
        have d10_5 := H.1
        replace H := H.2
        have m2_4 := H.1
        replace H := H.2
        have m2_5 := H.1
        replace H := H.2
        have m2_9 := H.1
        replace H := H.2
        have m4_5 := H.1
        replace H := H.2
        have m4_9 := H.1
        replace H := H.2
        have m5_9 := H.1
        replace H := H.2
        have hB := H
        clear H
        have e0 := h0 (dep_of hd (e := ⟨0, .data⟩) (by simp) rfl)
        subst e0
        obtain ⟨e2, u2, o2, c2⟩ := h2 (dep_of hd (e := ⟨2, .data⟩) (by simp) rfl)
        subst e2
        obtain ⟨e4, u4, o4, c4⟩ := h4 (dep_of hd (e := ⟨4, .data⟩) (by simp) rfl)
        subst e4
        go_simp
        refine (hs _ _ _ (o2.at hw) (o4.at hw2)).mono ?_
        rintro e W2 ⟨a_, C_, o_, rfl, hc1, hp1, ho1, q⟩; have on := HasL.one hp1; have ho := from_one (a := a_) (ps := L) ho1
        refine hK _ _ ?_
        exact ⟨_, x31, _, x33, _, _, x29, x36, x37, x8, x9, r9, rG2, rG4, a_, C_, o_, rfl, fun _ => rfl, fun h => h1 (upd_ne (by decide) h), fun h => (by obtain ⟨p1, p2, p3, p4⟩ := h2 (upd_ne (by decide) h); exact ⟨p1, p2, p3.below q, p4⟩), fun h => h3 (upd_ne (by decide) h), fun h => (by obtain ⟨p1, p2, p3, p4⟩ := h4 (upd_ne (by decide) h); exact ⟨p1, p2, p3.below q, p4⟩), fun _ => ⟨rfl, (fun c hc G hG => Nat.le_trans hB.size (ho c hc G hG)), on, hc1⟩, fun h => absurd (d6_5 (upd_ne (by decide) h)) (by rw [hf]; decide), fun h => absurd (d7_5 (upd_ne (by decide) h)) (by rw [hf]; decide), fun h => h8 (upd_ne (by decide) h), fun h => (by obtain ⟨p1, p2, p3, p4, p5⟩ := h9 (upd_ne (by decide) h); exact ⟨p1, p2, Nat.lt_of_lt_of_le (p3) q.size, fun h' => (p4 (by rw [upd_same (by decide)] at h'; exact h')).below q, fun h' => absurd (d10_5 (upd_ne (by decide) h')) (by rw [hf]; decide)⟩), fun h => h11 (upd_ne (by decide) h), fun h => upd_of (n9 (upd_ne (by decide) h)), fun _ => upd_self, fun _ => upd_self, fun _ => upd_self, fun h h' => m2_4 (upd_ne (by decide) h) (upd_ne (by decide) h'), fun h _ => (by obtain ⟨-, -, p3, -⟩ := h2 (upd_ne (by decide) h); intro c hc G h1; have p4 := ho c hc G h1; have p5 := p3.lt; omega), fun h h' => m2_9 (upd_ne (by decide) h) (upd_ne (by decide) h'), fun h _ => (by obtain ⟨-, -, p3, -⟩ := h4 (upd_ne (by decide) h); intro c hc G h1; have p4 := ho c hc G h1; have p5 := p3.lt; omega), fun h h' => m4_9 (upd_ne (by decide) h) (upd_ne (by decide) h'), fun _ h => (by obtain ⟨-, -, p3, -, -⟩ := h9 (upd_ne (by decide) h); intro c hc G h1; have p4 := ho c hc G h1; omega), hB.trans (q.mono hB.size)⟩
      · rintro f a W ⟨x30, x31, x32, x33, x34, x35, x29, x36, x37, x8, x9, r9, rG2, rG4, ra5, rC5, ro5, rfl, H⟩ hf hd K hK
        have h0 := H.1
        replace H := H.2
        have h1 := H.1
        replace H := H.2
        have h2 := H.1
        replace H := H.2
        have h3 := H.1
        replace H := H.2
        have h4 := H.1
        replace H := H.2
        have h5 := H.1
        replace H := H.2
        have h6 := H.1
        replace H := H.2
        have h7 := H.1
        replace H := H.2
        have h8 := H.1
        replace H := H.2
        have h9 := H.1
        replace H := H.2
        have h11 := H.1
        replace H := H.2
        have n9 := H.1
        replace H := H.2
        have d6_5 := H.1
        replace H := H.2
        have d7_5 := H.1
        replace H := H.2
        have d10_5 := H.1
        replace H := H.2
        have m2_4 := H.1
        replace H := H.2
        have m2_5 := H.1
        replace H := H.2
        have m2_9 := H.1
        replace H := H.2
        have m4_5 := H.1
        replace H := H.2
        have m4_9 := H.1
        replace H := H.2
        have m5_9 := H.1
        replace H := H.2
        have hB := H
        clear H
        obtain ⟨e5, u5, o5, c5⟩ := h5 (dep_of hd (e := ⟨5, .data⟩) (by simp) rfl)
        subst e5
        go_simp
        refine hK _ _ ?_
        exact ⟨x30, x31, x32, x33, x34, _, _, x36, x37, x8, x9, r9, rG2, rG4, ra5, rC5, ro5, rfl, fun h => h0 (upd_ne (by decide) h), fun h => h1 (upd_ne (by decide) h), fun h => h2 (upd_ne (by decide) h), fun h => h3 (upd_ne (by decide) h), fun h => h4 (upd_ne (by decide) h), fun _ => ⟨rfl, u5, o5, c5⟩, fun _ => rfl, fun h => h7 (upd_ne (by decide) h), fun h => h8 (upd_ne (by decide) h), fun h => (by obtain ⟨p1, p2, p3, p4, p5⟩ := h9 (upd_ne (by decide) h); exact ⟨p1, p2, p3, fun h' => p4 (by rw [upd_same (by decide)] at h'; exact h'), fun h' => p5 (upd_ne (by decide) h')⟩), fun h => h11 (upd_ne (by decide) h), fun h => upd_of (n9 (upd_ne (by decide) h)), fun _ => upd_of (dep_of hd (e := ⟨5, .data⟩) (by simp) rfl), fun h => upd_of (d7_5 (upd_ne (by decide) h)), fun h => upd_of (d10_5 (upd_ne (by decide) h)), fun h h' => m2_4 (upd_ne (by decide) h) (upd_ne (by decide) h'), fun h h' => m2_5 (upd_ne (by decide) h) (upd_ne (by decide) h'), fun h h' => m2_9 (upd_ne (by decide) h) (upd_ne (by decide) h'), fun h h' => m4_5 (upd_ne (by decide) h) (upd_ne (by decide) h'), fun h h' => m4_9 (upd_ne (by decide) h) (upd_ne (by decide) h'), fun h h' => m5_9 (upd_ne (by decide) h) (upd_ne (by decide) h'), hB⟩
      · rintro f a W ⟨x30, x31, x32, x33, x34, x35, x29, x36, x37, x8, x9, r9, rG2, rG4, ra5, rC5, ro5, rfl, H⟩ hf hd K hK
        have h0 := H.1
        replace H := H.2
        have h1 := H.1
        replace H := H.2
        have h2 := H.1
        replace H := H.2
        have h3 := H.1
        replace H := H.2
        have h4 := H.1
        replace H := H.2
        have h5 := H.1
        replace H := H.2
        have h6 := H.1
        replace H := H.2
        have h7 := H.1
        replace H := H.2
        have h8 := H.1
        replace H := H.2
        have h9 := H.1
        replace H := H.2
        have h11 := H.1
        replace H := H.2
        have n9 := H.1
        replace H := H.2
        have d6_5 := H.1
        replace H := H.2
        have d7_5 := H.1
        replace H := H.2
        have d10_5 := H.1
        replace H := H.2
        have m2_4 := H.1
        replace H := H.2
        have m2_5 := H.1
        replace H := H.2
        have m2_9 := H.1
        replace H := H.2
        have m4_5 := H.1
        replace H := H.2
        have m4_9 := H.1
        replace H := H.2
        have m5_9 := H.1
        replace H := H.2
        have hB := H
        clear H
        have e6 := h6 (dep_of hd (e := ⟨6, .data⟩) (by simp) rfl)
        subst e6
        go_simp
        refine hK _ _ ?_
        exact ⟨x30, x31, x32, x33, x34, x35, _, _, x37, x8, x9, r9, rG2, rG4, ra5, rC5, ro5, rfl, fun h => h0 (upd_ne (by decide) h), fun h => h1 (upd_ne (by decide) h), fun h => h2 (upd_ne (by decide) h), fun h => h3 (upd_ne (by decide) h), fun h => h4 (upd_ne (by decide) h), fun h => h5 (upd_ne (by decide) h), fun _ => rfl, fun _ => rfl, fun h => h8 (upd_ne (by decide) h), fun h => (by obtain ⟨p1, p2, p3, p4, p5⟩ := h9 (upd_ne (by decide) h); exact ⟨p1, p2, p3, fun h' => p4 (by rw [upd_same (by decide)] at h'; exact h'), fun h' => p5 (upd_ne (by decide) h')⟩), fun h => h11 (upd_ne (by decide) h), fun h => upd_of (n9 (upd_ne (by decide) h)), fun h => upd_of (d6_5 (upd_ne (by decide) h)), fun _ => upd_of (d6_5 (dep_of hd (e := ⟨6, .data⟩) (by simp) rfl)), fun h => upd_of (d10_5 (upd_ne (by decide) h)), fun h h' => m2_4 (upd_ne (by decide) h) (upd_ne (by decide) h'), fun h h' => m2_5 (upd_ne (by decide) h) (upd_ne (by decide) h'), fun h h' => m2_9 (upd_ne (by decide) h) (upd_ne (by decide) h'), fun h h' => m4_5 (upd_ne (by decide) h) (upd_ne (by decide) h'), fun h h' => m4_9 (upd_ne (by decide) h) (upd_ne (by decide) h'), fun h h' => m5_9 (upd_ne (by decide) h) (upd_ne (by decide) h'), hB⟩
      · rintro f a W ⟨x30, x31, x32, x33, x34, x35, x29, x36, x37, x8, x9, r9, rG2, rG4, ra5, rC5, ro5, rfl, H⟩ hf hd K hK
        have h0 := H.1
        replace H := H.2
        have h1 := H.1
        replace H := H.2
        have h2 := H.1
        replace H := H.2
        have h3 := H.1
        replace H := H.2
        have h4 := H.1
        replace H := H.2
        have h5 := H.1
        replace H := H.2
        have h6 := H.1
        replace H := H.2
        have h7 := H.1
        replace H := H.2
        have h8 := H.1
        replace H := H.2
        have h9 := H.1
        replace H := H.2
        have h11 := H.1
        replace H := H.2
        have n9 := H.1
        replace H := H.2
        have d6_5 := H.1
        replace H := H.2
        have d7_5 := H.1
        replace H := H.2
        have d10_5 := H.1
        replace H := H.2
        have m2_4 := H.1
        replace H := H.2
        have m2_5 := H.1
        replace H := H.2
        have m2_9 := H.1
        replace H := H.2
        have m4_5 := H.1
        replace H := H.2
        have m4_9 := H.1
        replace H := H.2
        have m5_9 := H.1
        replace H := H.2
        have hB := H
        clear H
        have e6 := h6 (dep_of hd (e := ⟨6, .data⟩) (by simp) rfl)
        subst e6
        go_simp
        refine hK _ _ ?_
        exact ⟨x30, x31, x32, x33, x34, x35, _, x36, _, x8, x9, r9, rG2, rG4, ra5, rC5, ro5, rfl, fun h => h0 (upd_ne (by decide) h), fun h => h1 (upd_ne (by decide) h), fun h => h2 (upd_ne (by decide) h), fun h => h3 (upd_ne (by decide) h), fun h => h4 (upd_ne (by decide) h), fun h => h5 (upd_ne (by decide) h), fun _ => rfl, fun h => h7 (upd_ne (by decide) h), fun _ => rfl, fun h => (by obtain ⟨p1, p2, p3, p4, p5⟩ := h9 (upd_ne (by decide) h); exact ⟨p1, p2, p3, fun h' => p4 (by rw [upd_same (by decide)] at h'; exact h'), fun h' => p5 (upd_ne (by decide) h')⟩), fun h => h11 (upd_ne (by decide) h), fun h => upd_of (n9 (upd_ne (by decide) h)), fun h => upd_of (d6_5 (upd_ne (by decide) h)), fun h => upd_of (d7_5 (upd_ne (by decide) h)), fun h => upd_of (d10_5 (upd_ne (by decide) h)), fun h h' => m2_4 (upd_ne (by decide) h) (upd_ne (by decide) h'), fun h h' => m2_5 (upd_ne (by decide) h) (upd_ne (by decide) h'), fun h h' => m2_9 (upd_ne (by decide) h) (upd_ne (by decide) h'), fun h h' => m4_5 (upd_ne (by decide) h) (upd_ne (by decide) h'), fun h h' => m4_9 (upd_ne (by decide) h) (upd_ne (by decide) h'), fun h h' => m5_9 (upd_ne (by decide) h) (upd_ne (by decide) h'), hB⟩
      · rintro f a W ⟨x30, x31, x32, x33, x34, x35, x29, x36, x37, x8, x9, r9, rG2, rG4, ra5, rC5, ro5, rfl, H⟩ hf hd K hK
        have h0 := H.1
        replace H := H.2
        have h1 := H.1
        replace H := H.2
        have h2 := H.1
        replace H := H.2
        have h3 := H.1
        replace H := H.2
        have h4 := H.1
        replace H := H.2
        have h5 := H.1
        replace H := H.2
        have h6 := H.1
        replace H := H.2
        have h7 := H.1
        replace H := H.2
        have h8 := H.1
        replace H := H.2
        have h9 := H.1
        replace H := H.2
        have h11 := H.1
        replace H := H.2
        have n9 := H.1
        replace H := H.2
        have d6_5 := H.1
        replace H := H.2
        have d7_5 := H.1
        replace H := H.2
        have d10_5 := H.1
        replace H := H.2
        have m2_4 := H.1
        replace H := H.2
        have m2_5 := H.1
        replace H := H.2
        have m2_9 := H.1
        replace H := H.2
        have m4_5 := H.1
        replace H := H.2
        have m4_9 := H.1
        replace H := H.2
        have m5_9 := H.1
        replace H := H.2
        have hB := H
        clear H
        go_simp
        refine hK _ _ ?_
        exact ⟨x30, x31, x32, x33, x34, x35, x29, x36, x37, _, x9, W.heap.size, rG2, rG4, ra5, rC5, ro5, rfl, fun h => h0 (upd_ne (by decide) h), fun h => h1 (upd_ne (by decide) h), fun h => (by obtain ⟨p1, p2, p3, p4⟩ := h2 (upd_ne (by decide) h); exact ⟨p1, p2, p3.below ((Below.refl _ _).alloc (Nat.le_refl _) _), p4⟩), fun h => h3 (upd_ne (by decide) h), fun h => (by obtain ⟨p1, p2, p3, p4⟩ := h4 (upd_ne (by decide) h); exact ⟨p1, p2, p3.below ((Below.refl _ _).alloc (Nat.le_refl _) _), p4⟩), fun h => (by obtain ⟨p1, p2, p3, p4⟩ := h5 (upd_ne (by decide) h); exact ⟨p1, p2, p3.below ((Below.refl _ _).alloc (Nat.le_refl _) _), p4⟩), fun h => h6 (upd_ne (by decide) h), fun h => h7 (upd_ne (by decide) h), fun h => h8 (upd_ne (by decide) h), fun _ => ⟨rfl, hB.size, (by simp), fun _ => Own.new W _ _, fun h' => absurd (n9 (upd_ne (by decide) h')) (by rw [hf]; decide)⟩, fun h => h11 (upd_ne (by decide) h), fun _ => upd_self, fun h => upd_of (d6_5 (upd_ne (by decide) h)), fun h => upd_of (d7_5 (upd_ne (by decide) h)), fun h => upd_of (d10_5 (upd_ne (by decide) h)), fun h h' => m2_4 (upd_ne (by decide) h) (upd_ne (by decide) h'), fun h h' => m2_5 (upd_ne (by decide) h) (upd_ne (by decide) h'), fun h _ => (by obtain ⟨-, -, p3, -⟩ := h2 (upd_ne (by decide) h); have p4 := p3.lt; omega), fun h h' => m4_5 (upd_ne (by decide) h) (upd_ne (by decide) h'), fun h _ => (by obtain ⟨-, -, p3, -⟩ := h4 (upd_ne (by decide) h); have p4 := p3.lt; omega), fun h _ => (by obtain ⟨-, -, p3, -⟩ := h5 (upd_ne (by decide) h); intro c hc G h1; have p4 := p3.lt c hc G h1; omega), hB.alloc hB.size _⟩
      · rintro f a W ⟨x30, x31, x32, x33, x34, x35, x29, x36, x37, x8, x9, r9, rG2, rG4, ra5, rC5, ro5, rfl, H⟩ hf hd K hK
        have h0 := H.1
        replace H := H.2
        have h1 := H.1
        replace H := H.2
        have h2 := H.1
        replace H := H.2
        have h3 := H.1
        replace H := H.2
        have h4 := H.1
        replace H := H.2
        have h5 := H.1
        replace H := H.2
        have h6 := H.1
        replace H := H.2
        have h7 := H.1
        replace H := H.2
        have h8 := H.1
        replace H := H.2
        have h9 := H.1
        replace H := H.2
        have h11 := H.1
        replace H := H.2
        have n9 := H.1
        replace H := H.2
        have d6_5 := H.1
        replace H := H.2
        have d7_5 := H.1
        replace H := H.2
        have d10_5 := H.1
        replace H := H.2
        have m2_4 := H.1
        replace H := H.2
        have m2_5 := H.1
        replace H := H.2
        have m2_9 := H.1
        replace H := H.2
        have m4_5 := H.1
        replace H := H.2
        have m4_9 := H.1
        replace H := H.2
        have m5_9 := H.1
        replace H := H.2
        have hB := H
        clear H
        obtain ⟨e9, u9, t9, z9, s9⟩ := h9 (dep_of hd (e := ⟨9, .data⟩) (by simp) rfl)
        subst e9
        have e7 := h7 (dep_of hd (e := ⟨7, .data⟩) (by simp) rfl)
        subst e7
        have oz := z9 hf
        have r0 := oz.cell 0 _ rfl
        have o0_ := oz.frz 0 _ rfl
        go_simp
        refine hK _ _ ?_
        exact ⟨x30, x31, x32, x33, x34, x35, x29, _, x37, _, x9, r9, rG2, rG4, ra5, rC5, ro5, rfl, fun h => h0 (upd_ne (by decide) h), fun h => h1 (upd_ne (by decide) h), fun h => (by obtain ⟨p1, p2, p3, p4⟩ := h2 (upd_ne (by decide) h); have hne := m2_9 (upd_ne (by decide) h) (dep_of hd (e := ⟨9, .data⟩) (by simp) rfl); exact ⟨p1, p2, p3.keepO ((KeepO.of_below (some r9) (Below.refl _ _)).setCell (i := 0) _) (fun e => by have := Option.some.inj e; omega), p4⟩), fun h => h3 (upd_ne (by decide) h), fun h => (by obtain ⟨p1, p2, p3, p4⟩ := h4 (upd_ne (by decide) h); have hne := m4_9 (upd_ne (by decide) h) (dep_of hd (e := ⟨9, .data⟩) (by simp) rfl); exact ⟨p1, p2, p3.keepO ((KeepO.of_below (some r9) (Below.refl _ _)).setCell (i := 0) _) (fun e => by have := Option.some.inj e; omega), p4⟩), fun h => (by obtain ⟨p1, p2, p3, p4⟩ := h5 (upd_ne (by decide) h); have hne := m5_9 (upd_ne (by decide) h) (dep_of hd (e := ⟨9, .data⟩) (by simp) rfl); exact ⟨p1, p2, p3.keepO ((KeepO.of_below (some r9) (Below.refl _ _)).setCell (i := 0) _) (fun c hc G hG e => by have := hne c hc G hG; omega), p4⟩), fun h => h6 (upd_ne (by decide) h), fun _ => rfl, fun h => h8 (upd_ne (by decide) h), fun _ => ⟨rfl, u9, (by simpa [World.setCell] using t9), fun h' => (by rw [upd_self] at h'; cases h'), fun _ => Own.set (i := 0) (oz) _ (by simp)⟩, fun h => h11 (upd_ne (by decide) h), fun _ => upd_of (dep_of hd (e := ⟨9, .data⟩) (by simp) rfl), fun h => upd_of (d6_5 (upd_ne (by decide) h)), fun h => upd_of (d7_5 (upd_ne (by decide) h)), fun _ => upd_of (dep_of hd (e := ⟨5, .chain⟩) (by simp) rfl), fun h h' => m2_4 (upd_ne (by decide) h) (upd_ne (by decide) h'), fun h h' => m2_5 (upd_ne (by decide) h) (upd_ne (by decide) h'), fun h h' => m2_9 (upd_ne (by decide) h) (upd_ne (by decide) h'), fun h h' => m4_5 (upd_ne (by decide) h) (upd_ne (by decide) h'), fun h h' => m4_9 (upd_ne (by decide) h) (upd_ne (by decide) h'), fun h h' => m5_9 (upd_ne (by decide) h) (upd_ne (by decide) h'), (hB.setCell (p := ⟨r9, 0, none⟩) u9 _)⟩
      · rintro f a W ⟨x30, x31, x32, x33, x34, x35, x29, x36, x37, x8, x9, r9, rG2, rG4, ra5, rC5, ro5, rfl, H⟩ hf hd K hK
        have h0 := H.1
        replace H := H.2
        have h1 := H.1
        replace H := H.2
        have h2 := H.1
        replace H := H.2
        have h3 := H.1
        replace H := H.2
        have h4 := H.1
        replace H := H.2
        have h5 := H.1
        replace H := H.2
        have h6 := H.1
        replace H := H.2
        have h7 := H.1
        replace H := H.2
        have h8 := H.1
        replace H := H.2
        have h9 := H.1
        replace H := H.2
        have h11 := H.1
        replace H := H.2
        have n9 := H.1
        replace H := H.2
        have d6_5 := H.1
        replace H := H.2
        have d7_5 := H.1
        replace H := H.2
        have d10_5 := H.1
        replace H := H.2
        have m2_4 := H.1
        replace H := H.2
        have m2_5 := H.1
        replace H := H.2
        have m2_9 := H.1
        replace H := H.2
        have m4_5 := H.1
        replace H := H.2
        have m4_9 := H.1
        replace H := H.2
        have m5_9 := H.1
        replace H := H.2
        have hB := H
        clear H
        have e8 := h8 (dep_of hd (e := ⟨8, .data⟩) (by simp) rfl)
        subst e8
        go_simp
        refine hK _ _ ?_
        exact ⟨x30, x31, x32, x33, x34, x35, x29, x36, _, x8, _, r9, rG2, rG4, ra5, rC5, ro5, rfl, fun h => h0 (upd_ne (by decide) h), fun h => h1 (upd_ne (by decide) h), fun h => h2 (upd_ne (by decide) h), fun h => h3 (upd_ne (by decide) h), fun h => h4 (upd_ne (by decide) h), fun h => h5 (upd_ne (by decide) h), fun h => h6 (upd_ne (by decide) h), fun h => h7 (upd_ne (by decide) h), fun _ => rfl, fun h => (by obtain ⟨p1, p2, p3, p4, p5⟩ := h9 (upd_ne (by decide) h); exact ⟨p1, p2, p3, fun h' => p4 (by rw [upd_same (by decide)] at h'; exact h'), fun h' => p5 (upd_ne (by decide) h')⟩), fun _ => rfl, fun h => upd_of (n9 (upd_ne (by decide) h)), fun h => upd_of (d6_5 (upd_ne (by decide) h)), fun h => upd_of (d7_5 (upd_ne (by decide) h)), fun h => upd_of (d10_5 (upd_ne (by decide) h)), fun h h' => m2_4 (upd_ne (by decide) h) (upd_ne (by decide) h'), fun h h' => m2_5 (upd_ne (by decide) h) (upd_ne (by decide) h'), fun h h' => m2_9 (upd_ne (by decide) h) (upd_ne (by decide) h'), fun h h' => m4_5 (upd_ne (by decide) h) (upd_ne (by decide) h'), fun h h' => m4_9 (upd_ne (by decide) h) (upd_ne (by decide) h'), fun h h' => m5_9 (upd_ne (by decide) h) (upd_ne (by decide) h'), hB⟩
      rintro f a w3 ⟨x30, x31, x32, x33, x34, x35, x29, x36, x37, x8, x9, r9, rG2, rG4, ra5, rC5, ro5, rfl, H⟩ hall
      have h0 := H.1
      replace H := H.2
      have h1 := H.1
      replace H := H.2
      have h2 := H.1
      replace H := H.2
      have h3 := H.1
      replace H := H.2
      have h4 := H.1
      replace H := H.2
      have h5 := H.1
      replace H := H.2
      have h6 := H.1
      replace H := H.2
      have h7 := H.1
      replace H := H.2
      have h8 := H.1
      replace H := H.2
      have h9 := H.1
      replace H := H.2
      have h11 := H.1
      replace H := H.2
      have n9 := H.1
      replace H := H.2
      have d6_5 := H.1
      replace H := H.2
      have d7_5 := H.1
      replace H := H.2
      have d10_5 := H.1
      replace H := H.2
      have m2_4 := H.1
      replace H := H.2
      have m2_5 := H.1
      replace H := H.2
      have m2_9 := H.1
      replace H := H.2
      have m4_5 := H.1
      replace H := H.2
      have m4_9 := H.1
      replace H := H.2
      have m5_9 := H.1
      replace H := H.2
      have qB := H
      clear H
      have e0 := h0 (hall 0 (by decide))
      subst e0
      have e1 := h1 (hall 1 (by decide))
      subst e1
      obtain ⟨e2, u2, s2, c2_⟩ := h2 (hall 2 (by decide))
      subst e2
      have e3 := h3 (hall 3 (by decide))
      subst e3
      obtain ⟨e4, u4, s4, c4_⟩ := h4 (hall 4 (by decide))
      subst e4
      obtain ⟨e5, u5, s5, c5_⟩ := h5 (hall 5 (by decide))
      subst e5
      have e6 := h6 (hall 6 (by decide))
      subst e6
      have e7 := h7 (hall 7 (by decide))
      subst e7
      have e8 := h8 (hall 8 (by decide))
      subst e8
      obtain ⟨e9, u9, -, -, s9⟩ := h9 (hall 9 (by decide))
      replace s9 := s9 (hall 10 (by decide))
      subst e9
      have e11 := h11 (hall 11 (by decide))
      subst e11
      replace m2_4 := m2_4 (hall 2 (by decide)) (hall 4 (by decide))
      replace m2_5 := m2_5 (hall 2 (by decide)) (hall 5 (by decide))
      replace m2_9 := m2_9 (hall 2 (by decide)) (hall 9 (by decide))
      replace m4_5 := m4_5 (hall 4 (by decide)) (hall 5 (by decide))
      replace m4_9 := m4_9 (hall 4 (by decide)) (hall 9 (by decide))
      replace m5_9 := m5_9 (hall 5 (by decide)) (hall 9 (by decide))
      clear hall h0 h1 h2 h3 h4 h5 h6 h7 h8 h9 h11 n9 d6_5 d7_5 d10_5
      try dsimp only
      have n3 : Hid ((∀ G, ro5 = some G → w.heap.size + 1 < G ∧ G < w3.heap.size) ∧ (w.heap.size + 1 < r9 ∧ r9 < w3.heap.size)) :=
        ⟨fun G hG => ⟨by have := u5 _ (List.mem_cons_self ..) G hG; omega, (s5 _ (List.mem_cons_self ..)).lt G hG⟩, ⟨by omega, s9.lt⟩⟩
      have hcw := c5_
      replace F : Hid (Facts _ [.bel w, .own w.heap.size [.slice ad len cap], .args w.heap.size ad ps, .own (w.heap.size + 1) [.slice bd len2 cap2], .args w.heap.size bd qs, .has ra5 L ro5, .own r9 [.slice ra5 L.length rC5]]) := ((F.out.below qB).push (f := .has ra5 L ro5) (s5 _ (List.mem_cons_self ..))).push (f := .own _ _) s9
      clear l1 c1 l3 c3 qB u2 s2 c2_ u4 s4 c4_ u5 s5 c5_ s9 u9 m2_4 m2_5 m2_9 m4_5 m4_9 m5_9
      have c1 := (F.out.own 1 rfl).cell 0 _ rfl
      go_wp2_with first
        | (go_at_call 10; refine (t1 _ (F.out.args 2 rfl)).mono ?_; clear t1 c1; rintro e w4 ⟨Gx, hGx, rfl, ox, q⟩
           have n4 : Hid (w3.heap.size ≤ Gx ∧ Gx < w4.heap.size) := ⟨hGx, ox.lt⟩
           replace F : Hid (Facts _ [.bel w, .own w.heap.size [.slice ad len cap], .args w.heap.size ad ps, .own (w.heap.size + 1) [.slice bd len2 cap2], .args w.heap.size bd qs, .has ra5 L ro5, .own r9 [.slice ra5 L.length rC5], .has (some ⟨Gx, 0, none⟩) ps (some Gx), .own w4.heap.size [.slice (some ⟨Gx, 0, none⟩) len len]]) := ((F.out.below q).pushHas (ox.has hw)).cells #[.slice (some ⟨Gx, 0, none⟩) len len] 30
           clear q hGx ox; have c3 := (F.out.own 3 rfl).cell 0 _ rfl)
        | (go_at_call 10; refine (t2 _ (F.out.args 4 rfl)).mono ?_; clear t2 c3; rintro e w5 ⟨Gy, hGy, rfl, oy, q⟩
           have n5 : Hid (w4.heap.size < Gy ∧ Gy < w5.heap.size) := ⟨by have := (F.out.own 8 rfl).lt; omega, oy.lt⟩
           replace F : Hid (Facts _ [.bel w, .own w.heap.size [.slice ad len cap], .args w.heap.size ad ps, .own (w.heap.size + 1) [.slice bd len2 cap2], .args w.heap.size bd qs, .has ra5 L ro5, .own r9 [.slice ra5 L.length rC5], .has (some ⟨Gx, 0, none⟩) ps (some Gx), .own w4.heap.size [.slice (some ⟨Gx, 0, none⟩) len len], .has (some ⟨Gy, 0, none⟩) qs (some Gy), .own w5.heap.size [.slice (some ⟨Gy, 0, none⟩) len2 len2]]) := ((F.out.below q).pushHas (oy.has hw2)).cells #[.slice (some ⟨Gy, 0, none⟩) len2 len2] 30
           clear q hGy oy; have c8 := (F.out.own 8 rfl).cell 0 _ rfl; have c10 := (F.out.own 10 rfl).cell 0 _ rfl)
        | (go_at_call 20; refine (hi _ _ _ (F.out.has 7 rfl).at (F.out.has 9 rfl).at).mono ?_; clear hi c8 c10; rintro e w6 ⟨ag, cg, og, rfl, hcg, hpg, hog, q⟩
           have n6 : Hid (w5.heap.size < w6.heap.size ∧ ∀ G, og = some G → w5.heap.size < G ∧ G < w6.heap.size) := by
             have l1 := (F.out.own 10 rfl).lt
             have l2 := q.size
             exact ⟨by omega, fun G hG => ⟨by have := hog G hG; omega, hpg.lt G hG⟩⟩
           replace F : Hid (Facts _ [.bel w, .own w.heap.size [.slice ad len cap], .args w.heap.size ad ps, .own (w.heap.size + 1) [.slice bd len2 cap2], .args w.heap.size bd qs, .has ra5 L ro5, .own r9 [.slice ra5 L.length rC5], .has (some ⟨Gx, 0, none⟩) ps (some Gx), .own w4.heap.size [.slice (some ⟨Gx, 0, none⟩) len len], .has (some ⟨Gy, 0, none⟩) qs (some Gy), .own w5.heap.size [.slice (some ⟨Gy, 0, none⟩) len2 len2], .has ag L og, .own w6.heap.size [.slice ag L.length cg]]) := ((F.out.below q).pushHas hpg).cells #[.slice ag L.length cg] 30
           clear q hog hpg; have c12 := (F.out.own 12 rfl).cell 0 _ rfl; have c6 := (F.out.own 6 rfl).cell 0 _ rfl)
        | (go_at_call 13; refine (e1 _ _ _ _ _ (F.out.has 11 rfl).at (F.out.has 5 rfl).at hcg hcw hL.out).mono ?_; clear e1 c12 c6; rintro e w7 ⟨rfl, q⟩; replace F : Hid (Facts _ _) := F.out.below q; clear q)
      have l1 := (F.out.own 1 rfl).lt
      have c1 := (F.out.own 1 rfl).cell 0 _ rfl
      have l8 := (F.out.own 8 rfl).lt
      have c8 := (F.out.own 8 rfl).cell 0 _ rfl
      refine region_steps (by kernel_rfl) (by kernel_rfl) (by kernel_rfl) (fun A0 f a W => ∃ (x58 : Value) (x59 : Value) (x60 : Value) (x61 : Value) (x62 : Value) (sg2 : Nat), a = { tmps := #[.int .i64 n, .agg #[.slice ad len cap], .agg #[.slice bd len2 cap2], undef, .pointer (some ⟨w.heap.size, 0, none⟩), .pointer (some ⟨w.heap.size + 1, 0, none⟩), .bool false, .int .i64 N2, .pointer (some ⟨r9, 0, none⟩), .bool K, .pointer (some ⟨w4.heap.size, 0, none⟩), .pointer (some ⟨w5.heap.size, 0, none⟩), .pointer (some ⟨w6.heap.size, 0, none⟩), .bool K, undef, undef, undef, undef, undef, .agg #[.slice ad len cap], .int .i64 1048576, .int .i64 N1, .int .i64 N1, .bool (decide (N1 < 0)), .agg #[.slice bd len2 cap2], .int .i64 N1, .int .i64 N2, .int .i64 N2, .bool (decide (N2 < 0)), .tuple #[.agg #[.slice ra5 L.length rC5], .bool K], .int .i64 n, .agg #[.slice ad len cap], .agg #[.slice (some ⟨rG2, 0, none⟩) len len], .agg #[.slice bd len2 cap2], .agg #[.slice (some ⟨rG4, 0, none⟩) len2 len2], .tuple #[.agg #[.slice ra5 L.length rC5], .bool K], .agg #[.slice ra5 L.length rC5], .bool K, .agg #[.slice ad len cap], .agg #[.slice (some ⟨Gx, 0, none⟩) len len], .agg #[.slice bd len2 cap2], .agg #[.slice (some ⟨Gy, 0, none⟩) len2 len2], .tuple #[.agg #[.slice ag L.length cg], .bool K], .int .i64 n, .agg #[.slice (some ⟨Gx, 0, none⟩) len len], .agg #[.slice (some ⟨Gy, 0, none⟩) len2 len2], .tuple #[.agg #[.slice ag L.length cg], .bool K], .agg #[.slice ag L.length cg], .bool K, .agg #[.slice ag L.length cg], .agg #[.slice ra5 L.length rC5], .bool true, .bool false, .bool false, .bool K, .bool K, .bool false, .bool false, x58, x59, x60, x61, x62, undef, undef, undef, undef, undef, undef, undef, undef, undef, undef, undef, undef, undef, undef, undef, undef, undef, undef, undef, undef, undef, undef, undef, undef, undef, undef, undef, undef, undef, undef, undef, undef, undef, undef, undef, undef, undef, undef, undef, undef, undef, undef, undef, undef, undef, undef, undef, undef, undef, undef, undef, undef, undef, undef, undef, undef, undef, undef, undef, undef, undef], defers := [] } ∧ (f 0 = true → x58 = .agg #[.slice (some ⟨Gx, 0, none⟩) len len]) ∧ (f 1 = true → x59 = .agg #[.slice ad len cap]) ∧ (f 2 = true → x60 = .agg #[.slice (some ⟨sg2, 0, none⟩) len len] ∧ w7.heap.size ≤ sg2 ∧ OwnP W sg2 ps) ∧ (f 3 = true → x61 = .bool true) ∧ (f 4 = true → x62 = .bool false) ∧ Below w7.heap.size w7 W) ?_ ⟨?_, ?_, ?_, ?_, ?_, trivial⟩ ?_
      · exact ⟨undef, undef, undef, undef, undef, 0, rfl, (fun h => (by cases h)), (fun h => (by cases h)), (fun h => (by cases h)), (fun h => (by cases h)), (fun h => (by cases h)), (Below.refl _ _).drew⟩
      · rintro f a W ⟨x58, x59, x60, x61, x62, sg2, rfl, h0, h1, h2, h3, h4, hB⟩ hf hd K hK
        have r0 := (hB.cell (p := ⟨w4.heap.size, 0, none⟩) l8).trans c8
        go_simp
        refine hK _ _ ?_
        exact ⟨_, x59, x60, x61, x62, sg2, rfl, fun _ => rfl, fun h => h1 (upd_ne (by decide) h), fun h => h2 (upd_ne (by decide) h), fun h => h3 (upd_ne (by decide) h), fun h => h4 (upd_ne (by decide) h), hB⟩
      · rintro f a W ⟨x58, x59, x60, x61, x62, sg2, rfl, h0, h1, h2, h3, h4, hB⟩ hf hd K hK
        have r0 := (hB.cell (p := ⟨w.heap.size, 0, none⟩) l1).trans c1
        go_simp
        refine hK _ _ ?_
        exact ⟨x58, _, x60, x61, x62, sg2, rfl, fun h => h0 (upd_ne (by decide) h), fun _ => rfl, fun h => h2 (upd_ne (by decide) h), fun h => h3 (upd_ne (by decide) h), fun h => h4 (upd_ne (by decide) h), hB⟩
      · rintro f a W ⟨x58, x59, x60, x61, x62, sg2, rfl, h0, h1, h2, h3, h4, hB⟩ hf hd K hK
        have e1 := h1 (dep_of hd (e := ⟨1, .data⟩) (by simp) rfl)
        subst e1
        go_simp
        refine (toBox _ ad ps len cap hlen ((F.out.args 2 rfl).below hB) hl hm).mono ?_
        rintro e W2 ⟨G, hG, rfl, on, q⟩
        refine hK _ _ ?_
        exact ⟨x58, _, _, x61, x62, G, rfl, fun h => h0 (upd_ne (by decide) h), fun _ => rfl, fun _ => ⟨rfl, Nat.le_trans hB.size hG, on⟩, fun h => h3 (upd_ne (by decide) h), fun h => h4 (upd_ne (by decide) h), hB.trans (q.mono hB.size)⟩
      · rintro f a W ⟨x58, x59, x60, x61, x62, sg2, rfl, h0, h1, h2, h3, h4, hB⟩ hf hd K hK
        have e0 := h0 (dep_of hd (e := ⟨0, .data⟩) (by simp) rfl)
        subst e0
        obtain ⟨e2, u2, o2⟩ := h2 (dep_of hd (e := ⟨2, .data⟩) (by simp) rfl)
        subst e2
        go_simp
        refine (eqBox _ _ _ ps len len len hlen ((F.out.has 7 rfl).at.below hB) (o2.at hw) (Nat.le_refl _) (Nat.le_refl _) hm).mono ?_
        rintro e W2 ⟨rfl, q⟩
        refine hK _ _ ?_
        exact ⟨_, x59, _, _, x62, sg2, rfl, fun _ => rfl, fun h => h1 (upd_ne (by decide) h), fun h => (by obtain ⟨p1, p2, p3⟩ := h2 (upd_ne (by decide) h); exact ⟨p1, p2, p3.below q⟩), fun _ => rfl, fun h => h4 (upd_ne (by decide) h), hB.trans (q.mono hB.size)⟩
      · rintro f a W ⟨x58, x59, x60, x61, x62, sg2, rfl, h0, h1, h2, h3, h4, hB⟩ hf hd K hK
        have e3 := h3 (dep_of hd (e := ⟨3, .data⟩) (by simp) rfl)
        subst e3
        go_simp
        refine hK _ _ ?_
        exact ⟨x58, x59, x60, _, _, sg2, rfl, fun h => h0 (upd_ne (by decide) h), fun h => h1 (upd_ne (by decide) h), fun h => h2 (upd_ne (by decide) h), fun _ => rfl, fun _ => rfl, hB⟩
      rintro f a w8 ⟨x58, x59, x60, x61, x62, sg2, rfl, h0, h1, h2, h3, h4, qB⟩ hall
      have e0 := h0 (hall 0 (by decide))
      subst e0
      have e1 := h1 (hall 1 (by decide))
      subst e1
      obtain ⟨e2, u2, s2⟩ := h2 (hall 2 (by decide))
      subst e2
      have e3 := h3 (hall 3 (by decide))
      subst e3
      have e4 := h4 (hall 4 (by decide))
      subst e4
      clear hall h0 h1 h2 h3 h4
      try dsimp only
      replace F : Hid (Facts _ _) := F.out.below qB
      clear l1 c1 l8 c8 qB
      have l3 := (F.out.own 3 rfl).lt
      have c3 := (F.out.own 3 rfl).cell 0 _ rfl
      have l8 := (F.out.own 10 rfl).lt
      have c8 := (F.out.own 10 rfl).cell 0 _ rfl
      go_wp2
      refine region_steps (by kernel_rfl) (by kernel_rfl) (by kernel_rfl) (fun A0 f a W => ∃ (x63 : Value) (x64 : Value) (x65 : Value) (x66 : Value) (x67 : Value) (tg2 : Nat), a = { tmps := #[.int .i64 n, .agg #[.slice ad len cap], .agg #[.slice bd len2 cap2], undef, .pointer (some ⟨w.heap.size, 0, none⟩), .pointer (some ⟨w.heap.size + 1, 0, none⟩), .bool false, .int .i64 N2, .pointer (some ⟨r9, 0, none⟩), .bool K, .pointer (some ⟨w4.heap.size, 0, none⟩), .pointer (some ⟨w5.heap.size, 0, none⟩), .pointer (some ⟨w6.heap.size, 0, none⟩), .bool K, undef, undef, undef, undef, undef, .agg #[.slice ad len cap], .int .i64 1048576, .int .i64 N1, .int .i64 N1, .bool (decide (N1 < 0)), .agg #[.slice bd len2 cap2], .int .i64 N1, .int .i64 N2, .int .i64 N2, .bool (decide (N2 < 0)), .tuple #[.agg #[.slice ra5 L.length rC5], .bool K], .int .i64 n, .agg #[.slice ad len cap], .agg #[.slice (some ⟨rG2, 0, none⟩) len len], .agg #[.slice bd len2 cap2], .agg #[.slice (some ⟨rG4, 0, none⟩) len2 len2], .tuple #[.agg #[.slice ra5 L.length rC5], .bool K], .agg #[.slice ra5 L.length rC5], .bool K, .agg #[.slice ad len cap], .agg #[.slice (some ⟨Gx, 0, none⟩) len len], .agg #[.slice bd len2 cap2], .agg #[.slice (some ⟨Gy, 0, none⟩) len2 len2], .tuple #[.agg #[.slice ag L.length cg], .bool K], .int .i64 n, .agg #[.slice (some ⟨Gx, 0, none⟩) len len], .agg #[.slice (some ⟨Gy, 0, none⟩) len2 len2], .tuple #[.agg #[.slice ag L.length cg], .bool K], .agg #[.slice ag L.length cg], .bool K, .agg #[.slice ag L.length cg], .agg #[.slice ra5 L.length rC5], .bool true, .bool false, .bool false, .bool K, .bool K, .bool false, .bool false, .agg #[.slice (some ⟨Gx, 0, none⟩) len len], .agg #[.slice ad len cap], .agg #[.slice (some ⟨sg2, 0, none⟩) len len], .bool true, .bool false, x63, x64, x65, x66, x67, undef, undef, undef, undef, undef, undef, undef, undef, undef, undef, undef, undef, undef, undef, undef, undef, undef, undef, undef, undef, undef, undef, undef, undef, undef, undef, undef, undef, undef, undef, undef, undef, undef, undef, undef, undef, undef, undef, undef, undef, undef, undef, undef, undef, undef, undef, undef, undef, undef, undef, undef, undef, undef, undef, undef, undef], defers := [] } ∧ (f 0 = true → x63 = .agg #[.slice (some ⟨Gy, 0, none⟩) len2 len2]) ∧ (f 1 = true → x64 = .agg #[.slice bd len2 cap2]) ∧ (f 2 = true → x65 = .agg #[.slice (some ⟨tg2, 0, none⟩) len2 len2] ∧ w8.heap.size ≤ tg2 ∧ OwnP W tg2 qs) ∧ (f 3 = true → x66 = .bool true) ∧ (f 4 = true → x67 = .bool false) ∧ Below w8.heap.size w8 W) ?_ ⟨?_, ?_, ?_, ?_, ?_, trivial⟩ ?_
      · exact ⟨undef, undef, undef, undef, undef, 0, rfl, (fun h => (by cases h)), (fun h => (by cases h)), (fun h => (by cases h)), (fun h => (by cases h)), (fun h => (by cases h)), (Below.refl _ _).drew⟩
      · rintro f a W ⟨x63, x64, x65, x66, x67, tg2, rfl, h0, h1, h2, h3, h4, hB⟩ hf hd K hK
        have r0 := (hB.cell (p := ⟨w5.heap.size, 0, none⟩) l8).trans c8
        go_simp
        refine hK _ _ ?_
        exact ⟨_, x64, x65, x66, x67, tg2, rfl, fun _ => rfl, fun h => h1 (upd_ne (by decide) h), fun h => h2 (upd_ne (by decide) h), fun h => h3 (upd_ne (by decide) h), fun h => h4 (upd_ne (by decide) h), hB⟩
      · rintro f a W ⟨x63, x64, x65, x66, x67, tg2, rfl, h0, h1, h2, h3, h4, hB⟩ hf hd K hK
        have r0 := (hB.cell (p := ⟨w.heap.size + 1, 0, none⟩) l3).trans c3
        go_simp
        refine hK _ _ ?_
        exact ⟨x63, _, x65, x66, x67, tg2, rfl, fun h => h0 (upd_ne (by decide) h), fun _ => rfl, fun h => h2 (upd_ne (by decide) h), fun h => h3 (upd_ne (by decide) h), fun h => h4 (upd_ne (by decide) h), hB⟩
      · rintro f a W ⟨x63, x64, x65, x66, x67, tg2, rfl, h0, h1, h2, h3, h4, hB⟩ hf hd K hK
        have e1 := h1 (dep_of hd (e := ⟨1, .data⟩) (by simp) rfl)
        subst e1
        go_simp
        refine (toBox _ bd qs len2 cap2 hlen2 ((F.out.args 4 rfl).below hB) hl2 hm2).mono ?_
        rintro e W2 ⟨G, hG, rfl, on, q⟩
        refine hK _ _ ?_
        exact ⟨x63, _, _, x66, x67, G, rfl, fun h => h0 (upd_ne (by decide) h), fun _ => rfl, fun _ => ⟨rfl, Nat.le_trans hB.size hG, on⟩, fun h => h3 (upd_ne (by decide) h), fun h => h4 (upd_ne (by decide) h), hB.trans (q.mono hB.size)⟩
      · rintro f a W ⟨x63, x64, x65, x66, x67, tg2, rfl, h0, h1, h2, h3, h4, hB⟩ hf hd K hK
        have e0 := h0 (dep_of hd (e := ⟨0, .data⟩) (by simp) rfl)
        subst e0
        obtain ⟨e2, u2, o2⟩ := h2 (dep_of hd (e := ⟨2, .data⟩) (by simp) rfl)
        subst e2
        go_simp
        refine (eqBox _ _ _ qs len2 len2 len2 hlen2 ((F.out.has 9 rfl).at.below hB) (o2.at hw2) (Nat.le_refl _) (Nat.le_refl _) hm2).mono ?_
        rintro e W2 ⟨rfl, q⟩
        refine hK _ _ ?_
        exact ⟨_, x64, _, _, x67, tg2, rfl, fun _ => rfl, fun h => h1 (upd_ne (by decide) h), fun h => (by obtain ⟨p1, p2, p3⟩ := h2 (upd_ne (by decide) h); exact ⟨p1, p2, p3.below q⟩), fun _ => rfl, fun h => h4 (upd_ne (by decide) h), hB.trans (q.mono hB.size)⟩
      · rintro f a W ⟨x63, x64, x65, x66, x67, tg2, rfl, h0, h1, h2, h3, h4, hB⟩ hf hd K hK
        have e3 := h3 (dep_of hd (e := ⟨3, .data⟩) (by simp) rfl)
        subst e3
        go_simp
        refine hK _ _ ?_
        exact ⟨x63, x64, x65, _, _, tg2, rfl, fun h => h0 (upd_ne (by decide) h), fun h => h1 (upd_ne (by decide) h), fun h => h2 (upd_ne (by decide) h), fun _ => rfl, fun _ => rfl, hB⟩
      rintro f a w9 ⟨x63, x64, x65, x66, x67, tg2, rfl, h0, h1, h2, h3, h4, qB⟩ hall
      have e0 := h0 (hall 0 (by decide))
      subst e0
      have e1 := h1 (hall 1 (by decide))
      subst e1
      obtain ⟨e2, u2, s2⟩ := h2 (hall 2 (by decide))
      subst e2
      have e3 := h3 (hall 3 (by decide))
      subst e3
      have e4 := h4 (hall 4 (by decide))
      subst e4
      clear hall h0 h1 h2 h3 h4
      try dsimp only
      replace F : Hid (Facts _ _) := F.out.below qB
      clear l3 c3 l8 c8 qB
      have c8 := (F.out.own 8 rfl).cell 0 _ rfl
      go_wp2_with first
        | (go_at_call 14; refine (m1 _ _ (F.out.has 7 rfl)).mono ?_; clear m1 c8; rintro e w10 ⟨rfl, hp, q⟩
           have hfr : freeBut (some Gx) 7 [.bel w, .own w.heap.size [.slice ad len cap], .args w.heap.size ad ps, .own (w.heap.size + 1) [.slice bd len2 cap2], .args w.heap.size bd qs, .has ra5 L ro5, .own r9 [.slice ra5 L.length rC5], .has (some ⟨Gx, 0, none⟩) ps (some Gx), .own w4.heap.size [.slice (some ⟨Gx, 0, none⟩) len len], .has (some ⟨Gy, 0, none⟩) qs (some Gy), .own w5.heap.size [.slice (some ⟨Gy, 0, none⟩) len2 len2], .has ag L og, .own w6.heap.size [.slice ag L.length cg]] := by
             obtain ⟨n3a, n3b⟩ := n3.out
             have n4' := n4.out
             have n5' := n5.out
             obtain ⟨n6a, n6b⟩ := n6.out
             simp only [freeBut, freeAll, Fact.free, and_true]
             exact ⟨fun G hG => by have := Option.some.inj hG; omega, fun hG => by have := Option.some.inj hG; omega, fun G hG => by have := Option.some.inj hG; omega, fun hG => by have := Option.some.inj hG; omega, fun G hG => by have := Option.some.inj hG; omega, fun G hG hG' => by have := Option.some.inj hG'; have := n3a G hG; omega, fun hG => by have := Option.some.inj hG; omega, fun hG => by have := Option.some.inj hG; omega, fun G hG hG' => by have := Option.some.inj hG'; have := Option.some.inj hG; omega, fun hG => by have := Option.some.inj hG; omega, fun G hG hG' => by have := Option.some.inj hG'; have := n6b G hG; omega, fun hG => by have := Option.some.inj hG; omega⟩
           replace F : Hid (Facts _ [.bel w, .own w.heap.size [.slice ad len cap], .args w.heap.size ad ps, .own (w.heap.size + 1) [.slice bd len2 cap2], .args w.heap.size bd qs, .has ra5 L ro5, .own r9 [.slice ra5 L.length rC5], .has (some ⟨Gx, 0, none⟩) (marks 1 len) (some Gx), .own w4.heap.size [.slice (some ⟨Gx, 0, none⟩) len len], .has (some ⟨Gy, 0, none⟩) qs (some Gy), .own w5.heap.size [.slice (some ⟨Gy, 0, none⟩) len2 len2], .has ag L og, .own w6.heap.size [.slice ag L.length cg]]) := F.out.marked q 7 hfr (f2 := .has _ _ _) hp
           clear q hp hfr; have c10 := (F.out.own 10 rfl).cell 0 _ rfl)
        | (go_at_call 14; refine (m2 _ _ (F.out.has 9 rfl)).mono ?_; clear m2 c10; rintro e w11 ⟨rfl, hp, q⟩
           have hfr : freeBut (some Gy) 9 [.bel w, .own w.heap.size [.slice ad len cap], .args w.heap.size ad ps, .own (w.heap.size + 1) [.slice bd len2 cap2], .args w.heap.size bd qs, .has ra5 L ro5, .own r9 [.slice ra5 L.length rC5], .has (some ⟨Gx, 0, none⟩) (marks 1 len) (some Gx), .own w4.heap.size [.slice (some ⟨Gx, 0, none⟩) len len], .has (some ⟨Gy, 0, none⟩) qs (some Gy), .own w5.heap.size [.slice (some ⟨Gy, 0, none⟩) len2 len2], .has ag L og, .own w6.heap.size [.slice ag L.length cg]] := by
             obtain ⟨n3a, n3b⟩ := n3.out
             have n4' := n4.out
             have n5' := n5.out
             obtain ⟨n6a, n6b⟩ := n6.out
             simp only [freeBut, freeAll, Fact.free, and_true]
             exact ⟨fun G hG => by have := Option.some.inj hG; omega, fun hG => by have := Option.some.inj hG; omega, fun G hG => by have := Option.some.inj hG; omega, fun hG => by have := Option.some.inj hG; omega, fun G hG => by have := Option.some.inj hG; omega, fun G hG hG' => by have := Option.some.inj hG'; have := n3a G hG; omega, fun hG => by have := Option.some.inj hG; omega, fun G hG hG' => by have := Option.some.inj hG'; have := Option.some.inj hG; omega, fun hG => by have := Option.some.inj hG; omega, fun hG => by have := Option.some.inj hG; omega, fun G hG hG' => by have := Option.some.inj hG'; have := n6b G hG; omega, fun hG => by have := Option.some.inj hG; omega⟩
           replace F : Hid (Facts _ [.bel w, .own w.heap.size [.slice ad len cap], .args w.heap.size ad ps, .own (w.heap.size + 1) [.slice bd len2 cap2], .args w.heap.size bd qs, .has ra5 L ro5, .own r9 [.slice ra5 L.length rC5], .has (some ⟨Gx, 0, none⟩) (marks 1 len) (some Gx), .own w4.heap.size [.slice (some ⟨Gx, 0, none⟩) len len], .has (some ⟨Gy, 0, none⟩) (marks (1 + 2 * (len : Int)) len2) (some Gy), .own w5.heap.size [.slice (some ⟨Gy, 0, none⟩) len2 len2], .has ag L og, .own w6.heap.size [.slice ag L.length cg]]) := F.out.marked q 9 hfr (f2 := .has _ _ _) hp
           clear q hp hfr; have c12 := (F.out.own 12 rfl).cell 0 _ rfl; have c6 := (F.out.own 6 rfl).cell 0 _ rfl)
        | (go_at_call 13; refine (e2 _ _ _ _ _ (F.out.has 11 rfl).at (F.out.has 5 rfl).at hcg hcw hL.out).mono ?_; clear e2 c12 c6; rintro e w12 ⟨rfl, q⟩; replace F : Hid (Facts _ _) := F.out.below q; clear q; have c12 := (F.out.own 12 rfl).cell 0 _ rfl)
        | (go_at_call 14; refine (m3 _ _ _ _ (F.out.has 11 rfl) hcg).mono ?_; clear m3 c12; rintro e w12' ⟨rfl, hp, q⟩
           have hfr : freeBut (og) 11 [.bel w, .own w.heap.size [.slice ad len cap], .args w.heap.size ad ps, .own (w.heap.size + 1) [.slice bd len2 cap2], .args w.heap.size bd qs, .has ra5 L ro5, .own r9 [.slice ra5 L.length rC5], .has (some ⟨Gx, 0, none⟩) (marks 1 len) (some Gx), .own w4.heap.size [.slice (some ⟨Gx, 0, none⟩) len len], .has (some ⟨Gy, 0, none⟩) (marks (1 + 2 * (len : Int)) len2) (some Gy), .own w5.heap.size [.slice (some ⟨Gy, 0, none⟩) len2 len2], .has ag L og, .own w6.heap.size [.slice ag L.length cg]] := by
             obtain ⟨n3a, n3b⟩ := n3.out
             have n4' := n4.out
             have n5' := n5.out
             obtain ⟨n6a, n6b⟩ := n6.out
             simp only [freeBut, freeAll, Fact.free, and_true]
             exact ⟨fun G hG => by have := n6b G hG; omega, fun hG => by have := n6b _ hG; omega, fun G hG => by have := n6b G hG; omega, fun hG => by have := n6b _ hG; omega, fun G hG => by have := n6b G hG; omega, fun G hG hG' => by have := n6b G hG'; have := n3a G hG; omega, fun hG => by have := n6b _ hG; omega, fun G hG hG' => by have := n6b G hG'; have := Option.some.inj hG; omega, fun hG => by have := n6b _ hG; omega, fun G hG hG' => by have := n6b G hG'; have := Option.some.inj hG; omega, fun hG => by have := n6b _ hG; omega, fun hG => by have := n6b _ hG; omega⟩
           replace F : Hid (Facts _ [.bel w, .own w.heap.size [.slice ad len cap], .args w.heap.size ad ps, .own (w.heap.size + 1) [.slice bd len2 cap2], .args w.heap.size bd qs, .has ra5 L ro5, .own r9 [.slice ra5 L.length rC5], .has (some ⟨Gx, 0, none⟩) (marks 1 len) (some Gx), .own w4.heap.size [.slice (some ⟨Gx, 0, none⟩) len len], .has (some ⟨Gy, 0, none⟩) (marks (1 + 2 * (len : Int)) len2) (some Gy), .own w5.heap.size [.slice (some ⟨Gy, 0, none⟩) len2 len2], .has ag (marks 1 L.length) og, .own w6.heap.size [.slice ag L.length cg]]) := F.out.marked q 11 hfr (f2 := .has _ _ _) hp
           clear q hp hfr; have c12 := (F.out.own 12 rfl).cell 0 _ rfl)
        | (go_at_call 21; refine (d1 _ _ _ (F.out.has 11 rfl).at hcg).mono ?_; clear d1 c12; rintro e WB ⟨rfl, q⟩; replace F : Hid (Facts _ _) := F.out.below q; clear q)
      have l1 := (F.out.own 1 rfl).lt
      have c1 := (F.out.own 1 rfl).cell 0 _ rfl
      have l3 := (F.out.own 3 rfl).lt
      have c3 := (F.out.own 3 rfl).cell 0 _ rfl
      refine region_steps (by kernel_rfl) (by kernel_rfl) (by kernel_rfl) (fun A0 f a W => ∃ (x99 : Value) (x100 : Value) (x101 : Value) (x102 : Value) (x103 : Value) (x104 : Value) (x98 : Value) (x105 : Value) (x106 : Value) (x17 : Value) (x18 : Value) (v9 : Nat) (vG2 : Nat) (vG4 : Nat) (va5 : Option Addr) (vC5 : Nat) (vo5 : Option Nat), a = { tmps := #[.int .i64 n, .agg #[.slice ad len cap], .agg #[.slice bd len2 cap2], undef, .pointer (some ⟨w.heap.size, 0, none⟩), .pointer (some ⟨w.heap.size + 1, 0, none⟩), .bool false, .int .i64 N2, .pointer (some ⟨r9, 0, none⟩), .bool K, .pointer (some ⟨w4.heap.size, 0, none⟩), .pointer (some ⟨w5.heap.size, 0, none⟩), .pointer (some ⟨w6.heap.size, 0, none⟩), .bool K, .int .i64 (1 + 2 * (len : Int) + 2 * (len2 : Int)), .int .i64 (1 + 2 * (L.length : Int)), .int .i64 (1 + 2 * (L.length : Int)), x17, x18, .agg #[.slice ad len cap], .int .i64 1048576, .int .i64 N1, .int .i64 N1, .bool (decide (N1 < 0)), .agg #[.slice bd len2 cap2], .int .i64 N1, .int .i64 N2, .int .i64 N2, .bool (decide (N2 < 0)), .tuple #[.agg #[.slice ra5 L.length rC5], .bool K], .int .i64 n, .agg #[.slice ad len cap], .agg #[.slice (some ⟨rG2, 0, none⟩) len len], .agg #[.slice bd len2 cap2], .agg #[.slice (some ⟨rG4, 0, none⟩) len2 len2], .tuple #[.agg #[.slice ra5 L.length rC5], .bool K], .agg #[.slice ra5 L.length rC5], .bool K, .agg #[.slice ad len cap], .agg #[.slice (some ⟨Gx, 0, none⟩) len len], .agg #[.slice bd len2 cap2], .agg #[.slice (some ⟨Gy, 0, none⟩) len2 len2], .tuple #[.agg #[.slice ag L.length cg], .bool K], .int .i64 n, .agg #[.slice (some ⟨Gx, 0, none⟩) len len], .agg #[.slice (some ⟨Gy, 0, none⟩) len2 len2], .tuple #[.agg #[.slice ag L.length cg], .bool K], .agg #[.slice ag L.length cg], .bool K, .agg #[.slice ag L.length cg], .agg #[.slice ra5 L.length rC5], .bool true, .bool false, .bool false, .bool K, .bool K, .bool false, .bool false, .agg #[.slice (some ⟨Gx, 0, none⟩) len len], .agg #[.slice ad len cap], .agg #[.slice (some ⟨sg2, 0, none⟩) len len], .bool true, .bool false, .agg #[.slice (some ⟨Gy, 0, none⟩) len2 len2], .agg #[.slice bd len2 cap2], .agg #[.slice (some ⟨tg2, 0, none⟩) len2 len2], .bool true, .bool false, .agg #[.slice (some ⟨Gx, 0, none⟩) len len], .int .i64 1, .int .i64 (1 + 2 * (len : Int)), .agg #[.slice (some ⟨Gy, 0, none⟩) len2 len2], .int .i64 (1 + 2 * (len : Int)), .int .i64 (1 + 2 * (len : Int) + 2 * (len2 : Int)), .int .i64 (1 + 2 * (len : Int) + 2 * (len2 : Int)), .bool (decide (1 + 2 * (len : Int) + 2 * (len2 : Int) < 0)), .bool (decide (1 + 2 * (len : Int) + 2 * (len2 : Int) < 0)), .agg #[.slice ag L.length cg], .agg #[.slice ra5 L.length rC5], .bool true, .bool false, .bool (decide (1 + 2 * (len : Int) + 2 * (len2 : Int) < 0)), .bool (decide (1 + 2 * (len : Int) + 2 * (len2 : Int) < 0)), .bool K, .bool K, .bool false, .bool (decide (1 + 2 * (len : Int) + 2 * (len2 : Int) < 0)), .agg #[.slice ag L.length cg], .int .i64 1, .int .i64 (1 + 2 * (L.length : Int)), .agg #[.slice ag L.length cg], .int .i64 1, .int .i64 (1 + 2 * (L.length : Int)), .int .i64 (1 + 2 * (L.length : Int)), .bool (decide (1 + 2 * (L.length : Int) < 0)), .int .i64 (1 + 2 * (L.length : Int)), .int .i64 (1 + 2 * (L.length : Int)), .bool false, x98, x99, x100, x101, x102, x103, x104, x105, x106, undef, undef, undef, undef, undef, undef, undef, undef, undef, undef, undef, undef, undef, undef, undef, undef, undef], defers := [] } ∧ (f 0 = true → x99 = .int .i64 n) ∧ (f 1 = true → x100 = .agg #[.slice ad len cap]) ∧ (f 2 = true → x101 = .agg #[.slice (some ⟨vG2, 0, none⟩) len len] ∧ WB.heap.size ≤ vG2 ∧ OwnP W vG2 (ps) ∧ True) ∧ (f 3 = true → x102 = .agg #[.slice bd len2 cap2]) ∧ (f 4 = true → x103 = .agg #[.slice (some ⟨vG4, 0, none⟩) len2 len2] ∧ WB.heap.size ≤ vG4 ∧ OwnP W vG4 (qs) ∧ True) ∧ (f 5 = true → x104 = .tuple #[.agg #[.slice va5 L.length vC5], .bool K] ∧ (∀ c ∈ [(va5, L, vo5)], ∀ G, c.2.2 = some G → WB.heap.size ≤ G) ∧ HasL W [(va5, L, vo5)] ∧ L.length ≤ vC5) ∧ (f 6 = true → x98 = .tuple #[.agg #[.slice va5 L.length vC5], .bool K]) ∧ (f 7 = true → x105 = .agg #[.slice va5 L.length vC5]) ∧ (f 8 = true → x106 = .bool K) ∧ (f 9 = true → x17 = .pointer (some ⟨v9, 0, none⟩) ∧ WB.heap.size ≤ v9 ∧ v9 < W.heap.size ∧ (f 10 = false → Own W v9 [.slice none 0 0]) ∧ (f 10 = true → Own W v9 [.slice va5 L.length vC5])) ∧ (f 11 = true → x18 = .bool K) ∧ (f 10 = true → f 9 = true) ∧ (f 6 = true → f 5 = true) ∧ (f 7 = true → f 5 = true) ∧ (f 10 = true → f 5 = true) ∧ (f 2 = true → f 4 = true → vG2 ≠ vG4) ∧ (f 2 = true → f 5 = true → (∀ c ∈ [(va5, L, vo5)], ∀ G, c.2.2 = some G → G ≠ vG2)) ∧ (f 2 = true → f 9 = true → v9 ≠ vG2) ∧ (f 4 = true → f 5 = true → (∀ c ∈ [(va5, L, vo5)], ∀ G, c.2.2 = some G → G ≠ vG4)) ∧ (f 4 = true → f 9 = true → v9 ≠ vG4) ∧ (f 5 = true → f 9 = true → (∀ c ∈ [(va5, L, vo5)], ∀ G, c.2.2 = some G → G ≠ v9)) ∧ Below WB.heap.size WB W) ?_ ⟨?_, ?_, ?_, ?_, ?_, ?_, ?_, ?_, ?_, ?_, ?_, ?_, trivial⟩ ?_
      · exact ⟨undef, undef, undef, undef, undef, undef, undef, undef, undef, undef, undef, 0, 0, 0, none, 0, none, rfl, (fun h => (by cases h)), (fun h => (by cases h)), (fun h => (by cases h)), (fun h => (by cases h)), (fun h => (by cases h)), (fun h => (by cases h)), (fun h => (by cases h)), (fun h => (by cases h)), (fun h => (by cases h)), (fun h => (by cases h)), (fun h => (by cases h)), (fun h => (by cases h)), (fun h => (by cases h)), (fun h => (by cases h)), (fun h => (by cases h)), (fun h => (by cases h)), (fun h => (by cases h)), (fun h => (by cases h)), (fun h => (by cases h)), (fun h => (by cases h)), (fun h => (by cases h)), (Below.refl _ _).drew⟩
      · rintro f a W ⟨x99, x100, x101, x102, x103, x104, x98, x105, x106, x17, x18, v9, vG2, vG4, va5, vC5, vo5, rfl, H⟩ hf hd K hK
        have h0 := H.1
        replace H := H.2
        have h1 := H.1
        replace H := H.2
        have h2 := H.1
        replace H := H.2
        have h3 := H.1
        replace H := H.2
        have h4 := H.1
        replace H := H.2
        have h5 := H.1
        replace H := H.2
        have h6 := H.1
        replace H := H.2
        have h7 := H.1
        replace H := H.2
        have h8 := H.1
        replace H := H.2
        have h9 := H.1
        replace H := H.2
        have h11 := H.1
        replace H := H.2
        have n9 := H.1
        replace H := H.2
        have d6_5 := H.1
        replace H := H.2
        have d7_5 := H.1
        replace H := H.2
        have d10_5 := H.1
        replace H := H.2
        have m2_4 := H.1
        replace H := H.2
        have m2_5 := H.1
        replace H := H.2
        have m2_9 := H.1
        replace H := H.2
        have m4_5 := H.1
        replace H := H.2
        have m4_9 := H.1
        replace H := H.2
        have m5_9 := H.1
        replace H := H.2
        have hB := H
        clear H
        go_simp
        refine hK _ _ ?_
        exact ⟨_, x100, x101, x102, x103, x104, x98, x105, x106, x17, x18, v9, vG2, vG4, va5, vC5, vo5, rfl, fun _ => rfl, fun h => h1 (upd_ne (by decide) h), fun h => h2 (upd_ne (by decide) h), fun h => h3 (upd_ne (by decide) h), fun h => h4 (upd_ne (by decide) h), fun h => h5 (upd_ne (by decide) h), fun h => h6 (upd_ne (by decide) h), fun h => h7 (upd_ne (by decide) h), fun h => h8 (upd_ne (by decide) h), fun h => (by obtain ⟨p1, p2, p3, p4, p5⟩ := h9 (upd_ne (by decide) h); exact ⟨p1, p2, p3, fun h' => p4 (by rw [upd_same (by decide)] at h'; exact h'), fun h' => p5 (upd_ne (by decide) h')⟩), fun h => h11 (upd_ne (by decide) h), fun h => upd_of (n9 (upd_ne (by decide) h)), fun h => upd_of (d6_5 (upd_ne (by decide) h)), fun h => upd_of (d7_5 (upd_ne (by decide) h)), fun h => upd_of (d10_5 (upd_ne (by decide) h)), fun h h' => m2_4 (upd_ne (by decide) h) (upd_ne (by decide) h'), fun h h' => m2_5 (upd_ne (by decide) h) (upd_ne (by decide) h'), fun h h' => m2_9 (upd_ne (by decide) h) (upd_ne (by decide) h'), fun h h' => m4_5 (upd_ne (by decide) h) (upd_ne (by decide) h'), fun h h' => m4_9 (upd_ne (by decide) h) (upd_ne (by decide) h'), fun h h' => m5_9 (upd_ne (by decide) h) (upd_ne (by decide) h'), hB⟩
      · rintro f a W ⟨x99, x100, x101, x102, x103, x104, x98, x105, x106, x17, x18, v9, vG2, vG4, va5, vC5, vo5, rfl, H⟩ hf hd K hK
        have h0 := H.1
        replace H := H.2
        have h1 := H.1
        replace H := H.2
        have h2 := H.1
        replace H := H.2
        have h3 := H.1
        replace H := H.2
        have h4 := H.1
        replace H := H.2
        have h5 := H.1
        replace H := H.2
        have h6 := H.1
        replace H := H.2
        have h7 := H.1
        replace H := H.2
        have h8 := H.1
        replace H := H.2
        have h9 := H.1
        replace H := H.2
        have h11 := H.1
        replace H := H.2
        have n9 := H.1
        replace H := H.2
        have d6_5 := H.1
        replace H := H.2
        have d7_5 := H.1
        replace H := H.2
        have d10_5 := H.1
        replace H := H.2
        have m2_4 := H.1
        replace H := H.2
        have m2_5 := H.1
        replace H := H.2
        have m2_9 := H.1
        replace H := H.2
        have m4_5 := H.1
        replace H := H.2
        have m4_9 := H.1
        replace H := H.2
        have m5_9 := H.1
        replace H := H.2
        have hB := H
        clear H
        have r0 := (hB.cell (p := ⟨w.heap.size, 0, none⟩) l1).trans c1
        go_simp
        refine hK _ _ ?_
        exact ⟨x99, _, x101, x102, x103, x104, x98, x105, x106, x17, x18, v9, vG2, vG4, va5, vC5, vo5, rfl, fun h => h0 (upd_ne (by decide) h), fun _ => rfl, fun h => h2 (upd_ne (by decide) h), fun h => h3 (upd_ne (by decide) h), fun h => h4 (upd_ne (by decide) h), fun h => h5 (upd_ne (by decide) h), fun h => h6 (upd_ne (by decide) h), fun h => h7 (upd_ne (by decide) h), fun h => h8 (upd_ne (by decide) h), fun h => (by obtain ⟨p1, p2, p3, p4, p5⟩ := h9 (upd_ne (by decide) h); exact ⟨p1, p2, p3, fun h' => p4 (by rw [upd_same (by decide)] at h'; exact h'), fun h' => p5 (upd_ne (by decide) h')⟩), fun h => h11 (upd_ne (by decide) h), fun h => upd_of (n9 (upd_ne (by decide) h)), fun h => upd_of (d6_5 (upd_ne (by decide) h)), fun h => upd_of (d7_5 (upd_ne (by decide) h)), fun h => upd_of (d10_5 (upd_ne (by decide) h)), fun h h' => m2_4 (upd_ne (by decide) h) (upd_ne (by decide) h'), fun h h' => m2_5 (upd_ne (by decide) h) (upd_ne (by decide) h'), fun h h' => m2_9 (upd_ne (by decide) h) (upd_ne (by decide) h'), fun h h' => m4_5 (upd_ne (by decide) h) (upd_ne (by decide) h'), fun h h' => m4_9 (upd_ne (by decide) h) (upd_ne (by decide) h'), fun h h' => m5_9 (upd_ne (by decide) h) (upd_ne (by decide) h'), hB⟩
      · rintro f a W ⟨x99, x100, x101, x102, x103, x104, x98, x105, x106, x17, x18, v9, vG2, vG4, va5, vC5, vo5, rfl, H⟩ hf hd K hK
        have h0 := H.1
        replace H := H.2
        have h1 := H.1
        replace H := H.2
        have h2 := H.1
        replace H := H.2
        have h3 := H.1
        replace H := H.2
        have h4 := H.1
        replace H := H.2
        have h5 := H.1
        replace H := H.2
        have h6 := H.1
        replace H := H.2
        have h7 := H.1
        replace H := H.2
        have h8 := H.1
        replace H := H.2
        have h9 := H.1
        replace H := H.2
        have h11 := H.1
        replace H := H.2
        have n9 := H.1
        replace H := H.2
        have d6_5 := H.1
        replace H := H.2
        have d7_5 := H.1
        replace H := H.2
        have d10_5 := H.1
        replace H := H.2
        have m2_4 := H.1
        replace H := H.2
        have m2_5 := H.1
        replace H := H.2
        have m2_9 := H.1
        replace H := H.2
        have m4_5 := H.1
        replace H := H.2
        have m4_9 := H.1
        replace H := H.2
        have m5_9 := H.1
        replace H := H.2
        have hB := H
        clear H
        have e1 := h1 (dep_of hd (e := ⟨1, .data⟩) (by simp) rfl)
        subst e1
        go_simp
        refine (toBox _ ad ps len cap hlen ((F.out.args 2 rfl).below hB) hl hm).mono ?_
        rintro e W2 ⟨G_, hG, rfl, on, q⟩
        refine hK _ _ ?_
        exact ⟨x99, _, _, x102, x103, x104, x98, x105, x106, x17, x18, v9, G_, vG4, va5, vC5, vo5, rfl, fun h => h0 (upd_ne (by decide) h), fun _ => rfl, fun _ => ⟨rfl, Nat.le_trans hB.size hG, on, trivial⟩, fun h => h3 (upd_ne (by decide) h), fun h => (by obtain ⟨p1, p2, p3, p4⟩ := h4 (upd_ne (by decide) h); exact ⟨p1, p2, p3.below q, p4⟩), fun h => (by obtain ⟨p1, p2, p3, p4⟩ := h5 (upd_ne (by decide) h); exact ⟨p1, p2, p3.below q, p4⟩), fun h => h6 (upd_ne (by decide) h), fun h => h7 (upd_ne (by decide) h), fun h => h8 (upd_ne (by decide) h), fun h => (by obtain ⟨p1, p2, p3, p4, p5⟩ := h9 (upd_ne (by decide) h); exact ⟨p1, p2, Nat.lt_of_lt_of_le (p3) q.size, fun h' => (p4 (by rw [upd_same (by decide)] at h'; exact h')).below q, fun h' => (p5 (upd_ne (by decide) h')).below q⟩), fun h => h11 (upd_ne (by decide) h), fun h => upd_of (n9 (upd_ne (by decide) h)), fun h => upd_of (d6_5 (upd_ne (by decide) h)), fun h => upd_of (d7_5 (upd_ne (by decide) h)), fun h => upd_of (d10_5 (upd_ne (by decide) h)), fun _ h => (by obtain ⟨-, -, p3, -⟩ := h4 (upd_ne (by decide) h); have p4 := p3.lt; omega), fun _ h => (by obtain ⟨-, -, p3, -⟩ := h5 (upd_ne (by decide) h); intro c hc G h1; have p4 := p3.lt c hc G h1; omega), fun _ h => (by obtain ⟨-, -, p3, -, -⟩ := h9 (upd_ne (by decide) h); omega), fun h h' => m4_5 (upd_ne (by decide) h) (upd_ne (by decide) h'), fun h h' => m4_9 (upd_ne (by decide) h) (upd_ne (by decide) h'), fun h h' => m5_9 (upd_ne (by decide) h) (upd_ne (by decide) h'), hB.trans (q.mono hB.size)⟩
      · rintro f a W ⟨x99, x100, x101, x102, x103, x104, x98, x105, x106, x17, x18, v9, vG2, vG4, va5, vC5, vo5, rfl, H⟩ hf hd K hK
        have h0 := H.1
        replace H := H.2
        have h1 := H.1
        replace H := H.2
        have h2 := H.1
        replace H := H.2
        have h3 := H.1
        replace H := H.2
        have h4 := H.1
        replace H := H.2
        have h5 := H.1
        replace H := H.2
        have h6 := H.1
        replace H := H.2
        have h7 := H.1
        replace H := H.2
        have h8 := H.1
        replace H := H.2
        have h9 := H.1
        replace H := H.2
        have h11 := H.1
        replace H := H.2
        have n9 := H.1
        replace H := H.2
        have d6_5 := H.1
        replace H := H.2
        have d7_5 := H.1
        replace H := H.2
        have d10_5 := H.1
        replace H := H.2
        have m2_4 := H.1
        replace H := H.2
        have m2_5 := H.1
        replace H := H.2
        have m2_9 := H.1
        replace H := H.2
        have m4_5 := H.1
        replace H := H.2
        have m4_9 := H.1
        replace H := H.2
        have m5_9 := H.1
        replace H := H.2
        have hB := H
        clear H
        have r0 := (hB.cell (p := ⟨w.heap.size + 1, 0, none⟩) l3).trans c3
        go_simp
        refine hK _ _ ?_
        exact ⟨x99, x100, x101, _, x103, x104, x98, x105, x106, x17, x18, v9, vG2, vG4, va5, vC5, vo5, rfl, fun h => h0 (upd_ne (by decide) h), fun h => h1 (upd_ne (by decide) h), fun h => h2 (upd_ne (by decide) h), fun _ => rfl, fun h => h4 (upd_ne (by decide) h), fun h => h5 (upd_ne (by decide) h), fun h => h6 (upd_ne (by decide) h), fun h => h7 (upd_ne (by decide) h), fun h => h8 (upd_ne (by decide) h), fun h => (by obtain ⟨p1, p2, p3, p4, p5⟩ := h9 (upd_ne (by decide) h); exact ⟨p1, p2, p3, fun h' => p4 (by rw [upd_same (by decide)] at h'; exact h'), fun h' => p5 (upd_ne (by decide) h')⟩), fun h => h11 (upd_ne (by decide) h), fun h => upd_of (n9 (upd_ne (by decide) h)), fun h => upd_of (d6_5 (upd_ne (by decide) h)), fun h => upd_of (d7_5 (upd_ne (by decide) h)), fun h => upd_of (d10_5 (upd_ne (by decide) h)), fun h h' => m2_4 (upd_ne (by decide) h) (upd_ne (by decide) h'), fun h h' => m2_5 (upd_ne (by decide) h) (upd_ne (by decide) h'), fun h h' => m2_9 (upd_ne (by decide) h) (upd_ne (by decide) h'), fun h h' => m4_5 (upd_ne (by decide) h) (upd_ne (by decide) h'), fun h h' => m4_9 (upd_ne (by decide) h) (upd_ne (by decide) h'), fun h h' => m5_9 (upd_ne (by decide) h) (upd_ne (by decide) h'), hB⟩
      · rintro f a W ⟨x99, x100, x101, x102, x103, x104, x98, x105, x106, x17, x18, v9, vG2, vG4, va5, vC5, vo5, rfl, H⟩ hf hd K hK
        have h0 := H.1
        replace H := H.2
        have h1 := H.1
        replace H := H.2
        have h2 := H.1
        replace H := H.2
        have h3 := H.1
        replace H := H.2
        have h4 := H.1
        replace H := H.2
        have h5 := H.1
        replace H := H.2
        have h6 := H.1
        replace H := H.2
        have h7 := H.1
        replace H := H.2
        have h8 := H.1
        replace H := H.2
        have h9 := H.1
        replace H := H.2
        have h11 := H.1
        replace H := H.2
        have n9 := H.1
        replace H := H.2
        have d6_5 := H.1
        replace H := H.2
        have d7_5 := H.1
        replace H := H.2
        have d10_5 := H.1
        replace H := H.2
        have m2_4 := H.1
        replace H := H.2
        have m2_5 := H.1
        replace H := H.2
        have m2_9 := H.1
        replace H := H.2
        have m4_5 := H.1
        replace H := H.2
        have m4_9 := H.1
        replace H := H.2
        have m5_9 := H.1
        replace H := H.2
        have hB := H
        clear H
        have e3 := h3 (dep_of hd (e := ⟨3, .data⟩) (by simp) rfl)
        subst e3
        go_simp
        refine (toBox _ bd qs len2 cap2 hlen2 ((F.out.args 4 rfl).below hB) hl2 hm2).mono ?_
        rintro e W2 ⟨G_, hG, rfl, on, q⟩
        refine hK _ _ ?_
        exact ⟨x99, x100, x101, _, _, x104, x98, x105, x106, x17, x18, v9, vG2, G_, va5, vC5, vo5, rfl, fun h => h0 (upd_ne (by decide) h), fun h => h1 (upd_ne (by decide) h), fun h => (by obtain ⟨p1, p2, p3, p4⟩ := h2 (upd_ne (by decide) h); exact ⟨p1, p2, p3.below q, p4⟩), fun _ => rfl, fun _ => ⟨rfl, Nat.le_trans hB.size hG, on, trivial⟩, fun h => (by obtain ⟨p1, p2, p3, p4⟩ := h5 (upd_ne (by decide) h); exact ⟨p1, p2, p3.below q, p4⟩), fun h => h6 (upd_ne (by decide) h), fun h => h7 (upd_ne (by decide) h), fun h => h8 (upd_ne (by decide) h), fun h => (by obtain ⟨p1, p2, p3, p4, p5⟩ := h9 (upd_ne (by decide) h); exact ⟨p1, p2, Nat.lt_of_lt_of_le (p3) q.size, fun h' => (p4 (by rw [upd_same (by decide)] at h'; exact h')).below q, fun h' => (p5 (upd_ne (by decide) h')).below q⟩), fun h => h11 (upd_ne (by decide) h), fun h => upd_of (n9 (upd_ne (by decide) h)), fun h => upd_of (d6_5 (upd_ne (by decide) h)), fun h => upd_of (d7_5 (upd_ne (by decide) h)), fun h => upd_of (d10_5 (upd_ne (by decide) h)), fun h _ => (by obtain ⟨-, -, p3, -⟩ := h2 (upd_ne (by decide) h); have p4 := p3.lt; omega), fun h h' => m2_5 (upd_ne (by decide) h) (upd_ne (by decide) h'), fun h h' => m2_9 (upd_ne (by decide) h) (upd_ne (by decide) h'), fun _ h => (by obtain ⟨-, -, p3, -⟩ := h5 (upd_ne (by decide) h); intro c hc G h1; have p4 := p3.lt c hc G h1; omega), fun _ h => (by obtain ⟨-, -, p3, -, -⟩ := h9 (upd_ne (by decide) h); omega), fun h h' => m5_9 (upd_ne (by decide) h) (upd_ne (by decide) h'), hB.trans (q.mono hB.size)⟩
      · rintro f a W ⟨x99, x100, x101, x102, x103, x104, x98, x105, x106, x17, x18, v9, vG2, vG4, va5, vC5, vo5, rfl, H⟩ hf hd K hK
        have h0 := H.1
        replace H := H.2
        have h1 := H.1
        replace H := H.2
        have h2 := H.1
        replace H := H.2
        have h3 := H.1
        replace H := H.2
        have h4 := H.1
        replace H := H.2
        have h5 := H.1
        replace H := H.2
        have h6 := H.1
        replace H := H.2
        have h7 := H.1
        replace H := H.2
        have h8 := H.1
        replace H := H.2
        have h9 := H.1
        replace H := H.2
        have h11 := H.1
        replace H := H.2
        have n9 := H.1
        replace H := H.2
        have d6_5 := H.1
        replace H := H.2
        have d7_5 := H.1
        replace H := H.2
        have d10_5 := H.1
        replace H := H.2
        have m2_4 := H.1
        replace H := H.2
        have m2_5 := H.1
        replace H := H.2
        have m2_9 := H.1
        replace H := H.2
        have m4_5 := H.1
        replace H := H.2
        have m4_9 := H.1
        replace H := H.2
        have m5_9 := H.1
        replace H := H.2
        have hB := H
        clear H
        have e0 := h0 (dep_of hd (e := ⟨0, .data⟩) (by simp) rfl)
        subst e0
        obtain ⟨e2, u2, o2, c2⟩ := h2 (dep_of hd (e := ⟨2, .data⟩) (by simp) rfl)
        subst e2
        obtain ⟨e4, u4, o4, c4⟩ := h4 (dep_of hd (e := ⟨4, .data⟩) (by simp) rfl)
        subst e4
        go_simp
        refine (hi2 _ _ _ (o2.at hw) (o4.at hw2)).mono ?_
        rintro e W2 ⟨a_, C_, o_, rfl, hc1, hp1, ho1, q⟩; have on := HasL.one hp1; have ho := from_one (a := a_) (ps := L) ho1
        refine hK _ _ ?_
        exact ⟨_, x100, _, x102, _, _, x98, x105, x106, x17, x18, v9, vG2, vG4, a_, C_, o_, rfl, fun _ => rfl, fun h => h1 (upd_ne (by decide) h), fun h => (by obtain ⟨p1, p2, p3, p4⟩ := h2 (upd_ne (by decide) h); exact ⟨p1, p2, p3.below q, p4⟩), fun h => h3 (upd_ne (by decide) h), fun h => (by obtain ⟨p1, p2, p3, p4⟩ := h4 (upd_ne (by decide) h); exact ⟨p1, p2, p3.below q, p4⟩), fun _ => ⟨rfl, (fun c hc G hG => Nat.le_trans hB.size (ho c hc G hG)), on, hc1⟩, fun h => absurd (d6_5 (upd_ne (by decide) h)) (by rw [hf]; decide), fun h => absurd (d7_5 (upd_ne (by decide) h)) (by rw [hf]; decide), fun h => h8 (upd_ne (by decide) h), fun h => (by obtain ⟨p1, p2, p3, p4, p5⟩ := h9 (upd_ne (by decide) h); exact ⟨p1, p2, Nat.lt_of_lt_of_le (p3) q.size, fun h' => (p4 (by rw [upd_same (by decide)] at h'; exact h')).below q, fun h' => absurd (d10_5 (upd_ne (by decide) h')) (by rw [hf]; decide)⟩), fun h => h11 (upd_ne (by decide) h), fun h => upd_of (n9 (upd_ne (by decide) h)), fun _ => upd_self, fun _ => upd_self, fun _ => upd_self, fun h h' => m2_4 (upd_ne (by decide) h) (upd_ne (by decide) h'), fun h _ => (by obtain ⟨-, -, p3, -⟩ := h2 (upd_ne (by decide) h); intro c hc G h1; have p4 := ho c hc G h1; have p5 := p3.lt; omega), fun h h' => m2_9 (upd_ne (by decide) h) (upd_ne (by decide) h'), fun h _ => (by obtain ⟨-, -, p3, -⟩ := h4 (upd_ne (by decide) h); intro c hc G h1; have p4 := ho c hc G h1; have p5 := p3.lt; omega), fun h h' => m4_9 (upd_ne (by decide) h) (upd_ne (by decide) h'), fun _ h => (by obtain ⟨-, -, p3, -, -⟩ := h9 (upd_ne (by decide) h); intro c hc G h1; have p4 := ho c hc G h1; omega), hB.trans (q.mono hB.size)⟩
      · rintro f a W ⟨x99, x100, x101, x102, x103, x104, x98, x105, x106, x17, x18, v9, vG2, vG4, va5, vC5, vo5, rfl, H⟩ hf hd K hK
        have h0 := H.1
        replace H := H.2
        have h1 := H.1
        replace H := H.2
        have h2 := H.1
        replace H := H.2
        have h3 := H.1
        replace H := H.2
        have h4 := H.1
        replace H := H.2
        have h5 := H.1
        replace H := H.2
        have h6 := H.1
        replace H := H.2
        have h7 := H.1
        replace H := H.2
        have h8 := H.1
        replace H := H.2
        have h9 := H.1
        replace H := H.2
        have h11 := H.1
        replace H := H.2
        have n9 := H.1
        replace H := H.2
        have d6_5 := H.1
        replace H := H.2
        have d7_5 := H.1
        replace H := H.2
        have d10_5 := H.1
        replace H := H.2
        have m2_4 := H.1
        replace H := H.2
        have m2_5 := H.1
        replace H := H.2
        have m2_9 := H.1
        replace H := H.2
        have m4_5 := H.1
        replace H := H.2
        have m4_9 := H.1
        replace H := H.2
        have m5_9 := H.1
        replace H := H.2
        have hB := H
        clear H
        obtain ⟨e5, u5, o5, c5⟩ := h5 (dep_of hd (e := ⟨5, .data⟩) (by simp) rfl)
        subst e5
        go_simp
        refine hK _ _ ?_
        exact ⟨x99, x100, x101, x102, x103, _, _, x105, x106, x17, x18, v9, vG2, vG4, va5, vC5, vo5, rfl, fun h => h0 (upd_ne (by decide) h), fun h => h1 (upd_ne (by decide) h), fun h => h2 (upd_ne (by decide) h), fun h => h3 (upd_ne (by decide) h), fun h => h4 (upd_ne (by decide) h), fun _ => ⟨rfl, u5, o5, c5⟩, fun _ => rfl, fun h => h7 (upd_ne (by decide) h), fun h => h8 (upd_ne (by decide) h), fun h => (by obtain ⟨p1, p2, p3, p4, p5⟩ := h9 (upd_ne (by decide) h); exact ⟨p1, p2, p3, fun h' => p4 (by rw [upd_same (by decide)] at h'; exact h'), fun h' => p5 (upd_ne (by decide) h')⟩), fun h => h11 (upd_ne (by decide) h), fun h => upd_of (n9 (upd_ne (by decide) h)), fun _ => upd_of (dep_of hd (e := ⟨5, .data⟩) (by simp) rfl), fun h => upd_of (d7_5 (upd_ne (by decide) h)), fun h => upd_of (d10_5 (upd_ne (by decide) h)), fun h h' => m2_4 (upd_ne (by decide) h) (upd_ne (by decide) h'), fun h h' => m2_5 (upd_ne (by decide) h) (upd_ne (by decide) h'), fun h h' => m2_9 (upd_ne (by decide) h) (upd_ne (by decide) h'), fun h h' => m4_5 (upd_ne (by decide) h) (upd_ne (by decide) h'), fun h h' => m4_9 (upd_ne (by decide) h) (upd_ne (by decide) h'), fun h h' => m5_9 (upd_ne (by decide) h) (upd_ne (by decide) h'), hB⟩
      · rintro f a W ⟨x99, x100, x101, x102, x103, x104, x98, x105, x106, x17, x18, v9, vG2, vG4, va5, vC5, vo5, rfl, H⟩ hf hd K hK
        have h0 := H.1
        replace H := H.2
        have h1 := H.1
        replace H := H.2
        have h2 := H.1
        replace H := H.2
        have h3 := H.1
        replace H := H.2
        have h4 := H.1
        replace H := H.2
        have h5 := H.1
        replace H := H.2
        have h6 := H.1
        replace H := H.2
        have h7 := H.1
        replace H := H.2
        have h8 := H.1
        replace H := H.2
        have h9 := H.1
        replace H := H.2
        have h11 := H.1
        replace H := H.2
        have n9 := H.1
        replace H := H.2
        have d6_5 := H.1
        replace H := H.2
        have d7_5 := H.1
        replace H := H.2
        have d10_5 := H.1
        replace H := H.2
        have m2_4 := H.1
        replace H := H.2
        have m2_5 := H.1
        replace H := H.2
        have m2_9 := H.1
        replace H := H.2
        have m4_5 := H.1
        replace H := H.2
        have m4_9 := H.1
        replace H := H.2
        have m5_9 := H.1
        replace H := H.2
        have hB := H
        clear H
        have e6 := h6 (dep_of hd (e := ⟨6, .data⟩) (by simp) rfl)
        subst e6
        go_simp
        refine hK _ _ ?_
        exact ⟨x99, x100, x101, x102, x103, x104, _, _, x106, x17, x18, v9, vG2, vG4, va5, vC5, vo5, rfl, fun h => h0 (upd_ne (by decide) h), fun h => h1 (upd_ne (by decide) h), fun h => h2 (upd_ne (by decide) h), fun h => h3 (upd_ne (by decide) h), fun h => h4 (upd_ne (by decide) h), fun h => h5 (upd_ne (by decide) h), fun _ => rfl, fun _ => rfl, fun h => h8 (upd_ne (by decide) h), fun h => (by obtain ⟨p1, p2, p3, p4, p5⟩ := h9 (upd_ne (by decide) h); exact ⟨p1, p2, p3, fun h' => p4 (by rw [upd_same (by decide)] at h'; exact h'), fun h' => p5 (upd_ne (by decide) h')⟩), fun h => h11 (upd_ne (by decide) h), fun h => upd_of (n9 (upd_ne (by decide) h)), fun h => upd_of (d6_5 (upd_ne (by decide) h)), fun _ => upd_of (d6_5 (dep_of hd (e := ⟨6, .data⟩) (by simp) rfl)), fun h => upd_of (d10_5 (upd_ne (by decide) h)), fun h h' => m2_4 (upd_ne (by decide) h) (upd_ne (by decide) h'), fun h h' => m2_5 (upd_ne (by decide) h) (upd_ne (by decide) h'), fun h h' => m2_9 (upd_ne (by decide) h) (upd_ne (by decide) h'), fun h h' => m4_5 (upd_ne (by decide) h) (upd_ne (by decide) h'), fun h h' => m4_9 (upd_ne (by decide) h) (upd_ne (by decide) h'), fun h h' => m5_9 (upd_ne (by decide) h) (upd_ne (by decide) h'), hB⟩
      · rintro f a W ⟨x99, x100, x101, x102, x103, x104, x98, x105, x106, x17, x18, v9, vG2, vG4, va5, vC5, vo5, rfl, H⟩ hf hd K hK
        have h0 := H.1
        replace H := H.2
        have h1 := H.1
        replace H := H.2
        have h2 := H.1
        replace H := H.2
        have h3 := H.1
        replace H := H.2
        have h4 := H.1
        replace H := H.2
        have h5 := H.1
        replace H := H.2
        have h6 := H.1
        replace H := H.2
        have h7 := H.1
        replace H := H.2
        have h8 := H.1
        replace H := H.2
        have h9 := H.1
        replace H := H.2
        have h11 := H.1
        replace H := H.2
        have n9 := H.1
        replace H := H.2
        have d6_5 := H.1
        replace H := H.2
        have d7_5 := H.1
        replace H := H.2
        have d10_5 := H.1
        replace H := H.2
        have m2_4 := H.1
        replace H := H.2
        have m2_5 := H.1
        replace H := H.2
        have m2_9 := H.1
        replace H := H.2
        have m4_5 := H.1
        replace H := H.2
        have m4_9 := H.1
        replace H := H.2
        have m5_9 := H.1
        replace H := H.2
        have hB := H
        clear H
        have e6 := h6 (dep_of hd (e := ⟨6, .data⟩) (by simp) rfl)
        subst e6
        go_simp
        refine hK _ _ ?_
        exact ⟨x99, x100, x101, x102, x103, x104, _, x105, _, x17, x18, v9, vG2, vG4, va5, vC5, vo5, rfl, fun h => h0 (upd_ne (by decide) h), fun h => h1 (upd_ne (by decide) h), fun h => h2 (upd_ne (by decide) h), fun h => h3 (upd_ne (by decide) h), fun h => h4 (upd_ne (by decide) h), fun h => h5 (upd_ne (by decide) h), fun _ => rfl, fun h => h7 (upd_ne (by decide) h), fun _ => rfl, fun h => (by obtain ⟨p1, p2, p3, p4, p5⟩ := h9 (upd_ne (by decide) h); exact ⟨p1, p2, p3, fun h' => p4 (by rw [upd_same (by decide)] at h'; exact h'), fun h' => p5 (upd_ne (by decide) h')⟩), fun h => h11 (upd_ne (by decide) h), fun h => upd_of (n9 (upd_ne (by decide) h)), fun h => upd_of (d6_5 (upd_ne (by decide) h)), fun h => upd_of (d7_5 (upd_ne (by decide) h)), fun h => upd_of (d10_5 (upd_ne (by decide) h)), fun h h' => m2_4 (upd_ne (by decide) h) (upd_ne (by decide) h'), fun h h' => m2_5 (upd_ne (by decide) h) (upd_ne (by decide) h'), fun h h' => m2_9 (upd_ne (by decide) h) (upd_ne (by decide) h'), fun h h' => m4_5 (upd_ne (by decide) h) (upd_ne (by decide) h'), fun h h' => m4_9 (upd_ne (by decide) h) (upd_ne (by decide) h'), fun h h' => m5_9 (upd_ne (by decide) h) (upd_ne (by decide) h'), hB⟩
      · rintro f a W ⟨x99, x100, x101, x102, x103, x104, x98, x105, x106, x17, x18, v9, vG2, vG4, va5, vC5, vo5, rfl, H⟩ hf hd K hK
        have h0 := H.1
        replace H := H.2
        have h1 := H.1
        replace H := H.2
        have h2 := H.1
        replace H := H.2
        have h3 := H.1
        replace H := H.2
        have h4 := H.1
        replace H := H.2
        have h5 := H.1
        replace H := H.2
        have h6 := H.1
        replace H := H.2
        have h7 := H.1
        replace H := H.2
        have h8 := H.1
        replace H := H.2
        have h9 := H.1
        replace H := H.2
        have h11 := H.1
        replace H := H.2
        have n9 := H.1
        replace H := H.2
        have d6_5 := H.1
        replace H := H.2
        have d7_5 := H.1
        replace H := H.2
        have d10_5 := H.1
        replace H := H.2
        have m2_4 := H.1
        replace H := H.2
        have m2_5 := H.1
        replace H := H.2
        have m2_9 := H.1
        replace H := H.2
        have m4_5 := H.1
        replace H := H.2
        have m4_9 := H.1
        replace H := H.2
        have m5_9 := H.1
        replace H := H.2
        have hB := H
        clear H
        go_simp
        refine hK _ _ ?_
        exact ⟨x99, x100, x101, x102, x103, x104, x98, x105, x106, _, x18, W.heap.size, vG2, vG4, va5, vC5, vo5, rfl, fun h => h0 (upd_ne (by decide) h), fun h => h1 (upd_ne (by decide) h), fun h => (by obtain ⟨p1, p2, p3, p4⟩ := h2 (upd_ne (by decide) h); exact ⟨p1, p2, p3.below ((Below.refl _ _).alloc (Nat.le_refl _) _), p4⟩), fun h => h3 (upd_ne (by decide) h), fun h => (by obtain ⟨p1, p2, p3, p4⟩ := h4 (upd_ne (by decide) h); exact ⟨p1, p2, p3.below ((Below.refl _ _).alloc (Nat.le_refl _) _), p4⟩), fun h => (by obtain ⟨p1, p2, p3, p4⟩ := h5 (upd_ne (by decide) h); exact ⟨p1, p2, p3.below ((Below.refl _ _).alloc (Nat.le_refl _) _), p4⟩), fun h => h6 (upd_ne (by decide) h), fun h => h7 (upd_ne (by decide) h), fun h => h8 (upd_ne (by decide) h), fun _ => ⟨rfl, hB.size, (by simp), fun _ => Own.new W _ _, fun h' => absurd (n9 (upd_ne (by decide) h')) (by rw [hf]; decide)⟩, fun h => h11 (upd_ne (by decide) h), fun _ => upd_self, fun h => upd_of (d6_5 (upd_ne (by decide) h)), fun h => upd_of (d7_5 (upd_ne (by decide) h)), fun h => upd_of (d10_5 (upd_ne (by decide) h)), fun h h' => m2_4 (upd_ne (by decide) h) (upd_ne (by decide) h'), fun h h' => m2_5 (upd_ne (by decide) h) (upd_ne (by decide) h'), fun h _ => (by obtain ⟨-, -, p3, -⟩ := h2 (upd_ne (by decide) h); have p4 := p3.lt; omega), fun h h' => m4_5 (upd_ne (by decide) h) (upd_ne (by decide) h'), fun h _ => (by obtain ⟨-, -, p3, -⟩ := h4 (upd_ne (by decide) h); have p4 := p3.lt; omega), fun h _ => (by obtain ⟨-, -, p3, -⟩ := h5 (upd_ne (by decide) h); intro c hc G h1; have p4 := p3.lt c hc G h1; omega), hB.alloc hB.size _⟩
      · rintro f a W ⟨x99, x100, x101, x102, x103, x104, x98, x105, x106, x17, x18, v9, vG2, vG4, va5, vC5, vo5, rfl, H⟩ hf hd K hK
        have h0 := H.1
        replace H := H.2
        have h1 := H.1
        replace H := H.2
        have h2 := H.1
        replace H := H.2
        have h3 := H.1
        replace H := H.2
        have h4 := H.1
        replace H := H.2
        have h5 := H.1
        replace H := H.2
        have h6 := H.1
        replace H := H.2
        have h7 := H.1
        replace H := H.2
        have h8 := H.1
        replace H := H.2
        have h9 := H.1
        replace H := H.2
        have h11 := H.1
        replace H := H.2
        have n9 := H.1
        replace H := H.2
        have d6_5 := H.1
        replace H := H.2
        have d7_5 := H.1
        replace H := H.2
        have d10_5 := H.1
        replace H := H.2
        have m2_4 := H.1
        replace H := H.2
        have m2_5 := H.1
        replace H := H.2
        have m2_9 := H.1
        replace H := H.2
        have m4_5 := H.1
        replace H := H.2
        have m4_9 := H.1
        replace H := H.2
        have m5_9 := H.1
        replace H := H.2
        have hB := H
        clear H
        obtain ⟨e9, u9, t9, z9, s9⟩ := h9 (dep_of hd (e := ⟨9, .data⟩) (by simp) rfl)
        subst e9
        have e7 := h7 (dep_of hd (e := ⟨7, .data⟩) (by simp) rfl)
        subst e7
        have oz := z9 hf
        have r0 := oz.cell 0 _ rfl
        have o0_ := oz.frz 0 _ rfl
        go_simp
        refine hK _ _ ?_
        exact ⟨x99, x100, x101, x102, x103, x104, x98, _, x106, _, x18, v9, vG2, vG4, va5, vC5, vo5, rfl, fun h => h0 (upd_ne (by decide) h), fun h => h1 (upd_ne (by decide) h), fun h => (by obtain ⟨p1, p2, p3, p4⟩ := h2 (upd_ne (by decide) h); have hne := m2_9 (upd_ne (by decide) h) (dep_of hd (e := ⟨9, .data⟩) (by simp) rfl); exact ⟨p1, p2, p3.keepO ((KeepO.of_below (some v9) (Below.refl _ _)).setCell (i := 0) _) (fun e => by have := Option.some.inj e; omega), p4⟩), fun h => h3 (upd_ne (by decide) h), fun h => (by obtain ⟨p1, p2, p3, p4⟩ := h4 (upd_ne (by decide) h); have hne := m4_9 (upd_ne (by decide) h) (dep_of hd (e := ⟨9, .data⟩) (by simp) rfl); exact ⟨p1, p2, p3.keepO ((KeepO.of_below (some v9) (Below.refl _ _)).setCell (i := 0) _) (fun e => by have := Option.some.inj e; omega), p4⟩), fun h => (by obtain ⟨p1, p2, p3, p4⟩ := h5 (upd_ne (by decide) h); have hne := m5_9 (upd_ne (by decide) h) (dep_of hd (e := ⟨9, .data⟩) (by simp) rfl); exact ⟨p1, p2, p3.keepO ((KeepO.of_below (some v9) (Below.refl _ _)).setCell (i := 0) _) (fun c hc G hG e => by have := hne c hc G hG; omega), p4⟩), fun h => h6 (upd_ne (by decide) h), fun _ => rfl, fun h => h8 (upd_ne (by decide) h), fun _ => ⟨rfl, u9, (by simpa [World.setCell] using t9), fun h' => (by rw [upd_self] at h'; cases h'), fun _ => Own.set (i := 0) (oz) _ (by simp)⟩, fun h => h11 (upd_ne (by decide) h), fun _ => upd_of (dep_of hd (e := ⟨9, .data⟩) (by simp) rfl), fun h => upd_of (d6_5 (upd_ne (by decide) h)), fun h => upd_of (d7_5 (upd_ne (by decide) h)), fun _ => upd_of (dep_of hd (e := ⟨5, .chain⟩) (by simp) rfl), fun h h' => m2_4 (upd_ne (by decide) h) (upd_ne (by decide) h'), fun h h' => m2_5 (upd_ne (by decide) h) (upd_ne (by decide) h'), fun h h' => m2_9 (upd_ne (by decide) h) (upd_ne (by decide) h'), fun h h' => m4_5 (upd_ne (by decide) h) (upd_ne (by decide) h'), fun h h' => m4_9 (upd_ne (by decide) h) (upd_ne (by decide) h'), fun h h' => m5_9 (upd_ne (by decide) h) (upd_ne (by decide) h'), (hB.setCell (p := ⟨v9, 0, none⟩) u9 _)⟩
      · rintro f a W ⟨x99, x100, x101, x102, x103, x104, x98, x105, x106, x17, x18, v9, vG2, vG4, va5, vC5, vo5, rfl, H⟩ hf hd K hK
        have h0 := H.1
        replace H := H.2
        have h1 := H.1
        replace H := H.2
        have h2 := H.1
        replace H := H.2
        have h3 := H.1
        replace H := H.2
        have h4 := H.1
        replace H := H.2
        have h5 := H.1
        replace H := H.2
        have h6 := H.1
        replace H := H.2
        have h7 := H.1
        replace H := H.2
        have h8 := H.1
        replace H := H.2
        have h9 := H.1
        replace H := H.2
        have h11 := H.1
        replace H := H.2
        have n9 := H.1
        replace H := H.2
        have d6_5 := H.1
        replace H := H.2
        have d7_5 := H.1
        replace H := H.2
        have d10_5 := H.1
        replace H := H.2
        have m2_4 := H.1
        replace H := H.2
        have m2_5 := H.1
        replace H := H.2
        have m2_9 := H.1
        replace H := H.2
        have m4_5 := H.1
        replace H := H.2
        have m4_9 := H.1
        replace H := H.2
        have m5_9 := H.1
        replace H := H.2
        have hB := H
        clear H
        have e8 := h8 (dep_of hd (e := ⟨8, .data⟩) (by simp) rfl)
        subst e8
        go_simp
        refine hK _ _ ?_
        exact ⟨x99, x100, x101, x102, x103, x104, x98, x105, _, x17, _, v9, vG2, vG4, va5, vC5, vo5, rfl, fun h => h0 (upd_ne (by decide) h), fun h => h1 (upd_ne (by decide) h), fun h => h2 (upd_ne (by decide) h), fun h => h3 (upd_ne (by decide) h), fun h => h4 (upd_ne (by decide) h), fun h => h5 (upd_ne (by decide) h), fun h => h6 (upd_ne (by decide) h), fun h => h7 (upd_ne (by decide) h), fun _ => rfl, fun h => (by obtain ⟨p1, p2, p3, p4, p5⟩ := h9 (upd_ne (by decide) h); exact ⟨p1, p2, p3, fun h' => p4 (by rw [upd_same (by decide)] at h'; exact h'), fun h' => p5 (upd_ne (by decide) h')⟩), fun _ => rfl, fun h => upd_of (n9 (upd_ne (by decide) h)), fun h => upd_of (d6_5 (upd_ne (by decide) h)), fun h => upd_of (d7_5 (upd_ne (by decide) h)), fun h => upd_of (d10_5 (upd_ne (by decide) h)), fun h h' => m2_4 (upd_ne (by decide) h) (upd_ne (by decide) h'), fun h h' => m2_5 (upd_ne (by decide) h) (upd_ne (by decide) h'), fun h h' => m2_9 (upd_ne (by decide) h) (upd_ne (by decide) h'), fun h h' => m4_5 (upd_ne (by decide) h) (upd_ne (by decide) h'), fun h h' => m4_9 (upd_ne (by decide) h) (upd_ne (by decide) h'), fun h h' => m5_9 (upd_ne (by decide) h) (upd_ne (by decide) h'), hB⟩
      rintro f a w13 ⟨x99, x100, x101, x102, x103, x104, x98, x105, x106, x17, x18, v9, vG2, vG4, va5, vC5, vo5, rfl, H⟩ hall
      have h0 := H.1
      replace H := H.2
      have h1 := H.1
      replace H := H.2
      have h2 := H.1
      replace H := H.2
      have h3 := H.1
      replace H := H.2
      have h4 := H.1
      replace H := H.2
      have h5 := H.1
      replace H := H.2
      have h6 := H.1
      replace H := H.2
      have h7 := H.1
      replace H := H.2
      have h8 := H.1
      replace H := H.2
      have h9 := H.1
      replace H := H.2
      have h11 := H.1
      replace H := H.2
      have n9 := H.1
      replace H := H.2
      have d6_5 := H.1
      replace H := H.2
      have d7_5 := H.1
      replace H := H.2
      have d10_5 := H.1
      replace H := H.2
      have m2_4 := H.1
      replace H := H.2
      have m2_5 := H.1
      replace H := H.2
      have m2_9 := H.1
      replace H := H.2
      have m4_5 := H.1
      replace H := H.2
      have m4_9 := H.1
      replace H := H.2
      have m5_9 := H.1
      replace H := H.2
      have qB := H
      clear H
      have e0 := h0 (hall 0 (by decide))
      subst e0
      have e1 := h1 (hall 1 (by decide))
      subst e1
      obtain ⟨e2, u2, s2, c2_⟩ := h2 (hall 2 (by decide))
      subst e2
      have e3 := h3 (hall 3 (by decide))
      subst e3
      obtain ⟨e4, u4, s4, c4_⟩ := h4 (hall 4 (by decide))
      subst e4
      obtain ⟨e5, u5, s5, c5_⟩ := h5 (hall 5 (by decide))
      subst e5
      have e6 := h6 (hall 6 (by decide))
      subst e6
      have e7 := h7 (hall 7 (by decide))
      subst e7
      have e8 := h8 (hall 8 (by decide))
      subst e8
      obtain ⟨e9, u9, -, -, s9⟩ := h9 (hall 9 (by decide))
      replace s9 := s9 (hall 10 (by decide))
      subst e9
      have e11 := h11 (hall 11 (by decide))
      subst e11
      replace m2_4 := m2_4 (hall 2 (by decide)) (hall 4 (by decide))
      replace m2_5 := m2_5 (hall 2 (by decide)) (hall 5 (by decide))
      replace m2_9 := m2_9 (hall 2 (by decide)) (hall 9 (by decide))
      replace m4_5 := m4_5 (hall 4 (by decide)) (hall 5 (by decide))
      replace m4_9 := m4_9 (hall 4 (by decide)) (hall 9 (by decide))
      replace m5_9 := m5_9 (hall 5 (by decide)) (hall 9 (by decide))
      clear hall h0 h1 h2 h3 h4 h5 h6 h7 h8 h9 h11 n9 d6_5 d7_5 d10_5
      try dsimp only
      have hch := c5_
      replace F : Hid (Facts _ [.bel w, .own w.heap.size [.slice ad len cap], .args w.heap.size ad ps, .own (w.heap.size + 1) [.slice bd len2 cap2], .args w.heap.size bd qs, .has ra5 L ro5, .own r9 [.slice ra5 L.length rC5], .has (some ⟨Gx, 0, none⟩) (marks 1 len) (some Gx), .own w4.heap.size [.slice (some ⟨Gx, 0, none⟩) len len], .has (some ⟨Gy, 0, none⟩) (marks (1 + 2 * (len : Int)) len2) (some Gy), .own w5.heap.size [.slice (some ⟨Gy, 0, none⟩) len2 len2], .has ag (marks 1 L.length) og, .own w6.heap.size [.slice ag L.length cg], .has va5 L vo5, .own v9 [.slice va5 L.length vC5]]) := ((F.out.below qB).push (f := .has va5 L vo5) (s5 _ (List.mem_cons_self ..))).push (f := .own _ _) s9
      clear l1 c1 l3 c3 qB u2 s2 c2_ u4 s4 c4_ u5 s5 c5_ s9 u9 m2_4 m2_5 m2_9 m4_5 m4_9 m5_9
      have c14 := (F.out.own 14 rfl).cell 0 _ rfl
      have c6 := (F.out.own 6 rfl).cell 0 _ rfl
      go_wp2_with first
        | (go_at_call 13; refine (e3 _ _ _ _ _ (F.out.has 13 rfl).at (F.out.has 5 rfl).at hch hcw hL.out).mono ?_; clear e3 c14 c6; rintro e w14 ⟨rfl, q⟩; replace F : Hid (Facts _ _) := F.out.below q; clear q; have c12 := (F.out.own 12 rfl).cell 0 _ rfl)
        | (go_at_call 21; refine (d2 _ _ _ (F.out.has 11 rfl).at hcg).mono ?_; clear d2 c12; rintro e w15 ⟨rfl, q⟩; replace F : Hid (Facts _ _) := F.out.below q; clear q)
      go_ret
      exact ⟨rfl, F.out.bel 0 rfl⟩
  · rw [if_pos (by omega)] at hz
    have hneg : (-1 : Int) < 0 := by omega
    clear hs hi
    go_enter Try.func5, Try.ntmps5
    go_wp2_with (go_at_call 8; refine (hz _).mono ?_; clear hz; rintro e w1 ⟨rfl, q⟩; replace F : Hid (Facts _ _) := F.out.below q; clear q)
    go_ret
    exact ⟨rfl, F.out.bel 0 rfl⟩

end Go.Proofs.Yteohgmmenlinbag
