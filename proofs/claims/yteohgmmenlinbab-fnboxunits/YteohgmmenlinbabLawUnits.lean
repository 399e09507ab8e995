/- FnBoxUnits' walk: it returns true, whatever bytes come in. -/
import Derived.Test.YteohgmmenlinbabDrawBC
import Derived.Test.YteohgmmenlinbabPureV
import Derived.Test.YteohgmmenlinbabBoxSp
import Derived.Test.YteohgmmenlinbabBoxSpS
import Derived.Test.YteohgmmenlinbabBoxCt
import Derived.Test.YteohgmmenlinbabBoxCtS
import Derived.Test.YteohgmmenlinbabEither
namespace Go.Proofs.Yteohgmmenlinbab
open Go.ChangeShapes Go.WideShapes Go.ChangeAt Go.RowKit
set_option linter.unusedVariables false

/-- Two boxes that are laid into cells that stood there. -/
theorem cutSet {W w : World} {v1 oE oF : Option Nat} {d1 eA eB : Option Addr} {qs E F : List (Int × Int)} {C S : Nat} {x u1 u2 s1 s2 : Value} {p : List Value}
    (h : Facts W [.bel w, .has d1 qs v1, .own C [x], .own (C + 1) p, .own S [u1], .own (S + 1) [u2]]) (hE : HasO W eA E oE) (hF : HasO W eB F oF) (hw : w.heap.size ≤ S) (h1 : ∀ G, v1 = some G → S + 1 < G) (hC : S + 1 < C)
    (h2 : ∀ G, oE = some G → S + 1 < G) (h3 : ∀ G, oF = some G → S + 1 < G) :
    Facts ((W.setCell ⟨S, 0, none⟩ s1).setCell ⟨S + 1, 0, none⟩ s2) [.bel w, .has d1 qs v1, .own C [x], .own (C + 1) p, .own S [s1], .own (S + 1) [s2], .has eA E oE, .has eB F oF] := by
  have q1 : KeepO (some S) W (W.setCell ⟨S, 0, none⟩ s1) := (KeepO.of_below (some S) (Below.refl _ W)).setCell _
  have q2 : KeepO (some (S + 1)) (W.setCell ⟨S, 0, none⟩ s1) ((W.setCell ⟨S, 0, none⟩ s1).setCell ⟨S + 1, 0, none⟩ s2) := (KeepO.of_below (some (S + 1)) (Below.refl _ _)).setCell _
  have key : ∀ f : Fact, f.holds W → f.free (some S) → f.free (some (S + 1)) → f.holds ((W.setCell ⟨S, 0, none⟩ s1).setCell ⟨S + 1, 0, none⟩ s2) := fun f hf a b => f.keep (f.keep hf q1 a) q2 b
  have e4 : Own ((W.setCell ⟨S, 0, none⟩ s1).setCell ⟨S + 1, 0, none⟩ s2) S [s1] := ((h.own 4 rfl).set (i := 0) s1 (by simp)).other _ (by omega)
  have e5 : Own ((W.setCell ⟨S, 0, none⟩ s1).setCell ⟨S + 1, 0, none⟩ s2) (S + 1) [s2] := ((h.own 5 rfl).other (j := S) (i := 0) s1 (by omega)).set (i := 0) s2 (by simp)
  refine (((((((Facts.nil _).push (f := .bel w) (key _ (h.bel 0 rfl) ?_ ?_)).pushHas (key (.has d1 qs v1) (h.has 1 rfl) ?_ ?_)).pushOwn (key (.own C [x]) (h.own 2 rfl) ?_ ?_)).pushOwn (key (.own (C + 1) p) (h.own 3 rfl) ?_ ?_)).pushOwn e4).pushOwn e5).pushHas (key (.has eA E oE) hE ?_ ?_) |>.pushHas (key (.has eB F oF) hF ?_ ?_)
  · intro G hG; have := Option.some.inj hG; omega
  · intro G hG; have := Option.some.inj hG; omega
  · intro G hG e; have := Option.some.inj e; have := h1 G hG; omega
  · intro G hG e; have := Option.some.inj e; have := h1 G hG; omega
  · intro e; have := Option.some.inj e; omega
  · intro e; have := Option.some.inj e; omega
  · intro e; have := Option.some.inj e; omega
  · intro e; have := Option.some.inj e; omega
  · intro G hG e; have := Option.some.inj e; have := h2 G hG; omega
  · intro G hG e; have := Option.some.inj e; have := h2 G hG; omega
  · intro G hG e; have := Option.some.inj e; have := h3 G hG; omega
  · intro G hG e; have := Option.some.inj e; have := h3 G hG; omega

theorem swap4 {W : World} {f0 f1 f2 f3 f4 f5 : Fact} (h : Facts W [f0, f1, f2, f3, f4, f5]) : Facts W [f0, f1, f4, f5, f2, f3] := by
  intro f hf
  apply h
  simp only [List.mem_cons, List.not_mem_nil, or_false] at hf ⊢
  rcases hf with h | h | h | h | h | h <;> simp [h]

set_option maxRecDepth 100000 in
set_option maxHeartbeats 16000000 in
theorem walkUnits (w : World) (a : Option Addr) (len cap : Nat) (hc : len ≤ 1048576 → Code8 w a len) (hl : len ≤ cap) (hm : len ≤ maxLen) (a' : Option Addr) (len' cap' : Nat) (hc' : len' ≤ 1048576 → Code8 w a' len') (hl' : len' ≤ cap') (hm' : len' ≤ maxLen) :
    Calls Try.prog 6 #[.slice a len cap, .slice a' len' cap'] w fun e w' => e = .returned (.bool true) ∧ Below w.heap.size w w' := by
  by_cases hbig : 1048576 < len
  · have hbig' : 1048576 < (len : Int) := by omega
    unfold maxLen at hm
    go_enter Try.func6, Try.ntmps6
    go_wp2
    go_ret
    exact ⟨rfl, Below.refl _ _⟩
  · have hbig' : ¬ 1048576 < (len : Int) := by omega
    by_cases hbig2 : 1048576 < len'
    · have hbig2' : 1048576 < (len' : Int) := by omega
      unfold maxLen at hm'
      go_enter Try.func6, Try.ntmps6
      go_wp2
      go_ret
      exact ⟨rfl, Below.refl _ _⟩
    · have hbig2' : ¬ 1048576 < (len' : Int) := by omega
      have ho := drawBoxSplit w a len cap (hc (by omega)) hl (by omega)
      replace hc' := hc' (by omega)
      have ho2 := fun W (q : Below w.heap.size w W) => drawBoxCut W a' len' cap' (hc'.belowD q) hl' (by omega)
      clear hm hm' hc hc'
      go_enter Try.func6, Try.ntmps6
      go_wp2_with (go_at_call 22; refine ho.mono ?_; clear ho; rintro e w1 ⟨n, a1, c1, ps, o1, k, rfl, h8, hc1, hh1, wk, q⟩; have hwp := hh1.1; have F : Hid (Facts (w1.alloc (.cells #[.slice a1 ps.length c1] 41)) [.bel w, .has a1 ps o1, .own w1.heap.size [.slice a1 ps.length c1]]) := (((Facts.nil _).push (f := .bel w) q).pushHas hh1).cells #[.slice a1 ps.length c1] 41; clear q hh1)
      have K1 := fun W (h : PairsAt W a1 ps) => specBoxOk W n a1 ps c1 h hc1 (by omega)
      have U1 := fun W (h : PairsAt W a1 ps) => implBoxUnits W n a1 ps c1 h hc1 (by omega)
      have P1 := fun W (h : PairsAt W a1 ps) => implBoxPath W n a1 ps c1 h hc1 (by omega)
      have S1 := fun W (h : PairsAt W a1 ps) => implBoxSplit W n a1 ps c1 k wk h hc1 (by omega)
      have S2 := fun W (h : PairsAt W a1 ps) => specBoxSplit W n a1 ps c1 k wk h hc1 (by omega)
      have hAl := partA_len n (splitF n) ps k
      have hBl := partB_len n (splitF n) ps k
      have hok := split_ok (n := n) (k := k) hwp
      have hui := units_in n ps
      have hpi := path_in n hwp
      have hbb := box_bounds (n := n) hwp
      obtain ⟨l1, hl1⟩ : ∃ l, ps.length = l := ⟨_, rfl⟩
      unfold PartsOk at hok
      simp only [hl1] at K1 U1 P1 S1 S2 F hpi hok h8 hAl hBl hc1 ⊢
      clear hl1 hwp wk
      cases k1 : bokI n ps
      · rw [k1] at K1
        obtain ⟨z1, z2⟩ := box_none k1
        rw [z1] at U1
        rw [z2] at P1
        clear hok hui hpi hbb S1 S2 z1 z2 ho2
        go_wp2_with first
          | (go_at_call 23; refine (K1 _ (F.out.has 1 rfl).at).mono ?_; rintro e w2 ⟨rfl, q⟩; replace F : Hid (Facts w2 [.bel w, .has a1 ps o1, .own w1.heap.size [.slice a1 l1 c1]]) := F.out.below q; clear q; clear K1; have d2_0 := (F.out.own 2 rfl).cell 0 _ rfl)
          | (go_at_call 24; refine (U1 _ (F.out.has 1 rfl).at).mono ?_; rintro e w3 ⟨rfl, q⟩; replace F : Hid (Facts w3 [.bel w, .has a1 ps o1, .own w1.heap.size [.slice a1 l1 c1]]) := F.out.below q; clear q; clear U1; clear d2_0; have d2_1 := (F.out.own 2 rfl).cell 0 _ rfl)
          | (go_at_call 25; refine (P1 _ (F.out.has 1 rfl).at).mono ?_; rintro e w4 ⟨rfl, q⟩; replace F : Hid (Facts w4 [.bel w, .has a1 ps o1, .own w1.heap.size [.slice a1 l1 c1]]) := F.out.below q; clear q; clear P1; clear d2_1)
        go_ret
        exact ⟨rfl, F.out.bel 0 rfl⟩
      · rw [k1] at K1
        obtain ⟨u1, p1⟩ := hbb k1
        cases k3 : partK n (splitF n) ps k
        · rw [k3] at S1 S2
          clear hok k3
          generalize partA n (splitF n) ps k = D at *
          generalize partB n (splitF n) ps k = D2 at *
          generalize unitsI n ps = u at *
          generalize pathI n ps = p at *
          go_wp2_with first
            | (go_at_call 23; refine (K1 _ (F.out.has 1 rfl).at).mono ?_; rintro e w2 ⟨rfl, q⟩; replace F : Hid (Facts w2 [.bel w, .has a1 ps o1, .own w1.heap.size [.slice a1 l1 c1]]) := F.out.below q; clear q; clear K1; have d2_0 := (F.out.own 2 rfl).cell 0 _ rfl)
            | (go_at_call 24; refine (U1 _ (F.out.has 1 rfl).at).mono ?_; rintro e w3 ⟨rfl, q⟩; replace F : Hid (Facts w3 [.bel w, .has a1 ps o1, .own w1.heap.size [.slice a1 l1 c1]]) := F.out.below q; clear q; clear U1; clear d2_0; have d2_1 := (F.out.own 2 rfl).cell 0 _ rfl)
            | (go_at_call 25; refine (P1 _ (F.out.has 1 rfl).at).mono ?_; rintro e w4 ⟨rfl, q⟩; replace F : Hid (Facts w4 [.bel w, .has a1 ps o1, .own w1.heap.size [.slice a1 l1 c1]]) := F.out.below q; clear q; clear P1; clear d2_1; have d2_2 := (F.out.own 2 rfl).cell 0 _ rfl)
            | (go_at_call 26; refine (S1 _ (F.out.has 1 rfl).at).mono ?_; clear S1; rintro e w5 ⟨aA, cA, oA, aB, cB, oB, rfl, ⟨hcA, hA, -⟩, ⟨hcB, hB, -⟩, -, q⟩; have hSw : Hid (w.heap.size ≤ w5.heap.size) := Nat.le_trans (F.out.bel 0 rfl).size q.size; replace F : Hid (Facts ((w5.alloc (.cells #[.slice aA D.length cA] 41)).alloc (.cells #[.slice aB D2.length cB] 41)) [.bel w, .has a1 ps o1, .own w1.heap.size [.slice a1 l1 c1], .has aA D oA, .has aB D2 oB, .own w5.heap.size [.slice aA D.length cA], .own (w5.heap.size + 1) [.slice aB D2.length cB]]) := (((F.out.below q).pushHas hA).pushHas hB).cells2 #[.slice aA D.length cA] #[.slice aB D2.length cB] 41 41; clear q hA hB; clear d2_2; have d2_3 := (F.out.own 2 rfl).cell 0 _ rfl)
            | (go_at_call 27; refine (S2 _ (F.out.has 1 rfl).at).mono ?_; clear S2; rintro e w6 ⟨bA, eA, rA, bB, eB, rB, rfl, -, -, -, q⟩; replace F : Hid (Facts ((w6.alloc (.cells #[.slice bA D.length eA] 41)).alloc (.cells #[.slice bB D2.length eB] 41)) [.bel w, .has a1 ps o1, .own w1.heap.size [.slice a1 l1 c1], .has aA D oA, .has aB D2 oB, .own w5.heap.size [.slice aA D.length cA], .own (w5.heap.size + 1) [.slice aB D2.length cB]]) := ((F.out.below q).alloc _).alloc _; clear q; clear d2_3; skip)
          clear hAl hBl hui hpi u1 p1
          go_wp2_with (go_at_call 28; refine (ho2 _ (F.out.bel 0 rfl)).mono ?_; clear ho2; rintro e x1 ⟨n2, d1, c2, qs, v1, k2, g, gh, rfl, h82, hc2, hh2, hv1, wk2, wg, wgh, q⟩; have hwq := hh2.1; have hST : Hid (w5.heap.size + 1 < x1.heap.size ∧ ∀ G, v1 = some G → w5.heap.size + 1 < G) := ⟨((F.out.below q).own 6 rfl).lt, fun G hG => by have := hv1 G hG; have := (F.out.own 6 rfl).lt; omega⟩; replace F : Hid (Facts ((x1.alloc (.cells #[.slice d1 qs.length c2] 41)).alloc (.cells #[.int .i64 g, .int .i64 gh] 24)) [.bel w, .has d1 qs v1, .own w5.heap.size [.slice aA D.length cA], .own (w5.heap.size + 1) [.slice aB D2.length cB], .own x1.heap.size [.slice d1 qs.length c2], .own (x1.heap.size + 1) [.int .i64 g, .int .i64 gh]]) := (((((Facts.nil _).push (f := .bel w) ((F.out.below q).bel 0 rfl)).pushHas hh2).pushOwn ((F.out.below q).own 5 rfl)).pushOwn ((F.out.below q).own 6 rfl)).cells2 #[.slice d1 qs.length c2] #[.int .i64 g, .int .i64 gh] 41 24; clear q hh2 hv1)
          replace F : Hid (Facts _ [.bel w, .has d1 qs v1, .own x1.heap.size [.slice d1 qs.length c2], .own (x1.heap.size + 1) [.int .i64 g, .int .i64 gh], .own w5.heap.size [.slice aA D.length cA], .own (w5.heap.size + 1) [.slice aB D2.length cB]]) := swap4 F.out
          have V1 := fun W (h : PairsAt W d1 qs) => implBoxUnits W n2 d1 qs c2 h hc2 (by omega)
          have Q1 := fun W (h : PairsAt W d1 qs) => implBoxPath W n2 d1 qs c2 h hc2 (by omega)
          have T1 := fun W (h : PairsAt W d1 qs) => implBoxCut W n2 d1 qs c2 k2 wk2 g gh wg wgh h hc2 (by omega)
          have T2 := fun W (h : PairsAt W d1 qs) => specBoxCut W n2 d1 qs c2 k2 wk2 g gh wg wgh h hc2 (by omega)
          have hEl := partA_len n2 (cutF n2 g gh) qs k2
          have hFl := partB_len n2 (cutF n2 g gh) qs k2
          have hok2 := cut_ok (n := n2) (k := k2) wg wgh hwq
          have hui2 := units_in n2 qs
          have hpi2 := path_in n2 hwq
          obtain ⟨l2, hl2⟩ : ∃ l, qs.length = l := ⟨_, rfl⟩
          unfold PartsOk at hok2
          simp only [hl2] at V1 Q1 T1 T2 F hpi2 hok2 h82 hEl hFl hc2 ⊢
          clear hl2 hwq wk2 wg wgh
          cases k5 : partK n2 (cutF n2 g gh) qs k2
          · rw [k5] at T1 T2
            clear hok2 k5
            generalize partA n2 (cutF n2 g gh) qs k2 = E at *
            generalize partB n2 (cutF n2 g gh) qs k2 = E2 at *
            go_wp2_with first
              | (go_at_call 29; refine (T1 _ (F.out.has 1 rfl).at).mono ?_; clear T1; rintro e x2 ⟨eA, cE, oE, eB, cF, oF, rfl, ⟨hcE, hE, gE⟩, ⟨hcF, hF, gF⟩, -, q⟩; have y0 := ((F.out.below q).own 4 rfl).cell 0 _ rfl; have y1 := ((F.out.below q).own 4 rfl).frz 0 _ rfl; have y2 := ((F.out.below q).own 5 rfl).cell 0 _ rfl; have y3 := ((F.out.below q).own 5 rfl).frz 0 _ rfl; replace F : Hid (Facts ((x2.setCell ⟨w5.heap.size, 0, none⟩ (.slice eA E.length cE)).setCell ⟨w5.heap.size + 1, 0, none⟩ (.slice eB E2.length cF)) [.bel w, .has d1 qs v1, .own x1.heap.size [.slice d1 l2 c2], .own (x1.heap.size + 1) [.int .i64 g, .int .i64 gh], .own w5.heap.size [.slice eA E.length cE], .own (w5.heap.size + 1) [.slice eB E2.length cF], .has eA E oE, .has eB E2 oF]) := cutSet (F.out.below q) hE hF hSw.out hST.out.2 hST.out.1 (fun G hG => by have := gE G hG; have := (F.out.own 5 rfl).lt; omega) (fun G hG => by have := gF G hG; have := (F.out.own 5 rfl).lt; omega); clear q hE hF gE gF; have z0 := (F.out.own 2 rfl).cell 0 _ rfl; have z1 := (F.out.own 3 rfl).cell 0 _ rfl; have z2 := (F.out.own 3 rfl).cell 1 _ rfl)
              | (go_at_call 30; refine (T2 _ (F.out.has 1 rfl).at).mono ?_; clear T2; rintro e x3 ⟨fA, dE, pE, fB, dF, pF, rfl, -, -, -, q⟩; replace F : Hid (Facts ((x3.alloc (.cells #[.slice fA E.length dE] 41)).alloc (.cells #[.slice fB E2.length dF] 41)) [.bel w, .has d1 qs v1, .own x1.heap.size [.slice d1 l2 c2], .own (x1.heap.size + 1) [.int .i64 g, .int .i64 gh], .own w5.heap.size [.slice eA E.length cE], .own (w5.heap.size + 1) [.slice eB E2.length cF], .has eA E oE, .has eB E2 oF]) := ((F.out.below q).alloc _).alloc _; clear q y0 y1 y2 y3 z0 z1 z2; have z0 := (F.out.own 2 rfl).cell 0 _ rfl)
            go_ret
            exact ⟨rfl, F.out.bel 0 rfl⟩
          · rw [k5] at T1 T2
            obtain ⟨r1, r2, r3, r4, r5, r6⟩ := hok2 k5
            have hx := units_in n2 (partA n2 (cutF n2 g gh) qs k2)
            have hy := units_in n2 (partB n2 (cutF n2 g gh) qs k2)
            have V2 := fun W b e (h : PairsAt W b (partA n2 (cutF n2 g gh) qs k2)) (hc : (partA n2 (cutF n2 g gh) qs k2).length ≤ e) => implBoxUnits W n2 b (partA n2 (cutF n2 g gh) qs k2) e h hc (by omega)
            have V3 := fun W b e (h : PairsAt W b (partB n2 (cutF n2 g gh) qs k2)) (hc : (partB n2 (cutF n2 g gh) qs k2).length ≤ e) => implBoxUnits W n2 b (partB n2 (cutF n2 g gh) qs k2) e h hc (by omega)
            have Q2 := fun W b e (h : PairsAt W b (partA n2 (cutF n2 g gh) qs k2)) (hc : (partA n2 (cutF n2 g gh) qs k2).length ≤ e) => implBoxPath W n2 b (partA n2 (cutF n2 g gh) qs k2) e h hc (by omega)
            have Q3 := fun W b e (h : PairsAt W b (partB n2 (cutF n2 g gh) qs k2)) (hc : (partB n2 (cutF n2 g gh) qs k2).length ≤ e) => implBoxPath W n2 b (partB n2 (cutF n2 g gh) qs k2) e h hc (by omega)
            clear hok2 k5
            generalize partA n2 (cutF n2 g gh) qs k2 = E at *
            generalize partB n2 (cutF n2 g gh) qs k2 = E2 at *
            generalize unitsI n2 qs = t0 at *
            generalize unitsI n2 E = t1 at *
            generalize unitsI n2 E2 = t2 at *
            generalize pathI n2 qs = s0 at *
            generalize pathI n2 E = s1 at *
            generalize pathI n2 E2 = s2 at *
            by_cases hlo : t0 < 1000000000
            · replace r1 := r1 hlo
              have g1 : decide (t0 < 1000000000) = true := decide_eq_true hlo
              have g2 : IntKind.i64.wrap (t1 + t2) = t1 + t2 := IntWalk.i64_in _ ⟨by omega, by omega⟩
              have g3 : IntKind.i64.wrap (t1 + t2 + 1) = t1 + t2 + 1 := IntWalk.i64_in _ ⟨by omega, by omega⟩
              have g4 : decide (t0 < t1 + t2 + 1) = false := decide_eq_false (by omega)
              have g5 : IntKind.i64.wrap (s1 + 1) = s1 + 1 := IntWalk.i64_in _ ⟨by omega, by omega⟩
              have g6 : decide (s0 < s1 + 1) = false := decide_eq_false (by omega)
              have g7 : decide (s0 < s2) = false := decide_eq_false (by omega)
              clear r1 r2 r3 r4 r5 r6 hx hy hui2 hpi2
              go_wp2_with first
                | (go_at_call 29; refine (T1 _ (F.out.has 1 rfl).at).mono ?_; clear T1; rintro e x2 ⟨eA, cE, oE, eB, cF, oF, rfl, ⟨hcE, hE, gE⟩, ⟨hcF, hF, gF⟩, -, q⟩; have y0 := ((F.out.below q).own 4 rfl).cell 0 _ rfl; have y1 := ((F.out.below q).own 4 rfl).frz 0 _ rfl; have y2 := ((F.out.below q).own 5 rfl).cell 0 _ rfl; have y3 := ((F.out.below q).own 5 rfl).frz 0 _ rfl; replace F : Hid (Facts ((x2.setCell ⟨w5.heap.size, 0, none⟩ (.slice eA E.length cE)).setCell ⟨w5.heap.size + 1, 0, none⟩ (.slice eB E2.length cF)) [.bel w, .has d1 qs v1, .own x1.heap.size [.slice d1 l2 c2], .own (x1.heap.size + 1) [.int .i64 g, .int .i64 gh], .own w5.heap.size [.slice eA E.length cE], .own (w5.heap.size + 1) [.slice eB E2.length cF], .has eA E oE, .has eB E2 oF]) := cutSet (F.out.below q) hE hF hSw.out hST.out.2 hST.out.1 (fun G hG => by have := gE G hG; have := (F.out.own 5 rfl).lt; omega) (fun G hG => by have := gF G hG; have := (F.out.own 5 rfl).lt; omega); clear q hE hF gE gF; have z0 := (F.out.own 2 rfl).cell 0 _ rfl; have z1 := (F.out.own 3 rfl).cell 0 _ rfl; have z2 := (F.out.own 3 rfl).cell 1 _ rfl)
                | (go_at_call 30; refine (T2 _ (F.out.has 1 rfl).at).mono ?_; clear T2; rintro e x3 ⟨fA, dE, pE, fB, dF, pF, rfl, -, -, -, q⟩; replace F : Hid (Facts ((x3.alloc (.cells #[.slice fA E.length dE] 41)).alloc (.cells #[.slice fB E2.length dF] 41)) [.bel w, .has d1 qs v1, .own x1.heap.size [.slice d1 l2 c2], .own (x1.heap.size + 1) [.int .i64 g, .int .i64 gh], .own w5.heap.size [.slice eA E.length cE], .own (w5.heap.size + 1) [.slice eB E2.length cF], .has eA E oE, .has eB E2 oF]) := ((F.out.below q).alloc _).alloc _; clear q y0 y1 y2 y3 z0 z1 z2; have z0 := (F.out.own 2 rfl).cell 0 _ rfl)
                | (go_at_call 24; refine (V1 _ (F.out.has 1 rfl).at).mono ?_; rintro e x4 ⟨rfl, q⟩; replace F : Hid (Facts x4 [.bel w, .has d1 qs v1, .own x1.heap.size [.slice d1 l2 c2], .own (x1.heap.size + 1) [.int .i64 g, .int .i64 gh], .own w5.heap.size [.slice eA E.length cE], .own (w5.heap.size + 1) [.slice eB E2.length cF], .has eA E oE, .has eB E2 oF]) := F.out.below q; clear q; clear V1 z0; have d4_2 := (F.out.own 4 rfl).cell 0 _ rfl)
                | (go_at_call 24; refine (V2 _ _ _ (F.out.has 6 rfl).at hcE).mono ?_; rintro e x5 ⟨rfl, q⟩; replace F : Hid (Facts x5 [.bel w, .has d1 qs v1, .own x1.heap.size [.slice d1 l2 c2], .own (x1.heap.size + 1) [.int .i64 g, .int .i64 gh], .own w5.heap.size [.slice eA E.length cE], .own (w5.heap.size + 1) [.slice eB E2.length cF], .has eA E oE, .has eB E2 oF]) := F.out.below q; clear q; clear V2; clear d4_2; have d5_3 := (F.out.own 5 rfl).cell 0 _ rfl)
                | (go_at_call 24; refine (V3 _ _ _ (F.out.has 7 rfl).at hcF).mono ?_; rintro e x6 ⟨rfl, q⟩; replace F : Hid (Facts x6 [.bel w, .has d1 qs v1, .own x1.heap.size [.slice d1 l2 c2], .own (x1.heap.size + 1) [.int .i64 g, .int .i64 gh], .own w5.heap.size [.slice eA E.length cE], .own (w5.heap.size + 1) [.slice eB E2.length cF], .has eA E oE, .has eB E2 oF]) := F.out.below q; clear q; clear V3; clear d5_3)
              refine region_below (by kernel_rfl) (by kernel_rfl) ?_
              repeat (first
                | go_big_quiet_step (first
                  | (intro hC; go_at_call 25; first | exact Calls.qb hC (either3 (Q := fun a l c u => Calls Try.prog 25 #[.int .i64 n2, .agg #[.slice a l c]] _ fun e w' => e = .returned (.int .i64 u) ∧ Below _ _ w') (Q2 _ _ _ ((F.out.has 6 rfl).at.below hC) hcE) (Q3 _ _ _ ((F.out.has 7 rfl).at.below hC) hcF) (Q1 _ ((F.out.has 1 rfl).at.below hC)) _ _ _ _ (.inl ⟨rfl, rfl, rfl, rfl⟩)) | exact Calls.qb hC (either3 (Q := fun a l c u => Calls Try.prog 25 #[.int .i64 n2, .agg #[.slice a l c]] _ fun e w' => e = .returned (.int .i64 u) ∧ Below _ _ w') (Q2 _ _ _ ((F.out.has 6 rfl).at.below hC) hcE) (Q3 _ _ _ ((F.out.has 7 rfl).at.below hC) hcF) (Q1 _ ((F.out.has 1 rfl).at.below hC)) _ _ _ _ (.inr (.inl ⟨rfl, rfl, rfl, rfl⟩))) | exact Calls.qb hC (either3 (Q := fun a l c u => Calls Try.prog 25 #[.int .i64 n2, .agg #[.slice a l c]] _ fun e w' => e = .returned (.int .i64 u) ∧ Below _ _ w') (Q2 _ _ _ ((F.out.has 6 rfl).at.below hC) hcE) (Q3 _ _ _ ((F.out.has 7 rfl).at.below hC) hcF) (Q1 _ ((F.out.has 1 rfl).at.below hC)) _ _ _ _ (.inr (.inr ⟨rfl, rfl, rfl, rfl⟩))))
                  | (intro _; rfl))
                | (go_big_quiet_want
                   go_big_quiet_op
                   refine ⟨.agg #[.slice eA E.length cE], ?_, ?_⟩
                   · intro W hC
                     have r0 := (hC.cell (p := ⟨w5.heap.size, 0, none⟩) (F.out.own 4 rfl).lt).trans ((F.out.own 4 rfl).cell 0 _ rfl)
                     go_simp
                   go_big_quiet_on)
                | (go_big_quiet_want
                   go_big_quiet_op
                   refine ⟨.agg #[.slice eB E2.length cF], ?_, ?_⟩
                   · intro W hC
                     have r0 := (hC.cell (p := ⟨w5.heap.size + 1, 0, none⟩) (F.out.own 5 rfl).lt).trans ((F.out.own 5 rfl).cell 0 _ rfl)
                     go_simp
                   go_big_quiet_on)
                | (go_big_quiet_want
                   go_big_quiet_op
                   refine ⟨.agg #[.slice d1 l2 c2], ?_, ?_⟩
                   · intro W hC
                     have r0 := (hC.cell (p := ⟨x1.heap.size, 0, none⟩) (F.out.own 2 rfl).lt).trans ((F.out.own 2 rfl).cell 0 _ rfl)
                     go_simp
                   go_big_quiet_on))
              refine wpQuiet_nil ?_
              intro x7 q4
              replace F : Hid (Facts x7 [.bel w, .has d1 qs v1, .own x1.heap.size [.slice d1 l2 c2], .own (x1.heap.size + 1) [.int .i64 g, .int .i64 gh], .own w5.heap.size [.slice eA E.length cE], .own (w5.heap.size + 1) [.slice eB E2.length cF], .has eA E oE, .has eB E2 oF]) := F.out.below q4
              clear q4 Q1 Q2 Q3
              go_wp2
              go_ret
              exact ⟨rfl, F.out.bel 0 rfl⟩
            · clear r1
              have g1 : decide (t0 < 1000000000) = false := decide_eq_false hlo
              have g5 : IntKind.i64.wrap (s1 + 1) = s1 + 1 := IntWalk.i64_in _ ⟨by omega, by omega⟩
              have g6 : decide (s0 < s1 + 1) = false := decide_eq_false (by omega)
              have g7 : decide (s0 < s2) = false := decide_eq_false (by omega)
              clear r2 r3 r4 r5 r6 hx hy hui2 hpi2
              go_wp2_with first
                | (go_at_call 29; refine (T1 _ (F.out.has 1 rfl).at).mono ?_; clear T1; rintro e x2 ⟨eA, cE, oE, eB, cF, oF, rfl, ⟨hcE, hE, gE⟩, ⟨hcF, hF, gF⟩, -, q⟩; have y0 := ((F.out.below q).own 4 rfl).cell 0 _ rfl; have y1 := ((F.out.below q).own 4 rfl).frz 0 _ rfl; have y2 := ((F.out.below q).own 5 rfl).cell 0 _ rfl; have y3 := ((F.out.below q).own 5 rfl).frz 0 _ rfl; replace F : Hid (Facts ((x2.setCell ⟨w5.heap.size, 0, none⟩ (.slice eA E.length cE)).setCell ⟨w5.heap.size + 1, 0, none⟩ (.slice eB E2.length cF)) [.bel w, .has d1 qs v1, .own x1.heap.size [.slice d1 l2 c2], .own (x1.heap.size + 1) [.int .i64 g, .int .i64 gh], .own w5.heap.size [.slice eA E.length cE], .own (w5.heap.size + 1) [.slice eB E2.length cF], .has eA E oE, .has eB E2 oF]) := cutSet (F.out.below q) hE hF hSw.out hST.out.2 hST.out.1 (fun G hG => by have := gE G hG; have := (F.out.own 5 rfl).lt; omega) (fun G hG => by have := gF G hG; have := (F.out.own 5 rfl).lt; omega); clear q hE hF gE gF; have z0 := (F.out.own 2 rfl).cell 0 _ rfl; have z1 := (F.out.own 3 rfl).cell 0 _ rfl; have z2 := (F.out.own 3 rfl).cell 1 _ rfl)
                | (go_at_call 30; refine (T2 _ (F.out.has 1 rfl).at).mono ?_; clear T2; rintro e x3 ⟨fA, dE, pE, fB, dF, pF, rfl, -, -, -, q⟩; replace F : Hid (Facts ((x3.alloc (.cells #[.slice fA E.length dE] 41)).alloc (.cells #[.slice fB E2.length dF] 41)) [.bel w, .has d1 qs v1, .own x1.heap.size [.slice d1 l2 c2], .own (x1.heap.size + 1) [.int .i64 g, .int .i64 gh], .own w5.heap.size [.slice eA E.length cE], .own (w5.heap.size + 1) [.slice eB E2.length cF], .has eA E oE, .has eB E2 oF]) := ((F.out.below q).alloc _).alloc _; clear q y0 y1 y2 y3 z0 z1 z2; have z0 := (F.out.own 2 rfl).cell 0 _ rfl)
                | (go_at_call 24; refine (V1 _ (F.out.has 1 rfl).at).mono ?_; rintro e x4 ⟨rfl, q⟩; replace F : Hid (Facts x4 [.bel w, .has d1 qs v1, .own x1.heap.size [.slice d1 l2 c2], .own (x1.heap.size + 1) [.int .i64 g, .int .i64 gh], .own w5.heap.size [.slice eA E.length cE], .own (w5.heap.size + 1) [.slice eB E2.length cF], .has eA E oE, .has eB E2 oF]) := F.out.below q; clear q; clear V1 z0; have d4_2 := (F.out.own 4 rfl).cell 0 _ rfl)
                | (go_at_call 24; refine (V2 _ _ _ (F.out.has 6 rfl).at hcE).mono ?_; rintro e x5 ⟨rfl, q⟩; replace F : Hid (Facts x5 [.bel w, .has d1 qs v1, .own x1.heap.size [.slice d1 l2 c2], .own (x1.heap.size + 1) [.int .i64 g, .int .i64 gh], .own w5.heap.size [.slice eA E.length cE], .own (w5.heap.size + 1) [.slice eB E2.length cF], .has eA E oE, .has eB E2 oF]) := F.out.below q; clear q; clear V2; clear d4_2; have d5_3 := (F.out.own 5 rfl).cell 0 _ rfl)
                | (go_at_call 24; refine (V3 _ _ _ (F.out.has 7 rfl).at hcF).mono ?_; rintro e x6 ⟨rfl, q⟩; replace F : Hid (Facts x6 [.bel w, .has d1 qs v1, .own x1.heap.size [.slice d1 l2 c2], .own (x1.heap.size + 1) [.int .i64 g, .int .i64 gh], .own w5.heap.size [.slice eA E.length cE], .own (w5.heap.size + 1) [.slice eB E2.length cF], .has eA E oE, .has eB E2 oF]) := F.out.below q; clear q; clear V3; clear d5_3)
              refine region_below (by kernel_rfl) (by kernel_rfl) ?_
              repeat (first
                | go_big_quiet_step (first
                  | (intro hC; go_at_call 25; first | exact Calls.qb hC (either3 (Q := fun a l c u => Calls Try.prog 25 #[.int .i64 n2, .agg #[.slice a l c]] _ fun e w' => e = .returned (.int .i64 u) ∧ Below _ _ w') (Q2 _ _ _ ((F.out.has 6 rfl).at.below hC) hcE) (Q3 _ _ _ ((F.out.has 7 rfl).at.below hC) hcF) (Q1 _ ((F.out.has 1 rfl).at.below hC)) _ _ _ _ (.inl ⟨rfl, rfl, rfl, rfl⟩)) | exact Calls.qb hC (either3 (Q := fun a l c u => Calls Try.prog 25 #[.int .i64 n2, .agg #[.slice a l c]] _ fun e w' => e = .returned (.int .i64 u) ∧ Below _ _ w') (Q2 _ _ _ ((F.out.has 6 rfl).at.below hC) hcE) (Q3 _ _ _ ((F.out.has 7 rfl).at.below hC) hcF) (Q1 _ ((F.out.has 1 rfl).at.below hC)) _ _ _ _ (.inr (.inl ⟨rfl, rfl, rfl, rfl⟩))) | exact Calls.qb hC (either3 (Q := fun a l c u => Calls Try.prog 25 #[.int .i64 n2, .agg #[.slice a l c]] _ fun e w' => e = .returned (.int .i64 u) ∧ Below _ _ w') (Q2 _ _ _ ((F.out.has 6 rfl).at.below hC) hcE) (Q3 _ _ _ ((F.out.has 7 rfl).at.below hC) hcF) (Q1 _ ((F.out.has 1 rfl).at.below hC)) _ _ _ _ (.inr (.inr ⟨rfl, rfl, rfl, rfl⟩))))
                  | (intro _; rfl))
                | (go_big_quiet_want
                   go_big_quiet_op
                   refine ⟨.agg #[.slice eA E.length cE], ?_, ?_⟩
                   · intro W hC
                     have r0 := (hC.cell (p := ⟨w5.heap.size, 0, none⟩) (F.out.own 4 rfl).lt).trans ((F.out.own 4 rfl).cell 0 _ rfl)
                     go_simp
                   go_big_quiet_on)
                | (go_big_quiet_want
                   go_big_quiet_op
                   refine ⟨.agg #[.slice eB E2.length cF], ?_, ?_⟩
                   · intro W hC
                     have r0 := (hC.cell (p := ⟨w5.heap.size + 1, 0, none⟩) (F.out.own 5 rfl).lt).trans ((F.out.own 5 rfl).cell 0 _ rfl)
                     go_simp
                   go_big_quiet_on)
                | (go_big_quiet_want
                   go_big_quiet_op
                   refine ⟨.agg #[.slice d1 l2 c2], ?_, ?_⟩
                   · intro W hC
                     have r0 := (hC.cell (p := ⟨x1.heap.size, 0, none⟩) (F.out.own 2 rfl).lt).trans ((F.out.own 2 rfl).cell 0 _ rfl)
                     go_simp
                   go_big_quiet_on))
              refine wpQuiet_nil ?_
              intro x7 q4
              replace F : Hid (Facts x7 [.bel w, .has d1 qs v1, .own x1.heap.size [.slice d1 l2 c2], .own (x1.heap.size + 1) [.int .i64 g, .int .i64 gh], .own w5.heap.size [.slice eA E.length cE], .own (w5.heap.size + 1) [.slice eB E2.length cF], .has eA E oE, .has eB E2 oF]) := F.out.below q4
              clear q4 Q1 Q2 Q3
              go_wp2
              go_ret
              exact ⟨rfl, F.out.bel 0 rfl⟩
        · rw [k3] at S1 S2
          obtain ⟨f1, f2, f3, f4, f5, f6⟩ := hok k3
          have fx := units_in n (partA n (splitF n) ps k)
          have fy := units_in n (partB n (splitF n) ps k)
          have U2 := fun W b e (h : PairsAt W b (partA n (splitF n) ps k)) (hc : (partA n (splitF n) ps k).length ≤ e) => implBoxUnits W n b (partA n (splitF n) ps k) e h hc (by omega)
          have U3 := fun W b e (h : PairsAt W b (partB n (splitF n) ps k)) (hc : (partB n (splitF n) ps k).length ≤ e) => implBoxUnits W n b (partB n (splitF n) ps k) e h hc (by omega)
          have P2 := fun W b e (h : PairsAt W b (partA n (splitF n) ps k)) (hc : (partA n (splitF n) ps k).length ≤ e) => implBoxPath W n b (partA n (splitF n) ps k) e h hc (by omega)
          have P3 := fun W b e (h : PairsAt W b (partB n (splitF n) ps k)) (hc : (partB n (splitF n) ps k).length ≤ e) => implBoxPath W n b (partB n (splitF n) ps k) e h hc (by omega)
          clear hok k3
          generalize partA n (splitF n) ps k = D at *
          generalize partB n (splitF n) ps k = D2 at *
          generalize unitsI n ps = u at *
          generalize pathI n ps = p at *
          generalize unitsI n D = ux at *
          generalize unitsI n D2 = uy at *
          generalize pathI n D = px at *
          generalize pathI n D2 = py at *
          by_cases hu : u < 1000000000
          · replace f1 := f1 hu
            go_wp2_with first
              | (go_at_call 23; refine (K1 _ (F.out.has 1 rfl).at).mono ?_; rintro e w2 ⟨rfl, q⟩; replace F : Hid (Facts w2 [.bel w, .has a1 ps o1, .own w1.heap.size [.slice a1 l1 c1]]) := F.out.below q; clear q; clear K1; have d2_0 := (F.out.own 2 rfl).cell 0 _ rfl)
              | (go_at_call 24; refine (U1 _ (F.out.has 1 rfl).at).mono ?_; rintro e w3 ⟨rfl, q⟩; replace F : Hid (Facts w3 [.bel w, .has a1 ps o1, .own w1.heap.size [.slice a1 l1 c1]]) := F.out.below q; clear q; clear U1; clear d2_0; have d2_1 := (F.out.own 2 rfl).cell 0 _ rfl)
              | (go_at_call 25; refine (P1 _ (F.out.has 1 rfl).at).mono ?_; rintro e w4 ⟨rfl, q⟩; replace F : Hid (Facts w4 [.bel w, .has a1 ps o1, .own w1.heap.size [.slice a1 l1 c1]]) := F.out.below q; clear q; clear P1; clear d2_1; have d2_2 := (F.out.own 2 rfl).cell 0 _ rfl)
              | (go_at_call 26; refine (S1 _ (F.out.has 1 rfl).at).mono ?_; clear S1; rintro e w5 ⟨aA, cA, oA, aB, cB, oB, rfl, ⟨hcA, hA, -⟩, ⟨hcB, hB, -⟩, -, q⟩; have hSw : Hid (w.heap.size ≤ w5.heap.size) := Nat.le_trans (F.out.bel 0 rfl).size q.size; replace F : Hid (Facts ((w5.alloc (.cells #[.slice aA D.length cA] 41)).alloc (.cells #[.slice aB D2.length cB] 41)) [.bel w, .has a1 ps o1, .own w1.heap.size [.slice a1 l1 c1], .has aA D oA, .has aB D2 oB, .own w5.heap.size [.slice aA D.length cA], .own (w5.heap.size + 1) [.slice aB D2.length cB]]) := (((F.out.below q).pushHas hA).pushHas hB).cells2 #[.slice aA D.length cA] #[.slice aB D2.length cB] 41 41; clear q hA hB; clear d2_2; have d2_3 := (F.out.own 2 rfl).cell 0 _ rfl)
              | (go_at_call 27; refine (S2 _ (F.out.has 1 rfl).at).mono ?_; clear S2; rintro e w6 ⟨bA, eA, rA, bB, eB, rB, rfl, -, -, -, q⟩; replace F : Hid (Facts ((w6.alloc (.cells #[.slice bA D.length eA] 41)).alloc (.cells #[.slice bB D2.length eB] 41)) [.bel w, .has a1 ps o1, .own w1.heap.size [.slice a1 l1 c1], .has aA D oA, .has aB D2 oB, .own w5.heap.size [.slice aA D.length cA], .own (w5.heap.size + 1) [.slice aB D2.length cB]]) := ((F.out.below q).alloc _).alloc _; clear q; clear d2_3; have d5_4 := (F.out.own 5 rfl).cell 0 _ rfl)
              | (go_at_call 24; refine (U2 _ _ _ (F.out.has 3 rfl).at hcA).mono ?_; rintro e w7 ⟨rfl, q⟩; replace F : Hid (Facts w7 [.bel w, .has a1 ps o1, .own w1.heap.size [.slice a1 l1 c1], .has aA D oA, .has aB D2 oB, .own w5.heap.size [.slice aA D.length cA], .own (w5.heap.size + 1) [.slice aB D2.length cB]]) := F.out.below q; clear q; clear U2; clear d5_4; have d6_5 := (F.out.own 6 rfl).cell 0 _ rfl)
              | (go_at_call 24; refine (U3 _ _ _ (F.out.has 4 rfl).at hcB).mono ?_; rintro e w8 ⟨rfl, q⟩; replace F : Hid (Facts w8 [.bel w, .has a1 ps o1, .own w1.heap.size [.slice a1 l1 c1], .has aA D oA, .has aB D2 oB, .own w5.heap.size [.slice aA D.length cA], .own (w5.heap.size + 1) [.slice aB D2.length cB]]) := F.out.below q; clear q; clear U3; clear d6_5; have d5_6 := (F.out.own 5 rfl).cell 0 _ rfl)
              | (go_at_call 25; refine (P2 _ _ _ (F.out.has 3 rfl).at hcA).mono ?_; rintro e w9 ⟨rfl, q⟩; replace F : Hid (Facts w9 [.bel w, .has a1 ps o1, .own w1.heap.size [.slice a1 l1 c1], .has aA D oA, .has aB D2 oB, .own w5.heap.size [.slice aA D.length cA], .own (w5.heap.size + 1) [.slice aB D2.length cB]]) := F.out.below q; clear q; clear P2; clear d5_6; have d6_7 := (F.out.own 6 rfl).cell 0 _ rfl)
              | (go_at_call 25; refine (P3 _ _ _ (F.out.has 4 rfl).at hcB).mono ?_; rintro e w10 ⟨rfl, q⟩; replace F : Hid (Facts w10 [.bel w, .has a1 ps o1, .own w1.heap.size [.slice a1 l1 c1], .has aA D oA, .has aB D2 oB, .own w5.heap.size [.slice aA D.length cA], .own (w5.heap.size + 1) [.slice aB D2.length cB]]) := F.out.below q; clear q; clear P3; clear d6_7)
            clear hAl hBl hui hpi u1 p1 f2 f3 f4 f5 f6 fx fy f1
            go_wp2_with (go_at_call 28; refine (ho2 _ (F.out.bel 0 rfl)).mono ?_; clear ho2; rintro e x1 ⟨n2, d1, c2, qs, v1, k2, g, gh, rfl, h82, hc2, hh2, hv1, wk2, wg, wgh, q⟩; have hwq := hh2.1; have hST : Hid (w5.heap.size + 1 < x1.heap.size ∧ ∀ G, v1 = some G → w5.heap.size + 1 < G) := ⟨((F.out.below q).own 6 rfl).lt, fun G hG => by have := hv1 G hG; have := (F.out.own 6 rfl).lt; omega⟩; replace F : Hid (Facts ((x1.alloc (.cells #[.slice d1 qs.length c2] 41)).alloc (.cells #[.int .i64 g, .int .i64 gh] 24)) [.bel w, .has d1 qs v1, .own w5.heap.size [.slice aA D.length cA], .own (w5.heap.size + 1) [.slice aB D2.length cB], .own x1.heap.size [.slice d1 qs.length c2], .own (x1.heap.size + 1) [.int .i64 g, .int .i64 gh]]) := (((((Facts.nil _).push (f := .bel w) ((F.out.below q).bel 0 rfl)).pushHas hh2).pushOwn ((F.out.below q).own 5 rfl)).pushOwn ((F.out.below q).own 6 rfl)).cells2 #[.slice d1 qs.length c2] #[.int .i64 g, .int .i64 gh] 41 24; clear q hh2 hv1)
            replace F : Hid (Facts _ [.bel w, .has d1 qs v1, .own x1.heap.size [.slice d1 qs.length c2], .own (x1.heap.size + 1) [.int .i64 g, .int .i64 gh], .own w5.heap.size [.slice aA D.length cA], .own (w5.heap.size + 1) [.slice aB D2.length cB]]) := swap4 F.out
            have V1 := fun W (h : PairsAt W d1 qs) => implBoxUnits W n2 d1 qs c2 h hc2 (by omega)
            have Q1 := fun W (h : PairsAt W d1 qs) => implBoxPath W n2 d1 qs c2 h hc2 (by omega)
            have T1 := fun W (h : PairsAt W d1 qs) => implBoxCut W n2 d1 qs c2 k2 wk2 g gh wg wgh h hc2 (by omega)
            have T2 := fun W (h : PairsAt W d1 qs) => specBoxCut W n2 d1 qs c2 k2 wk2 g gh wg wgh h hc2 (by omega)
            have hEl := partA_len n2 (cutF n2 g gh) qs k2
            have hFl := partB_len n2 (cutF n2 g gh) qs k2
            have hok2 := cut_ok (n := n2) (k := k2) wg wgh hwq
            have hui2 := units_in n2 qs
            have hpi2 := path_in n2 hwq
            obtain ⟨l2, hl2⟩ : ∃ l, qs.length = l := ⟨_, rfl⟩
            unfold PartsOk at hok2
            simp only [hl2] at V1 Q1 T1 T2 F hpi2 hok2 h82 hEl hFl hc2 ⊢
            clear hl2 hwq wk2 wg wgh
            cases k5 : partK n2 (cutF n2 g gh) qs k2
            · rw [k5] at T1 T2
              clear hok2 k5
              generalize partA n2 (cutF n2 g gh) qs k2 = E at *
              generalize partB n2 (cutF n2 g gh) qs k2 = E2 at *
              go_wp2_with first
                | (go_at_call 29; refine (T1 _ (F.out.has 1 rfl).at).mono ?_; clear T1; rintro e x2 ⟨eA, cE, oE, eB, cF, oF, rfl, ⟨hcE, hE, gE⟩, ⟨hcF, hF, gF⟩, -, q⟩; have y0 := ((F.out.below q).own 4 rfl).cell 0 _ rfl; have y1 := ((F.out.below q).own 4 rfl).frz 0 _ rfl; have y2 := ((F.out.below q).own 5 rfl).cell 0 _ rfl; have y3 := ((F.out.below q).own 5 rfl).frz 0 _ rfl; replace F : Hid (Facts ((x2.setCell ⟨w5.heap.size, 0, none⟩ (.slice eA E.length cE)).setCell ⟨w5.heap.size + 1, 0, none⟩ (.slice eB E2.length cF)) [.bel w, .has d1 qs v1, .own x1.heap.size [.slice d1 l2 c2], .own (x1.heap.size + 1) [.int .i64 g, .int .i64 gh], .own w5.heap.size [.slice eA E.length cE], .own (w5.heap.size + 1) [.slice eB E2.length cF], .has eA E oE, .has eB E2 oF]) := cutSet (F.out.below q) hE hF hSw.out hST.out.2 hST.out.1 (fun G hG => by have := gE G hG; have := (F.out.own 5 rfl).lt; omega) (fun G hG => by have := gF G hG; have := (F.out.own 5 rfl).lt; omega); clear q hE hF gE gF; have z0 := (F.out.own 2 rfl).cell 0 _ rfl; have z1 := (F.out.own 3 rfl).cell 0 _ rfl; have z2 := (F.out.own 3 rfl).cell 1 _ rfl)
                | (go_at_call 30; refine (T2 _ (F.out.has 1 rfl).at).mono ?_; clear T2; rintro e x3 ⟨fA, dE, pE, fB, dF, pF, rfl, -, -, -, q⟩; replace F : Hid (Facts ((x3.alloc (.cells #[.slice fA E.length dE] 41)).alloc (.cells #[.slice fB E2.length dF] 41)) [.bel w, .has d1 qs v1, .own x1.heap.size [.slice d1 l2 c2], .own (x1.heap.size + 1) [.int .i64 g, .int .i64 gh], .own w5.heap.size [.slice eA E.length cE], .own (w5.heap.size + 1) [.slice eB E2.length cF], .has eA E oE, .has eB E2 oF]) := ((F.out.below q).alloc _).alloc _; clear q y0 y1 y2 y3 z0 z1 z2; have z0 := (F.out.own 2 rfl).cell 0 _ rfl)
              go_ret
              exact ⟨rfl, F.out.bel 0 rfl⟩
            · rw [k5] at T1 T2
              obtain ⟨r1, r2, r3, r4, r5, r6⟩ := hok2 k5
              have hx := units_in n2 (partA n2 (cutF n2 g gh) qs k2)
              have hy := units_in n2 (partB n2 (cutF n2 g gh) qs k2)
              have V2 := fun W b e (h : PairsAt W b (partA n2 (cutF n2 g gh) qs k2)) (hc : (partA n2 (cutF n2 g gh) qs k2).length ≤ e) => implBoxUnits W n2 b (partA n2 (cutF n2 g gh) qs k2) e h hc (by omega)
              have V3 := fun W b e (h : PairsAt W b (partB n2 (cutF n2 g gh) qs k2)) (hc : (partB n2 (cutF n2 g gh) qs k2).length ≤ e) => implBoxUnits W n2 b (partB n2 (cutF n2 g gh) qs k2) e h hc (by omega)
              have Q2 := fun W b e (h : PairsAt W b (partA n2 (cutF n2 g gh) qs k2)) (hc : (partA n2 (cutF n2 g gh) qs k2).length ≤ e) => implBoxPath W n2 b (partA n2 (cutF n2 g gh) qs k2) e h hc (by omega)
              have Q3 := fun W b e (h : PairsAt W b (partB n2 (cutF n2 g gh) qs k2)) (hc : (partB n2 (cutF n2 g gh) qs k2).length ≤ e) => implBoxPath W n2 b (partB n2 (cutF n2 g gh) qs k2) e h hc (by omega)
              clear hok2 k5
              generalize partA n2 (cutF n2 g gh) qs k2 = E at *
              generalize partB n2 (cutF n2 g gh) qs k2 = E2 at *
              generalize unitsI n2 qs = t0 at *
              generalize unitsI n2 E = t1 at *
              generalize unitsI n2 E2 = t2 at *
              generalize pathI n2 qs = s0 at *
              generalize pathI n2 E = s1 at *
              generalize pathI n2 E2 = s2 at *
              by_cases hlo : t0 < 1000000000
              · replace r1 := r1 hlo
                have g1 : decide (t0 < 1000000000) = true := decide_eq_true hlo
                have g2 : IntKind.i64.wrap (t1 + t2) = t1 + t2 := IntWalk.i64_in _ ⟨by omega, by omega⟩
                have g3 : IntKind.i64.wrap (t1 + t2 + 1) = t1 + t2 + 1 := IntWalk.i64_in _ ⟨by omega, by omega⟩
                have g4 : decide (t0 < t1 + t2 + 1) = false := decide_eq_false (by omega)
                have g5 : IntKind.i64.wrap (s1 + 1) = s1 + 1 := IntWalk.i64_in _ ⟨by omega, by omega⟩
                have g6 : decide (s0 < s1 + 1) = false := decide_eq_false (by omega)
                have g7 : decide (s0 < s2) = false := decide_eq_false (by omega)
                clear r1 r2 r3 r4 r5 r6 hx hy hui2 hpi2
                go_wp2_with first
                  | (go_at_call 29; refine (T1 _ (F.out.has 1 rfl).at).mono ?_; clear T1; rintro e x2 ⟨eA, cE, oE, eB, cF, oF, rfl, ⟨hcE, hE, gE⟩, ⟨hcF, hF, gF⟩, -, q⟩; have y0 := ((F.out.below q).own 4 rfl).cell 0 _ rfl; have y1 := ((F.out.below q).own 4 rfl).frz 0 _ rfl; have y2 := ((F.out.below q).own 5 rfl).cell 0 _ rfl; have y3 := ((F.out.below q).own 5 rfl).frz 0 _ rfl; replace F : Hid (Facts ((x2.setCell ⟨w5.heap.size, 0, none⟩ (.slice eA E.length cE)).setCell ⟨w5.heap.size + 1, 0, none⟩ (.slice eB E2.length cF)) [.bel w, .has d1 qs v1, .own x1.heap.size [.slice d1 l2 c2], .own (x1.heap.size + 1) [.int .i64 g, .int .i64 gh], .own w5.heap.size [.slice eA E.length cE], .own (w5.heap.size + 1) [.slice eB E2.length cF], .has eA E oE, .has eB E2 oF]) := cutSet (F.out.below q) hE hF hSw.out hST.out.2 hST.out.1 (fun G hG => by have := gE G hG; have := (F.out.own 5 rfl).lt; omega) (fun G hG => by have := gF G hG; have := (F.out.own 5 rfl).lt; omega); clear q hE hF gE gF; have z0 := (F.out.own 2 rfl).cell 0 _ rfl; have z1 := (F.out.own 3 rfl).cell 0 _ rfl; have z2 := (F.out.own 3 rfl).cell 1 _ rfl)
                  | (go_at_call 30; refine (T2 _ (F.out.has 1 rfl).at).mono ?_; clear T2; rintro e x3 ⟨fA, dE, pE, fB, dF, pF, rfl, -, -, -, q⟩; replace F : Hid (Facts ((x3.alloc (.cells #[.slice fA E.length dE] 41)).alloc (.cells #[.slice fB E2.length dF] 41)) [.bel w, .has d1 qs v1, .own x1.heap.size [.slice d1 l2 c2], .own (x1.heap.size + 1) [.int .i64 g, .int .i64 gh], .own w5.heap.size [.slice eA E.length cE], .own (w5.heap.size + 1) [.slice eB E2.length cF], .has eA E oE, .has eB E2 oF]) := ((F.out.below q).alloc _).alloc _; clear q y0 y1 y2 y3 z0 z1 z2; have z0 := (F.out.own 2 rfl).cell 0 _ rfl)
                  | (go_at_call 24; refine (V1 _ (F.out.has 1 rfl).at).mono ?_; rintro e x4 ⟨rfl, q⟩; replace F : Hid (Facts x4 [.bel w, .has d1 qs v1, .own x1.heap.size [.slice d1 l2 c2], .own (x1.heap.size + 1) [.int .i64 g, .int .i64 gh], .own w5.heap.size [.slice eA E.length cE], .own (w5.heap.size + 1) [.slice eB E2.length cF], .has eA E oE, .has eB E2 oF]) := F.out.below q; clear q; clear V1 z0; have d4_2 := (F.out.own 4 rfl).cell 0 _ rfl)
                  | (go_at_call 24; refine (V2 _ _ _ (F.out.has 6 rfl).at hcE).mono ?_; rintro e x5 ⟨rfl, q⟩; replace F : Hid (Facts x5 [.bel w, .has d1 qs v1, .own x1.heap.size [.slice d1 l2 c2], .own (x1.heap.size + 1) [.int .i64 g, .int .i64 gh], .own w5.heap.size [.slice eA E.length cE], .own (w5.heap.size + 1) [.slice eB E2.length cF], .has eA E oE, .has eB E2 oF]) := F.out.below q; clear q; clear V2; clear d4_2; have d5_3 := (F.out.own 5 rfl).cell 0 _ rfl)
                  | (go_at_call 24; refine (V3 _ _ _ (F.out.has 7 rfl).at hcF).mono ?_; rintro e x6 ⟨rfl, q⟩; replace F : Hid (Facts x6 [.bel w, .has d1 qs v1, .own x1.heap.size [.slice d1 l2 c2], .own (x1.heap.size + 1) [.int .i64 g, .int .i64 gh], .own w5.heap.size [.slice eA E.length cE], .own (w5.heap.size + 1) [.slice eB E2.length cF], .has eA E oE, .has eB E2 oF]) := F.out.below q; clear q; clear V3; clear d5_3)
                refine region_below (by kernel_rfl) (by kernel_rfl) ?_
                repeat (first
                  | go_big_quiet_step (first
                    | (intro hC; go_at_call 25; first | exact Calls.qb hC (either3 (Q := fun a l c u => Calls Try.prog 25 #[.int .i64 n2, .agg #[.slice a l c]] _ fun e w' => e = .returned (.int .i64 u) ∧ Below _ _ w') (Q2 _ _ _ ((F.out.has 6 rfl).at.below hC) hcE) (Q3 _ _ _ ((F.out.has 7 rfl).at.below hC) hcF) (Q1 _ ((F.out.has 1 rfl).at.below hC)) _ _ _ _ (.inl ⟨rfl, rfl, rfl, rfl⟩)) | exact Calls.qb hC (either3 (Q := fun a l c u => Calls Try.prog 25 #[.int .i64 n2, .agg #[.slice a l c]] _ fun e w' => e = .returned (.int .i64 u) ∧ Below _ _ w') (Q2 _ _ _ ((F.out.has 6 rfl).at.below hC) hcE) (Q3 _ _ _ ((F.out.has 7 rfl).at.below hC) hcF) (Q1 _ ((F.out.has 1 rfl).at.below hC)) _ _ _ _ (.inr (.inl ⟨rfl, rfl, rfl, rfl⟩))) | exact Calls.qb hC (either3 (Q := fun a l c u => Calls Try.prog 25 #[.int .i64 n2, .agg #[.slice a l c]] _ fun e w' => e = .returned (.int .i64 u) ∧ Below _ _ w') (Q2 _ _ _ ((F.out.has 6 rfl).at.below hC) hcE) (Q3 _ _ _ ((F.out.has 7 rfl).at.below hC) hcF) (Q1 _ ((F.out.has 1 rfl).at.below hC)) _ _ _ _ (.inr (.inr ⟨rfl, rfl, rfl, rfl⟩))))
                    | (intro _; rfl))
                  | (go_big_quiet_want
                     go_big_quiet_op
                     refine ⟨.agg #[.slice eA E.length cE], ?_, ?_⟩
                     · intro W hC
                       have r0 := (hC.cell (p := ⟨w5.heap.size, 0, none⟩) (F.out.own 4 rfl).lt).trans ((F.out.own 4 rfl).cell 0 _ rfl)
                       go_simp
                     go_big_quiet_on)
                  | (go_big_quiet_want
                     go_big_quiet_op
                     refine ⟨.agg #[.slice eB E2.length cF], ?_, ?_⟩
                     · intro W hC
                       have r0 := (hC.cell (p := ⟨w5.heap.size + 1, 0, none⟩) (F.out.own 5 rfl).lt).trans ((F.out.own 5 rfl).cell 0 _ rfl)
                       go_simp
                     go_big_quiet_on)
                  | (go_big_quiet_want
                     go_big_quiet_op
                     refine ⟨.agg #[.slice d1 l2 c2], ?_, ?_⟩
                     · intro W hC
                       have r0 := (hC.cell (p := ⟨x1.heap.size, 0, none⟩) (F.out.own 2 rfl).lt).trans ((F.out.own 2 rfl).cell 0 _ rfl)
                       go_simp
                     go_big_quiet_on))
                refine wpQuiet_nil ?_
                intro x7 q4
                replace F : Hid (Facts x7 [.bel w, .has d1 qs v1, .own x1.heap.size [.slice d1 l2 c2], .own (x1.heap.size + 1) [.int .i64 g, .int .i64 gh], .own w5.heap.size [.slice eA E.length cE], .own (w5.heap.size + 1) [.slice eB E2.length cF], .has eA E oE, .has eB E2 oF]) := F.out.below q4
                clear q4 Q1 Q2 Q3
                go_wp2
                go_ret
                exact ⟨rfl, F.out.bel 0 rfl⟩
              · clear r1
                have g1 : decide (t0 < 1000000000) = false := decide_eq_false hlo
                have g5 : IntKind.i64.wrap (s1 + 1) = s1 + 1 := IntWalk.i64_in _ ⟨by omega, by omega⟩
                have g6 : decide (s0 < s1 + 1) = false := decide_eq_false (by omega)
                have g7 : decide (s0 < s2) = false := decide_eq_false (by omega)
                clear r2 r3 r4 r5 r6 hx hy hui2 hpi2
                go_wp2_with first
                  | (go_at_call 29; refine (T1 _ (F.out.has 1 rfl).at).mono ?_; clear T1; rintro e x2 ⟨eA, cE, oE, eB, cF, oF, rfl, ⟨hcE, hE, gE⟩, ⟨hcF, hF, gF⟩, -, q⟩; have y0 := ((F.out.below q).own 4 rfl).cell 0 _ rfl; have y1 := ((F.out.below q).own 4 rfl).frz 0 _ rfl; have y2 := ((F.out.below q).own 5 rfl).cell 0 _ rfl; have y3 := ((F.out.below q).own 5 rfl).frz 0 _ rfl; replace F : Hid (Facts ((x2.setCell ⟨w5.heap.size, 0, none⟩ (.slice eA E.length cE)).setCell ⟨w5.heap.size + 1, 0, none⟩ (.slice eB E2.length cF)) [.bel w, .has d1 qs v1, .own x1.heap.size [.slice d1 l2 c2], .own (x1.heap.size + 1) [.int .i64 g, .int .i64 gh], .own w5.heap.size [.slice eA E.length cE], .own (w5.heap.size + 1) [.slice eB E2.length cF], .has eA E oE, .has eB E2 oF]) := cutSet (F.out.below q) hE hF hSw.out hST.out.2 hST.out.1 (fun G hG => by have := gE G hG; have := (F.out.own 5 rfl).lt; omega) (fun G hG => by have := gF G hG; have := (F.out.own 5 rfl).lt; omega); clear q hE hF gE gF; have z0 := (F.out.own 2 rfl).cell 0 _ rfl; have z1 := (F.out.own 3 rfl).cell 0 _ rfl; have z2 := (F.out.own 3 rfl).cell 1 _ rfl)
                  | (go_at_call 30; refine (T2 _ (F.out.has 1 rfl).at).mono ?_; clear T2; rintro e x3 ⟨fA, dE, pE, fB, dF, pF, rfl, -, -, -, q⟩; replace F : Hid (Facts ((x3.alloc (.cells #[.slice fA E.length dE] 41)).alloc (.cells #[.slice fB E2.length dF] 41)) [.bel w, .has d1 qs v1, .own x1.heap.size [.slice d1 l2 c2], .own (x1.heap.size + 1) [.int .i64 g, .int .i64 gh], .own w5.heap.size [.slice eA E.length cE], .own (w5.heap.size + 1) [.slice eB E2.length cF], .has eA E oE, .has eB E2 oF]) := ((F.out.below q).alloc _).alloc _; clear q y0 y1 y2 y3 z0 z1 z2; have z0 := (F.out.own 2 rfl).cell 0 _ rfl)
                  | (go_at_call 24; refine (V1 _ (F.out.has 1 rfl).at).mono ?_; rintro e x4 ⟨rfl, q⟩; replace F : Hid (Facts x4 [.bel w, .has d1 qs v1, .own x1.heap.size [.slice d1 l2 c2], .own (x1.heap.size + 1) [.int .i64 g, .int .i64 gh], .own w5.heap.size [.slice eA E.length cE], .own (w5.heap.size + 1) [.slice eB E2.length cF], .has eA E oE, .has eB E2 oF]) := F.out.below q; clear q; clear V1 z0; have d4_2 := (F.out.own 4 rfl).cell 0 _ rfl)
                  | (go_at_call 24; refine (V2 _ _ _ (F.out.has 6 rfl).at hcE).mono ?_; rintro e x5 ⟨rfl, q⟩; replace F : Hid (Facts x5 [.bel w, .has d1 qs v1, .own x1.heap.size [.slice d1 l2 c2], .own (x1.heap.size + 1) [.int .i64 g, .int .i64 gh], .own w5.heap.size [.slice eA E.length cE], .own (w5.heap.size + 1) [.slice eB E2.length cF], .has eA E oE, .has eB E2 oF]) := F.out.below q; clear q; clear V2; clear d4_2; have d5_3 := (F.out.own 5 rfl).cell 0 _ rfl)
                  | (go_at_call 24; refine (V3 _ _ _ (F.out.has 7 rfl).at hcF).mono ?_; rintro e x6 ⟨rfl, q⟩; replace F : Hid (Facts x6 [.bel w, .has d1 qs v1, .own x1.heap.size [.slice d1 l2 c2], .own (x1.heap.size + 1) [.int .i64 g, .int .i64 gh], .own w5.heap.size [.slice eA E.length cE], .own (w5.heap.size + 1) [.slice eB E2.length cF], .has eA E oE, .has eB E2 oF]) := F.out.below q; clear q; clear V3; clear d5_3)
                refine region_below (by kernel_rfl) (by kernel_rfl) ?_
                repeat (first
                  | go_big_quiet_step (first
                    | (intro hC; go_at_call 25; first | exact Calls.qb hC (either3 (Q := fun a l c u => Calls Try.prog 25 #[.int .i64 n2, .agg #[.slice a l c]] _ fun e w' => e = .returned (.int .i64 u) ∧ Below _ _ w') (Q2 _ _ _ ((F.out.has 6 rfl).at.below hC) hcE) (Q3 _ _ _ ((F.out.has 7 rfl).at.below hC) hcF) (Q1 _ ((F.out.has 1 rfl).at.below hC)) _ _ _ _ (.inl ⟨rfl, rfl, rfl, rfl⟩)) | exact Calls.qb hC (either3 (Q := fun a l c u => Calls Try.prog 25 #[.int .i64 n2, .agg #[.slice a l c]] _ fun e w' => e = .returned (.int .i64 u) ∧ Below _ _ w') (Q2 _ _ _ ((F.out.has 6 rfl).at.below hC) hcE) (Q3 _ _ _ ((F.out.has 7 rfl).at.below hC) hcF) (Q1 _ ((F.out.has 1 rfl).at.below hC)) _ _ _ _ (.inr (.inl ⟨rfl, rfl, rfl, rfl⟩))) | exact Calls.qb hC (either3 (Q := fun a l c u => Calls Try.prog 25 #[.int .i64 n2, .agg #[.slice a l c]] _ fun e w' => e = .returned (.int .i64 u) ∧ Below _ _ w') (Q2 _ _ _ ((F.out.has 6 rfl).at.below hC) hcE) (Q3 _ _ _ ((F.out.has 7 rfl).at.below hC) hcF) (Q1 _ ((F.out.has 1 rfl).at.below hC)) _ _ _ _ (.inr (.inr ⟨rfl, rfl, rfl, rfl⟩))))
                    | (intro _; rfl))
                  | (go_big_quiet_want
                     go_big_quiet_op
                     refine ⟨.agg #[.slice eA E.length cE], ?_, ?_⟩
                     · intro W hC
                       have r0 := (hC.cell (p := ⟨w5.heap.size, 0, none⟩) (F.out.own 4 rfl).lt).trans ((F.out.own 4 rfl).cell 0 _ rfl)
                       go_simp
                     go_big_quiet_on)
                  | (go_big_quiet_want
                     go_big_quiet_op
                     refine ⟨.agg #[.slice eB E2.length cF], ?_, ?_⟩
                     · intro W hC
                       have r0 := (hC.cell (p := ⟨w5.heap.size + 1, 0, none⟩) (F.out.own 5 rfl).lt).trans ((F.out.own 5 rfl).cell 0 _ rfl)
                       go_simp
                     go_big_quiet_on)
                  | (go_big_quiet_want
                     go_big_quiet_op
                     refine ⟨.agg #[.slice d1 l2 c2], ?_, ?_⟩
                     · intro W hC
                       have r0 := (hC.cell (p := ⟨x1.heap.size, 0, none⟩) (F.out.own 2 rfl).lt).trans ((F.out.own 2 rfl).cell 0 _ rfl)
                       go_simp
                     go_big_quiet_on))
                refine wpQuiet_nil ?_
                intro x7 q4
                replace F : Hid (Facts x7 [.bel w, .has d1 qs v1, .own x1.heap.size [.slice d1 l2 c2], .own (x1.heap.size + 1) [.int .i64 g, .int .i64 gh], .own w5.heap.size [.slice eA E.length cE], .own (w5.heap.size + 1) [.slice eB E2.length cF], .has eA E oE, .has eB E2 oF]) := F.out.below q4
                clear q4 Q1 Q2 Q3
                go_wp2
                go_ret
                exact ⟨rfl, F.out.bel 0 rfl⟩
          · clear f1
            go_wp2_with first
              | (go_at_call 23; refine (K1 _ (F.out.has 1 rfl).at).mono ?_; rintro e w2 ⟨rfl, q⟩; replace F : Hid (Facts w2 [.bel w, .has a1 ps o1, .own w1.heap.size [.slice a1 l1 c1]]) := F.out.below q; clear q; clear K1; have d2_0 := (F.out.own 2 rfl).cell 0 _ rfl)
              | (go_at_call 24; refine (U1 _ (F.out.has 1 rfl).at).mono ?_; rintro e w3 ⟨rfl, q⟩; replace F : Hid (Facts w3 [.bel w, .has a1 ps o1, .own w1.heap.size [.slice a1 l1 c1]]) := F.out.below q; clear q; clear U1; clear d2_0; have d2_1 := (F.out.own 2 rfl).cell 0 _ rfl)
              | (go_at_call 25; refine (P1 _ (F.out.has 1 rfl).at).mono ?_; rintro e w4 ⟨rfl, q⟩; replace F : Hid (Facts w4 [.bel w, .has a1 ps o1, .own w1.heap.size [.slice a1 l1 c1]]) := F.out.below q; clear q; clear P1; clear d2_1; have d2_2 := (F.out.own 2 rfl).cell 0 _ rfl)
              | (go_at_call 26; refine (S1 _ (F.out.has 1 rfl).at).mono ?_; clear S1; rintro e w5 ⟨aA, cA, oA, aB, cB, oB, rfl, ⟨hcA, hA, -⟩, ⟨hcB, hB, -⟩, -, q⟩; have hSw : Hid (w.heap.size ≤ w5.heap.size) := Nat.le_trans (F.out.bel 0 rfl).size q.size; replace F : Hid (Facts ((w5.alloc (.cells #[.slice aA D.length cA] 41)).alloc (.cells #[.slice aB D2.length cB] 41)) [.bel w, .has a1 ps o1, .own w1.heap.size [.slice a1 l1 c1], .has aA D oA, .has aB D2 oB, .own w5.heap.size [.slice aA D.length cA], .own (w5.heap.size + 1) [.slice aB D2.length cB]]) := (((F.out.below q).pushHas hA).pushHas hB).cells2 #[.slice aA D.length cA] #[.slice aB D2.length cB] 41 41; clear q hA hB; clear d2_2; have d2_3 := (F.out.own 2 rfl).cell 0 _ rfl)
              | (go_at_call 27; refine (S2 _ (F.out.has 1 rfl).at).mono ?_; clear S2; rintro e w6 ⟨bA, eA, rA, bB, eB, rB, rfl, -, -, -, q⟩; replace F : Hid (Facts ((w6.alloc (.cells #[.slice bA D.length eA] 41)).alloc (.cells #[.slice bB D2.length eB] 41)) [.bel w, .has a1 ps o1, .own w1.heap.size [.slice a1 l1 c1], .has aA D oA, .has aB D2 oB, .own w5.heap.size [.slice aA D.length cA], .own (w5.heap.size + 1) [.slice aB D2.length cB]]) := ((F.out.below q).alloc _).alloc _; clear q; clear d2_3; have d5_4 := (F.out.own 5 rfl).cell 0 _ rfl)
              | (go_at_call 24; refine (U2 _ _ _ (F.out.has 3 rfl).at hcA).mono ?_; rintro e w7 ⟨rfl, q⟩; replace F : Hid (Facts w7 [.bel w, .has a1 ps o1, .own w1.heap.size [.slice a1 l1 c1], .has aA D oA, .has aB D2 oB, .own w5.heap.size [.slice aA D.length cA], .own (w5.heap.size + 1) [.slice aB D2.length cB]]) := F.out.below q; clear q; clear U2; clear d5_4; have d6_5 := (F.out.own 6 rfl).cell 0 _ rfl)
              | (go_at_call 24; refine (U3 _ _ _ (F.out.has 4 rfl).at hcB).mono ?_; rintro e w8 ⟨rfl, q⟩; replace F : Hid (Facts w8 [.bel w, .has a1 ps o1, .own w1.heap.size [.slice a1 l1 c1], .has aA D oA, .has aB D2 oB, .own w5.heap.size [.slice aA D.length cA], .own (w5.heap.size + 1) [.slice aB D2.length cB]]) := F.out.below q; clear q; clear U3; clear d6_5; have d5_6 := (F.out.own 5 rfl).cell 0 _ rfl)
              | (go_at_call 25; refine (P2 _ _ _ (F.out.has 3 rfl).at hcA).mono ?_; rintro e w9 ⟨rfl, q⟩; replace F : Hid (Facts w9 [.bel w, .has a1 ps o1, .own w1.heap.size [.slice a1 l1 c1], .has aA D oA, .has aB D2 oB, .own w5.heap.size [.slice aA D.length cA], .own (w5.heap.size + 1) [.slice aB D2.length cB]]) := F.out.below q; clear q; clear P2; clear d5_6; have d6_7 := (F.out.own 6 rfl).cell 0 _ rfl)
              | (go_at_call 25; refine (P3 _ _ _ (F.out.has 4 rfl).at hcB).mono ?_; rintro e w10 ⟨rfl, q⟩; replace F : Hid (Facts w10 [.bel w, .has a1 ps o1, .own w1.heap.size [.slice a1 l1 c1], .has aA D oA, .has aB D2 oB, .own w5.heap.size [.slice aA D.length cA], .own (w5.heap.size + 1) [.slice aB D2.length cB]]) := F.out.below q; clear q; clear P3; clear d6_7)
            clear hAl hBl hui hpi u1 p1 f2 f3 f4 f5 f6 fx fy
            go_wp2_with (go_at_call 28; refine (ho2 _ (F.out.bel 0 rfl)).mono ?_; clear ho2; rintro e x1 ⟨n2, d1, c2, qs, v1, k2, g, gh, rfl, h82, hc2, hh2, hv1, wk2, wg, wgh, q⟩; have hwq := hh2.1; have hST : Hid (w5.heap.size + 1 < x1.heap.size ∧ ∀ G, v1 = some G → w5.heap.size + 1 < G) := ⟨((F.out.below q).own 6 rfl).lt, fun G hG => by have := hv1 G hG; have := (F.out.own 6 rfl).lt; omega⟩; replace F : Hid (Facts ((x1.alloc (.cells #[.slice d1 qs.length c2] 41)).alloc (.cells #[.int .i64 g, .int .i64 gh] 24)) [.bel w, .has d1 qs v1, .own w5.heap.size [.slice aA D.length cA], .own (w5.heap.size + 1) [.slice aB D2.length cB], .own x1.heap.size [.slice d1 qs.length c2], .own (x1.heap.size + 1) [.int .i64 g, .int .i64 gh]]) := (((((Facts.nil _).push (f := .bel w) ((F.out.below q).bel 0 rfl)).pushHas hh2).pushOwn ((F.out.below q).own 5 rfl)).pushOwn ((F.out.below q).own 6 rfl)).cells2 #[.slice d1 qs.length c2] #[.int .i64 g, .int .i64 gh] 41 24; clear q hh2 hv1)
            replace F : Hid (Facts _ [.bel w, .has d1 qs v1, .own x1.heap.size [.slice d1 qs.length c2], .own (x1.heap.size + 1) [.int .i64 g, .int .i64 gh], .own w5.heap.size [.slice aA D.length cA], .own (w5.heap.size + 1) [.slice aB D2.length cB]]) := swap4 F.out
            have V1 := fun W (h : PairsAt W d1 qs) => implBoxUnits W n2 d1 qs c2 h hc2 (by omega)
            have Q1 := fun W (h : PairsAt W d1 qs) => implBoxPath W n2 d1 qs c2 h hc2 (by omega)
            have T1 := fun W (h : PairsAt W d1 qs) => implBoxCut W n2 d1 qs c2 k2 wk2 g gh wg wgh h hc2 (by omega)
            have T2 := fun W (h : PairsAt W d1 qs) => specBoxCut W n2 d1 qs c2 k2 wk2 g gh wg wgh h hc2 (by omega)
            have hEl := partA_len n2 (cutF n2 g gh) qs k2
            have hFl := partB_len n2 (cutF n2 g gh) qs k2
            have hok2 := cut_ok (n := n2) (k := k2) wg wgh hwq
            have hui2 := units_in n2 qs
            have hpi2 := path_in n2 hwq
            obtain ⟨l2, hl2⟩ : ∃ l, qs.length = l := ⟨_, rfl⟩
            unfold PartsOk at hok2
            simp only [hl2] at V1 Q1 T1 T2 F hpi2 hok2 h82 hEl hFl hc2 ⊢
            clear hl2 hwq wk2 wg wgh
            cases k5 : partK n2 (cutF n2 g gh) qs k2
            · rw [k5] at T1 T2
              clear hok2 k5
              generalize partA n2 (cutF n2 g gh) qs k2 = E at *
              generalize partB n2 (cutF n2 g gh) qs k2 = E2 at *
              go_wp2_with first
                | (go_at_call 29; refine (T1 _ (F.out.has 1 rfl).at).mono ?_; clear T1; rintro e x2 ⟨eA, cE, oE, eB, cF, oF, rfl, ⟨hcE, hE, gE⟩, ⟨hcF, hF, gF⟩, -, q⟩; have y0 := ((F.out.below q).own 4 rfl).cell 0 _ rfl; have y1 := ((F.out.below q).own 4 rfl).frz 0 _ rfl; have y2 := ((F.out.below q).own 5 rfl).cell 0 _ rfl; have y3 := ((F.out.below q).own 5 rfl).frz 0 _ rfl; replace F : Hid (Facts ((x2.setCell ⟨w5.heap.size, 0, none⟩ (.slice eA E.length cE)).setCell ⟨w5.heap.size + 1, 0, none⟩ (.slice eB E2.length cF)) [.bel w, .has d1 qs v1, .own x1.heap.size [.slice d1 l2 c2], .own (x1.heap.size + 1) [.int .i64 g, .int .i64 gh], .own w5.heap.size [.slice eA E.length cE], .own (w5.heap.size + 1) [.slice eB E2.length cF], .has eA E oE, .has eB E2 oF]) := cutSet (F.out.below q) hE hF hSw.out hST.out.2 hST.out.1 (fun G hG => by have := gE G hG; have := (F.out.own 5 rfl).lt; omega) (fun G hG => by have := gF G hG; have := (F.out.own 5 rfl).lt; omega); clear q hE hF gE gF; have z0 := (F.out.own 2 rfl).cell 0 _ rfl; have z1 := (F.out.own 3 rfl).cell 0 _ rfl; have z2 := (F.out.own 3 rfl).cell 1 _ rfl)
                | (go_at_call 30; refine (T2 _ (F.out.has 1 rfl).at).mono ?_; clear T2; rintro e x3 ⟨fA, dE, pE, fB, dF, pF, rfl, -, -, -, q⟩; replace F : Hid (Facts ((x3.alloc (.cells #[.slice fA E.length dE] 41)).alloc (.cells #[.slice fB E2.length dF] 41)) [.bel w, .has d1 qs v1, .own x1.heap.size [.slice d1 l2 c2], .own (x1.heap.size + 1) [.int .i64 g, .int .i64 gh], .own w5.heap.size [.slice eA E.length cE], .own (w5.heap.size + 1) [.slice eB E2.length cF], .has eA E oE, .has eB E2 oF]) := ((F.out.below q).alloc _).alloc _; clear q y0 y1 y2 y3 z0 z1 z2; have z0 := (F.out.own 2 rfl).cell 0 _ rfl)
              go_ret
              exact ⟨rfl, F.out.bel 0 rfl⟩
            · rw [k5] at T1 T2
              obtain ⟨r1, r2, r3, r4, r5, r6⟩ := hok2 k5
              have hx := units_in n2 (partA n2 (cutF n2 g gh) qs k2)
              have hy := units_in n2 (partB n2 (cutF n2 g gh) qs k2)
              have V2 := fun W b e (h : PairsAt W b (partA n2 (cutF n2 g gh) qs k2)) (hc : (partA n2 (cutF n2 g gh) qs k2).length ≤ e) => implBoxUnits W n2 b (partA n2 (cutF n2 g gh) qs k2) e h hc (by omega)
              have V3 := fun W b e (h : PairsAt W b (partB n2 (cutF n2 g gh) qs k2)) (hc : (partB n2 (cutF n2 g gh) qs k2).length ≤ e) => implBoxUnits W n2 b (partB n2 (cutF n2 g gh) qs k2) e h hc (by omega)
              have Q2 := fun W b e (h : PairsAt W b (partA n2 (cutF n2 g gh) qs k2)) (hc : (partA n2 (cutF n2 g gh) qs k2).length ≤ e) => implBoxPath W n2 b (partA n2 (cutF n2 g gh) qs k2) e h hc (by omega)
              have Q3 := fun W b e (h : PairsAt W b (partB n2 (cutF n2 g gh) qs k2)) (hc : (partB n2 (cutF n2 g gh) qs k2).length ≤ e) => implBoxPath W n2 b (partB n2 (cutF n2 g gh) qs k2) e h hc (by omega)
              clear hok2 k5
              generalize partA n2 (cutF n2 g gh) qs k2 = E at *
              generalize partB n2 (cutF n2 g gh) qs k2 = E2 at *
              generalize unitsI n2 qs = t0 at *
              generalize unitsI n2 E = t1 at *
              generalize unitsI n2 E2 = t2 at *
              generalize pathI n2 qs = s0 at *
              generalize pathI n2 E = s1 at *
              generalize pathI n2 E2 = s2 at *
              by_cases hlo : t0 < 1000000000
              · replace r1 := r1 hlo
                have g1 : decide (t0 < 1000000000) = true := decide_eq_true hlo
                have g2 : IntKind.i64.wrap (t1 + t2) = t1 + t2 := IntWalk.i64_in _ ⟨by omega, by omega⟩
                have g3 : IntKind.i64.wrap (t1 + t2 + 1) = t1 + t2 + 1 := IntWalk.i64_in _ ⟨by omega, by omega⟩
                have g4 : decide (t0 < t1 + t2 + 1) = false := decide_eq_false (by omega)
                have g5 : IntKind.i64.wrap (s1 + 1) = s1 + 1 := IntWalk.i64_in _ ⟨by omega, by omega⟩
                have g6 : decide (s0 < s1 + 1) = false := decide_eq_false (by omega)
                have g7 : decide (s0 < s2) = false := decide_eq_false (by omega)
                clear r1 r2 r3 r4 r5 r6 hx hy hui2 hpi2
                go_wp2_with first
                  | (go_at_call 29; refine (T1 _ (F.out.has 1 rfl).at).mono ?_; clear T1; rintro e x2 ⟨eA, cE, oE, eB, cF, oF, rfl, ⟨hcE, hE, gE⟩, ⟨hcF, hF, gF⟩, -, q⟩; have y0 := ((F.out.below q).own 4 rfl).cell 0 _ rfl; have y1 := ((F.out.below q).own 4 rfl).frz 0 _ rfl; have y2 := ((F.out.below q).own 5 rfl).cell 0 _ rfl; have y3 := ((F.out.below q).own 5 rfl).frz 0 _ rfl; replace F : Hid (Facts ((x2.setCell ⟨w5.heap.size, 0, none⟩ (.slice eA E.length cE)).setCell ⟨w5.heap.size + 1, 0, none⟩ (.slice eB E2.length cF)) [.bel w, .has d1 qs v1, .own x1.heap.size [.slice d1 l2 c2], .own (x1.heap.size + 1) [.int .i64 g, .int .i64 gh], .own w5.heap.size [.slice eA E.length cE], .own (w5.heap.size + 1) [.slice eB E2.length cF], .has eA E oE, .has eB E2 oF]) := cutSet (F.out.below q) hE hF hSw.out hST.out.2 hST.out.1 (fun G hG => by have := gE G hG; have := (F.out.own 5 rfl).lt; omega) (fun G hG => by have := gF G hG; have := (F.out.own 5 rfl).lt; omega); clear q hE hF gE gF; have z0 := (F.out.own 2 rfl).cell 0 _ rfl; have z1 := (F.out.own 3 rfl).cell 0 _ rfl; have z2 := (F.out.own 3 rfl).cell 1 _ rfl)
                  | (go_at_call 30; refine (T2 _ (F.out.has 1 rfl).at).mono ?_; clear T2; rintro e x3 ⟨fA, dE, pE, fB, dF, pF, rfl, -, -, -, q⟩; replace F : Hid (Facts ((x3.alloc (.cells #[.slice fA E.length dE] 41)).alloc (.cells #[.slice fB E2.length dF] 41)) [.bel w, .has d1 qs v1, .own x1.heap.size [.slice d1 l2 c2], .own (x1.heap.size + 1) [.int .i64 g, .int .i64 gh], .own w5.heap.size [.slice eA E.length cE], .own (w5.heap.size + 1) [.slice eB E2.length cF], .has eA E oE, .has eB E2 oF]) := ((F.out.below q).alloc _).alloc _; clear q y0 y1 y2 y3 z0 z1 z2; have z0 := (F.out.own 2 rfl).cell 0 _ rfl)
                  | (go_at_call 24; refine (V1 _ (F.out.has 1 rfl).at).mono ?_; rintro e x4 ⟨rfl, q⟩; replace F : Hid (Facts x4 [.bel w, .has d1 qs v1, .own x1.heap.size [.slice d1 l2 c2], .own (x1.heap.size + 1) [.int .i64 g, .int .i64 gh], .own w5.heap.size [.slice eA E.length cE], .own (w5.heap.size + 1) [.slice eB E2.length cF], .has eA E oE, .has eB E2 oF]) := F.out.below q; clear q; clear V1 z0; have d4_2 := (F.out.own 4 rfl).cell 0 _ rfl)
                  | (go_at_call 24; refine (V2 _ _ _ (F.out.has 6 rfl).at hcE).mono ?_; rintro e x5 ⟨rfl, q⟩; replace F : Hid (Facts x5 [.bel w, .has d1 qs v1, .own x1.heap.size [.slice d1 l2 c2], .own (x1.heap.size + 1) [.int .i64 g, .int .i64 gh], .own w5.heap.size [.slice eA E.length cE], .own (w5.heap.size + 1) [.slice eB E2.length cF], .has eA E oE, .has eB E2 oF]) := F.out.below q; clear q; clear V2; clear d4_2; have d5_3 := (F.out.own 5 rfl).cell 0 _ rfl)
                  | (go_at_call 24; refine (V3 _ _ _ (F.out.has 7 rfl).at hcF).mono ?_; rintro e x6 ⟨rfl, q⟩; replace F : Hid (Facts x6 [.bel w, .has d1 qs v1, .own x1.heap.size [.slice d1 l2 c2], .own (x1.heap.size + 1) [.int .i64 g, .int .i64 gh], .own w5.heap.size [.slice eA E.length cE], .own (w5.heap.size + 1) [.slice eB E2.length cF], .has eA E oE, .has eB E2 oF]) := F.out.below q; clear q; clear V3; clear d5_3)
                refine region_below (by kernel_rfl) (by kernel_rfl) ?_
                repeat (first
                  | go_big_quiet_step (first
                    | (intro hC; go_at_call 25; first | exact Calls.qb hC (either3 (Q := fun a l c u => Calls Try.prog 25 #[.int .i64 n2, .agg #[.slice a l c]] _ fun e w' => e = .returned (.int .i64 u) ∧ Below _ _ w') (Q2 _ _ _ ((F.out.has 6 rfl).at.below hC) hcE) (Q3 _ _ _ ((F.out.has 7 rfl).at.below hC) hcF) (Q1 _ ((F.out.has 1 rfl).at.below hC)) _ _ _ _ (.inl ⟨rfl, rfl, rfl, rfl⟩)) | exact Calls.qb hC (either3 (Q := fun a l c u => Calls Try.prog 25 #[.int .i64 n2, .agg #[.slice a l c]] _ fun e w' => e = .returned (.int .i64 u) ∧ Below _ _ w') (Q2 _ _ _ ((F.out.has 6 rfl).at.below hC) hcE) (Q3 _ _ _ ((F.out.has 7 rfl).at.below hC) hcF) (Q1 _ ((F.out.has 1 rfl).at.below hC)) _ _ _ _ (.inr (.inl ⟨rfl, rfl, rfl, rfl⟩))) | exact Calls.qb hC (either3 (Q := fun a l c u => Calls Try.prog 25 #[.int .i64 n2, .agg #[.slice a l c]] _ fun e w' => e = .returned (.int .i64 u) ∧ Below _ _ w') (Q2 _ _ _ ((F.out.has 6 rfl).at.below hC) hcE) (Q3 _ _ _ ((F.out.has 7 rfl).at.below hC) hcF) (Q1 _ ((F.out.has 1 rfl).at.below hC)) _ _ _ _ (.inr (.inr ⟨rfl, rfl, rfl, rfl⟩))))
                    | (intro _; rfl))
                  | (go_big_quiet_want
                     go_big_quiet_op
                     refine ⟨.agg #[.slice eA E.length cE], ?_, ?_⟩
                     · intro W hC
                       have r0 := (hC.cell (p := ⟨w5.heap.size, 0, none⟩) (F.out.own 4 rfl).lt).trans ((F.out.own 4 rfl).cell 0 _ rfl)
                       go_simp
                     go_big_quiet_on)
                  | (go_big_quiet_want
                     go_big_quiet_op
                     refine ⟨.agg #[.slice eB E2.length cF], ?_, ?_⟩
                     · intro W hC
                       have r0 := (hC.cell (p := ⟨w5.heap.size + 1, 0, none⟩) (F.out.own 5 rfl).lt).trans ((F.out.own 5 rfl).cell 0 _ rfl)
                       go_simp
                     go_big_quiet_on)
                  | (go_big_quiet_want
                     go_big_quiet_op
                     refine ⟨.agg #[.slice d1 l2 c2], ?_, ?_⟩
                     · intro W hC
                       have r0 := (hC.cell (p := ⟨x1.heap.size, 0, none⟩) (F.out.own 2 rfl).lt).trans ((F.out.own 2 rfl).cell 0 _ rfl)
                       go_simp
                     go_big_quiet_on))
                refine wpQuiet_nil ?_
                intro x7 q4
                replace F : Hid (Facts x7 [.bel w, .has d1 qs v1, .own x1.heap.size [.slice d1 l2 c2], .own (x1.heap.size + 1) [.int .i64 g, .int .i64 gh], .own w5.heap.size [.slice eA E.length cE], .own (w5.heap.size + 1) [.slice eB E2.length cF], .has eA E oE, .has eB E2 oF]) := F.out.below q4
                clear q4 Q1 Q2 Q3
                go_wp2
                go_ret
                exact ⟨rfl, F.out.bel 0 rfl⟩
              · clear r1
                have g1 : decide (t0 < 1000000000) = false := decide_eq_false hlo
                have g5 : IntKind.i64.wrap (s1 + 1) = s1 + 1 := IntWalk.i64_in _ ⟨by omega, by omega⟩
                have g6 : decide (s0 < s1 + 1) = false := decide_eq_false (by omega)
                have g7 : decide (s0 < s2) = false := decide_eq_false (by omega)
                clear r2 r3 r4 r5 r6 hx hy hui2 hpi2
                go_wp2_with first
                  | (go_at_call 29; refine (T1 _ (F.out.has 1 rfl).at).mono ?_; clear T1; rintro e x2 ⟨eA, cE, oE, eB, cF, oF, rfl, ⟨hcE, hE, gE⟩, ⟨hcF, hF, gF⟩, -, q⟩; have y0 := ((F.out.below q).own 4 rfl).cell 0 _ rfl; have y1 := ((F.out.below q).own 4 rfl).frz 0 _ rfl; have y2 := ((F.out.below q).own 5 rfl).cell 0 _ rfl; have y3 := ((F.out.below q).own 5 rfl).frz 0 _ rfl; replace F : Hid (Facts ((x2.setCell ⟨w5.heap.size, 0, none⟩ (.slice eA E.length cE)).setCell ⟨w5.heap.size + 1, 0, none⟩ (.slice eB E2.length cF)) [.bel w, .has d1 qs v1, .own x1.heap.size [.slice d1 l2 c2], .own (x1.heap.size + 1) [.int .i64 g, .int .i64 gh], .own w5.heap.size [.slice eA E.length cE], .own (w5.heap.size + 1) [.slice eB E2.length cF], .has eA E oE, .has eB E2 oF]) := cutSet (F.out.below q) hE hF hSw.out hST.out.2 hST.out.1 (fun G hG => by have := gE G hG; have := (F.out.own 5 rfl).lt; omega) (fun G hG => by have := gF G hG; have := (F.out.own 5 rfl).lt; omega); clear q hE hF gE gF; have z0 := (F.out.own 2 rfl).cell 0 _ rfl; have z1 := (F.out.own 3 rfl).cell 0 _ rfl; have z2 := (F.out.own 3 rfl).cell 1 _ rfl)
                  | (go_at_call 30; refine (T2 _ (F.out.has 1 rfl).at).mono ?_; clear T2; rintro e x3 ⟨fA, dE, pE, fB, dF, pF, rfl, -, -, -, q⟩; replace F : Hid (Facts ((x3.alloc (.cells #[.slice fA E.length dE] 41)).alloc (.cells #[.slice fB E2.length dF] 41)) [.bel w, .has d1 qs v1, .own x1.heap.size [.slice d1 l2 c2], .own (x1.heap.size + 1) [.int .i64 g, .int .i64 gh], .own w5.heap.size [.slice eA E.length cE], .own (w5.heap.size + 1) [.slice eB E2.length cF], .has eA E oE, .has eB E2 oF]) := ((F.out.below q).alloc _).alloc _; clear q y0 y1 y2 y3 z0 z1 z2; have z0 := (F.out.own 2 rfl).cell 0 _ rfl)
                  | (go_at_call 24; refine (V1 _ (F.out.has 1 rfl).at).mono ?_; rintro e x4 ⟨rfl, q⟩; replace F : Hid (Facts x4 [.bel w, .has d1 qs v1, .own x1.heap.size [.slice d1 l2 c2], .own (x1.heap.size + 1) [.int .i64 g, .int .i64 gh], .own w5.heap.size [.slice eA E.length cE], .own (w5.heap.size + 1) [.slice eB E2.length cF], .has eA E oE, .has eB E2 oF]) := F.out.below q; clear q; clear V1 z0; have d4_2 := (F.out.own 4 rfl).cell 0 _ rfl)
                  | (go_at_call 24; refine (V2 _ _ _ (F.out.has 6 rfl).at hcE).mono ?_; rintro e x5 ⟨rfl, q⟩; replace F : Hid (Facts x5 [.bel w, .has d1 qs v1, .own x1.heap.size [.slice d1 l2 c2], .own (x1.heap.size + 1) [.int .i64 g, .int .i64 gh], .own w5.heap.size [.slice eA E.length cE], .own (w5.heap.size + 1) [.slice eB E2.length cF], .has eA E oE, .has eB E2 oF]) := F.out.below q; clear q; clear V2; clear d4_2; have d5_3 := (F.out.own 5 rfl).cell 0 _ rfl)
                  | (go_at_call 24; refine (V3 _ _ _ (F.out.has 7 rfl).at hcF).mono ?_; rintro e x6 ⟨rfl, q⟩; replace F : Hid (Facts x6 [.bel w, .has d1 qs v1, .own x1.heap.size [.slice d1 l2 c2], .own (x1.heap.size + 1) [.int .i64 g, .int .i64 gh], .own w5.heap.size [.slice eA E.length cE], .own (w5.heap.size + 1) [.slice eB E2.length cF], .has eA E oE, .has eB E2 oF]) := F.out.below q; clear q; clear V3; clear d5_3)
                refine region_below (by kernel_rfl) (by kernel_rfl) ?_
                repeat (first
                  | go_big_quiet_step (first
                    | (intro hC; go_at_call 25; first | exact Calls.qb hC (either3 (Q := fun a l c u => Calls Try.prog 25 #[.int .i64 n2, .agg #[.slice a l c]] _ fun e w' => e = .returned (.int .i64 u) ∧ Below _ _ w') (Q2 _ _ _ ((F.out.has 6 rfl).at.below hC) hcE) (Q3 _ _ _ ((F.out.has 7 rfl).at.below hC) hcF) (Q1 _ ((F.out.has 1 rfl).at.below hC)) _ _ _ _ (.inl ⟨rfl, rfl, rfl, rfl⟩)) | exact Calls.qb hC (either3 (Q := fun a l c u => Calls Try.prog 25 #[.int .i64 n2, .agg #[.slice a l c]] _ fun e w' => e = .returned (.int .i64 u) ∧ Below _ _ w') (Q2 _ _ _ ((F.out.has 6 rfl).at.below hC) hcE) (Q3 _ _ _ ((F.out.has 7 rfl).at.below hC) hcF) (Q1 _ ((F.out.has 1 rfl).at.below hC)) _ _ _ _ (.inr (.inl ⟨rfl, rfl, rfl, rfl⟩))) | exact Calls.qb hC (either3 (Q := fun a l c u => Calls Try.prog 25 #[.int .i64 n2, .agg #[.slice a l c]] _ fun e w' => e = .returned (.int .i64 u) ∧ Below _ _ w') (Q2 _ _ _ ((F.out.has 6 rfl).at.below hC) hcE) (Q3 _ _ _ ((F.out.has 7 rfl).at.below hC) hcF) (Q1 _ ((F.out.has 1 rfl).at.below hC)) _ _ _ _ (.inr (.inr ⟨rfl, rfl, rfl, rfl⟩))))
                    | (intro _; rfl))
                  | (go_big_quiet_want
                     go_big_quiet_op
                     refine ⟨.agg #[.slice eA E.length cE], ?_, ?_⟩
                     · intro W hC
                       have r0 := (hC.cell (p := ⟨w5.heap.size, 0, none⟩) (F.out.own 4 rfl).lt).trans ((F.out.own 4 rfl).cell 0 _ rfl)
                       go_simp
                     go_big_quiet_on)
                  | (go_big_quiet_want
                     go_big_quiet_op
                     refine ⟨.agg #[.slice eB E2.length cF], ?_, ?_⟩
                     · intro W hC
                       have r0 := (hC.cell (p := ⟨w5.heap.size + 1, 0, none⟩) (F.out.own 5 rfl).lt).trans ((F.out.own 5 rfl).cell 0 _ rfl)
                       go_simp
                     go_big_quiet_on)
                  | (go_big_quiet_want
                     go_big_quiet_op
                     refine ⟨.agg #[.slice d1 l2 c2], ?_, ?_⟩
                     · intro W hC
                       have r0 := (hC.cell (p := ⟨x1.heap.size, 0, none⟩) (F.out.own 2 rfl).lt).trans ((F.out.own 2 rfl).cell 0 _ rfl)
                       go_simp
                     go_big_quiet_on))
                refine wpQuiet_nil ?_
                intro x7 q4
                replace F : Hid (Facts x7 [.bel w, .has d1 qs v1, .own x1.heap.size [.slice d1 l2 c2], .own (x1.heap.size + 1) [.int .i64 g, .int .i64 gh], .own w5.heap.size [.slice eA E.length cE], .own (w5.heap.size + 1) [.slice eB E2.length cF], .has eA E oE, .has eB E2 oF]) := F.out.below q4
                clear q4 Q1 Q2 Q3
                go_wp2
                go_ret
                exact ⟨rfl, F.out.bel 0 rfl⟩

end Go.Proofs.Yteohgmmenlinbab
