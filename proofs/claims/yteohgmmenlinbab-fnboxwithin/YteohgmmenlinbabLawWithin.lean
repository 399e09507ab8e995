/- FnBoxWithin's walk: it returns true, whatever bytes come in. -/
import Derived.Test.YteohgmmenlinbabDrawBx
import Derived.Test.YteohgmmenlinbabPureW
import Derived.Test.YteohgmmenlinbabBoxMt
import Derived.Test.YteohgmmenlinbabBoxMtS
import Derived.Test.YteohgmmenlinbabBoxX
import Derived.Test.YteohgmmenlinbabBoxFn
import Derived.Test.YteohgmmenlinbabBoxU
import Derived.Test.YteohgmmenlinbabEither
namespace Go.Proofs.Yteohgmmenlinbab
open Go.ChangeShapes Go.WideShapes Go.ChangeAt Go.RowKit
set_option linter.unusedVariables false

set_option maxRecDepth 100000 in
set_option maxHeartbeats 8000000 in
theorem walkWithin (w : World) (a : Option Addr) (len cap : Nat) (hc : len ≤ 1048576 → Code8 w a len) (hl : len ≤ cap) (hm : len ≤ maxLen) :
    Calls Try.prog 7 #[.slice a len cap] w fun e w' => e = .returned (.bool true) ∧ Below w.heap.size w w' := by
  by_cases hbig : 1048576 < len
  · have hbig' : 1048576 < (len : Int) := by omega
    unfold maxLen at hm
    go_enter Try.func7, Try.ntmps7
    go_wp2
    go_ret
    exact ⟨rfl, Below.refl _ _⟩
  · have hbig' : ¬ 1048576 < (len : Int) := by omega
    have ho := drawBoxMeet w a len cap (hc (by omega)) hl (by omega)
    have wlen : (Lit.int .i64 (len : Int)).wf = true := i64_wf (by omega) (by omega)
    clear hm hc
    go_enter Try.func7, Try.ntmps7
    go_wp2_with (go_at_call 31; refine ho.mono ?_; clear ho; rintro e w1 ⟨n, a1, c1, ps, o1, a2, c2, qs, o2, rfl, h1, hc1, h3, hc2, hh1, hh2, -, -, q⟩; have hwq := hh2.1; have F : Hid (Facts ((w1.alloc (.cells #[.slice a1 ps.length c1] 41)).alloc (.cells #[.slice a2 qs.length c2] 41)) [.bel w, .has a1 ps o1, .has a2 qs o2, .own w1.heap.size [.slice a1 ps.length c1], .own (w1.heap.size + 1) [.slice a2 qs.length c2]]) := ((((Facts.nil _).push (f := .bel w) q).pushHas hh1).pushHas hh2).cells2 #[.slice a1 ps.length c1] #[.slice a2 qs.length c2] 41 41; clear q hh1 hh2)
    have M1 := fun W (h : PairsAt W a1 ps) (h' : PairsAt W a2 qs) => implBoxMeet W n a1 a2 ps qs c1 c2 h h' hc1 hc2 (by omega) (by omega)
    have M2 := fun W (h : PairsAt W a1 ps) (h' : PairsAt W a2 qs) => specBoxMeet W n a1 a2 ps qs c1 c2 h h' hc1 hc2 (by omega) (by omega)
    have K1 := fun W (h : PairsAt W a1 ps) => specBoxOk W n a1 ps c1 h hc1 (by omega)
    have K2 := fun W (h : PairsAt W a2 qs) => specBoxOk W n a2 qs c2 h hc2 (by omega)
    have I1 := fun W (h : PairsAt W a1 ps) (h' : PairsAt W a2 qs) => implBoxIs W a1 a2 ps qs c1 c2 h h' hc1 hc2 (by omega) (by omega)
    have U1 := fun W (h : PairsAt W a1 ps) => implBoxUnits W n a1 ps c1 h hc1 (by omega)
    have U2 := fun W (h : PairsAt W a2 qs) => implBoxUnits W n a2 qs c2 h hc2 (by omega)
    have P1 := fun W (h : PairsAt W a1 ps) => implBoxPath W n a1 ps c1 h hc1 (by omega)
    have P2 := fun W (h : PairsAt W a2 qs) => implBoxPath W n a2 qs c2 h hc2 (by omega)
    have N1 := fun W (h : PairsAt W a1 ps) => implBoxFine W n a1 ps c1 h hc1 (by omega) (len : Int) wlen
    have N2 := fun W (h : PairsAt W a2 qs) => implBoxFine W n a2 qs c2 h hc2 (by omega) (len : Int) wlen
    have hall := fun h1 h2 h3 => within_all (n := n) (m := (len : Int)) (ps := ps) (qs := qs) hwq h1 h2 h3
    have hin := meet_in (n := n) (ps := ps) (qs := qs)
    have hml := meet_len n ps qs
    clear hwq wlen
    obtain ⟨l1, hl1⟩ : ∃ l, ps.length = l := ⟨_, rfl⟩
    obtain ⟨l2, hl2⟩ : ∃ l, qs.length = l := ⟨_, rfl⟩
    simp only [hl1, hl2] at M1 M2 K1 K2 I1 U1 U2 P1 P2 N1 N2 F ⊢
    have hL : Hid (ps.length = l1 ∧ qs.length = l2) := ⟨hl1, hl2⟩
    clear hl1 hl2
    cases kk : meetK n ps qs
    · rw [kk] at M1 M2
      clear hin U1 U2 P1 P2 N1 N2
      generalize meetL n ps qs = M at *
      cases k1 : bokI n ps
      · rw [k1] at K1
        go_wp2_with first
          | (go_at_call 32; refine (M1 _ (F.out.has 1 rfl).at (F.out.has 2 rfl).at).mono ?_; rintro e w2 ⟨a3, c3, o3, rfl, hc3, hh, -, q⟩; replace F : Hid (Facts (w2.alloc (.cells #[.slice a3 M.length c3] 41)) [.bel w, .has a1 ps o1, .has a2 qs o2, .own w1.heap.size [.slice a1 l1 c1], .own (w1.heap.size + 1) [.slice a2 l2 c2], .has a3 M o3, .own w2.heap.size [.slice a3 M.length c3]]) := ((F.out.below q).pushHas hh).cells #[.slice a3 M.length c3] 41; clear q hh; clear M1; have d3_0 := (F.out.own 3 rfl).cell 0 _ rfl; have d4_0 := (F.out.own 4 rfl).cell 0 _ rfl)
          | (go_at_call 33; refine (M2 _ (F.out.has 1 rfl).at (F.out.has 2 rfl).at).mono ?_; rintro e w3 ⟨a4, c4, o4, rfl, hc4, hh, -, q⟩; replace F : Hid (Facts (w3.alloc (.cells #[.slice a4 M.length c4] 41)) [.bel w, .has a1 ps o1, .has a2 qs o2, .own w1.heap.size [.slice a1 l1 c1], .own (w1.heap.size + 1) [.slice a2 l2 c2], .has a3 M o3, .own w2.heap.size [.slice a3 M.length c3], .has a4 M o4, .own w3.heap.size [.slice a4 M.length c4]]) := ((F.out.below q).pushHas hh).cells #[.slice a4 M.length c4] 41; clear q hh; clear M2; clear d3_0; clear d4_0; have d3_1 := (F.out.own 3 rfl).cell 0 _ rfl)
          | (go_at_call 23; refine (K1 _ (F.out.has 1 rfl).at).mono ?_; rintro e w4 ⟨rfl, q⟩; replace F : Hid (Facts w4 [.bel w, .has a1 ps o1, .has a2 qs o2, .own w1.heap.size [.slice a1 l1 c1], .own (w1.heap.size + 1) [.slice a2 l2 c2], .has a3 M o3, .own w2.heap.size [.slice a3 M.length c3], .has a4 M o4, .own w3.heap.size [.slice a4 M.length c4]]) := F.out.below q; clear q; clear K1; clear d3_1)
        go_ret
        exact ⟨rfl, F.out.bel 0 rfl⟩
      · rw [k1] at K1
        cases k2 : bokI n qs
        · rw [k2] at K2
          go_wp2_with first
            | (go_at_call 32; refine (M1 _ (F.out.has 1 rfl).at (F.out.has 2 rfl).at).mono ?_; rintro e w2 ⟨a3, c3, o3, rfl, hc3, hh, -, q⟩; replace F : Hid (Facts (w2.alloc (.cells #[.slice a3 M.length c3] 41)) [.bel w, .has a1 ps o1, .has a2 qs o2, .own w1.heap.size [.slice a1 l1 c1], .own (w1.heap.size + 1) [.slice a2 l2 c2], .has a3 M o3, .own w2.heap.size [.slice a3 M.length c3]]) := ((F.out.below q).pushHas hh).cells #[.slice a3 M.length c3] 41; clear q hh; clear M1; have d3_0 := (F.out.own 3 rfl).cell 0 _ rfl; have d4_0 := (F.out.own 4 rfl).cell 0 _ rfl)
            | (go_at_call 33; refine (M2 _ (F.out.has 1 rfl).at (F.out.has 2 rfl).at).mono ?_; rintro e w3 ⟨a4, c4, o4, rfl, hc4, hh, -, q⟩; replace F : Hid (Facts (w3.alloc (.cells #[.slice a4 M.length c4] 41)) [.bel w, .has a1 ps o1, .has a2 qs o2, .own w1.heap.size [.slice a1 l1 c1], .own (w1.heap.size + 1) [.slice a2 l2 c2], .has a3 M o3, .own w2.heap.size [.slice a3 M.length c3], .has a4 M o4, .own w3.heap.size [.slice a4 M.length c4]]) := ((F.out.below q).pushHas hh).cells #[.slice a4 M.length c4] 41; clear q hh; clear M2; clear d3_0; clear d4_0; have d3_1 := (F.out.own 3 rfl).cell 0 _ rfl)
            | (go_at_call 23; refine (K1 _ (F.out.has 1 rfl).at).mono ?_; rintro e w4 ⟨rfl, q⟩; replace F : Hid (Facts w4 [.bel w, .has a1 ps o1, .has a2 qs o2, .own w1.heap.size [.slice a1 l1 c1], .own (w1.heap.size + 1) [.slice a2 l2 c2], .has a3 M o3, .own w2.heap.size [.slice a3 M.length c3], .has a4 M o4, .own w3.heap.size [.slice a4 M.length c4]]) := F.out.below q; clear q; clear K1; clear d3_1; have d4_2 := (F.out.own 4 rfl).cell 0 _ rfl)
            | (go_at_call 23; refine (K2 _ (F.out.has 2 rfl).at).mono ?_; rintro e w5 ⟨rfl, q⟩; replace F : Hid (Facts w5 [.bel w, .has a1 ps o1, .has a2 qs o2, .own w1.heap.size [.slice a1 l1 c1], .own (w1.heap.size + 1) [.slice a2 l2 c2], .has a3 M o3, .own w2.heap.size [.slice a3 M.length c3], .has a4 M o4, .own w3.heap.size [.slice a4 M.length c4]]) := F.out.below q; clear q; clear K2; clear d4_2)
          go_ret
          exact ⟨rfl, F.out.bel 0 rfl⟩
        · rw [k2] at K2
          cases k3 : isbI ps qs
          · rw [k3] at I1
            go_wp2_with first
              | (go_at_call 32; refine (M1 _ (F.out.has 1 rfl).at (F.out.has 2 rfl).at).mono ?_; rintro e w2 ⟨a3, c3, o3, rfl, hc3, hh, -, q⟩; replace F : Hid (Facts (w2.alloc (.cells #[.slice a3 M.length c3] 41)) [.bel w, .has a1 ps o1, .has a2 qs o2, .own w1.heap.size [.slice a1 l1 c1], .own (w1.heap.size + 1) [.slice a2 l2 c2], .has a3 M o3, .own w2.heap.size [.slice a3 M.length c3]]) := ((F.out.below q).pushHas hh).cells #[.slice a3 M.length c3] 41; clear q hh; clear M1; have d3_0 := (F.out.own 3 rfl).cell 0 _ rfl; have d4_0 := (F.out.own 4 rfl).cell 0 _ rfl)
              | (go_at_call 33; refine (M2 _ (F.out.has 1 rfl).at (F.out.has 2 rfl).at).mono ?_; rintro e w3 ⟨a4, c4, o4, rfl, hc4, hh, -, q⟩; replace F : Hid (Facts (w3.alloc (.cells #[.slice a4 M.length c4] 41)) [.bel w, .has a1 ps o1, .has a2 qs o2, .own w1.heap.size [.slice a1 l1 c1], .own (w1.heap.size + 1) [.slice a2 l2 c2], .has a3 M o3, .own w2.heap.size [.slice a3 M.length c3], .has a4 M o4, .own w3.heap.size [.slice a4 M.length c4]]) := ((F.out.below q).pushHas hh).cells #[.slice a4 M.length c4] 41; clear q hh; clear M2; clear d3_0; clear d4_0; have d3_1 := (F.out.own 3 rfl).cell 0 _ rfl)
              | (go_at_call 23; refine (K1 _ (F.out.has 1 rfl).at).mono ?_; rintro e w4 ⟨rfl, q⟩; replace F : Hid (Facts w4 [.bel w, .has a1 ps o1, .has a2 qs o2, .own w1.heap.size [.slice a1 l1 c1], .own (w1.heap.size + 1) [.slice a2 l2 c2], .has a3 M o3, .own w2.heap.size [.slice a3 M.length c3], .has a4 M o4, .own w3.heap.size [.slice a4 M.length c4]]) := F.out.below q; clear q; clear K1; clear d3_1; have d4_2 := (F.out.own 4 rfl).cell 0 _ rfl)
              | (go_at_call 23; refine (K2 _ (F.out.has 2 rfl).at).mono ?_; rintro e w5 ⟨rfl, q⟩; replace F : Hid (Facts w5 [.bel w, .has a1 ps o1, .has a2 qs o2, .own w1.heap.size [.slice a1 l1 c1], .own (w1.heap.size + 1) [.slice a2 l2 c2], .has a3 M o3, .own w2.heap.size [.slice a3 M.length c3], .has a4 M o4, .own w3.heap.size [.slice a4 M.length c4]]) := F.out.below q; clear q; clear K2; clear d4_2; have d3_3 := (F.out.own 3 rfl).cell 0 _ rfl; have d4_3 := (F.out.own 4 rfl).cell 0 _ rfl)
              | (go_at_call 35; refine (I1 _ (F.out.has 1 rfl).at (F.out.has 2 rfl).at).mono ?_; rintro e w6 ⟨rfl, q⟩; replace F : Hid (Facts w6 [.bel w, .has a1 ps o1, .has a2 qs o2, .own w1.heap.size [.slice a1 l1 c1], .own (w1.heap.size + 1) [.slice a2 l2 c2], .has a3 M o3, .own w2.heap.size [.slice a3 M.length c3], .has a4 M o4, .own w3.heap.size [.slice a4 M.length c4]]) := F.out.below q; clear q; clear I1; clear d3_3; clear d4_3)
            go_ret
            exact ⟨rfl, F.out.bel 0 rfl⟩
          · exact absurd (hall k1 k2 k3).1 (by rw [kk]; decide)
    · rw [kk] at M1 M2
      obtain ⟨m1, m2, m3⟩ := hin kk
      have k12 : bokI n ps = true ∧ bokI n qs = true := by unfold meetK meetG at kk; simp only [Bool.and_eq_true] at kk; exact ⟨kk.1.1, kk.1.2.1⟩
      obtain ⟨k1, k2⟩ := k12
      rw [k1] at K1
      rw [k2] at K2
      replace hall := hall k1 k2
      clear hin k1 k2 kk
      have O1 := fun W b e (h : PairsAt W b (meetL n ps qs)) (hc : (meetL n ps qs).length ≤ e) => implBoxOk W n b (meetL n ps qs) e h hc (by omega)
      have J1 := fun W b e (h : PairsAt W b (meetL n ps qs)) (h' : PairsAt W a1 ps) (hc : (meetL n ps qs).length ≤ e) => implBoxIs W b a1 (meetL n ps qs) ps e c1 h h' hc (by omega) (by omega) (by omega)
      have J2 := fun W b e (h : PairsAt W b (meetL n ps qs)) (h' : PairsAt W a2 qs) (hc : (meetL n ps qs).length ≤ e) => implBoxIs W b a2 (meetL n ps qs) qs e c2 h h' hc (by omega) (by omega) (by omega)
      have J3 := fun W b e (h : PairsAt W a1 ps) (h' : PairsAt W b (meetL n ps qs)) (hc : (meetL n ps qs).length ≤ e) => implBoxIs W a1 b ps (meetL n ps qs) c1 e h h' (by omega) hc (by omega) (by omega)
      rw [hL.out.1] at J1 J3
      rw [hL.out.2] at J2
      rw [m1] at O1
      rw [m2] at J1
      rw [m3] at J2
      clear m1 m2 m3
      cases k3 : isbI ps qs
      · rw [k3] at I1
        clear hall J3 U1 U2 P1 P2 N1 N2
        generalize meetL n ps qs = M at *
        go_wp2_with first
          | (go_at_call 32; refine (M1 _ (F.out.has 1 rfl).at (F.out.has 2 rfl).at).mono ?_; rintro e w2 ⟨a3, c3, o3, rfl, hc3, hh, -, q⟩; replace F : Hid (Facts (w2.alloc (.cells #[.slice a3 M.length c3] 41)) [.bel w, .has a1 ps o1, .has a2 qs o2, .own w1.heap.size [.slice a1 l1 c1], .own (w1.heap.size + 1) [.slice a2 l2 c2], .has a3 M o3, .own w2.heap.size [.slice a3 M.length c3]]) := ((F.out.below q).pushHas hh).cells #[.slice a3 M.length c3] 41; clear q hh; clear M1; have d3_0 := (F.out.own 3 rfl).cell 0 _ rfl; have d4_0 := (F.out.own 4 rfl).cell 0 _ rfl)
          | (go_at_call 33; refine (M2 _ (F.out.has 1 rfl).at (F.out.has 2 rfl).at).mono ?_; rintro e w3 ⟨a4, c4, o4, rfl, hc4, hh, -, q⟩; replace F : Hid (Facts (w3.alloc (.cells #[.slice a4 M.length c4] 41)) [.bel w, .has a1 ps o1, .has a2 qs o2, .own w1.heap.size [.slice a1 l1 c1], .own (w1.heap.size + 1) [.slice a2 l2 c2], .has a3 M o3, .own w2.heap.size [.slice a3 M.length c3], .has a4 M o4, .own w3.heap.size [.slice a4 M.length c4]]) := ((F.out.below q).pushHas hh).cells #[.slice a4 M.length c4] 41; clear q hh; clear M2; clear d3_0; clear d4_0; have d6_1 := (F.out.own 6 rfl).cell 0 _ rfl)
          | (go_at_call 34; refine (O1 _ _ _ (F.out.has 5 rfl).at hc3).mono ?_; rintro e w4 ⟨rfl, q⟩; replace F : Hid (Facts w4 [.bel w, .has a1 ps o1, .has a2 qs o2, .own w1.heap.size [.slice a1 l1 c1], .own (w1.heap.size + 1) [.slice a2 l2 c2], .has a3 M o3, .own w2.heap.size [.slice a3 M.length c3], .has a4 M o4, .own w3.heap.size [.slice a4 M.length c4]]) := F.out.below q; clear q; clear O1; clear d6_1; have d6_2 := (F.out.own 6 rfl).cell 0 _ rfl; have d3_2 := (F.out.own 3 rfl).cell 0 _ rfl)
          | (go_at_call 35; refine (J1 _ _ _ (F.out.has 5 rfl).at (F.out.has 1 rfl).at hc3).mono ?_; rintro e w5 ⟨rfl, q⟩; replace F : Hid (Facts w5 [.bel w, .has a1 ps o1, .has a2 qs o2, .own w1.heap.size [.slice a1 l1 c1], .own (w1.heap.size + 1) [.slice a2 l2 c2], .has a3 M o3, .own w2.heap.size [.slice a3 M.length c3], .has a4 M o4, .own w3.heap.size [.slice a4 M.length c4]]) := F.out.below q; clear q; clear J1; clear d6_2; clear d3_2; have d6_3 := (F.out.own 6 rfl).cell 0 _ rfl; have d4_3 := (F.out.own 4 rfl).cell 0 _ rfl)
          | (go_at_call 35; refine (J2 _ _ _ (F.out.has 5 rfl).at (F.out.has 2 rfl).at hc3).mono ?_; rintro e w6 ⟨rfl, q⟩; replace F : Hid (Facts w6 [.bel w, .has a1 ps o1, .has a2 qs o2, .own w1.heap.size [.slice a1 l1 c1], .own (w1.heap.size + 1) [.slice a2 l2 c2], .has a3 M o3, .own w2.heap.size [.slice a3 M.length c3], .has a4 M o4, .own w3.heap.size [.slice a4 M.length c4]]) := F.out.below q; clear q; clear J2; clear d6_3; clear d4_3; have d3_4 := (F.out.own 3 rfl).cell 0 _ rfl)
          | (go_at_call 23; refine (K1 _ (F.out.has 1 rfl).at).mono ?_; rintro e w7 ⟨rfl, q⟩; replace F : Hid (Facts w7 [.bel w, .has a1 ps o1, .has a2 qs o2, .own w1.heap.size [.slice a1 l1 c1], .own (w1.heap.size + 1) [.slice a2 l2 c2], .has a3 M o3, .own w2.heap.size [.slice a3 M.length c3], .has a4 M o4, .own w3.heap.size [.slice a4 M.length c4]]) := F.out.below q; clear q; clear K1; clear d3_4; have d4_5 := (F.out.own 4 rfl).cell 0 _ rfl)
          | (go_at_call 23; refine (K2 _ (F.out.has 2 rfl).at).mono ?_; rintro e w8 ⟨rfl, q⟩; replace F : Hid (Facts w8 [.bel w, .has a1 ps o1, .has a2 qs o2, .own w1.heap.size [.slice a1 l1 c1], .own (w1.heap.size + 1) [.slice a2 l2 c2], .has a3 M o3, .own w2.heap.size [.slice a3 M.length c3], .has a4 M o4, .own w3.heap.size [.slice a4 M.length c4]]) := F.out.below q; clear q; clear K2; clear d4_5; have d3_6 := (F.out.own 3 rfl).cell 0 _ rfl; have d4_6 := (F.out.own 4 rfl).cell 0 _ rfl)
          | (go_at_call 35; refine (I1 _ (F.out.has 1 rfl).at (F.out.has 2 rfl).at).mono ?_; rintro e w9 ⟨rfl, q⟩; replace F : Hid (Facts w9 [.bel w, .has a1 ps o1, .has a2 qs o2, .own w1.heap.size [.slice a1 l1 c1], .own (w1.heap.size + 1) [.slice a2 l2 c2], .has a3 M o3, .own w2.heap.size [.slice a3 M.length c3], .has a4 M o4, .own w3.heap.size [.slice a4 M.length c4]]) := F.out.below q; clear q; clear I1; clear d3_6; clear d4_6)
        go_ret
        exact ⟨rfl, F.out.bel 0 rfl⟩
      · rw [k3] at I1
        obtain ⟨-, t1, t2, t3, t4⟩ := hall k3
        rw [t1] at J3
        clear hall t1
        generalize meetL n ps qs = M at *
        generalize unitsI n ps = u1 at *
        generalize unitsI n qs = u2 at *
        generalize pathI n ps = p1 at *
        generalize pathI n qs = p2 at *
        have d1 : decide (u2 < u1) = false := decide_eq_false (by omega)
        have d2 : decide (p2 < p1) = false := decide_eq_false (by omega)
        clear t2 t3
        cases k5 : fineI n qs (len : Int)
        · rw [k5] at N2
          go_wp2_with first
            | (go_at_call 32; refine (M1 _ (F.out.has 1 rfl).at (F.out.has 2 rfl).at).mono ?_; rintro e w2 ⟨a3, c3, o3, rfl, hc3, hh, -, q⟩; replace F : Hid (Facts (w2.alloc (.cells #[.slice a3 M.length c3] 41)) [.bel w, .has a1 ps o1, .has a2 qs o2, .own w1.heap.size [.slice a1 l1 c1], .own (w1.heap.size + 1) [.slice a2 l2 c2], .has a3 M o3, .own w2.heap.size [.slice a3 M.length c3]]) := ((F.out.below q).pushHas hh).cells #[.slice a3 M.length c3] 41; clear q hh; clear M1; have d3_0 := (F.out.own 3 rfl).cell 0 _ rfl; have d4_0 := (F.out.own 4 rfl).cell 0 _ rfl)
            | (go_at_call 33; refine (M2 _ (F.out.has 1 rfl).at (F.out.has 2 rfl).at).mono ?_; rintro e w3 ⟨a4, c4, o4, rfl, hc4, hh, -, q⟩; replace F : Hid (Facts (w3.alloc (.cells #[.slice a4 M.length c4] 41)) [.bel w, .has a1 ps o1, .has a2 qs o2, .own w1.heap.size [.slice a1 l1 c1], .own (w1.heap.size + 1) [.slice a2 l2 c2], .has a3 M o3, .own w2.heap.size [.slice a3 M.length c3], .has a4 M o4, .own w3.heap.size [.slice a4 M.length c4]]) := ((F.out.below q).pushHas hh).cells #[.slice a4 M.length c4] 41; clear q hh; clear M2; clear d3_0; clear d4_0; have d6_1 := (F.out.own 6 rfl).cell 0 _ rfl)
            | (go_at_call 34; refine (O1 _ _ _ (F.out.has 5 rfl).at hc3).mono ?_; rintro e w4 ⟨rfl, q⟩; replace F : Hid (Facts w4 [.bel w, .has a1 ps o1, .has a2 qs o2, .own w1.heap.size [.slice a1 l1 c1], .own (w1.heap.size + 1) [.slice a2 l2 c2], .has a3 M o3, .own w2.heap.size [.slice a3 M.length c3], .has a4 M o4, .own w3.heap.size [.slice a4 M.length c4]]) := F.out.below q; clear q; clear O1; clear d6_1; have d6_2 := (F.out.own 6 rfl).cell 0 _ rfl; have d3_2 := (F.out.own 3 rfl).cell 0 _ rfl)
            | (go_at_call 35; refine (J1 _ _ _ (F.out.has 5 rfl).at (F.out.has 1 rfl).at hc3).mono ?_; rintro e w5 ⟨rfl, q⟩; replace F : Hid (Facts w5 [.bel w, .has a1 ps o1, .has a2 qs o2, .own w1.heap.size [.slice a1 l1 c1], .own (w1.heap.size + 1) [.slice a2 l2 c2], .has a3 M o3, .own w2.heap.size [.slice a3 M.length c3], .has a4 M o4, .own w3.heap.size [.slice a4 M.length c4]]) := F.out.below q; clear q; clear J1; clear d6_2; clear d3_2; have d6_3 := (F.out.own 6 rfl).cell 0 _ rfl; have d4_3 := (F.out.own 4 rfl).cell 0 _ rfl)
            | (go_at_call 35; refine (J2 _ _ _ (F.out.has 5 rfl).at (F.out.has 2 rfl).at hc3).mono ?_; rintro e w6 ⟨rfl, q⟩; replace F : Hid (Facts w6 [.bel w, .has a1 ps o1, .has a2 qs o2, .own w1.heap.size [.slice a1 l1 c1], .own (w1.heap.size + 1) [.slice a2 l2 c2], .has a3 M o3, .own w2.heap.size [.slice a3 M.length c3], .has a4 M o4, .own w3.heap.size [.slice a4 M.length c4]]) := F.out.below q; clear q; clear J2; clear d6_3; clear d4_3; have d3_4 := (F.out.own 3 rfl).cell 0 _ rfl)
            | (go_at_call 23; refine (K1 _ (F.out.has 1 rfl).at).mono ?_; rintro e w7 ⟨rfl, q⟩; replace F : Hid (Facts w7 [.bel w, .has a1 ps o1, .has a2 qs o2, .own w1.heap.size [.slice a1 l1 c1], .own (w1.heap.size + 1) [.slice a2 l2 c2], .has a3 M o3, .own w2.heap.size [.slice a3 M.length c3], .has a4 M o4, .own w3.heap.size [.slice a4 M.length c4]]) := F.out.below q; clear q; clear K1; clear d3_4; have d4_5 := (F.out.own 4 rfl).cell 0 _ rfl)
            | (go_at_call 23; refine (K2 _ (F.out.has 2 rfl).at).mono ?_; rintro e w8 ⟨rfl, q⟩; replace F : Hid (Facts w8 [.bel w, .has a1 ps o1, .has a2 qs o2, .own w1.heap.size [.slice a1 l1 c1], .own (w1.heap.size + 1) [.slice a2 l2 c2], .has a3 M o3, .own w2.heap.size [.slice a3 M.length c3], .has a4 M o4, .own w3.heap.size [.slice a4 M.length c4]]) := F.out.below q; clear q; clear K2; clear d4_5; have d3_6 := (F.out.own 3 rfl).cell 0 _ rfl; have d4_6 := (F.out.own 4 rfl).cell 0 _ rfl)
            | (go_at_call 35; refine (I1 _ (F.out.has 1 rfl).at (F.out.has 2 rfl).at).mono ?_; rintro e w9 ⟨rfl, q⟩; replace F : Hid (Facts w9 [.bel w, .has a1 ps o1, .has a2 qs o2, .own w1.heap.size [.slice a1 l1 c1], .own (w1.heap.size + 1) [.slice a2 l2 c2], .has a3 M o3, .own w2.heap.size [.slice a3 M.length c3], .has a4 M o4, .own w3.heap.size [.slice a4 M.length c4]]) := F.out.below q; clear q; clear I1; clear d3_6; clear d4_6)
          refine region_below (by kernel_rfl) (by kernel_rfl) ?_
          repeat (first
            | go_big_quiet_step (first
              | (intro hC; go_at_call 35; exact Calls.qb hC (J3 _ _ _ ((F.out.has 1 rfl).at.below hC) ((F.out.has 5 rfl).at.below hC) hc3))
              | (intro hC; go_at_call 24; first | exact Calls.qb hC (either2 (Q := fun a l c u => Calls Try.prog 24 #[.int .i64 n, .agg #[.slice a l c]] _ fun e w' => e = .returned (.int .i64 u) ∧ Below _ _ w') (U1 _ ((F.out.has 1 rfl).at.below hC)) (U2 _ ((F.out.has 2 rfl).at.below hC)) _ _ _ _ (.inl ⟨rfl, rfl, rfl, rfl⟩)) | exact Calls.qb hC (either2 (Q := fun a l c u => Calls Try.prog 24 #[.int .i64 n, .agg #[.slice a l c]] _ fun e w' => e = .returned (.int .i64 u) ∧ Below _ _ w') (U1 _ ((F.out.has 1 rfl).at.below hC)) (U2 _ ((F.out.has 2 rfl).at.below hC)) _ _ _ _ (.inr ⟨rfl, rfl, rfl, rfl⟩)))
              | (intro hC; go_at_call 25; first | exact Calls.qb hC (either2 (Q := fun a l c u => Calls Try.prog 25 #[.int .i64 n, .agg #[.slice a l c]] _ fun e w' => e = .returned (.int .i64 u) ∧ Below _ _ w') (P1 _ ((F.out.has 1 rfl).at.below hC)) (P2 _ ((F.out.has 2 rfl).at.below hC)) _ _ _ _ (.inl ⟨rfl, rfl, rfl, rfl⟩)) | exact Calls.qb hC (either2 (Q := fun a l c u => Calls Try.prog 25 #[.int .i64 n, .agg #[.slice a l c]] _ fun e w' => e = .returned (.int .i64 u) ∧ Below _ _ w') (P1 _ ((F.out.has 1 rfl).at.below hC)) (P2 _ ((F.out.has 2 rfl).at.below hC)) _ _ _ _ (.inr ⟨rfl, rfl, rfl, rfl⟩)))
              | (intro _; rfl))
            | (go_big_quiet_want
               go_big_quiet_op
               refine ⟨.agg #[.slice a1 l1 c1], ?_, ?_⟩
               · intro W hC
                 have r0 := (hC.cell (p := ⟨w1.heap.size, 0, none⟩) (F.out.own 3 rfl).lt).trans ((F.out.own 3 rfl).cell 0 _ rfl)
                 go_simp
               go_big_quiet_on)
            | (go_big_quiet_want
               go_big_quiet_op
               refine ⟨.agg #[.slice a2 l2 c2], ?_, ?_⟩
               · intro W hC
                 have r0 := (hC.cell (p := ⟨w1.heap.size + 1, 0, none⟩) (F.out.own 4 rfl).lt).trans ((F.out.own 4 rfl).cell 0 _ rfl)
                 go_simp
               go_big_quiet_on)
            | (go_big_quiet_want
               go_big_quiet_op
               refine ⟨.agg #[.slice a3 M.length c3], ?_, ?_⟩
               · intro W hC
                 have r0 := (hC.cell (p := ⟨w2.heap.size, 0, none⟩) (F.out.own 6 rfl).lt).trans ((F.out.own 6 rfl).cell 0 _ rfl)
                 go_simp
               go_big_quiet_on))
          refine wpQuiet_nil ?_
          intro w10 q4
          replace F : Hid (Facts w10 [.bel w, .has a1 ps o1, .has a2 qs o2, .own w1.heap.size [.slice a1 l1 c1], .own (w1.heap.size + 1) [.slice a2 l2 c2], .has a3 M o3, .own w2.heap.size [.slice a3 M.length c3], .has a4 M o4, .own w3.heap.size [.slice a4 M.length c4]]) := F.out.below q4
          clear q4 J3 U1 U2 P1 P2
          have b0 := (F.out.own 4 rfl).cell 0 _ rfl
          go_wp2_with (go_at_call 36; refine (N2 _ (F.out.has 2 rfl).at).mono ?_; rintro e w11 ⟨rfl, q⟩; replace F : Hid (Facts w11 [.bel w, .has a1 ps o1, .has a2 qs o2, .own w1.heap.size [.slice a1 l1 c1], .own (w1.heap.size + 1) [.slice a2 l2 c2], .has a3 M o3, .own w2.heap.size [.slice a3 M.length c3], .has a4 M o4, .own w3.heap.size [.slice a4 M.length c4]]) := F.out.below q; clear q; clear N2)
          go_ret
          exact ⟨rfl, F.out.bel 0 rfl⟩
        · rw [k5] at N2
          rw [t4 k5] at N1
          go_wp2_with first
            | (go_at_call 32; refine (M1 _ (F.out.has 1 rfl).at (F.out.has 2 rfl).at).mono ?_; rintro e w2 ⟨a3, c3, o3, rfl, hc3, hh, -, q⟩; replace F : Hid (Facts (w2.alloc (.cells #[.slice a3 M.length c3] 41)) [.bel w, .has a1 ps o1, .has a2 qs o2, .own w1.heap.size [.slice a1 l1 c1], .own (w1.heap.size + 1) [.slice a2 l2 c2], .has a3 M o3, .own w2.heap.size [.slice a3 M.length c3]]) := ((F.out.below q).pushHas hh).cells #[.slice a3 M.length c3] 41; clear q hh; clear M1; have d3_0 := (F.out.own 3 rfl).cell 0 _ rfl; have d4_0 := (F.out.own 4 rfl).cell 0 _ rfl)
            | (go_at_call 33; refine (M2 _ (F.out.has 1 rfl).at (F.out.has 2 rfl).at).mono ?_; rintro e w3 ⟨a4, c4, o4, rfl, hc4, hh, -, q⟩; replace F : Hid (Facts (w3.alloc (.cells #[.slice a4 M.length c4] 41)) [.bel w, .has a1 ps o1, .has a2 qs o2, .own w1.heap.size [.slice a1 l1 c1], .own (w1.heap.size + 1) [.slice a2 l2 c2], .has a3 M o3, .own w2.heap.size [.slice a3 M.length c3], .has a4 M o4, .own w3.heap.size [.slice a4 M.length c4]]) := ((F.out.below q).pushHas hh).cells #[.slice a4 M.length c4] 41; clear q hh; clear M2; clear d3_0; clear d4_0; have d6_1 := (F.out.own 6 rfl).cell 0 _ rfl)
            | (go_at_call 34; refine (O1 _ _ _ (F.out.has 5 rfl).at hc3).mono ?_; rintro e w4 ⟨rfl, q⟩; replace F : Hid (Facts w4 [.bel w, .has a1 ps o1, .has a2 qs o2, .own w1.heap.size [.slice a1 l1 c1], .own (w1.heap.size + 1) [.slice a2 l2 c2], .has a3 M o3, .own w2.heap.size [.slice a3 M.length c3], .has a4 M o4, .own w3.heap.size [.slice a4 M.length c4]]) := F.out.below q; clear q; clear O1; clear d6_1; have d6_2 := (F.out.own 6 rfl).cell 0 _ rfl; have d3_2 := (F.out.own 3 rfl).cell 0 _ rfl)
            | (go_at_call 35; refine (J1 _ _ _ (F.out.has 5 rfl).at (F.out.has 1 rfl).at hc3).mono ?_; rintro e w5 ⟨rfl, q⟩; replace F : Hid (Facts w5 [.bel w, .has a1 ps o1, .has a2 qs o2, .own w1.heap.size [.slice a1 l1 c1], .own (w1.heap.size + 1) [.slice a2 l2 c2], .has a3 M o3, .own w2.heap.size [.slice a3 M.length c3], .has a4 M o4, .own w3.heap.size [.slice a4 M.length c4]]) := F.out.below q; clear q; clear J1; clear d6_2; clear d3_2; have d6_3 := (F.out.own 6 rfl).cell 0 _ rfl; have d4_3 := (F.out.own 4 rfl).cell 0 _ rfl)
            | (go_at_call 35; refine (J2 _ _ _ (F.out.has 5 rfl).at (F.out.has 2 rfl).at hc3).mono ?_; rintro e w6 ⟨rfl, q⟩; replace F : Hid (Facts w6 [.bel w, .has a1 ps o1, .has a2 qs o2, .own w1.heap.size [.slice a1 l1 c1], .own (w1.heap.size + 1) [.slice a2 l2 c2], .has a3 M o3, .own w2.heap.size [.slice a3 M.length c3], .has a4 M o4, .own w3.heap.size [.slice a4 M.length c4]]) := F.out.below q; clear q; clear J2; clear d6_3; clear d4_3; have d3_4 := (F.out.own 3 rfl).cell 0 _ rfl)
            | (go_at_call 23; refine (K1 _ (F.out.has 1 rfl).at).mono ?_; rintro e w7 ⟨rfl, q⟩; replace F : Hid (Facts w7 [.bel w, .has a1 ps o1, .has a2 qs o2, .own w1.heap.size [.slice a1 l1 c1], .own (w1.heap.size + 1) [.slice a2 l2 c2], .has a3 M o3, .own w2.heap.size [.slice a3 M.length c3], .has a4 M o4, .own w3.heap.size [.slice a4 M.length c4]]) := F.out.below q; clear q; clear K1; clear d3_4; have d4_5 := (F.out.own 4 rfl).cell 0 _ rfl)
            | (go_at_call 23; refine (K2 _ (F.out.has 2 rfl).at).mono ?_; rintro e w8 ⟨rfl, q⟩; replace F : Hid (Facts w8 [.bel w, .has a1 ps o1, .has a2 qs o2, .own w1.heap.size [.slice a1 l1 c1], .own (w1.heap.size + 1) [.slice a2 l2 c2], .has a3 M o3, .own w2.heap.size [.slice a3 M.length c3], .has a4 M o4, .own w3.heap.size [.slice a4 M.length c4]]) := F.out.below q; clear q; clear K2; clear d4_5; have d3_6 := (F.out.own 3 rfl).cell 0 _ rfl; have d4_6 := (F.out.own 4 rfl).cell 0 _ rfl)
            | (go_at_call 35; refine (I1 _ (F.out.has 1 rfl).at (F.out.has 2 rfl).at).mono ?_; rintro e w9 ⟨rfl, q⟩; replace F : Hid (Facts w9 [.bel w, .has a1 ps o1, .has a2 qs o2, .own w1.heap.size [.slice a1 l1 c1], .own (w1.heap.size + 1) [.slice a2 l2 c2], .has a3 M o3, .own w2.heap.size [.slice a3 M.length c3], .has a4 M o4, .own w3.heap.size [.slice a4 M.length c4]]) := F.out.below q; clear q; clear I1; clear d3_6; clear d4_6)
          refine region_below (by kernel_rfl) (by kernel_rfl) ?_
          repeat (first
            | go_big_quiet_step (first
              | (intro hC; go_at_call 35; exact Calls.qb hC (J3 _ _ _ ((F.out.has 1 rfl).at.below hC) ((F.out.has 5 rfl).at.below hC) hc3))
              | (intro hC; go_at_call 24; first | exact Calls.qb hC (either2 (Q := fun a l c u => Calls Try.prog 24 #[.int .i64 n, .agg #[.slice a l c]] _ fun e w' => e = .returned (.int .i64 u) ∧ Below _ _ w') (U1 _ ((F.out.has 1 rfl).at.below hC)) (U2 _ ((F.out.has 2 rfl).at.below hC)) _ _ _ _ (.inl ⟨rfl, rfl, rfl, rfl⟩)) | exact Calls.qb hC (either2 (Q := fun a l c u => Calls Try.prog 24 #[.int .i64 n, .agg #[.slice a l c]] _ fun e w' => e = .returned (.int .i64 u) ∧ Below _ _ w') (U1 _ ((F.out.has 1 rfl).at.below hC)) (U2 _ ((F.out.has 2 rfl).at.below hC)) _ _ _ _ (.inr ⟨rfl, rfl, rfl, rfl⟩)))
              | (intro hC; go_at_call 25; first | exact Calls.qb hC (either2 (Q := fun a l c u => Calls Try.prog 25 #[.int .i64 n, .agg #[.slice a l c]] _ fun e w' => e = .returned (.int .i64 u) ∧ Below _ _ w') (P1 _ ((F.out.has 1 rfl).at.below hC)) (P2 _ ((F.out.has 2 rfl).at.below hC)) _ _ _ _ (.inl ⟨rfl, rfl, rfl, rfl⟩)) | exact Calls.qb hC (either2 (Q := fun a l c u => Calls Try.prog 25 #[.int .i64 n, .agg #[.slice a l c]] _ fun e w' => e = .returned (.int .i64 u) ∧ Below _ _ w') (P1 _ ((F.out.has 1 rfl).at.below hC)) (P2 _ ((F.out.has 2 rfl).at.below hC)) _ _ _ _ (.inr ⟨rfl, rfl, rfl, rfl⟩)))
              | (intro _; rfl))
            | (go_big_quiet_want
               go_big_quiet_op
               refine ⟨.agg #[.slice a1 l1 c1], ?_, ?_⟩
               · intro W hC
                 have r0 := (hC.cell (p := ⟨w1.heap.size, 0, none⟩) (F.out.own 3 rfl).lt).trans ((F.out.own 3 rfl).cell 0 _ rfl)
                 go_simp
               go_big_quiet_on)
            | (go_big_quiet_want
               go_big_quiet_op
               refine ⟨.agg #[.slice a2 l2 c2], ?_, ?_⟩
               · intro W hC
                 have r0 := (hC.cell (p := ⟨w1.heap.size + 1, 0, none⟩) (F.out.own 4 rfl).lt).trans ((F.out.own 4 rfl).cell 0 _ rfl)
                 go_simp
               go_big_quiet_on)
            | (go_big_quiet_want
               go_big_quiet_op
               refine ⟨.agg #[.slice a3 M.length c3], ?_, ?_⟩
               · intro W hC
                 have r0 := (hC.cell (p := ⟨w2.heap.size, 0, none⟩) (F.out.own 6 rfl).lt).trans ((F.out.own 6 rfl).cell 0 _ rfl)
                 go_simp
               go_big_quiet_on))
          refine wpQuiet_nil ?_
          intro w10 q4
          replace F : Hid (Facts w10 [.bel w, .has a1 ps o1, .has a2 qs o2, .own w1.heap.size [.slice a1 l1 c1], .own (w1.heap.size + 1) [.slice a2 l2 c2], .has a3 M o3, .own w2.heap.size [.slice a3 M.length c3], .has a4 M o4, .own w3.heap.size [.slice a4 M.length c4]]) := F.out.below q4
          clear q4 J3 U1 U2 P1 P2
          have b0 := (F.out.own 4 rfl).cell 0 _ rfl
          go_wp2_with first
            | (go_at_call 36; refine (N2 _ (F.out.has 2 rfl).at).mono ?_; rintro e w11 ⟨rfl, q⟩; replace F : Hid (Facts w11 [.bel w, .has a1 ps o1, .has a2 qs o2, .own w1.heap.size [.slice a1 l1 c1], .own (w1.heap.size + 1) [.slice a2 l2 c2], .has a3 M o3, .own w2.heap.size [.slice a3 M.length c3], .has a4 M o4, .own w3.heap.size [.slice a4 M.length c4]]) := F.out.below q; clear q; clear N2; have d3_0 := (F.out.own 3 rfl).cell 0 _ rfl)
            | (go_at_call 36; refine (N1 _ (F.out.has 1 rfl).at).mono ?_; rintro e w12 ⟨rfl, q⟩; replace F : Hid (Facts w12 [.bel w, .has a1 ps o1, .has a2 qs o2, .own w1.heap.size [.slice a1 l1 c1], .own (w1.heap.size + 1) [.slice a2 l2 c2], .has a3 M o3, .own w2.heap.size [.slice a3 M.length c3], .has a4 M o4, .own w3.heap.size [.slice a4 M.length c4]]) := F.out.below q; clear q; clear N1; clear d3_0)
          go_ret
          exact ⟨rfl, F.out.bel 0 rfl⟩

end Go.Proofs.Yteohgmmenlinbab
