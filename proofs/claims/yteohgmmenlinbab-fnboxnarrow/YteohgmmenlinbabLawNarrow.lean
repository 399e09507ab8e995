/- FnBoxNarrow's walk: it returns true, whatever bytes come in. -/
import Derived.Test.YteohgmmenlinbabDrawBL
import Derived.Test.YteohgmmenlinbabPureL
namespace Go.Proofs.Yteohgmmenlinbab
open Go.ChangeShapes Go.WideShapes Go.ChangeAt Go.RowKit
set_option linter.unusedVariables false

theorem Code8.belowN {w w' : World} {a : Option Addr} {len : Nat} (h : Code8 w a len) (q : Below w.heap.size w w') : Code8 w' a len := by
  rcases h with h | ⟨rb, ro, ha, hlt, hcell⟩
  · exact .inl h
  · refine .inr ⟨rb, ro, ha, Nat.lt_of_lt_of_le hlt q.size, fun j hj => ?_⟩
    obtain ⟨z, z0, z1, hz⟩ := hcell j hj
    exact ⟨z, z0, z1, (q.cell (p := ⟨rb, ro + j, none⟩) hlt).trans hz⟩

set_option maxRecDepth 100000 in
set_option maxHeartbeats 4000000 in
theorem walkNarrow (w : World) (a : Option Addr) (len cap : Nat) (hc : len ≤ 1048576 → Code8 w a len) (hl : len ≤ cap) (hm : len ≤ maxLen) :
    Calls Try.prog 8 #[.slice a len cap] w fun e w' => e = .returned (.bool true) ∧ Below w.heap.size w w' := by
  obtain ⟨bel, hBel⟩ := exists_belF
  by_cases hbig : 1048576 < len
  · have hbig' : 1048576 < (len : Int) := by omega
    unfold maxLen at hm
    go_enter Try.func8, Try.ntmps8
    go_wp2
    go_ret
    exact ⟨rfl, Below.refl _ _⟩
  · have hbig' : ¬ 1048576 < (len : Int) := by omega
    replace hc := hc (by omega)
    have ho := drawBoxLess w a len cap hc hl (by omega)
    have ho2 := fun W (q : Below w.heap.size w W) => drawBoxMore W a len cap (hc.belowN q) hl (by omega)
    clear hm hc
    go_enter Try.func8, Try.ntmps8
    go_wp2_with (go_at_call 37; refine ho.mono ?_; clear ho; rintro e w1 ⟨a1, c1, ps, o1, rfl, h8, hc1, hh1, -, -, q⟩; have F : Hid (Facts (w1.alloc (.cells #[.slice a1 ps.length c1] 41)) [.bel w, .has a1 ps o1, .own w1.heap.size [.slice a1 ps.length c1]]) := (((Facts.nil _).push (f := .bel w) q).pushHas hh1).cells #[.slice a1 ps.length c1] 41; clear q hh1)
    have L := fun W (h : PairsAt W a1 ps) => implBoxLess bel hBel W a1 ps c1 h hc1 (by omega)
    have S := fun W (h : PairsAt W a1 ps) => specBoxOk W 64 a1 ps c1 h hc1 (by omega)
    cases k1 : bokI 64 ps
    · rw [k1] at L S
      generalize boxLessL bel ps = N at *
      go_wp2_with first
        | (go_at_call 38; refine (L _ (F.out.has 1 rfl).at).mono ?_; rintro e w2 ⟨a2, c2, o2, rfl, hc2, hh, -, q⟩; replace F : Hid (Facts (w2.alloc (.cells #[.slice a2 N.length c2] 41)) [.bel w, .has a1 ps o1, .own w1.heap.size [.slice a1 ps.length c1], .has a2 N o2, .own w2.heap.size [.slice a2 N.length c2]]) := ((F.out.below q).pushHas hh).cells #[.slice a2 N.length c2] 41; clear q hh; clear L; have d2_0 := (F.out.own 2 rfl).cell 0 _ rfl)
        | (go_at_call 23; refine (S _ (F.out.has 1 rfl).at).mono ?_; rintro e w3 ⟨rfl, q⟩; replace F : Hid (Facts w3 [.bel w, .has a1 ps o1, .own w1.heap.size [.slice a1 ps.length c1], .has a2 N o2, .own w2.heap.size [.slice a2 N.length c2]]) := F.out.below q; clear q; clear S; clear d2_0)
      go_wp2_with (go_at_call 40; refine (ho2 _ (F.out.bel 0 rfl)).mono ?_; rintro e v1 ⟨b1, e1, qs, u1, rfl, g8, he1, hh, -, -, q⟩; replace F : Hid (Facts (v1.alloc (.cells #[.slice b1 qs.length e1] 41)) [.bel w, .has a1 ps o1, .own w1.heap.size [.slice a1 ps.length c1], .has a2 N o2, .own w2.heap.size [.slice a2 N.length c2], .has b1 qs u1, .own v1.heap.size [.slice b1 qs.length e1]]) := ((F.out.below q).pushHas hh).cells #[.slice b1 qs.length e1] 41; clear q hh; clear ho2)
      have L2 := fun W (h : PairsAt W b1 qs) => implBoxMore W b1 qs e1 h he1 (by omega)
      have S2 := fun W (h : PairsAt W b1 qs) => specBoxOk W 32 b1 qs e1 h he1 (by omega)
      cases k5 : bokI 32 qs
      · rw [k5] at L2 S2
        generalize boxMoreL qs = M at *
        go_wp2_with first
          | (go_at_call 39; refine (L2 _ (F.out.has 5 rfl).at).mono ?_; rintro e v2 ⟨b2, e2, u2, rfl, he2, hh, -, q⟩; replace F : Hid (Facts (v2.alloc (.cells #[.slice b2 M.length e2] 41)) [.bel w, .has a1 ps o1, .own w1.heap.size [.slice a1 ps.length c1], .has a2 N o2, .own w2.heap.size [.slice a2 N.length c2], .has b1 qs u1, .own v1.heap.size [.slice b1 qs.length e1], .has b2 M u2, .own v2.heap.size [.slice b2 M.length e2]]) := ((F.out.below q).pushHas hh).cells #[.slice b2 M.length e2] 41; clear q hh; clear L2; have d6_0 := (F.out.own 6 rfl).cell 0 _ rfl)
          | (go_at_call 23; refine (S2 _ (F.out.has 5 rfl).at).mono ?_; rintro e v3 ⟨rfl, q⟩; replace F : Hid (Facts v3 [.bel w, .has a1 ps o1, .own w1.heap.size [.slice a1 ps.length c1], .has a2 N o2, .own w2.heap.size [.slice a2 N.length c2], .has b1 qs u1, .own v1.heap.size [.slice b1 qs.length e1], .has b2 M u2, .own v2.heap.size [.slice b2 M.length e2]]) := F.out.below q; clear q; clear S2; clear d6_0)
        go_ret
        exact ⟨rfl, F.out.bel 0 rfl⟩
      · rw [k5] at L2 S2
        obtain ⟨k6, k7⟩ := more_list hBel k5
        obtain ⟨-, M6, -⟩ := bokL_iff.1 k6
        generalize boxMoreL qs = M at *
        have L3 := fun W b e (h : PairsAt W b M) (hc : M.length ≤ e) => implBoxLess bel hBel W b M e h hc (by omega)
        rw [k6, k7] at L3
        have I1 := fun W b e (h : PairsAt W b qs) (h' : PairsAt W b1 qs) (hc : qs.length ≤ e) => implBoxIs W b b1 qs qs e e1 h h' hc he1 (by omega) (by omega)
        have I2 := fun W b e (h : PairsAt W b1 qs) (h' : PairsAt W b qs) (hc : qs.length ≤ e) => implBoxIs W b1 b qs qs e1 e h h' he1 hc (by omega) (by omega)
        rw [isb_self] at I1 I2
        go_wp2_with first
          | (go_at_call 39; refine (L2 _ (F.out.has 5 rfl).at).mono ?_; rintro e v2 ⟨b2, e2, u2, rfl, he2, hh, -, q⟩; replace F : Hid (Facts (v2.alloc (.cells #[.slice b2 M.length e2] 41)) [.bel w, .has a1 ps o1, .own w1.heap.size [.slice a1 ps.length c1], .has a2 N o2, .own w2.heap.size [.slice a2 N.length c2], .has b1 qs u1, .own v1.heap.size [.slice b1 qs.length e1], .has b2 M u2, .own v2.heap.size [.slice b2 M.length e2]]) := ((F.out.below q).pushHas hh).cells #[.slice b2 M.length e2] 41; clear q hh; clear L2; have d6_0 := (F.out.own 6 rfl).cell 0 _ rfl)
          | (go_at_call 23; refine (S2 _ (F.out.has 5 rfl).at).mono ?_; rintro e v3 ⟨rfl, q⟩; replace F : Hid (Facts v3 [.bel w, .has a1 ps o1, .own w1.heap.size [.slice a1 ps.length c1], .has a2 N o2, .own w2.heap.size [.slice a2 N.length c2], .has b1 qs u1, .own v1.heap.size [.slice b1 qs.length e1], .has b2 M u2, .own v2.heap.size [.slice b2 M.length e2]]) := F.out.below q; clear q; clear S2; clear d6_0; have d8_1 := (F.out.own 8 rfl).cell 0 _ rfl)
          | (go_at_call 38; refine (L3 _ _ _ (F.out.has 7 rfl).at he2).mono ?_; rintro e v4 ⟨b4, e4, u4, rfl, he4, hh, -, q⟩; replace F : Hid (Facts (v4.alloc (.cells #[.slice b4 qs.length e4] 41)) [.bel w, .has a1 ps o1, .own w1.heap.size [.slice a1 ps.length c1], .has a2 N o2, .own w2.heap.size [.slice a2 N.length c2], .has b1 qs u1, .own v1.heap.size [.slice b1 qs.length e1], .has b2 M u2, .own v2.heap.size [.slice b2 M.length e2], .has b4 qs u4, .own v4.heap.size [.slice b4 qs.length e4]]) := ((F.out.below q).pushHas hh).cells #[.slice b4 qs.length e4] 41; clear q hh; clear L3; clear d8_1; have d6_2 := (F.out.own 6 rfl).cell 0 _ rfl)
          | (go_at_call 35; refine (I1 _ _ _ (F.out.has 9 rfl).at (F.out.has 5 rfl).at he4).mono ?_; rintro e v5 ⟨rfl, q⟩; replace F : Hid (Facts v5 [.bel w, .has a1 ps o1, .own w1.heap.size [.slice a1 ps.length c1], .has a2 N o2, .own w2.heap.size [.slice a2 N.length c2], .has b1 qs u1, .own v1.heap.size [.slice b1 qs.length e1], .has b2 M u2, .own v2.heap.size [.slice b2 M.length e2], .has b4 qs u4, .own v4.heap.size [.slice b4 qs.length e4]]) := F.out.below q; clear q; clear I1; clear d6_2; have d6_3 := (F.out.own 6 rfl).cell 0 _ rfl; have d10_3 := (F.out.own 10 rfl).cell 0 _ rfl)
          | (go_at_call 35; refine (I2 _ _ _ (F.out.has 5 rfl).at (F.out.has 9 rfl).at he4).mono ?_; rintro e v6 ⟨rfl, q⟩; replace F : Hid (Facts v6 [.bel w, .has a1 ps o1, .own w1.heap.size [.slice a1 ps.length c1], .has a2 N o2, .own w2.heap.size [.slice a2 N.length c2], .has b1 qs u1, .own v1.heap.size [.slice b1 qs.length e1], .has b2 M u2, .own v2.heap.size [.slice b2 M.length e2], .has b4 qs u4, .own v4.heap.size [.slice b4 qs.length e4]]) := F.out.below q; clear q; clear I2; clear d6_3; clear d10_3)
        go_ret
        exact ⟨rfl, F.out.bel 0 rfl⟩
    · rw [k1] at L S
      obtain ⟨k2, k3⟩ := less_list hBel k1
      obtain ⟨-, N6, -⟩ := bokL_iff.1 k2
      have N7 := (isb_iff.1 k3).1
      generalize boxLessL bel ps = N at *
      have K := fun W b e (h : PairsAt W b N) (hc : N.length ≤ e) => implBoxMore W b N e h hc (by omega)
      have O := fun W b e (h : PairsAt W b N) (hc : N.length ≤ e) => implBoxOk W 32 b N e h hc (by omega)
      rw [k2] at K O
      generalize boxMoreL N = N2 at *
      have I := fun W b e (h : PairsAt W a1 ps) (h' : PairsAt W b N2) (hc : N2.length ≤ e) => implBoxIs W a1 b ps N2 c1 e h h' hc1 hc (by omega) (by omega)
      rw [k3] at I
      clear k2 k3 N7
      go_wp2_with first
        | (go_at_call 38; refine (L _ (F.out.has 1 rfl).at).mono ?_; rintro e w2 ⟨a2, c2, o2, rfl, hc2, hh, -, q⟩; replace F : Hid (Facts (w2.alloc (.cells #[.slice a2 N.length c2] 41)) [.bel w, .has a1 ps o1, .own w1.heap.size [.slice a1 ps.length c1], .has a2 N o2, .own w2.heap.size [.slice a2 N.length c2]]) := ((F.out.below q).pushHas hh).cells #[.slice a2 N.length c2] 41; clear q hh; clear L; have d2_0 := (F.out.own 2 rfl).cell 0 _ rfl)
        | (go_at_call 23; refine (S _ (F.out.has 1 rfl).at).mono ?_; rintro e w3 ⟨rfl, q⟩; replace F : Hid (Facts w3 [.bel w, .has a1 ps o1, .own w1.heap.size [.slice a1 ps.length c1], .has a2 N o2, .own w2.heap.size [.slice a2 N.length c2]]) := F.out.below q; clear q; clear S; clear d2_0; have d4_1 := (F.out.own 4 rfl).cell 0 _ rfl)
        | (go_at_call 39; refine (K _ _ _ (F.out.has 3 rfl).at hc2).mono ?_; rintro e w4 ⟨a3, c3, o3, rfl, hc3, hh, -, q⟩; replace F : Hid (Facts (w4.alloc (.cells #[.slice a3 N2.length c3] 41)) [.bel w, .has a1 ps o1, .own w1.heap.size [.slice a1 ps.length c1], .has a2 N o2, .own w2.heap.size [.slice a2 N.length c2], .has a3 N2 o3, .own w4.heap.size [.slice a3 N2.length c3]]) := ((F.out.below q).pushHas hh).cells #[.slice a3 N2.length c3] 41; clear q hh; clear K; clear d4_1; have d4_2 := (F.out.own 4 rfl).cell 0 _ rfl)
        | (go_at_call 34; refine (O _ _ _ (F.out.has 3 rfl).at hc2).mono ?_; rintro e w5 ⟨rfl, q⟩; replace F : Hid (Facts w5 [.bel w, .has a1 ps o1, .own w1.heap.size [.slice a1 ps.length c1], .has a2 N o2, .own w2.heap.size [.slice a2 N.length c2], .has a3 N2 o3, .own w4.heap.size [.slice a3 N2.length c3]]) := F.out.below q; clear q; clear O; clear d4_2; have d2_3 := (F.out.own 2 rfl).cell 0 _ rfl; have d6_3 := (F.out.own 6 rfl).cell 0 _ rfl)
        | (go_at_call 35; refine (I _ _ _ (F.out.has 1 rfl).at (F.out.has 5 rfl).at hc3).mono ?_; rintro e w6 ⟨rfl, q⟩; replace F : Hid (Facts w6 [.bel w, .has a1 ps o1, .own w1.heap.size [.slice a1 ps.length c1], .has a2 N o2, .own w2.heap.size [.slice a2 N.length c2], .has a3 N2 o3, .own w4.heap.size [.slice a3 N2.length c3]]) := F.out.below q; clear q; clear I; clear d2_3; clear d6_3)
      go_wp2_with (go_at_call 40; refine (ho2 _ (F.out.bel 0 rfl)).mono ?_; rintro e v1 ⟨b1, e1, qs, u1, rfl, g8, he1, hh, -, -, q⟩; replace F : Hid (Facts (v1.alloc (.cells #[.slice b1 qs.length e1] 41)) [.bel w, .has a1 ps o1, .own w1.heap.size [.slice a1 ps.length c1], .has a2 N o2, .own w2.heap.size [.slice a2 N.length c2], .has a3 N2 o3, .own w4.heap.size [.slice a3 N2.length c3], .has b1 qs u1, .own v1.heap.size [.slice b1 qs.length e1]]) := ((F.out.below q).pushHas hh).cells #[.slice b1 qs.length e1] 41; clear q hh; clear ho2)
      have L2 := fun W (h : PairsAt W b1 qs) => implBoxMore W b1 qs e1 h he1 (by omega)
      have S2 := fun W (h : PairsAt W b1 qs) => specBoxOk W 32 b1 qs e1 h he1 (by omega)
      cases k5 : bokI 32 qs
      · rw [k5] at L2 S2
        generalize boxMoreL qs = M at *
        go_wp2_with first
          | (go_at_call 39; refine (L2 _ (F.out.has 7 rfl).at).mono ?_; rintro e v2 ⟨b2, e2, u2, rfl, he2, hh, -, q⟩; replace F : Hid (Facts (v2.alloc (.cells #[.slice b2 M.length e2] 41)) [.bel w, .has a1 ps o1, .own w1.heap.size [.slice a1 ps.length c1], .has a2 N o2, .own w2.heap.size [.slice a2 N.length c2], .has a3 N2 o3, .own w4.heap.size [.slice a3 N2.length c3], .has b1 qs u1, .own v1.heap.size [.slice b1 qs.length e1], .has b2 M u2, .own v2.heap.size [.slice b2 M.length e2]]) := ((F.out.below q).pushHas hh).cells #[.slice b2 M.length e2] 41; clear q hh; clear L2; have d8_0 := (F.out.own 8 rfl).cell 0 _ rfl)
          | (go_at_call 23; refine (S2 _ (F.out.has 7 rfl).at).mono ?_; rintro e v3 ⟨rfl, q⟩; replace F : Hid (Facts v3 [.bel w, .has a1 ps o1, .own w1.heap.size [.slice a1 ps.length c1], .has a2 N o2, .own w2.heap.size [.slice a2 N.length c2], .has a3 N2 o3, .own w4.heap.size [.slice a3 N2.length c3], .has b1 qs u1, .own v1.heap.size [.slice b1 qs.length e1], .has b2 M u2, .own v2.heap.size [.slice b2 M.length e2]]) := F.out.below q; clear q; clear S2; clear d8_0)
        go_ret
        exact ⟨rfl, F.out.bel 0 rfl⟩
      · rw [k5] at L2 S2
        obtain ⟨k6, k7⟩ := more_list hBel k5
        obtain ⟨-, M6, -⟩ := bokL_iff.1 k6
        generalize boxMoreL qs = M at *
        have L3 := fun W b e (h : PairsAt W b M) (hc : M.length ≤ e) => implBoxLess bel hBel W b M e h hc (by omega)
        rw [k6, k7] at L3
        have I1 := fun W b e (h : PairsAt W b qs) (h' : PairsAt W b1 qs) (hc : qs.length ≤ e) => implBoxIs W b b1 qs qs e e1 h h' hc he1 (by omega) (by omega)
        have I2 := fun W b e (h : PairsAt W b1 qs) (h' : PairsAt W b qs) (hc : qs.length ≤ e) => implBoxIs W b1 b qs qs e1 e h h' he1 hc (by omega) (by omega)
        rw [isb_self] at I1 I2
        go_wp2_with first
          | (go_at_call 39; refine (L2 _ (F.out.has 7 rfl).at).mono ?_; rintro e v2 ⟨b2, e2, u2, rfl, he2, hh, -, q⟩; replace F : Hid (Facts (v2.alloc (.cells #[.slice b2 M.length e2] 41)) [.bel w, .has a1 ps o1, .own w1.heap.size [.slice a1 ps.length c1], .has a2 N o2, .own w2.heap.size [.slice a2 N.length c2], .has a3 N2 o3, .own w4.heap.size [.slice a3 N2.length c3], .has b1 qs u1, .own v1.heap.size [.slice b1 qs.length e1], .has b2 M u2, .own v2.heap.size [.slice b2 M.length e2]]) := ((F.out.below q).pushHas hh).cells #[.slice b2 M.length e2] 41; clear q hh; clear L2; have d8_0 := (F.out.own 8 rfl).cell 0 _ rfl)
          | (go_at_call 23; refine (S2 _ (F.out.has 7 rfl).at).mono ?_; rintro e v3 ⟨rfl, q⟩; replace F : Hid (Facts v3 [.bel w, .has a1 ps o1, .own w1.heap.size [.slice a1 ps.length c1], .has a2 N o2, .own w2.heap.size [.slice a2 N.length c2], .has a3 N2 o3, .own w4.heap.size [.slice a3 N2.length c3], .has b1 qs u1, .own v1.heap.size [.slice b1 qs.length e1], .has b2 M u2, .own v2.heap.size [.slice b2 M.length e2]]) := F.out.below q; clear q; clear S2; clear d8_0; have d10_1 := (F.out.own 10 rfl).cell 0 _ rfl)
          | (go_at_call 38; refine (L3 _ _ _ (F.out.has 9 rfl).at he2).mono ?_; rintro e v4 ⟨b4, e4, u4, rfl, he4, hh, -, q⟩; replace F : Hid (Facts (v4.alloc (.cells #[.slice b4 qs.length e4] 41)) [.bel w, .has a1 ps o1, .own w1.heap.size [.slice a1 ps.length c1], .has a2 N o2, .own w2.heap.size [.slice a2 N.length c2], .has a3 N2 o3, .own w4.heap.size [.slice a3 N2.length c3], .has b1 qs u1, .own v1.heap.size [.slice b1 qs.length e1], .has b2 M u2, .own v2.heap.size [.slice b2 M.length e2], .has b4 qs u4, .own v4.heap.size [.slice b4 qs.length e4]]) := ((F.out.below q).pushHas hh).cells #[.slice b4 qs.length e4] 41; clear q hh; clear L3; clear d10_1; have d8_2 := (F.out.own 8 rfl).cell 0 _ rfl)
          | (go_at_call 35; refine (I1 _ _ _ (F.out.has 11 rfl).at (F.out.has 7 rfl).at he4).mono ?_; rintro e v5 ⟨rfl, q⟩; replace F : Hid (Facts v5 [.bel w, .has a1 ps o1, .own w1.heap.size [.slice a1 ps.length c1], .has a2 N o2, .own w2.heap.size [.slice a2 N.length c2], .has a3 N2 o3, .own w4.heap.size [.slice a3 N2.length c3], .has b1 qs u1, .own v1.heap.size [.slice b1 qs.length e1], .has b2 M u2, .own v2.heap.size [.slice b2 M.length e2], .has b4 qs u4, .own v4.heap.size [.slice b4 qs.length e4]]) := F.out.below q; clear q; clear I1; clear d8_2; have d8_3 := (F.out.own 8 rfl).cell 0 _ rfl; have d12_3 := (F.out.own 12 rfl).cell 0 _ rfl)
          | (go_at_call 35; refine (I2 _ _ _ (F.out.has 7 rfl).at (F.out.has 11 rfl).at he4).mono ?_; rintro e v6 ⟨rfl, q⟩; replace F : Hid (Facts v6 [.bel w, .has a1 ps o1, .own w1.heap.size [.slice a1 ps.length c1], .has a2 N o2, .own w2.heap.size [.slice a2 N.length c2], .has a3 N2 o3, .own w4.heap.size [.slice a3 N2.length c3], .has b1 qs u1, .own v1.heap.size [.slice b1 qs.length e1], .has b2 M u2, .own v2.heap.size [.slice b2 M.length e2], .has b4 qs u4, .own v4.heap.size [.slice b4 qs.length e4]]) := F.out.below q; clear q; clear I2; clear d8_3; clear d12_3)
        go_ret
        exact ⟨rfl, F.out.bel 0 rfl⟩

end Go.Proofs.Yteohgmmenlinbab
