/- FnPairSplit's walk: it returns true, whatever bytes come in. -/
import Derived.Test.YteohgmmenlinbabPairG
import Derived.Test.YteohgmmenlinbabPairC
import Derived.Test.YteohgmmenlinbabDrawM
import Derived.Test.YteohgmmenlinbabOwns
import Derived.Test.YteohgmmenlinbabQuiet
namespace Go.Proofs.Yteohgmmenlinbab
open Go.ChangeShapes Go.WideShapes Go.ChangeAt Go.RowKit
set_option linter.unusedVariables false

theorem Code8.belowS {w w' : World} {a : Option Addr} {len : Nat} (h : Code8 w a len) (q : Below w.heap.size w w') : Code8 w' a len := by
  rcases h with h | ⟨rb, ro, ha, hlt, hcell⟩
  · exact .inl h
  · refine .inr ⟨rb, ro, ha, Nat.lt_of_lt_of_le hlt q.size, fun j hj => ?_⟩
    obtain ⟨z, z0, z1, hz⟩ := hcell j hj
    exact ⟨z, z0, z1, (q.cell (p := ⟨rb, ro + j, none⟩) hlt).trans hz⟩

/-- What a split pair's parts are, in numbers. -/
theorem split_facts {n x y : Int} (hx : (Lit.int .i64 x).wf = true) (hy : (Lit.int .i64 y).wf = true) (hk : pokI n x y = true) (hg : 2 ≤ gapI x y) :
    pokI n x (midI x y) = true ∧ pokI n (midI x y) y = true ∧ isB x (midI x y) x y = true ∧ isB (midI x y) y x y = true ∧
    gapI x (midI x y) ≤ gapI x y / 2 ∧ gapI x (midI x y) < gapI x y ∧ gapI (midI x y) y < gapI x y ∧ gapI x (midI x y) + gapI (midI x y) y = gapI x y ∧ (Lit.int .i64 (midI x y)).wf = true ∧
    (∀ q, isB q q x y = (isB q q x (midI x y) || isB q q (midI x y) y)) := by
  have h1 := i64_bounds hx
  have h2 := i64_bounds hy
  have hw := (mid_bounds hx hy).2.2
  have hp : okI n x = true ∧ okI n y = true ∧ x ≤ y ∧ x < topI n ∧ -(topI n) < y := by
    unfold pokI at hk
    simpa only [Bool.and_eq_true, decide_eq_true_eq] using hk
  obtain ⟨p1, p2, p3, p4, p5⟩ := hp
  have eg : gapI x y = y - x := by unfold gapI; rw [if_neg (by omega)]
  have em : midI x y = x + (y - x) / 2 := by unfold midI; rw [eg]
  have om : okI n (midI x y) = true := by
    have b1 := okI_bounds p1
    have b2 := okI_bounds p2
    unfold okI at p1 ⊢
    simp only [Bool.and_eq_true, decide_eq_true_eq] at p1 ⊢
    exact ⟨p1.1, by omega, by omega⟩
  have b1 := okI_bounds p1
  have b2 := okI_bounds p2
  have m1 := (mid_bounds hx hy).1
  have m2 := (mid_bounds hx hy).2.1 p3
  have eg1 : gapI x (midI x y) = midI x y - x := by
    generalize midI x y = m at *
    unfold gapI
    split <;> omega
  have eg2 : gapI (midI x y) y = y - midI x y := by
    generalize midI x y = m at *
    unfold gapI
    split <;> omega
  rw [eg] at hg
  refine ⟨?_, ?_, ?_, ?_, by omega, by omega, by omega, by omega, hw, ?_⟩
  · unfold pokI; simp only [Bool.and_eq_true, decide_eq_true_eq]; exact ⟨p1, om, by omega, p4, by omega⟩
  · unfold pokI; simp only [Bool.and_eq_true, decide_eq_true_eq]; exact ⟨om, p2, by omega, by omega, p5⟩
  · unfold isB; simp only [Bool.and_eq_true, decide_eq_true_eq]; omega
  · unfold isB; simp only [Bool.and_eq_true, decide_eq_true_eq]; omega
  · intro q
    unfold isB
    rw [Bool.eq_iff_iff]
    simp only [Bool.and_eq_true, Bool.or_eq_true, decide_eq_true_eq]
    omega

set_option maxRecDepth 20000 in
set_option maxHeartbeats 4000000 in
theorem walkSplit (w : World) (a : Option Addr) (len cap : Nat) (hc : len ≤ 1048576 → Code8 w a len) (hl : len ≤ cap) (hm : len ≤ maxLen)
    (a2 : Option Addr) (len2 cap2 : Nat) (hc2 : len2 ≤ 1048576 → Code8 w a2 len2) (hl2 : len2 ≤ cap2) (hm2 : len2 ≤ maxLen) :
    Calls Try.prog 3 #[.slice a len cap, .slice a2 len2 cap2] w fun e w' => e = .returned (.bool true) ∧ Below w.heap.size w w' := by
  unfold maxLen at hm hm2
  by_cases hbig : 1048576 < len
  · have hbig' : 1048576 < (len : Int) := by omega
    go_enter Try.func3, Try.ntmps3
    go_wp2
    go_ret
    exact ⟨rfl, Below.refl _ _⟩
  by_cases hbig2 : 1048576 < len2
  · have hbig' : 1048576 < (len2 : Int) := by omega
    have hb3 : ¬ 1048576 < (len : Int) := by omega
    go_enter Try.func3, Try.ntmps3
    go_wp2
    go_ret
    exact ⟨rfl, Below.refl _ _⟩
  have ho := goodPair w a len cap (hc (by omega)) hl (by omega)
  have hC2 := hc2 (by omega)
  have e2 := fun W q => goodPair W a2 len2 cap2 (Code8.belowS hC2 q) hl2 (by omega)
  have hb3 : ¬ 1048576 < (len : Int) := by omega
  have hb4 : ¬ 1048576 < (len2 : Int) := by omega
  clear hc hm hc2 hm2 hC2
  go_enter Try.func3, Try.ntmps3
  go_wp2_with (go_at_call 9; refine ho.mono ?_; clear ho; rintro e w1 ⟨n, x, y, rfl, hn, hk, nx, ny, hb⟩)
  have wx := nx.wf
  have wy := ny.wf
  have o0 := Own.new w1 #[.int .i64 x, .int .i64 y] 24
  have c0 := o0.cell 0 _ rfl
  have c1 := o0.cell 1 _ rfl
  have hz1 := hb.size
  replace hb := hb.alloc hb.size (.cells #[.int .i64 x, .int .i64 y] 24)
  have g1 := fun W => specGap W x y wx wy
  have g2 := fun W => implGap W x y wx wy
  have hsp := fun W => implSplitA W n x y wx wy
  by_cases hs : splitB n x y = true
  · have hs' := hs
    unfold splitB at hs'
    rw [Bool.and_eq_true, decide_eq_true_eq] at hs'
    obtain ⟨s1, s2, s3, s4, s5, s6, s7, s8, s9, s10⟩ := split_facts wx wy hk hs'.2
    have hg := hs'.2
    rw [if_pos hs, if_pos hs, if_pos hs, hs] at hsp
    generalize midI x y = m at *
    have G1 := fun W => implGap W x m wx s9
    have G2 := fun W => implGap W m y s9 wy
    have k1 := fun W => implPairOk W n x m wx s9
    have k2 := fun W => implPairOk W n m y s9 wy
    rw [s1] at k1
    rw [s2] at k2
    have i1 := fun W => implIs W x m x y
    have i2 := fun W => implIs W m y x y
    rw [s3] at i1
    rw [s4] at i2
    clear hs' hs s1 s2 s3 s4 hk hn
    have hgb := gap_bounds wx wy
    generalize gapI x y = g at *
    have wg1 : IntKind.u64.wrap g = g := by rw [IntKind.wrap_u64]; omega
    have wg2 : IntKind.u64.wrap (g.tdiv 2) = g / 2 := by rw [IntKind.wrap_u64, Int.tdiv_eq_ediv_of_nonneg hgb.1]; omega
    generalize gapI x m = ga at *
    generalize gapI m y = gb at *
    go_wp2_with first
      | (go_at_call 10; refine (hsp _).mono ?_; clear hsp; rintro e w2 ⟨rfl, q⟩; replace o0 := o0.below q; replace hb := hb.trans (q.mono hb.size); clear q; have O := owns2 w2 #[.int .i64 x, .int .i64 m] #[.int .i64 m, .int .i64 y] 24; replace o0 := (o0.alloc (.cells #[.int .i64 x, .int .i64 m] 24)).alloc (.cells #[.int .i64 m, .int .i64 y] 24); have hz2 := hb.size; replace hb := (hb.alloc hb.size (.cells #[.int .i64 x, .int .i64 m] 24)).alloc (by simp; omega) (.cells #[.int .i64 m, .int .i64 y] 24); have c0 := o0.cell 0 _ rfl; have c1 := o0.cell 1 _ rfl; have b0 : Own _ w2.heap.size _ := O.get 0 _ rfl; have d0 := b0.cell 0 _ rfl; have d1 := b0.cell 1 _ rfl; have b1 : Own _ (w2.heap.size + 1) _ := O.get 1 _ rfl; have f0 := b1.cell 0 _ rfl; have f1 := b1.cell 1 _ rfl)
      | (go_at_call 11; refine (g1 _).mono ?_; clear g1; rintro e w3 ⟨rfl, rfl⟩)
      | (go_at_call 12; refine (g2 _).mono ?_; clear g2; rintro e w4 ⟨rfl, rfl⟩)
      | (go_at_call 13; refine (k1 _).mono ?_; clear k1; rintro e w5 ⟨rfl, q⟩; replace o0 := o0.below q; replace O := O.below q; replace hb := hb.trans (q.mono hb.size); clear q; have c0 := o0.cell 0 _ rfl; have c1 := o0.cell 1 _ rfl; have b0 : Own w5 w2.heap.size _ := O.get 0 _ rfl; have d0 := b0.cell 0 _ rfl; have d1 := b0.cell 1 _ rfl; have b1 : Own w5 (w2.heap.size + 1) _ := O.get 1 _ rfl; have f0 := b1.cell 0 _ rfl; have f1 := b1.cell 1 _ rfl)
      | (go_at_call 13; refine (k2 _).mono ?_; clear k2; rintro e w6 ⟨rfl, q⟩; replace o0 := o0.below q; replace O := O.below q; replace hb := hb.trans (q.mono hb.size); clear q; have c0 := o0.cell 0 _ rfl; have c1 := o0.cell 1 _ rfl; have b0 : Own w6 w2.heap.size _ := O.get 0 _ rfl; have d0 := b0.cell 0 _ rfl; have d1 := b0.cell 1 _ rfl; have b1 : Own w6 (w2.heap.size + 1) _ := O.get 1 _ rfl; have f0 := b1.cell 0 _ rfl; have f1 := b1.cell 1 _ rfl)
      | (go_at_call 14; refine (i1 _).mono ?_; clear i1; rintro e w7 ⟨rfl, q⟩; replace o0 := o0.below q; replace O := O.below q; replace hb := hb.trans (q.mono hb.size); clear q; have c0 := o0.cell 0 _ rfl; have c1 := o0.cell 1 _ rfl; have b0 : Own w7 w2.heap.size _ := O.get 0 _ rfl; have d0 := b0.cell 0 _ rfl; have d1 := b0.cell 1 _ rfl; have b1 : Own w7 (w2.heap.size + 1) _ := O.get 1 _ rfl; have f0 := b1.cell 0 _ rfl; have f1 := b1.cell 1 _ rfl)
      | (go_at_call 14; refine (i2 _).mono ?_; clear i2; rintro e w8 ⟨rfl, q⟩; replace o0 := o0.below q; replace O := O.below q; replace hb := hb.trans (q.mono hb.size); clear q; have c0 := o0.cell 0 _ rfl; have c1 := o0.cell 1 _ rfl; have b0 : Own w8 w2.heap.size _ := O.get 0 _ rfl; have d0 := b0.cell 0 _ rfl; have d1 := b0.cell 1 _ rfl; have b1 : Own w8 (w2.heap.size + 1) _ := O.get 1 _ rfl; have f0 := b1.cell 0 _ rfl; have f1 := b1.cell 1 _ rfl)
      | (go_at_call 12; refine (G1 _).mono ?_; clear G1; rintro e w9 ⟨rfl, rfl⟩)
      | (go_at_call 12; refine (G2 _).mono ?_; clear G2; rintro e w10 ⟨rfl, rfl⟩)
      | (go_at_call 9; refine (e2 _ hb).mono ?_; clear e2; rintro e w11 ⟨n', z, z', rfl, -, -, -, -, q⟩; replace o0 := o0.below q; replace O := O.below q; replace hb := hb.trans (q.mono hb.size); clear q; have c0 := o0.cell 0 _ rfl; have c1 := o0.cell 1 _ rfl; have b0 : Own w11 w2.heap.size _ := O.get 0 _ rfl; have d0 := b0.cell 0 _ rfl; have d1 := b0.cell 1 _ rfl; have b1 : Own w11 (w2.heap.size + 1) _ := O.get 1 _ rfl; have f0 := b1.cell 0 _ rfl; have f1 := b1.cell 1 _ rfl)
    all_goals try (exfalso; omega)
    have OX := owns2 w11 #[.int .i64 z, .int .i64 z'] #[.int .i64 z, .int .i64 z] 24
    replace o0 := (o0.alloc (.cells #[.int .i64 z, .int .i64 z'] 24)).alloc (.cells #[.int .i64 z, .int .i64 z] 24)
    replace O := (O.alloc (.cells #[.int .i64 z, .int .i64 z'] 24)).alloc (.cells #[.int .i64 z, .int .i64 z] 24)
    have hz11 := hb.size
    replace hb := (hb.alloc hb.size (.cells #[.int .i64 z, .int .i64 z'] 24)).alloc (by simp; omega) (.cells #[.int .i64 z, .int .i64 z] 24)
    generalize (w11.alloc (.cells #[.int .i64 z, .int .i64 z'] 24)).alloc (.cells #[.int .i64 z, .int .i64 z] 24) = WX at *
    have bx : Own WX (w11.heap.size + 1) _ := OX.get 1 _ rfl
    have b0 : Own WX w2.heap.size _ := O.get 0 _ rfl
    have b1 : Own WX (w2.heap.size + 1) _ := O.get 1 _ rfl
    have p0 := o0.cell 0 _ rfl
    have p1 := o0.cell 1 _ rfl
    have q0 := b0.cell 0 _ rfl
    have q1 := b0.cell 1 _ rfl
    have v0 := b1.cell 0 _ rfl
    have v1 := b1.cell 1 _ rfl
    have t0 := bx.cell 0 _ rfl
    have t1 := bx.cell 1 _ rfl
    have lp := o0.lt
    have lq := b0.lt
    have lv := b1.lt
    have lt := bx.lt
    have hP := s10 z
    clear s10
    cases hA : isB z z x m
    all_goals
      rw [hA] at hP
      simp only [Bool.true_or, Bool.false_or] at hP
      refine region_below (by kernel_rfl) (by kernel_rfl) ?_
      repeat (first
      | go_big_quiet_step (first
        | (intro hC; go_at_call 14; exact Calls.qb hC (implIs _ _ _ _ _))
        | (intro _; rfl))
      | (go_big_quiet_want
         go_big_quiet_op
         refine ⟨.agg #[.int .i64 z, .int .i64 z], ?_, ?_⟩
         · intro W hC
           have r0 := (hC.cell (p := ⟨w11.heap.size + 1, 0, none⟩) lt).trans t0
           have r1 := (hC.cell (p := ⟨w11.heap.size + 1, 1, none⟩) lt).trans t1
           go_simp
         go_big_quiet_on)
      | (go_big_quiet_want
         go_big_quiet_op
         refine ⟨.agg #[.int .i64 x, .int .i64 y], ?_, ?_⟩
         · intro W hC
           have r0 := (hC.cell (p := ⟨w1.heap.size, 0, none⟩) lp).trans p0
           have r1 := (hC.cell (p := ⟨w1.heap.size, 1, none⟩) lp).trans p1
           go_simp
         go_big_quiet_on)
      | (go_big_quiet_want
         go_big_quiet_op
         refine ⟨.agg #[.int .i64 x, .int .i64 m], ?_, ?_⟩
         · intro W hC
           have r0 := (hC.cell (p := ⟨w2.heap.size, 0, none⟩) lq).trans q0
           have r1 := (hC.cell (p := ⟨w2.heap.size, 1, none⟩) lq).trans q1
           go_simp
         go_big_quiet_on)
      | (go_big_quiet_want
         go_big_quiet_op
         refine ⟨.agg #[.int .i64 m, .int .i64 y], ?_, ?_⟩
         · intro W hC
           have r0 := (hC.cell (p := ⟨w2.heap.size + 1, 0, none⟩) lv).trans v0
           have r1 := (hC.cell (p := ⟨w2.heap.size + 1, 1, none⟩) lv).trans v1
           go_simp
         go_big_quiet_on)
      | (rw [hA])
      | (rw [hP]))
      refine wpQuiet_nil ?_
      intro w12 q12
      replace hb := hb.trans (q12.mono hb.size)
      go_wp2
      go_ret
      exact ⟨by first | rfl | (simp), hb⟩
  · have hs2 : ¬ 2 ≤ gapI x y := by
      intro h
      apply hs
      unfold splitB
      rw [hk, decide_eq_true h]
      rfl
    rw [if_neg hs, if_neg hs, if_neg hs] at hsp
    rw [Bool.not_eq_true] at hs
    rw [hs] at hsp
    generalize gapI x y = g at *
    have hs3 : g < 2 := by omega
    clear hs hk hn
    go_wp2_with first
      | (go_at_call 10; refine (hsp _).mono ?_; clear hsp; rintro e w2 ⟨rfl, q⟩; replace o0 := o0.below q; replace hb := hb.trans (q.mono hb.size); clear q; replace o0 := (o0.alloc (.cells #[.int .i64 0, .int .i64 0] 24)).alloc (.cells #[.int .i64 0, .int .i64 0] 24); have hz2 := hb.size; replace hb := (hb.alloc hb.size (.cells #[.int .i64 0, .int .i64 0] 24)).alloc (by simp; omega) (.cells #[.int .i64 0, .int .i64 0] 24); have c0 := o0.cell 0 _ rfl; have c1 := o0.cell 1 _ rfl)
      | (go_at_call 11; refine (g1 _).mono ?_; clear g1; rintro e w3 ⟨rfl, rfl⟩)
      | (go_at_call 12; refine (g2 _).mono ?_; clear g2; rintro e w4 ⟨rfl, rfl⟩)
    go_ret
    exact ⟨rfl, hb⟩

end Go.Proofs.Yteohgmmenlinbab
