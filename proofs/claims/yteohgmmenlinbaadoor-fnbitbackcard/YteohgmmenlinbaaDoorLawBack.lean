/- FnBitBack's walk: it returns true, whatever bytes come in, where the library's table lies in its variable. -/
import Derived.Test.YteohgmmenlinbaaDoorDrawOb
namespace Go.Proofs.YteohgmmenlinbaaDoor
open Go.ChangeShapes Go.WideShapes Go.ChangeAt Go.RowKit
set_option linter.unusedVariables false

theorem Code8.belowB {w w' : World} {a : Option Addr} {len : Nat} (h : Code8 w a len) (q : Below w.heap.size w w') : Code8 w' a len := by
  rcases h with h | ⟨rb, ro, ha, hlt, hcell⟩
  · exact .inl h
  · refine .inr ⟨rb, ro, ha, Nat.lt_of_lt_of_le hlt q.size, fun j hj => ?_⟩
    obtain ⟨z, z0, z1, hz⟩ := hcell j hj
    exact ⟨z, z0, z1, (q.cell (p := ⟨rb, ro + j, none⟩) hlt).trans hz⟩

theorem fin_ok {n x : Int} (h : okI n x = false) : finI n x = false := by
  unfold finI
  rw [h]
  rfl

set_option maxRecDepth 100000 in
set_option maxHeartbeats 8000000 in
theorem walkBack (w : World) (a : Option Addr) (len cap : Nat) (hc : len ≤ 1048576 → Code8 w a len) (hl : len ≤ cap) (hm : len ≤ maxLen) (a' : Option Addr) (len' cap' : Nat) (hc' : len' ≤ 1048576 → Code8 w a' len') (hl' : len' ≤ cap') (hm' : len' ≤ maxLen) (hT : TabAt 0 Lib.deBruijn64tab w) (hg : 0 < w.heap.size) :
    Calls Tryd.prog 3 #[.slice a len cap, .slice a' len' cap'] w fun e w' => e = .returned (.bool true) ∧ Below w.heap.size w w' := by
  by_cases hbig : 1048576 < len
  · have hbig' : 1048576 < (len : Int) := by omega
    unfold maxLen at hm
    go_enter Tryd.func3, Tryd.ntmps3
    go_wp2
    go_ret
    exact ⟨rfl, Below.refl _ _⟩
  · have hbig' : ¬ 1048576 < (len : Int) := by omega
    by_cases hbig2 : 1048576 < len'
    · have hbig2' : 1048576 < (len' : Int) := by omega
      unfold maxLen at hm'
      go_enter Tryd.func3, Tryd.ntmps3
      go_wp2
      go_ret
      exact ⟨rfl, Below.refl _ _⟩
    · have hbig2' : ¬ 1048576 < (len' : Int) := by omega
      have ho := drawBitOrd w a len cap (hc (by omega)) hl (by omega)
      replace hc' := hc' (by omega)
      have ho2 := fun W (q : Below w.heap.size w W) => drawBitOk W a' len' cap' (hc'.belowB q) hl' (by omega)
      have mk := fun W n bl s p (h1 : s < 18446744073709551616) (h2 : (Lit.int .i64 p).wf = true) (q : Below w.heap.size w W) => implMake W n bl s p h1 h2 (TabAt.below hT q hg) (Nat.lt_of_lt_of_le hg q.size)
      have MK : Hid _ := mk
      clear hm hm' hc hc' hT mk
      go_enter Tryd.func3, Tryd.ntmps3
      go_wp2_with (go_at_call 4; refine ho.mono ?_; clear ho; rintro e w1 ⟨n, x, rfl, n0, n1, x0, x1, hb⟩)
      have I1 := fun W => implOrd W n x x0 x1
      have S1 := fun W => specOrd W n x x0 x1
      cases k0 : isFloat n x
      · rw [k0] at I1 S1
        generalize ordI n x = o at *
        go_wp2_with first
          | (go_at_call 5; refine (I1 _).mono ?_; clear I1; rintro e w2 ⟨rfl, q⟩; replace hb := hb.trans (q.mono hb.size); clear q)
          | (go_at_call 6; refine (S1 _).mono ?_; clear S1; rintro e w3 ⟨rfl, q⟩; replace hb := hb.trans (q.mono hb.size); clear q)
        go_wp2_with (go_at_call 8; refine (ho2 _ hb).mono ?_; clear ho2; rintro e y1 ⟨m, y, rfl, m0, m1, wy, q⟩; replace hb := hb.trans (q.mono hb.size); clear q)
        have B1 := fun W => implBits W m y wy
        have bi := bits_in m y
        have O1 := fun W => implOrd W m (bitsI m y) bi.1 bi.2
        have K1 := fun W => specOk W m y wy
        have P1 := fun W => implPart W m y wy
        cases k1 : okI m y
        · rw [k1] at K1
          have kf := fin_ok k1
          simp only [kf] at P1
          have wz : noPart = .agg #[.bool false, .int .u64 0, .int .i64 0] := rfl
          simp only [wz, Bool.false_eq_true, if_false] at P1
          generalize bitsI m y = v at *
          generalize ordI m v = u at *
          generalize isFloat m v = f at *
          go_wp2_with first
            | (go_at_call 7; refine (B1 _).mono ?_; clear B1; rintro e y2 ⟨rfl, q⟩; replace hb := hb.trans (q.mono hb.size); clear q)
            | (go_at_call 5; refine (O1 _).mono ?_; clear O1; rintro e y3 ⟨rfl, q⟩; replace hb := hb.trans (q.mono hb.size); clear q)
            | (go_at_call 9; refine (K1 _).mono ?_; clear K1; rintro e y4 ⟨rfl, hy4⟩; subst hy4)
            | (go_at_call 10; refine (P1 _).mono ?_; clear P1; rintro e y5 ⟨rfl, q⟩; replace hb := hb.trans (q.mono hb.size); clear q)
          go_ret
          exact ⟨rfl, hb.alloc (by have := hb.size; omega) _⟩
        · rw [k1] at K1
          obtain ⟨z1, z2⟩ := bits_ord k1
          simp only [z1, z2] at O1
          clear z1 z2
          generalize bitsI m y = v at *
          cases k2 : finI m y
          · simp only [k2] at P1
            have wz : noPart = .agg #[.bool false, .int .u64 0, .int .i64 0] := rfl
            simp only [wz, Bool.false_eq_true, if_false] at P1
            go_wp2_with first
              | (go_at_call 7; refine (B1 _).mono ?_; clear B1; rintro e y2 ⟨rfl, q⟩; replace hb := hb.trans (q.mono hb.size); clear q)
              | (go_at_call 5; refine (O1 _).mono ?_; clear O1; rintro e y3 ⟨rfl, q⟩; replace hb := hb.trans (q.mono hb.size); clear q)
              | (go_at_call 9; refine (K1 _).mono ?_; clear K1; rintro e y4 ⟨rfl, hy4⟩; subst hy4)
              | (go_at_call 10; refine (P1 _).mono ?_; clear P1; rintro e y5 ⟨rfl, q⟩; replace hb := hb.trans (q.mono hb.size); clear q)
            go_ret
            exact ⟨rfl, hb.alloc (by have := hb.size; omega) _⟩
          · simp only [k2] at P1
            obtain ⟨-, j1, j2, j3, j4, j5⟩ := part_in k2
            unfold partV at P1
            simp only [if_true] at P1
            generalize magN (fracI m) y.natAbs = s at *
            generalize leastI m + (expN (fracI m) y.natAbs : Nat) = pw at *
            generalize decide (y < 0) = bl at *
            have H1 : Hid (BM m bl s pw y true) := j4
            have H2 : Hid (BM m bl (s * 2) (pw - 1) y true) := j5
            have G1 := fun W (q : Below w.heap.size w W) => MK.out W m bl s pw (by omega) (wf64 (by omega) (by omega)) q
            have G2 := fun W (q : Below w.heap.size w W) => MK.out W m bl (s * 2) (pw - 1) (by omega) (wf64 (by omega) (by omega)) q
            have e9 : ((s * 2 : Nat) : Int) = (s : Int) * 2 := by omega
            simp only [e9] at G2
            clear j4 j5 e9
            go_wp2_with first
              | (go_at_call 7; refine (B1 _).mono ?_; clear B1; rintro e y2 ⟨rfl, q⟩; replace hb := hb.trans (q.mono hb.size); clear q)
              | (go_at_call 5; refine (O1 _).mono ?_; clear O1; rintro e y3 ⟨rfl, q⟩; replace hb := hb.trans (q.mono hb.size); clear q)
              | (go_at_call 9; refine (K1 _).mono ?_; clear K1; rintro e y4 ⟨rfl, hy4⟩; subst hy4)
              | (go_at_call 10; refine (P1 _).mono ?_; clear P1; rintro e y5 ⟨rfl, q⟩; replace hb := hb.trans (q.mono hb.size); clear q; have hy5 : Hid (w.heap.size ≤ y5.heap.size) := hb.size; have o1 := Own.new y5 #[.bool bl, .int .u64 (s : Int), .int .i64 pw] 34; replace hb := hb.alloc hb.size (.cells #[.bool bl, .int .u64 (s : Int), .int .i64 pw] 34))
              | (go_at_call 11; refine (G1 _ hb).mono ?_; clear G1; rintro e y6 ⟨o, k, rfl, q, hA⟩; obtain ⟨e1, e2⟩ := BM_same H1.out hA; subst e1 e2; replace o1 := o1.below q; replace hb := hb.trans (q.mono hb.size); clear q hA; have d0 := o1.cell 0 _ rfl; have d1 := o1.cell 1 _ rfl; have d2 := o1.cell 2 _ rfl; have z1 := o1.frz 1 _ rfl; have z2 := o1.frz 2 _ rfl)
              | (go_at_call 11; refine (G2 _ ((hb.setCell (p := ⟨y5.heap.size, 1, none⟩) hy5.out (.int .u64 ((s : Int) * 2))).setCell (p := ⟨y5.heap.size, 2, none⟩) hy5.out (.int .i64 (pw - 1)))).mono ?_; clear G2; rintro e y7 ⟨o, k, rfl, q, hA⟩; obtain ⟨e1, e2⟩ := BM_same H2.out hA; subst e1 e2; replace hb := ((hb.setCell (p := ⟨y5.heap.size, 1, none⟩) hy5.out (.int .u64 ((s : Int) * 2))).setCell (p := ⟨y5.heap.size, 2, none⟩) hy5.out (.int .i64 (pw - 1))).trans (q.mono (by have := hb.size; simpa [World.setCell] using this)); clear q hA)
            go_ret
            exact ⟨rfl, hb⟩
      · rw [k0] at I1 S1
        obtain ⟨hn, wo, hor⟩ := ord_bits x0 x1 k0
        have B0 := fun W => implBits W n (ordI n x) wo
        rcases hor with hx | ⟨hz, hx⟩
        · rw [hx] at B0
          generalize ordI n x = o at *
          clear hx
          go_wp2_with first
            | (go_at_call 5; refine (I1 _).mono ?_; clear I1; rintro e w2 ⟨rfl, q⟩; replace hb := hb.trans (q.mono hb.size); clear q)
            | (go_at_call 6; refine (S1 _).mono ?_; clear S1; rintro e w3 ⟨rfl, q⟩; replace hb := hb.trans (q.mono hb.size); clear q)
            | (go_at_call 7; refine (B0 _).mono ?_; clear B0; rintro e w4 ⟨rfl, q⟩; replace hb := hb.trans (q.mono hb.size); clear q)
          go_wp2_with (go_at_call 8; refine (ho2 _ hb).mono ?_; clear ho2; rintro e y1 ⟨m, y, rfl, m0, m1, wy, q⟩; replace hb := hb.trans (q.mono hb.size); clear q)
          have B1 := fun W => implBits W m y wy
          have bi := bits_in m y
          have O1 := fun W => implOrd W m (bitsI m y) bi.1 bi.2
          have K1 := fun W => specOk W m y wy
          have P1 := fun W => implPart W m y wy
          cases k1 : okI m y
          · rw [k1] at K1
            have kf := fin_ok k1
            simp only [kf] at P1
            have wz : noPart = .agg #[.bool false, .int .u64 0, .int .i64 0] := rfl
            simp only [wz, Bool.false_eq_true, if_false] at P1
            generalize bitsI m y = v at *
            generalize ordI m v = u at *
            generalize isFloat m v = f at *
            go_wp2_with first
              | (go_at_call 7; refine (B1 _).mono ?_; clear B1; rintro e y2 ⟨rfl, q⟩; replace hb := hb.trans (q.mono hb.size); clear q)
              | (go_at_call 5; refine (O1 _).mono ?_; clear O1; rintro e y3 ⟨rfl, q⟩; replace hb := hb.trans (q.mono hb.size); clear q)
              | (go_at_call 9; refine (K1 _).mono ?_; clear K1; rintro e y4 ⟨rfl, hy4⟩; subst hy4)
              | (go_at_call 10; refine (P1 _).mono ?_; clear P1; rintro e y5 ⟨rfl, q⟩; replace hb := hb.trans (q.mono hb.size); clear q)
            go_ret
            exact ⟨rfl, hb.alloc (by have := hb.size; omega) _⟩
          · rw [k1] at K1
            obtain ⟨z1, z2⟩ := bits_ord k1
            simp only [z1, z2] at O1
            clear z1 z2
            generalize bitsI m y = v at *
            cases k2 : finI m y
            · simp only [k2] at P1
              have wz : noPart = .agg #[.bool false, .int .u64 0, .int .i64 0] := rfl
              simp only [wz, Bool.false_eq_true, if_false] at P1
              go_wp2_with first
                | (go_at_call 7; refine (B1 _).mono ?_; clear B1; rintro e y2 ⟨rfl, q⟩; replace hb := hb.trans (q.mono hb.size); clear q)
                | (go_at_call 5; refine (O1 _).mono ?_; clear O1; rintro e y3 ⟨rfl, q⟩; replace hb := hb.trans (q.mono hb.size); clear q)
                | (go_at_call 9; refine (K1 _).mono ?_; clear K1; rintro e y4 ⟨rfl, hy4⟩; subst hy4)
                | (go_at_call 10; refine (P1 _).mono ?_; clear P1; rintro e y5 ⟨rfl, q⟩; replace hb := hb.trans (q.mono hb.size); clear q)
              go_ret
              exact ⟨rfl, hb.alloc (by have := hb.size; omega) _⟩
            · simp only [k2] at P1
              obtain ⟨-, j1, j2, j3, j4, j5⟩ := part_in k2
              unfold partV at P1
              simp only [if_true] at P1
              generalize magN (fracI m) y.natAbs = s at *
              generalize leastI m + (expN (fracI m) y.natAbs : Nat) = pw at *
              generalize decide (y < 0) = bl at *
              have H1 : Hid (BM m bl s pw y true) := j4
              have H2 : Hid (BM m bl (s * 2) (pw - 1) y true) := j5
              have G1 := fun W (q : Below w.heap.size w W) => MK.out W m bl s pw (by omega) (wf64 (by omega) (by omega)) q
              have G2 := fun W (q : Below w.heap.size w W) => MK.out W m bl (s * 2) (pw - 1) (by omega) (wf64 (by omega) (by omega)) q
              have e9 : ((s * 2 : Nat) : Int) = (s : Int) * 2 := by omega
              simp only [e9] at G2
              clear j4 j5 e9
              go_wp2_with first
                | (go_at_call 7; refine (B1 _).mono ?_; clear B1; rintro e y2 ⟨rfl, q⟩; replace hb := hb.trans (q.mono hb.size); clear q)
                | (go_at_call 5; refine (O1 _).mono ?_; clear O1; rintro e y3 ⟨rfl, q⟩; replace hb := hb.trans (q.mono hb.size); clear q)
                | (go_at_call 9; refine (K1 _).mono ?_; clear K1; rintro e y4 ⟨rfl, hy4⟩; subst hy4)
                | (go_at_call 10; refine (P1 _).mono ?_; clear P1; rintro e y5 ⟨rfl, q⟩; replace hb := hb.trans (q.mono hb.size); clear q; have hy5 : Hid (w.heap.size ≤ y5.heap.size) := hb.size; have o1 := Own.new y5 #[.bool bl, .int .u64 (s : Int), .int .i64 pw] 34; replace hb := hb.alloc hb.size (.cells #[.bool bl, .int .u64 (s : Int), .int .i64 pw] 34))
                | (go_at_call 11; refine (G1 _ hb).mono ?_; clear G1; rintro e y6 ⟨o, k, rfl, q, hA⟩; obtain ⟨e1, e2⟩ := BM_same H1.out hA; subst e1 e2; replace o1 := o1.below q; replace hb := hb.trans (q.mono hb.size); clear q hA; have d0 := o1.cell 0 _ rfl; have d1 := o1.cell 1 _ rfl; have d2 := o1.cell 2 _ rfl; have z1 := o1.frz 1 _ rfl; have z2 := o1.frz 2 _ rfl)
                | (go_at_call 11; refine (G2 _ ((hb.setCell (p := ⟨y5.heap.size, 1, none⟩) hy5.out (.int .u64 ((s : Int) * 2))).setCell (p := ⟨y5.heap.size, 2, none⟩) hy5.out (.int .i64 (pw - 1)))).mono ?_; clear G2; rintro e y7 ⟨o, k, rfl, q, hA⟩; obtain ⟨e1, e2⟩ := BM_same H2.out hA; subst e1 e2; replace hb := ((hb.setCell (p := ⟨y5.heap.size, 1, none⟩) hy5.out (.int .u64 ((s : Int) * 2))).setCell (p := ⟨y5.heap.size, 2, none⟩) hy5.out (.int .i64 (pw - 1))).trans (q.mono (by have := hb.size; simpa [World.setCell] using this)); clear q hA)
              go_ret
              exact ⟨rfl, hb⟩
        · rw [hz] at I1 S1 B0
          have bz : bitsI n 0 = 0 := by unfold bitsI; split <;> rfl
          rw [bz] at B0
          clear hz bz wo k0
          rcases hn with hn | hn
          · subst hn
            rw [if_pos rfl] at hx
            subst hx
            go_wp2_with first
              | (go_at_call 5; refine (I1 _).mono ?_; clear I1; rintro e w2 ⟨rfl, q⟩; replace hb := hb.trans (q.mono hb.size); clear q)
              | (go_at_call 6; refine (S1 _).mono ?_; clear S1; rintro e w3 ⟨rfl, q⟩; replace hb := hb.trans (q.mono hb.size); clear q)
              | (go_at_call 7; refine (B0 _).mono ?_; clear B0; rintro e w4 ⟨rfl, q⟩; replace hb := hb.trans (q.mono hb.size); clear q)
            go_wp2_with (go_at_call 8; refine (ho2 _ hb).mono ?_; clear ho2; rintro e y1 ⟨m, y, rfl, m0, m1, wy, q⟩; replace hb := hb.trans (q.mono hb.size); clear q)
            have B1 := fun W => implBits W m y wy
            have bi := bits_in m y
            have O1 := fun W => implOrd W m (bitsI m y) bi.1 bi.2
            have K1 := fun W => specOk W m y wy
            have P1 := fun W => implPart W m y wy
            cases k1 : okI m y
            · rw [k1] at K1
              have kf := fin_ok k1
              simp only [kf] at P1
              have wz : noPart = .agg #[.bool false, .int .u64 0, .int .i64 0] := rfl
              simp only [wz, Bool.false_eq_true, if_false] at P1
              generalize bitsI m y = v at *
              generalize ordI m v = u at *
              generalize isFloat m v = f at *
              go_wp2_with first
                | (go_at_call 7; refine (B1 _).mono ?_; clear B1; rintro e y2 ⟨rfl, q⟩; replace hb := hb.trans (q.mono hb.size); clear q)
                | (go_at_call 5; refine (O1 _).mono ?_; clear O1; rintro e y3 ⟨rfl, q⟩; replace hb := hb.trans (q.mono hb.size); clear q)
                | (go_at_call 9; refine (K1 _).mono ?_; clear K1; rintro e y4 ⟨rfl, hy4⟩; subst hy4)
                | (go_at_call 10; refine (P1 _).mono ?_; clear P1; rintro e y5 ⟨rfl, q⟩; replace hb := hb.trans (q.mono hb.size); clear q)
              go_ret
              exact ⟨rfl, hb.alloc (by have := hb.size; omega) _⟩
            · rw [k1] at K1
              obtain ⟨z1, z2⟩ := bits_ord k1
              simp only [z1, z2] at O1
              clear z1 z2
              generalize bitsI m y = v at *
              cases k2 : finI m y
              · simp only [k2] at P1
                have wz : noPart = .agg #[.bool false, .int .u64 0, .int .i64 0] := rfl
                simp only [wz, Bool.false_eq_true, if_false] at P1
                go_wp2_with first
                  | (go_at_call 7; refine (B1 _).mono ?_; clear B1; rintro e y2 ⟨rfl, q⟩; replace hb := hb.trans (q.mono hb.size); clear q)
                  | (go_at_call 5; refine (O1 _).mono ?_; clear O1; rintro e y3 ⟨rfl, q⟩; replace hb := hb.trans (q.mono hb.size); clear q)
                  | (go_at_call 9; refine (K1 _).mono ?_; clear K1; rintro e y4 ⟨rfl, hy4⟩; subst hy4)
                  | (go_at_call 10; refine (P1 _).mono ?_; clear P1; rintro e y5 ⟨rfl, q⟩; replace hb := hb.trans (q.mono hb.size); clear q)
                go_ret
                exact ⟨rfl, hb.alloc (by have := hb.size; omega) _⟩
              · simp only [k2] at P1
                obtain ⟨-, j1, j2, j3, j4, j5⟩ := part_in k2
                unfold partV at P1
                simp only [if_true] at P1
                generalize magN (fracI m) y.natAbs = s at *
                generalize leastI m + (expN (fracI m) y.natAbs : Nat) = pw at *
                generalize decide (y < 0) = bl at *
                have H1 : Hid (BM m bl s pw y true) := j4
                have H2 : Hid (BM m bl (s * 2) (pw - 1) y true) := j5
                have G1 := fun W (q : Below w.heap.size w W) => MK.out W m bl s pw (by omega) (wf64 (by omega) (by omega)) q
                have G2 := fun W (q : Below w.heap.size w W) => MK.out W m bl (s * 2) (pw - 1) (by omega) (wf64 (by omega) (by omega)) q
                have e9 : ((s * 2 : Nat) : Int) = (s : Int) * 2 := by omega
                simp only [e9] at G2
                clear j4 j5 e9
                go_wp2_with first
                  | (go_at_call 7; refine (B1 _).mono ?_; clear B1; rintro e y2 ⟨rfl, q⟩; replace hb := hb.trans (q.mono hb.size); clear q)
                  | (go_at_call 5; refine (O1 _).mono ?_; clear O1; rintro e y3 ⟨rfl, q⟩; replace hb := hb.trans (q.mono hb.size); clear q)
                  | (go_at_call 9; refine (K1 _).mono ?_; clear K1; rintro e y4 ⟨rfl, hy4⟩; subst hy4)
                  | (go_at_call 10; refine (P1 _).mono ?_; clear P1; rintro e y5 ⟨rfl, q⟩; replace hb := hb.trans (q.mono hb.size); clear q; have hy5 : Hid (w.heap.size ≤ y5.heap.size) := hb.size; have o1 := Own.new y5 #[.bool bl, .int .u64 (s : Int), .int .i64 pw] 34; replace hb := hb.alloc hb.size (.cells #[.bool bl, .int .u64 (s : Int), .int .i64 pw] 34))
                  | (go_at_call 11; refine (G1 _ hb).mono ?_; clear G1; rintro e y6 ⟨o, k, rfl, q, hA⟩; obtain ⟨e1, e2⟩ := BM_same H1.out hA; subst e1 e2; replace o1 := o1.below q; replace hb := hb.trans (q.mono hb.size); clear q hA; have d0 := o1.cell 0 _ rfl; have d1 := o1.cell 1 _ rfl; have d2 := o1.cell 2 _ rfl; have z1 := o1.frz 1 _ rfl; have z2 := o1.frz 2 _ rfl)
                  | (go_at_call 11; refine (G2 _ ((hb.setCell (p := ⟨y5.heap.size, 1, none⟩) hy5.out (.int .u64 ((s : Int) * 2))).setCell (p := ⟨y5.heap.size, 2, none⟩) hy5.out (.int .i64 (pw - 1)))).mono ?_; clear G2; rintro e y7 ⟨o, k, rfl, q, hA⟩; obtain ⟨e1, e2⟩ := BM_same H2.out hA; subst e1 e2; replace hb := ((hb.setCell (p := ⟨y5.heap.size, 1, none⟩) hy5.out (.int .u64 ((s : Int) * 2))).setCell (p := ⟨y5.heap.size, 2, none⟩) hy5.out (.int .i64 (pw - 1))).trans (q.mono (by have := hb.size; simpa [World.setCell] using this)); clear q hA)
                go_ret
                exact ⟨rfl, hb⟩
          · subst hn
            rw [if_neg (by decide)] at hx
            subst hx
            go_wp2_with first
              | (go_at_call 5; refine (I1 _).mono ?_; clear I1; rintro e w2 ⟨rfl, q⟩; replace hb := hb.trans (q.mono hb.size); clear q)
              | (go_at_call 6; refine (S1 _).mono ?_; clear S1; rintro e w3 ⟨rfl, q⟩; replace hb := hb.trans (q.mono hb.size); clear q)
              | (go_at_call 7; refine (B0 _).mono ?_; clear B0; rintro e w4 ⟨rfl, q⟩; replace hb := hb.trans (q.mono hb.size); clear q)
            go_wp2_with (go_at_call 8; refine (ho2 _ hb).mono ?_; clear ho2; rintro e y1 ⟨m, y, rfl, m0, m1, wy, q⟩; replace hb := hb.trans (q.mono hb.size); clear q)
            have B1 := fun W => implBits W m y wy
            have bi := bits_in m y
            have O1 := fun W => implOrd W m (bitsI m y) bi.1 bi.2
            have K1 := fun W => specOk W m y wy
            have P1 := fun W => implPart W m y wy
            cases k1 : okI m y
            · rw [k1] at K1
              have kf := fin_ok k1
              simp only [kf] at P1
              have wz : noPart = .agg #[.bool false, .int .u64 0, .int .i64 0] := rfl
              simp only [wz, Bool.false_eq_true, if_false] at P1
              generalize bitsI m y = v at *
              generalize ordI m v = u at *
              generalize isFloat m v = f at *
              go_wp2_with first
                | (go_at_call 7; refine (B1 _).mono ?_; clear B1; rintro e y2 ⟨rfl, q⟩; replace hb := hb.trans (q.mono hb.size); clear q)
                | (go_at_call 5; refine (O1 _).mono ?_; clear O1; rintro e y3 ⟨rfl, q⟩; replace hb := hb.trans (q.mono hb.size); clear q)
                | (go_at_call 9; refine (K1 _).mono ?_; clear K1; rintro e y4 ⟨rfl, hy4⟩; subst hy4)
                | (go_at_call 10; refine (P1 _).mono ?_; clear P1; rintro e y5 ⟨rfl, q⟩; replace hb := hb.trans (q.mono hb.size); clear q)
              go_ret
              exact ⟨rfl, hb.alloc (by have := hb.size; omega) _⟩
            · rw [k1] at K1
              obtain ⟨z1, z2⟩ := bits_ord k1
              simp only [z1, z2] at O1
              clear z1 z2
              generalize bitsI m y = v at *
              cases k2 : finI m y
              · simp only [k2] at P1
                have wz : noPart = .agg #[.bool false, .int .u64 0, .int .i64 0] := rfl
                simp only [wz, Bool.false_eq_true, if_false] at P1
                go_wp2_with first
                  | (go_at_call 7; refine (B1 _).mono ?_; clear B1; rintro e y2 ⟨rfl, q⟩; replace hb := hb.trans (q.mono hb.size); clear q)
                  | (go_at_call 5; refine (O1 _).mono ?_; clear O1; rintro e y3 ⟨rfl, q⟩; replace hb := hb.trans (q.mono hb.size); clear q)
                  | (go_at_call 9; refine (K1 _).mono ?_; clear K1; rintro e y4 ⟨rfl, hy4⟩; subst hy4)
                  | (go_at_call 10; refine (P1 _).mono ?_; clear P1; rintro e y5 ⟨rfl, q⟩; replace hb := hb.trans (q.mono hb.size); clear q)
                go_ret
                exact ⟨rfl, hb.alloc (by have := hb.size; omega) _⟩
              · simp only [k2] at P1
                obtain ⟨-, j1, j2, j3, j4, j5⟩ := part_in k2
                unfold partV at P1
                simp only [if_true] at P1
                generalize magN (fracI m) y.natAbs = s at *
                generalize leastI m + (expN (fracI m) y.natAbs : Nat) = pw at *
                generalize decide (y < 0) = bl at *
                have H1 : Hid (BM m bl s pw y true) := j4
                have H2 : Hid (BM m bl (s * 2) (pw - 1) y true) := j5
                have G1 := fun W (q : Below w.heap.size w W) => MK.out W m bl s pw (by omega) (wf64 (by omega) (by omega)) q
                have G2 := fun W (q : Below w.heap.size w W) => MK.out W m bl (s * 2) (pw - 1) (by omega) (wf64 (by omega) (by omega)) q
                have e9 : ((s * 2 : Nat) : Int) = (s : Int) * 2 := by omega
                simp only [e9] at G2
                clear j4 j5 e9
                go_wp2_with first
                  | (go_at_call 7; refine (B1 _).mono ?_; clear B1; rintro e y2 ⟨rfl, q⟩; replace hb := hb.trans (q.mono hb.size); clear q)
                  | (go_at_call 5; refine (O1 _).mono ?_; clear O1; rintro e y3 ⟨rfl, q⟩; replace hb := hb.trans (q.mono hb.size); clear q)
                  | (go_at_call 9; refine (K1 _).mono ?_; clear K1; rintro e y4 ⟨rfl, hy4⟩; subst hy4)
                  | (go_at_call 10; refine (P1 _).mono ?_; clear P1; rintro e y5 ⟨rfl, q⟩; replace hb := hb.trans (q.mono hb.size); clear q; have hy5 : Hid (w.heap.size ≤ y5.heap.size) := hb.size; have o1 := Own.new y5 #[.bool bl, .int .u64 (s : Int), .int .i64 pw] 34; replace hb := hb.alloc hb.size (.cells #[.bool bl, .int .u64 (s : Int), .int .i64 pw] 34))
                  | (go_at_call 11; refine (G1 _ hb).mono ?_; clear G1; rintro e y6 ⟨o, k, rfl, q, hA⟩; obtain ⟨e1, e2⟩ := BM_same H1.out hA; subst e1 e2; replace o1 := o1.below q; replace hb := hb.trans (q.mono hb.size); clear q hA; have d0 := o1.cell 0 _ rfl; have d1 := o1.cell 1 _ rfl; have d2 := o1.cell 2 _ rfl; have z1 := o1.frz 1 _ rfl; have z2 := o1.frz 2 _ rfl)
                  | (go_at_call 11; refine (G2 _ ((hb.setCell (p := ⟨y5.heap.size, 1, none⟩) hy5.out (.int .u64 ((s : Int) * 2))).setCell (p := ⟨y5.heap.size, 2, none⟩) hy5.out (.int .i64 (pw - 1)))).mono ?_; clear G2; rintro e y7 ⟨o, k, rfl, q, hA⟩; obtain ⟨e1, e2⟩ := BM_same H2.out hA; subst e1 e2; replace hb := ((hb.setCell (p := ⟨y5.heap.size, 1, none⟩) hy5.out (.int .u64 ((s : Int) * 2))).setCell (p := ⟨y5.heap.size, 2, none⟩) hy5.out (.int .i64 (pw - 1))).trans (q.mono (by have := hb.size; simpa [World.setCell] using this)); clear q hA)
                go_ret
                exact ⟨rfl, hb⟩

end Go.Proofs.YteohgmmenlinbaaDoor
