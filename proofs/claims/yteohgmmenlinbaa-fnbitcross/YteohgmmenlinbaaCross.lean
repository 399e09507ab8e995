/- FnBitCross' walk: it returns true, whatever bytes come in. -/
import Derived.Test.YteohgmmenlinbaaImplF
import Derived.Test.YteohgmmenlinbaaDrawW
namespace Go.Proofs.Yteohgmmenlinbaa
open Go.ChangeShapes Go.WideShapes Go.ChangeAt Go.RowKit
set_option linter.unusedVariables false

theorem backBelow (w : World) (s : Int) (h1 : -2139095040 ≤ s) (h2 : s ≤ 2139095040) :
    Calls Try.prog 28 #[.int .i64 (widI s)] w fun e w' => e = .returned (.tuple #[.int .i64 s, .bool true]) ∧ Below w.heap.size w w' := by
  have wb := widI_bounds h1 h2
  refine (implBelow w (widI s) wb.1 wb.2).mono ?_
  rintro e w' ⟨m, rfl, hm, q⟩
  rw [isBelow_unique hm (isBelow_self h1 h2)]
  exact ⟨rfl, q⟩

theorem backAbove (w : World) (s : Int) (h1 : -2139095040 ≤ s) (h2 : s ≤ 2139095040) :
    Calls Try.prog 29 #[.int .i64 (widI s)] w fun e w' => e = .returned (.tuple #[.int .i64 s, .bool true]) ∧ Below w.heap.size w w' := by
  have wb := widI_bounds h1 h2
  refine (implAbove w (widI s) wb.1 wb.2).mono ?_
  rintro e w' ⟨m, rfl, hm, q⟩
  rw [← widI_neg] at hm
  rw [isBelow_unique hm (isBelow_self (by omega) (by omega)), Int.neg_neg]
  exact ⟨rfl, q⟩

set_option maxRecDepth 20000 in
set_option maxHeartbeats 4000000 in
theorem walkCross (w : World) (a : Option Addr) (len cap : Nat) (hc : len ≤ 1048576 → Code8 w a len) (hl : len ≤ cap) (hm : len ≤ maxLen)
    (a2 : Option Addr) (len2 cap2 : Nat) (hc2 : len2 ≤ 1048576 → Code8 w a2 len2) (hl2 : len2 ≤ cap2) (hm2 : len2 ≤ maxLen) :
    Calls Try.prog 6 #[.slice a len cap, .slice a2 len2 cap2] w fun e w' => e = .returned (.bool true) ∧ Below w.heap.size w w' := by
  unfold maxLen at hm hm2
  by_cases hbig : 1048576 < len
  · have hbig' : 1048576 < (len : Int) := by omega
    go_enter Try.func6, Try.ntmps6
    go_wp2
    go_ret
    exact ⟨rfl, Below.refl _ _⟩
  by_cases hbig2 : 1048576 < len2
  · have hbig' : 1048576 < (len2 : Int) := by omega
    have hb3 : ¬ 1048576 < (len : Int) := by omega
    go_enter Try.func6, Try.ntmps6
    go_wp2
    go_ret
    exact ⟨rfl, Below.refl _ _⟩
  have ho := drawBelow w a len cap (hc (by omega)) hl (by omega)
  have hC1 := hc (by omega)
  have hC2 := hc2 (by omega)
  have e1 := fun W q => drawWiden W a len cap (Code8.below' hC1 q) hl (by omega)
  have e2 := fun W q => drawWiden W a2 len2 cap2 (Code8.below' hC2 q) hl2 (by omega)
  have hb3 : ¬ 1048576 < (len : Int) := by omega
  have hb4 : ¬ 1048576 < (len2 : Int) := by omega
  clear hc hm hc2 hm2 hC2 hC1
  go_enter Try.func6, Try.ntmps6
  go_wp2_with (go_at_call 27; refine ho.mono ?_; clear ho; rintro e w1 ⟨n, rfl, wn, hb⟩)
  have hB : Hid (Below w.heap.size w w1) := hb
  clear hb
  have hk := fun W => specOk W 64 n wn
  by_cases h : okI 64 n = true
  · rw [h] at hk
    have hn := (okI_64 n).1 h
    have b1 := fun W => implBelow W n hn.1 hn.2
    have b2 := fun W => implAbove W n hn.1 hn.2
    clear h
    go_wp2_with first
      | (go_at_call 28; refine (b1 _).mono ?_; clear b1; rintro e w2 ⟨lo, rfl, hlo, q⟩; have HL : Hid (IsBelow n lo) := hlo; clear hlo; replace hB : Hid (Below w.heap.size w w2) := hB.out.trans (q.mono hB.out.size); clear q)
      | (go_at_call 29; refine (b2 _).mono ?_; clear b2; rintro e w3 ⟨m, rfl, hm', q⟩; have HM : Hid (IsBelow (-n) m) := hm'; clear hm'; replace hB : Hid (Below w.heap.size w w3) := hB.out.trans (q.mono hB.out.size); clear q)
      | (go_at_call 25; refine (hk _).mono ?_; clear hk; rintro e w9 ⟨rfl, rfl⟩)
    obtain ⟨f1, f2, f3, f4, f5⟩ := cross_facts hn.1 hn.2 HL.out HM.out
    have L1 := HL.out.1
    have L2 := HL.out.2.1
    have M1 := HM.out.1
    have M2 := HM.out.2.1
    have c1 := fun W => implWidenOk W lo L1 L2
    have c2 := fun W => implWidenOk W (-m) (by omega) (by omega)
    clear HL HM
    generalize widI lo = u at *
    generalize widI (-m) = v at *
    have f6 : (u == n) = true → (lo != -m) = false := by
      intro k
      have := f5 (by simpa using k)
      simp [this]
    clear f5
    cases k : (u == n)
    · clear f6
      go_wp2_with first
        | (go_at_call 30; refine (c1 _).mono ?_; clear c1; rintro e w4 ⟨rfl, q⟩; replace hB : Hid (Below w.heap.size w w4) := hB.out.trans (q.mono hB.out.size); clear q)
        | (go_at_call 30; refine (c2 _).mono ?_; clear c2; rintro e w5 ⟨rfl, q⟩; replace hB : Hid (Below w.heap.size w w5) := hB.out.trans (q.mono hB.out.size); clear q)
        | (go_at_call 31; refine (e1 _ hB.out).mono ?_; clear e1; rintro e w6 ⟨s, rfl, ws, q⟩; replace hB : Hid (Below w.heap.size w w6) := hB.out.trans (q.mono hB.out.size); clear q)
        | (go_at_call 31; refine (e2 _ hB.out).mono ?_; clear e2; rintro e w7 ⟨t, rfl, wt, q⟩; replace hB : Hid (Below w.heap.size w w7) := hB.out.trans (q.mono hB.out.size); clear q)
      have k1 := fun W => specOk W 32 s ws
      have k2 := fun W => specOk W 32 t wt
      by_cases os : okI 32 s = true
      · rw [os] at k1
        have S : Hid (-2139095040 ≤ s ∧ s ≤ 2139095040) := (okI_32 s).1 os
        have g1 := fun W => implWidenOk W s S.out.1 S.out.2
        have p1 := fun W => backBelow W s S.out.1 S.out.2
        have p2 := fun W => backAbove W s S.out.1 S.out.2
        by_cases ot : okI 32 t = true
        · rw [ot] at k2
          have T : Hid (-2139095040 ≤ t ∧ t ≤ 2139095040) := (okI_32 t).1 ot
          have g2 := fun W => implWidenOk W t T.out.1 T.out.2
          have fin := widI_lt_iff S.out.1 S.out.2 T.out.1 T.out.2
          have F : Hid ((decide (s < t) == decide (widI s < widI t)) = true) := fin
          clear fin os ot
          go_wp2_with first
            | (go_at_call 30; refine (g1 _).mono ?_; clear g1; rintro e v1 ⟨rfl, q⟩; replace hB : Hid (Below w.heap.size w v1) := hB.out.trans (q.mono hB.out.size); clear q)
            | (go_at_call 30; refine (g2 _).mono ?_; clear g2; rintro e v2 ⟨rfl, q⟩; replace hB : Hid (Below w.heap.size w v2) := hB.out.trans (q.mono hB.out.size); clear q)
            | (go_at_call 25; refine (k1 _).mono ?_; clear k1; rintro e v3 ⟨rfl, rfl⟩)
            | (go_at_call 25; refine (k2 _).mono ?_; clear k2; rintro e v4 ⟨rfl, rfl⟩)
            | (go_at_call 28; refine (p1 _).mono ?_; clear p1; rintro e v5 ⟨rfl, q⟩; replace hB : Hid (Below w.heap.size w v5) := hB.out.trans (q.mono hB.out.size); clear q)
            | (go_at_call 29; refine (p2 _).mono ?_; clear p2; rintro e v6 ⟨rfl, q⟩; replace hB : Hid (Below w.heap.size w v6) := hB.out.trans (q.mono hB.out.size); clear q)
          all_goals
            go_ret
            exact ⟨by first | rfl | (rw [F.out]; rfl), hB.out⟩
        · rw [Bool.not_eq_true] at ot
          rw [ot] at k2
          have g2 := fun W => implWidenNo W t wt ot
          clear os ot
          go_wp2_with first
            | (go_at_call 30; refine (g1 _).mono ?_; clear g1; rintro e v1 ⟨rfl, q⟩; replace hB : Hid (Below w.heap.size w v1) := hB.out.trans (q.mono hB.out.size); clear q)
            | (go_at_call 30; refine (g2 _).mono ?_; clear g2; rintro e v2 ⟨rfl, q⟩; replace hB : Hid (Below w.heap.size w v2) := hB.out.trans (q.mono hB.out.size); clear q)
            | (go_at_call 25; refine (k1 _).mono ?_; clear k1; rintro e v3 ⟨rfl, rfl⟩)
            | (go_at_call 25; refine (k2 _).mono ?_; clear k2; rintro e v4 ⟨rfl, rfl⟩)
            | (go_at_call 28; refine (p1 _).mono ?_; clear p1; rintro e v5 ⟨rfl, q⟩; replace hB : Hid (Below w.heap.size w v5) := hB.out.trans (q.mono hB.out.size); clear q)
            | (go_at_call 29; refine (p2 _).mono ?_; clear p2; rintro e v6 ⟨rfl, q⟩; replace hB : Hid (Below w.heap.size w v6) := hB.out.trans (q.mono hB.out.size); clear q)
          go_ret
          exact ⟨rfl, hB.out⟩
      · rw [Bool.not_eq_true] at os
        rw [os] at k1
        have g1 := fun W => implWidenNo W s ws os
        have g2 := fun W => implWiden W t wt
        generalize (if okI 32 t = true then widI t else 0) = vt at *
        generalize okI 32 t = kt at *
        clear os
        go_wp2_with first
          | (go_at_call 30; refine (g1 _).mono ?_; clear g1; rintro e v1 ⟨rfl, q⟩; replace hB : Hid (Below w.heap.size w v1) := hB.out.trans (q.mono hB.out.size); clear q)
          | (go_at_call 30; refine (g2 _).mono ?_; clear g2; rintro e v2 ⟨rfl, q⟩; replace hB : Hid (Below w.heap.size w v2) := hB.out.trans (q.mono hB.out.size); clear q)
          | (go_at_call 25; refine (k1 _).mono ?_; clear k1; rintro e v3 ⟨rfl, rfl⟩)
          | (go_at_call 25; refine (k2 _).mono ?_; clear k2; rintro e v4 ⟨rfl, rfl⟩)
        go_ret
        exact ⟨rfl, hB.out⟩
    · replace f6 := f6 k
      go_wp2_with first
        | (go_at_call 30; refine (c1 _).mono ?_; clear c1; rintro e w4 ⟨rfl, q⟩; replace hB : Hid (Below w.heap.size w w4) := hB.out.trans (q.mono hB.out.size); clear q)
        | (go_at_call 30; refine (c2 _).mono ?_; clear c2; rintro e w5 ⟨rfl, q⟩; replace hB : Hid (Below w.heap.size w w5) := hB.out.trans (q.mono hB.out.size); clear q)
        | (go_at_call 31; refine (e1 _ hB.out).mono ?_; clear e1; rintro e w6 ⟨s, rfl, ws, q⟩; replace hB : Hid (Below w.heap.size w w6) := hB.out.trans (q.mono hB.out.size); clear q)
        | (go_at_call 31; refine (e2 _ hB.out).mono ?_; clear e2; rintro e w7 ⟨t, rfl, wt, q⟩; replace hB : Hid (Below w.heap.size w w7) := hB.out.trans (q.mono hB.out.size); clear q)
      have k1 := fun W => specOk W 32 s ws
      have k2 := fun W => specOk W 32 t wt
      by_cases os : okI 32 s = true
      · rw [os] at k1
        have S : Hid (-2139095040 ≤ s ∧ s ≤ 2139095040) := (okI_32 s).1 os
        have g1 := fun W => implWidenOk W s S.out.1 S.out.2
        have p1 := fun W => backBelow W s S.out.1 S.out.2
        have p2 := fun W => backAbove W s S.out.1 S.out.2
        by_cases ot : okI 32 t = true
        · rw [ot] at k2
          have T : Hid (-2139095040 ≤ t ∧ t ≤ 2139095040) := (okI_32 t).1 ot
          have g2 := fun W => implWidenOk W t T.out.1 T.out.2
          have fin := widI_lt_iff S.out.1 S.out.2 T.out.1 T.out.2
          have F : Hid ((decide (s < t) == decide (widI s < widI t)) = true) := fin
          clear fin os ot
          go_wp2_with first
            | (go_at_call 30; refine (g1 _).mono ?_; clear g1; rintro e v1 ⟨rfl, q⟩; replace hB : Hid (Below w.heap.size w v1) := hB.out.trans (q.mono hB.out.size); clear q)
            | (go_at_call 30; refine (g2 _).mono ?_; clear g2; rintro e v2 ⟨rfl, q⟩; replace hB : Hid (Below w.heap.size w v2) := hB.out.trans (q.mono hB.out.size); clear q)
            | (go_at_call 25; refine (k1 _).mono ?_; clear k1; rintro e v3 ⟨rfl, rfl⟩)
            | (go_at_call 25; refine (k2 _).mono ?_; clear k2; rintro e v4 ⟨rfl, rfl⟩)
            | (go_at_call 28; refine (p1 _).mono ?_; clear p1; rintro e v5 ⟨rfl, q⟩; replace hB : Hid (Below w.heap.size w v5) := hB.out.trans (q.mono hB.out.size); clear q)
            | (go_at_call 29; refine (p2 _).mono ?_; clear p2; rintro e v6 ⟨rfl, q⟩; replace hB : Hid (Below w.heap.size w v6) := hB.out.trans (q.mono hB.out.size); clear q)
          all_goals
            go_ret
            exact ⟨by first | rfl | (rw [F.out]; rfl), hB.out⟩
        · rw [Bool.not_eq_true] at ot
          rw [ot] at k2
          have g2 := fun W => implWidenNo W t wt ot
          clear os ot
          go_wp2_with first
            | (go_at_call 30; refine (g1 _).mono ?_; clear g1; rintro e v1 ⟨rfl, q⟩; replace hB : Hid (Below w.heap.size w v1) := hB.out.trans (q.mono hB.out.size); clear q)
            | (go_at_call 30; refine (g2 _).mono ?_; clear g2; rintro e v2 ⟨rfl, q⟩; replace hB : Hid (Below w.heap.size w v2) := hB.out.trans (q.mono hB.out.size); clear q)
            | (go_at_call 25; refine (k1 _).mono ?_; clear k1; rintro e v3 ⟨rfl, rfl⟩)
            | (go_at_call 25; refine (k2 _).mono ?_; clear k2; rintro e v4 ⟨rfl, rfl⟩)
            | (go_at_call 28; refine (p1 _).mono ?_; clear p1; rintro e v5 ⟨rfl, q⟩; replace hB : Hid (Below w.heap.size w v5) := hB.out.trans (q.mono hB.out.size); clear q)
            | (go_at_call 29; refine (p2 _).mono ?_; clear p2; rintro e v6 ⟨rfl, q⟩; replace hB : Hid (Below w.heap.size w v6) := hB.out.trans (q.mono hB.out.size); clear q)
          go_ret
          exact ⟨rfl, hB.out⟩
      · rw [Bool.not_eq_true] at os
        rw [os] at k1
        have g1 := fun W => implWidenNo W s ws os
        have g2 := fun W => implWiden W t wt
        generalize (if okI 32 t = true then widI t else 0) = vt at *
        generalize okI 32 t = kt at *
        clear os
        go_wp2_with first
          | (go_at_call 30; refine (g1 _).mono ?_; clear g1; rintro e v1 ⟨rfl, q⟩; replace hB : Hid (Below w.heap.size w v1) := hB.out.trans (q.mono hB.out.size); clear q)
          | (go_at_call 30; refine (g2 _).mono ?_; clear g2; rintro e v2 ⟨rfl, q⟩; replace hB : Hid (Below w.heap.size w v2) := hB.out.trans (q.mono hB.out.size); clear q)
          | (go_at_call 25; refine (k1 _).mono ?_; clear k1; rintro e v3 ⟨rfl, rfl⟩)
          | (go_at_call 25; refine (k2 _).mono ?_; clear k2; rintro e v4 ⟨rfl, rfl⟩)
        go_ret
        exact ⟨rfl, hB.out⟩
  · rw [Bool.not_eq_true] at h
    rw [h] at hk
    have b1 := fun W => implBelowNo W n wn h
    have b2 := fun W => implAboveNo W n wn h
    clear h
    go_wp2_with first
      | (go_at_call 28; refine (b1 _).mono ?_; clear b1; rintro e w2 ⟨rfl, q⟩; replace hB : Hid (Below w.heap.size w w2) := hB.out.trans (q.mono hB.out.size); clear q)
      | (go_at_call 29; refine (b2 _).mono ?_; clear b2; rintro e w3 ⟨rfl, q⟩; replace hB : Hid (Below w.heap.size w w3) := hB.out.trans (q.mono hB.out.size); clear q)
      | (go_at_call 25; refine (hk _).mono ?_; clear hk; rintro e w9 ⟨rfl, rfl⟩)
      | (go_at_call 31; refine (e1 _ hB.out).mono ?_; clear e1; rintro e w6 ⟨s, rfl, ws, q⟩; replace hB : Hid (Below w.heap.size w w6) := hB.out.trans (q.mono hB.out.size); clear q)
      | (go_at_call 31; refine (e2 _ hB.out).mono ?_; clear e2; rintro e w7 ⟨t, rfl, wt, q⟩; replace hB : Hid (Below w.heap.size w w7) := hB.out.trans (q.mono hB.out.size); clear q)
    have k1 := fun W => specOk W 32 s ws
    have k2 := fun W => specOk W 32 t wt
    by_cases os : okI 32 s = true
    · rw [os] at k1
      have S : Hid (-2139095040 ≤ s ∧ s ≤ 2139095040) := (okI_32 s).1 os
      have g1 := fun W => implWidenOk W s S.out.1 S.out.2
      have p1 := fun W => backBelow W s S.out.1 S.out.2
      have p2 := fun W => backAbove W s S.out.1 S.out.2
      by_cases ot : okI 32 t = true
      · rw [ot] at k2
        have T : Hid (-2139095040 ≤ t ∧ t ≤ 2139095040) := (okI_32 t).1 ot
        have g2 := fun W => implWidenOk W t T.out.1 T.out.2
        have fin := widI_lt_iff S.out.1 S.out.2 T.out.1 T.out.2
        have F : Hid ((decide (s < t) == decide (widI s < widI t)) = true) := fin
        clear fin os ot
        go_wp2_with first
          | (go_at_call 30; refine (g1 _).mono ?_; clear g1; rintro e v1 ⟨rfl, q⟩; replace hB : Hid (Below w.heap.size w v1) := hB.out.trans (q.mono hB.out.size); clear q)
          | (go_at_call 30; refine (g2 _).mono ?_; clear g2; rintro e v2 ⟨rfl, q⟩; replace hB : Hid (Below w.heap.size w v2) := hB.out.trans (q.mono hB.out.size); clear q)
          | (go_at_call 25; refine (k1 _).mono ?_; clear k1; rintro e v3 ⟨rfl, rfl⟩)
          | (go_at_call 25; refine (k2 _).mono ?_; clear k2; rintro e v4 ⟨rfl, rfl⟩)
          | (go_at_call 28; refine (p1 _).mono ?_; clear p1; rintro e v5 ⟨rfl, q⟩; replace hB : Hid (Below w.heap.size w v5) := hB.out.trans (q.mono hB.out.size); clear q)
          | (go_at_call 29; refine (p2 _).mono ?_; clear p2; rintro e v6 ⟨rfl, q⟩; replace hB : Hid (Below w.heap.size w v6) := hB.out.trans (q.mono hB.out.size); clear q)
        all_goals
          go_ret
          exact ⟨by first | rfl | (rw [F.out]; rfl), hB.out⟩
      · rw [Bool.not_eq_true] at ot
        rw [ot] at k2
        have g2 := fun W => implWidenNo W t wt ot
        clear os ot
        go_wp2_with first
          | (go_at_call 30; refine (g1 _).mono ?_; clear g1; rintro e v1 ⟨rfl, q⟩; replace hB : Hid (Below w.heap.size w v1) := hB.out.trans (q.mono hB.out.size); clear q)
          | (go_at_call 30; refine (g2 _).mono ?_; clear g2; rintro e v2 ⟨rfl, q⟩; replace hB : Hid (Below w.heap.size w v2) := hB.out.trans (q.mono hB.out.size); clear q)
          | (go_at_call 25; refine (k1 _).mono ?_; clear k1; rintro e v3 ⟨rfl, rfl⟩)
          | (go_at_call 25; refine (k2 _).mono ?_; clear k2; rintro e v4 ⟨rfl, rfl⟩)
          | (go_at_call 28; refine (p1 _).mono ?_; clear p1; rintro e v5 ⟨rfl, q⟩; replace hB : Hid (Below w.heap.size w v5) := hB.out.trans (q.mono hB.out.size); clear q)
          | (go_at_call 29; refine (p2 _).mono ?_; clear p2; rintro e v6 ⟨rfl, q⟩; replace hB : Hid (Below w.heap.size w v6) := hB.out.trans (q.mono hB.out.size); clear q)
        go_ret
        exact ⟨rfl, hB.out⟩
    · rw [Bool.not_eq_true] at os
      rw [os] at k1
      have g1 := fun W => implWidenNo W s ws os
      have g2 := fun W => implWiden W t wt
      generalize (if okI 32 t = true then widI t else 0) = vt at *
      generalize okI 32 t = kt at *
      clear os
      go_wp2_with first
        | (go_at_call 30; refine (g1 _).mono ?_; clear g1; rintro e v1 ⟨rfl, q⟩; replace hB : Hid (Below w.heap.size w v1) := hB.out.trans (q.mono hB.out.size); clear q)
        | (go_at_call 30; refine (g2 _).mono ?_; clear g2; rintro e v2 ⟨rfl, q⟩; replace hB : Hid (Below w.heap.size w v2) := hB.out.trans (q.mono hB.out.size); clear q)
        | (go_at_call 25; refine (k1 _).mono ?_; clear k1; rintro e v3 ⟨rfl, rfl⟩)
        | (go_at_call 25; refine (k2 _).mono ?_; clear k2; rintro e v4 ⟨rfl, rfl⟩)
      go_ret
      exact ⟨rfl, hB.out⟩

end Go.Proofs.Yteohgmmenlinbaa
