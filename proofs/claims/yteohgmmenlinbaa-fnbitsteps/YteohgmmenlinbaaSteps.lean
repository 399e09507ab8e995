/- FnBitSteps' walk: it returns true, whatever bytes come in. -/
import Derived.Test.YteohgmmenlinbaaImplU
import Derived.Test.YteohgmmenlinbaaImplP
import Derived.Test.YteohgmmenlinbaaSpecP
import Derived.Test.YteohgmmenlinbaaLess
import Derived.Test.YteohgmmenlinbaaDrawJ
namespace Go.Proofs.Yteohgmmenlinbaa
open Go.ChangeShapes Go.WideShapes Go.ChangeAt Go.RowKit
set_option linter.unusedVariables false

theorem drawUp (w : World) (a : Option Addr) (len cap : Nat) (hc : Code8 w a len) (hl : len ≤ cap) (hm : len ≤ 1048576) :
    Calls Try.prog 22 #[.slice a len cap] w (WOrdOut w) := by
  have ho := widthOrd w a len cap hc hl hm
  go_enter Try.func22, Try.ntmps22
  go_wp2_with (go_at_call 56; go_must (refine ho.mono ?_); clear ho hc; rintro e w1 ⟨x, y, rfl, x0, x1, wy, hb⟩)
  go_ret2
  exact ⟨x, y, rfl, x0, x1, wy, hb⟩

theorem up_wf {n x : Int} : (Lit.int .i64 (upI n x)).wf = true := by
  have tb := topI_bounds n
  unfold upI
  split
  · rename_i h
    have := okI_bounds h
    split <;> exact wf64 (by omega) (by omega)
  · decide

theorem down_wf {n x : Int} : (Lit.int .i64 (downI n x)).wf = true := by
  have tb := topI_bounds n
  unfold downI
  split
  · rename_i h
    have := okI_bounds h
    split <;> exact wf64 (by omega) (by omega)
  · decide

theorem top_pos {n x : Int} (h : okI n x = true) : 0 < topI n := by
  rcases okI_width h with rfl | rfl <;> decide

theorem okI_of {n x y : Int} (h : okI n x = true) (h1 : -(topI n) ≤ y) (h2 : y ≤ topI n) : okI n y = true := by
  unfold okI at h ⊢
  simp only [Bool.and_eq_true, decide_eq_true_eq] at h ⊢
  exact ⟨h.1, h1, h2⟩

/-- What the steps are, in numbers. -/
theorem steps {n x : Int} (h : okI n x = true) :
    (x < topI n → downI n (upI n x) = x ∧ x < upI n x) ∧ (x = topI n → upI n x = x) ∧ (-(topI n) < x → upI n (downI n x) = x ∧ downI n x < x) ∧ (x = -(topI n) → downI n x = x) := by
  have hb := okI_bounds h
  have hp := top_pos h
  refine ⟨fun k => ?_, fun k => ?_, fun k => ?_, fun k => ?_⟩
  · have e : upI n x = x + 1 := by unfold upI; rw [if_pos h, if_neg (by omega)]
    rw [e]
    refine ⟨?_, by omega⟩
    unfold downI
    rw [if_pos (okI_of h (by omega) (by omega)), if_neg (by omega)]
    omega
  · unfold upI; rw [if_pos h, if_pos k]
  · have e : downI n x = x - 1 := by unfold downI; rw [if_pos h, if_neg (by omega)]
    rw [e]
    refine ⟨?_, by omega⟩
    unfold upI
    rw [if_pos (okI_of h (by omega) (by omega)), if_neg (by omega)]
    omega
  · unfold downI; rw [if_pos h, if_pos k]

set_option maxHeartbeats 4000000 in
theorem walkSteps (w : World) (a : Option Addr) (len cap : Nat) (hc : len ≤ 1048576 → Code8 w a len) (hl : len ≤ cap) (hm : len ≤ maxLen) :
    Calls Try.prog 5 #[.slice a len cap] w fun e w' => e = .returned (.bool true) ∧ Below w.heap.size w w' := by
  unfold maxLen at hm
  by_cases hbig : 1048576 < len
  · have hbig' : 1048576 < (len : Int) := by omega
    go_enter Try.func5, Try.ntmps5
    go_wp2
    go_ret
    exact ⟨rfl, Below.refl _ _⟩
  have ho := drawUp w a len cap (hc (by omega)) hl (by omega)
  have hb3 : ¬ 1048576 < (len : Int) := by omega
  clear hc hm
  go_enter Try.func5, Try.ntmps5
  go_wp2_with (go_at_call 22; refine ho.mono ?_; clear ho; rintro e w1 ⟨n, x, rfl, n0, n1, wx, hb⟩)
  have hB : Hid (Below w.heap.size w w1) := hb
  clear hb
  have u1 := fun W => implUp W n x wx
  have d1 := fun W => implDown W n x wx
  have u2 := fun W => implUp W n (downI n x) down_wf
  have d2 := fun W => implDown W n (upI n x) up_wf
  have hk := fun W => specOk W n x wx
  have hT := fun W => implTop W n
  have p1 := fun W => implPart W n x wx
  have p2 := fun W => implPart W n (upI n x) up_wf
  by_cases h : okI n x = true
  · obtain ⟨f1, f2, f3, f4⟩ := steps h
    rw [h] at hk
    have tb := topI_bounds n
    have hb := okI_bounds h
    have tp := top_pos h
    have gv : ∃ b s p, (if finI n (upI n x) = true then partV n (upI n x) else noPart) = .agg #[.bool b, .int .u64 s, .int .i64 p] := by split <;> exact ⟨_, _, _, rfl⟩
    by_cases hx : finI n x = true
    · obtain ⟨F, L, ex, L0, hF, hL, s1, q1⟩ := part_parts hx
      have hx2 : x < topI n ∧ -(topI n) < x := by
        unfold finI at hx
        simp only [Bool.and_eq_true, bne_iff_ne, ne_eq] at hx
        omega
      obtain ⟨g1, g2⟩ := f1 hx2.1
      obtain ⟨g3, g4⟩ := f3 hx2.2
      rw [g1] at d2
      rw [g3] at u2
      rw [if_pos hx, hx, ex] at p1
      have k1 : (x == topI n) = false := by simp; omega
      have k2 : (x == -(topI n)) = false := by simp; omega
      obtain ⟨k3, k4⟩ := hx2
      by_cases hu : finI n (upI n x) = true
      · obtain ⟨F', L', eu, _, rfl, rfl, s2, q2⟩ := part_parts hu
        subst hF hL
        have hlt := less_part (F := fracI n) (L := leastI n) (by omega) x (upI n x)
        have hp := fun W => pbLess W (decide (x < 0)) (decide (upI n x < 0)) (magN (fracI n) x.natAbs) (magN (fracI n) (upI n x).natAbs) (leastI n + (expN (fracI n) x.natAbs : Nat)) (leastI n + (expN (fracI n) (upI n x).natAbs : Nat)) s1 s2 (by omega) (by omega) (by omega) (by omega)
        rw [hlt, decide_eq_true g2] at hp
        rw [if_pos hu, hu, eu] at p2
        clear hlt ex eu s1 s2 q1 q2 L0 hx hu gv f1 f2 f3 f4 g1 g3 h
        generalize (magN (fracI n) x.natAbs : Nat) = sx at *
        generalize (magN (fracI n) (upI n x).natAbs : Nat) = sy at *
        generalize leastI n + (expN (fracI n) x.natAbs : Nat) = px at *
        generalize leastI n + (expN (fracI n) (upI n x).natAbs : Nat) = py at *
        generalize decide (x < 0) = bx at *
        generalize decide (upI n x < 0) = bu at *
        generalize upI n x = U at *
        generalize downI n x = D at *
        generalize topI n = t at *
        go_wp2_with first
          | (go_at_call 23; refine (u1 _).mono ?_; clear u1; rintro e w2 ⟨rfl, q⟩; replace hB : Hid (Below w.heap.size w w2) := hB.out.trans (q.mono hB.out.size); clear q)
          | (go_at_call 24; refine (d1 _).mono ?_; clear d1; rintro e w3 ⟨rfl, q⟩; replace hB : Hid (Below w.heap.size w w3) := hB.out.trans (q.mono hB.out.size); clear q)
          | (go_at_call 25; refine (hk _).mono ?_; clear hk; rintro e w4 ⟨rfl, rfl⟩)
          | (go_at_call 26; refine (hT _).mono ?_; clear hT; rintro e w5 ⟨rfl, q⟩; replace hB : Hid (Below w.heap.size w w5) := hB.out.trans (q.mono hB.out.size); clear q)
          | (go_at_call 24; refine (d2 _).mono ?_; clear d2; rintro e w6 ⟨rfl, q⟩; replace hB : Hid (Below w.heap.size w w6) := hB.out.trans (q.mono hB.out.size); clear q)
          | (go_at_call 23; refine (u2 _).mono ?_; clear u2; rintro e w7 ⟨rfl, q⟩; replace hB : Hid (Below w.heap.size w w7) := hB.out.trans (q.mono hB.out.size); clear q)
          | (go_at_call 19; refine (p1 _).mono ?_; clear p1; rintro e w8 ⟨rfl, q⟩; replace hB : Hid (Below w.heap.size w w8) := hB.out.trans (q.mono hB.out.size); clear q)
          | (go_at_call 19; refine (p2 _).mono ?_; clear p2; rintro e w9 ⟨rfl, q⟩; have o8 := (Own.new w8 _ _).below q; have hs8 := hB.out.size; replace hB : Hid (Below w.heap.size w w9) := (hB.out.alloc hB.out.size _).trans (q.mono (by simp; omega)); clear q; have c0 := (o8.alloc (.cells #[.bool bu, .int .u64 sy, .int .i64 py] 42)).cell 0 _ rfl; have c1 := (o8.alloc (.cells #[.bool bu, .int .u64 sy, .int .i64 py] 42)).cell 1 _ rfl; have c2 := (o8.alloc (.cells #[.bool bu, .int .u64 sy, .int .i64 py] 42)).cell 2 _ rfl)
          | (go_at_call 21; refine (hp _).mono ?_; clear hp; rintro e w6 ⟨rfl, q⟩; have hs5 := hB.out.size; replace hB : Hid (Below w.heap.size w w6) := (hB.out.alloc hB.out.size _).trans (q.mono (by simp; omega)); clear q)
        go_ret
        exact ⟨rfl, hB.out⟩
      · rw [if_neg hu] at p2
        rw [Bool.not_eq_true] at hu
        rw [hu] at p2
        unfold noPart at p2
        clear ex s1 q1 L0 hx hu gv f1 f2 f3 f4 g1 g3 h hF hL
        generalize (magN F x.natAbs : Nat) = sx at *
        generalize L + (expN F x.natAbs : Nat) = px at *
        generalize decide (x < 0) = bx at *
        generalize upI n x = U at *
        generalize downI n x = D at *
        generalize topI n = t at *
        go_wp2_with first
          | (go_at_call 23; refine (u1 _).mono ?_; clear u1; rintro e w2 ⟨rfl, q⟩; replace hB : Hid (Below w.heap.size w w2) := hB.out.trans (q.mono hB.out.size); clear q)
          | (go_at_call 24; refine (d1 _).mono ?_; clear d1; rintro e w3 ⟨rfl, q⟩; replace hB : Hid (Below w.heap.size w w3) := hB.out.trans (q.mono hB.out.size); clear q)
          | (go_at_call 25; refine (hk _).mono ?_; clear hk; rintro e w4 ⟨rfl, rfl⟩)
          | (go_at_call 26; refine (hT _).mono ?_; clear hT; rintro e w5 ⟨rfl, q⟩; replace hB : Hid (Below w.heap.size w w5) := hB.out.trans (q.mono hB.out.size); clear q)
          | (go_at_call 24; refine (d2 _).mono ?_; clear d2; rintro e w6 ⟨rfl, q⟩; replace hB : Hid (Below w.heap.size w w6) := hB.out.trans (q.mono hB.out.size); clear q)
          | (go_at_call 23; refine (u2 _).mono ?_; clear u2; rintro e w7 ⟨rfl, q⟩; replace hB : Hid (Below w.heap.size w w7) := hB.out.trans (q.mono hB.out.size); clear q)
          | (go_at_call 19; refine (p1 _).mono ?_; clear p1; rintro e w8 ⟨rfl, q⟩; replace hB : Hid (Below w.heap.size w w8) := hB.out.trans (q.mono hB.out.size); clear q)
          | (go_at_call 19; refine (p2 _).mono ?_; clear p2; rintro e w9 ⟨rfl, q⟩; have o8 := (Own.new w8 _ _).below q; have hs8 := hB.out.size; replace hB : Hid (Below w.heap.size w w9) := (hB.out.alloc hB.out.size _).trans (q.mono (by simp; omega)); clear q; have c0 := (o8.alloc (.cells #[.bool false, .int .u64 0, .int .i64 0] 42)).cell 0 _ rfl; have c1 := (o8.alloc (.cells #[.bool false, .int .u64 0, .int .i64 0] 42)).cell 1 _ rfl; have c2 := (o8.alloc (.cells #[.bool false, .int .u64 0, .int .i64 0] 42)).cell 2 _ rfl)
        go_ret
        exact ⟨rfl, hB.out.alloc hB.out.size _⟩
    · rw [if_neg hx] at p1
      have hx2 : x = topI n ∨ x = -(topI n) := by
        unfold finI at hx
        simp only [Bool.and_eq_true, bne_iff_ne, ne_eq] at hx
        by_cases e : x = topI n
        · exact .inl e
        · by_cases e2 : x = -(topI n)
          · exact .inr e2
          · exact absurd ⟨h, e, e2⟩ hx
      rw [Bool.not_eq_true] at hx
      rw [hx] at p1
      unfold noPart at p1
      obtain ⟨bv, sv, pv, ev⟩ := gv
      rw [ev] at p2
      generalize finI n (upI n x) = ku at *
      rcases hx2 with k | k
      · have k1 : (x == topI n) = true := by simp; exact k
        have k2 : (x == -(topI n)) = false := by simp; omega
        have k3 : ¬ x < topI n := by omega
        have k4 : -(topI n) < x := by omega
        have g2 := f2 k
        obtain ⟨g3, g4⟩ := f3 k4
        rw [g3] at u2
        rw [g2] at u1 d2 p2
        clear ev f1 f2 f3 f4 g3 g2 h hx k
        generalize downI n x = D at *
        generalize topI n = t at *
        go_wp2_with first
          | (go_at_call 23; refine (u1 _).mono ?_; clear u1; rintro e w2 ⟨rfl, q⟩; replace hB : Hid (Below w.heap.size w w2) := hB.out.trans (q.mono hB.out.size); clear q)
          | (go_at_call 24; refine (d1 _).mono ?_; clear d1; rintro e w3 ⟨rfl, q⟩; replace hB : Hid (Below w.heap.size w w3) := hB.out.trans (q.mono hB.out.size); clear q)
          | (go_at_call 25; refine (hk _).mono ?_; clear hk; rintro e w4 ⟨rfl, rfl⟩)
          | (go_at_call 26; refine (hT _).mono ?_; clear hT; rintro e w5 ⟨rfl, q⟩; replace hB : Hid (Below w.heap.size w w5) := hB.out.trans (q.mono hB.out.size); clear q)
          | (go_at_call 24; refine (d2 _).mono ?_; clear d2; rintro e w6 ⟨rfl, q⟩; replace hB : Hid (Below w.heap.size w w6) := hB.out.trans (q.mono hB.out.size); clear q)
          | (go_at_call 23; refine (u2 _).mono ?_; clear u2; rintro e w7 ⟨rfl, q⟩; replace hB : Hid (Below w.heap.size w w7) := hB.out.trans (q.mono hB.out.size); clear q)
          | (go_at_call 19; refine (p1 _).mono ?_; clear p1; rintro e w8 ⟨rfl, q⟩; replace hB : Hid (Below w.heap.size w w8) := hB.out.trans (q.mono hB.out.size); clear q)
          | (go_at_call 19; refine (p2 _).mono ?_; clear p2; rintro e w9 ⟨rfl, q⟩; have o8 := (Own.new w8 _ _).below q; have hs8 := hB.out.size; replace hB : Hid (Below w.heap.size w w9) := (hB.out.alloc hB.out.size _).trans (q.mono (by simp; omega)); clear q; have c0 := (o8.alloc (.cells #[.bool bv, .int .u64 sv, .int .i64 pv] 42)).cell 0 _ rfl; have c1 := (o8.alloc (.cells #[.bool bv, .int .u64 sv, .int .i64 pv] 42)).cell 1 _ rfl; have c2 := (o8.alloc (.cells #[.bool bv, .int .u64 sv, .int .i64 pv] 42)).cell 2 _ rfl)
        go_ret
        exact ⟨rfl, hB.out.alloc hB.out.size _⟩
      · have k1 : (x == topI n) = false := by simp; omega
        have k2 : (x == -(topI n)) = true := by simp; exact k
        have k3 : x < topI n := by omega
        have k4 : ¬ -(topI n) < x := by omega
        have g2 := f4 k
        obtain ⟨g3, g4⟩ := f1 k3
        rw [g3] at d2
        rw [g2] at d1 u2
        clear ev f1 f2 f3 f4 g3 g2 h hx k
        generalize upI n x = U at *
        generalize topI n = t at *
        go_wp2_with first
          | (go_at_call 23; refine (u1 _).mono ?_; clear u1; rintro e w2 ⟨rfl, q⟩; replace hB : Hid (Below w.heap.size w w2) := hB.out.trans (q.mono hB.out.size); clear q)
          | (go_at_call 24; refine (d1 _).mono ?_; clear d1; rintro e w3 ⟨rfl, q⟩; replace hB : Hid (Below w.heap.size w w3) := hB.out.trans (q.mono hB.out.size); clear q)
          | (go_at_call 25; refine (hk _).mono ?_; clear hk; rintro e w4 ⟨rfl, rfl⟩)
          | (go_at_call 26; refine (hT _).mono ?_; clear hT; rintro e w5 ⟨rfl, q⟩; replace hB : Hid (Below w.heap.size w w5) := hB.out.trans (q.mono hB.out.size); clear q)
          | (go_at_call 24; refine (d2 _).mono ?_; clear d2; rintro e w6 ⟨rfl, q⟩; replace hB : Hid (Below w.heap.size w w6) := hB.out.trans (q.mono hB.out.size); clear q)
          | (go_at_call 23; refine (u2 _).mono ?_; clear u2; rintro e w7 ⟨rfl, q⟩; replace hB : Hid (Below w.heap.size w w7) := hB.out.trans (q.mono hB.out.size); clear q)
          | (go_at_call 19; refine (p1 _).mono ?_; clear p1; rintro e w8 ⟨rfl, q⟩; replace hB : Hid (Below w.heap.size w w8) := hB.out.trans (q.mono hB.out.size); clear q)
          | (go_at_call 19; refine (p2 _).mono ?_; clear p2; rintro e w9 ⟨rfl, q⟩; have o8 := (Own.new w8 _ _).below q; have hs8 := hB.out.size; replace hB : Hid (Below w.heap.size w w9) := (hB.out.alloc hB.out.size _).trans (q.mono (by simp; omega)); clear q; have c0 := (o8.alloc (.cells #[.bool bv, .int .u64 sv, .int .i64 pv] 42)).cell 0 _ rfl; have c1 := (o8.alloc (.cells #[.bool bv, .int .u64 sv, .int .i64 pv] 42)).cell 1 _ rfl; have c2 := (o8.alloc (.cells #[.bool bv, .int .u64 sv, .int .i64 pv] 42)).cell 2 _ rfl)
        go_ret
        exact ⟨rfl, hB.out.alloc hB.out.size _⟩
  · have e1 : upI n x = 0 := by unfold upI; rw [if_neg h]
    have e2 : downI n x = 0 := by unfold downI; rw [if_neg h]
    rw [e1] at u1
    rw [e2] at d1
    rw [Bool.not_eq_true] at h
    rw [h] at hk
    clear u2 d2 hT p1 p2 h e1 e2
    go_wp2_with first
      | (go_at_call 23; refine (u1 _).mono ?_; clear u1; rintro e w2 ⟨rfl, q⟩; replace hB : Hid (Below w.heap.size w w2) := hB.out.trans (q.mono hB.out.size); clear q)
      | (go_at_call 24; refine (d1 _).mono ?_; clear d1; rintro e w3 ⟨rfl, q⟩; replace hB : Hid (Below w.heap.size w w3) := hB.out.trans (q.mono hB.out.size); clear q)
      | (go_at_call 25; refine (hk _).mono ?_; clear hk; rintro e w4 ⟨rfl, rfl⟩)
    go_ret
    exact ⟨rfl, hB.out⟩

end Go.Proofs.Yteohgmmenlinbaa
