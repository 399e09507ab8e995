/- FnPairCut's walk: it returns true, whatever bytes come in. -/
import Derived.Test.YteohgmmenlinbabPairJ
import Derived.Test.YteohgmmenlinbabPairC
import Derived.Test.YteohgmmenlinbabDrawM
import Derived.Test.YteohgmmenlinbabDrawQ
import Derived.Test.YteohgmmenlinbabQuiet
namespace Go.Proofs.Yteohgmmenlinbab
open Go.ChangeShapes Go.WideShapes Go.ChangeAt Go.RowKit
set_option linter.unusedVariables false

theorem Code8.belowC {w w' : World} {a : Option Addr} {len : Nat} (h : Code8 w a len) (q : Below w.heap.size w w') : Code8 w' a len := by
  rcases h with h | ⟨rb, ro, ha, hlt, hcell⟩
  · exact .inl h
  · refine .inr ⟨rb, ro, ha, Nat.lt_of_lt_of_le hlt q.size, fun j hj => ?_⟩
    obtain ⟨z, z0, z1, hz⟩ := hcell j hj
    exact ⟨z, z0, z1, (q.cell (p := ⟨rb, ro + j, none⟩) hlt).trans hz⟩

/-- What is left of a pair when a gap is cut out, in numbers. -/
def CutFacts (n x y g h u0 u1 v0 v1 : Int) : Prop :=
  pokI n u0 u1 = true ∧ pokI n v0 v1 = true ∧ isB u0 u1 x y = true ∧ isB v0 v1 x y = true ∧ gapI u0 u1 ≤ gapI v0 v1 ∧ gapI u0 u1 < gapI x y ∧ gapI v0 v1 < gapI x y ∧
  (Lit.int .i64 u0).wf = true ∧ (Lit.int .i64 u1).wf = true ∧ (Lit.int .i64 v0).wf = true ∧ (Lit.int .i64 v1).wf = true ∧
  ∀ z, (isB z z u0 u1 || isB z z v0 v1) = (isB z z x y && (decide (z ≤ g) || decide (h ≤ z)))

theorem cutFacts {n x y g h : Int} (a1 : (Lit.int .i64 x).wf = true) (a2 : (Lit.int .i64 y).wf = true) (a3 : (Lit.int .i64 g).wf = true) (a4 : (Lit.int .i64 h).wf = true) (k1 : pokI n x y = true) (k2 : g < h) (k3 : pokI n x g = true) (k4 : pokI n h y = true) :
    (gapI h y < gapI x g → CutFacts n x y g h h y x g) ∧ (¬ gapI h y < gapI x g → CutFacts n x y g h x g h y) := by
  have p3 : x ≤ g := by unfold pokI at k3; simp only [Bool.and_eq_true, decide_eq_true_eq] at k3; exact k3.2.2.1
  have p4 : h ≤ y := by unfold pokI at k4; simp only [Bool.and_eq_true, decide_eq_true_eq] at k4; exact k4.2.2.1
  have e1 : gapI x g = g - x := by unfold gapI; rw [if_neg (by omega)]
  have e2 : gapI h y = y - h := by unfold gapI; rw [if_neg (by omega)]
  have e3 : gapI x y = y - x := by unfold gapI; rw [if_neg (by omega)]
  have i1 : isB x g x y = true := by unfold isB; simp only [Bool.and_eq_true, decide_eq_true_eq]; omega
  have i2 : isB h y x y = true := by unfold isB; simp only [Bool.and_eq_true, decide_eq_true_eq]; omega
  refine ⟨fun k => ⟨k4, k3, i2, i1, by omega, by omega, by omega, a4, a2, a1, a3, fun z => ?_⟩, fun k => ⟨k3, k4, i1, i2, by omega, by omega, by omega, a1, a3, a4, a2, fun z => ?_⟩⟩
  · unfold isB
    rw [Bool.eq_iff_iff]
    simp only [Bool.and_eq_true, Bool.or_eq_true, decide_eq_true_eq]
    omega
  · unfold isB
    rw [Bool.eq_iff_iff]
    simp only [Bool.and_eq_true, Bool.or_eq_true, decide_eq_true_eq]
    omega

theorem cutAll (n x y g h : Int) (a1 : (Lit.int .i64 x).wf = true) (a2 : (Lit.int .i64 y).wf = true) (a3 : (Lit.int .i64 g).wf = true) (a4 : (Lit.int .i64 h).wf = true) :
    ∃ u0 u1 v0 v1 k, (∀ W, Calls Try.prog 17 #[.int .i64 n, .agg #[.int .i64 x, .int .i64 y], .agg #[.int .i64 g, .int .i64 h]] W (TwoOut2 W u0 u1 v0 v1 k)) ∧
      (∀ W, Calls Try.prog 16 #[.int .i64 n, .agg #[.int .i64 x, .int .i64 y], .agg #[.int .i64 g, .int .i64 h]] W (TwoOut2 W u0 u1 v0 v1 k)) ∧
      ((k = true ∧ CutFacts n x y g h u0 u1 v0 v1) ∨ (k = false ∧ u0 = 0 ∧ u1 = 0 ∧ v0 = 0 ∧ v1 = 0)) := by
  by_cases hk : cutB n x y g h = true
  · have hk' := hk
    unfold cutB at hk'
    simp only [Bool.and_eq_true, decide_eq_true_eq] at hk'
    obtain ⟨k1, k2, k3, k4⟩ := hk'
    have F := cutFacts a1 a2 a3 a4 k1 k2 k3 k4
    by_cases kk : gapI h y < gapI x g
    · refine ⟨h, y, x, g, true, fun W => ?_, fun W => implCut W n x y g h a1 a2 a3 a4 k1 k2 h y x g true ⟨by rw [k3, k4]; rfl, by simp [kk], by simp [kk], by simp [kk], by simp [kk]⟩, .inl ⟨rfl, F.1 kk⟩⟩
      have := specCut W n x y g h a1 a2 a3 a4 k1 k2 k3 k4
      rw [if_pos kk] at this
      exact this
    · refine ⟨x, g, h, y, true, fun W => ?_, fun W => implCut W n x y g h a1 a2 a3 a4 k1 k2 x g h y true ⟨by rw [k3, k4]; rfl, by simp [kk], by simp [kk], by simp [kk], by simp [kk]⟩, .inl ⟨rfl, F.2 kk⟩⟩
      have := specCut W n x y g h a1 a2 a3 a4 k1 k2 k3 k4
      rw [if_neg kk] at this
      exact this
  · rw [Bool.not_eq_true] at hk
    refine ⟨0, 0, 0, 0, false, fun W => specCutNo W n x y g h a1 a2 a3 a4 hk, fun W => ?_, .inr ⟨rfl, rfl, rfl, rfl, rfl⟩⟩
    by_cases hp : pokI n x y = false ∨ h ≤ g
    · exact implCutNo1 W n x y g h a1 a2 a3 a4 hp
    · have k1 : pokI n x y = true := by
        cases hq : pokI n x y
        · exact absurd (.inl hq) hp
        · rfl
      have k2 : g < h := by
        rcases Int.lt_or_le g h with q | q
        · exact q
        · exact absurd (.inr q) hp
      refine implCut W n x y g h a1 a2 a3 a4 k1 k2 0 0 0 0 false ⟨?_, rfl, rfl, rfl, rfl⟩
      unfold cutB at hk
      rw [k1, decide_eq_true k2] at hk
      simpa using hk.symm

theorem cutL1 {g h z : Int} (t : (!decide (z ≤ g)) = true ∧ (!decide (h ≤ z)) = true) : z < h := by
  have := t.2
  simp at this
  exact this
theorem cutL2 {V D : Bool} (t : (!V == D) = true) : ¬ V = D := by
  intro e
  subst e
  revert t
  cases V <;> decide
theorem cutL3 {V : Bool} (t : (!V) = true) : V = false := by
  revert t
  cases V <;> decide

/-- What lies in memory between two rounds. -/
def CutSt (w : World) (A B Q : Nat) (x y g h u0 u1 v0 v1 z z' : Int) (W : World) : Prop :=
  Owns W A [[.int .i64 x, .int .i64 y], [.int .i64 g, .int .i64 h]] ∧ Owns W B [[.int .i64 u0, .int .i64 u1], [.int .i64 v0, .int .i64 v1]] ∧ Own W Q [.int .i64 z, .int .i64 z'] ∧ Below w.heap.size w W

set_option maxRecDepth 20000 in
set_option maxHeartbeats 8000000 in
theorem walkCut (w : World) (a : Option Addr) (len cap : Nat) (hc : len ≤ 1048576 → Code8 w a len) (hl : len ≤ cap) (hm : len ≤ maxLen)
    (a2 : Option Addr) (len2 cap2 : Nat) (hc2 : len2 ≤ 1048576 → Code8 w a2 len2) (hl2 : len2 ≤ cap2) (hm2 : len2 ≤ maxLen) :
    Calls Try.prog 4 #[.slice a len cap, .slice a2 len2 cap2] w fun e w' => e = .returned (.bool true) ∧ Below w.heap.size w w' := by
  unfold maxLen at hm hm2
  by_cases hbig : 1048576 < len
  · have hbig' : 1048576 < (len : Int) := by omega
    go_enter Try.func4, Try.ntmps4
    go_wp2
    go_ret
    exact ⟨rfl, Below.refl _ _⟩
  by_cases hbig2 : 1048576 < len2
  · have hbig' : 1048576 < (len2 : Int) := by omega
    have hb3 : ¬ 1048576 < (len : Int) := by omega
    go_enter Try.func4, Try.ntmps4
    go_wp2
    go_ret
    exact ⟨rfl, Below.refl _ _⟩
  have ho := drawCut w a len cap (hc (by omega)) hl (by omega)
  have hC2 := hc2 (by omega)
  have e2 := fun W q => goodPair W a2 len2 cap2 (Code8.belowC hC2 q) hl2 (by omega)
  have hb3 : ¬ 1048576 < (len : Int) := by omega
  have hb4 : ¬ 1048576 < (len2 : Int) := by omega
  clear hc hm hc2 hm2 hC2
  go_enter Try.func4, Try.ntmps4
  go_wp2_with (go_at_call 15; refine ho.mono ?_; clear ho; rintro e w1 ⟨n, x, y, g, h, rfl, a1, a2', a3, a4, hb⟩)
  have O := owns2 w1 #[.int .i64 x, .int .i64 y] #[.int .i64 g, .int .i64 h] 24
  have hz1 := hb.size
  replace hb := (hb.alloc hb.size (.cells #[.int .i64 x, .int .i64 y] 24)).alloc (by simp; omega) (.cells #[.int .i64 g, .int .i64 h] 24)
  have cp : Own _ w1.heap.size _ := O.get 0 _ rfl
  have cg : Own _ (w1.heap.size + 1) _ := O.get 1 _ rfl
  have cp0 := cp.cell 0 _ rfl
  have cp1 := cp.cell 1 _ rfl
  have cg0 := cg.cell 0 _ rfl
  have cg1 := cg.cell 1 _ rfl
  obtain ⟨u0, u1, v0, v1, k, m2, m1, hF⟩ := cutAll n x y g h a1 a2' a3 a4
  rcases hF with ⟨rfl, hF⟩ | ⟨rfl, rfl, rfl, rfl, rfl⟩
  · have HF : Hid _ := hF
    clear hF
    have g1 := fun W => implGap W x y a1 a2'
    have g2 := fun W => implGap W u0 u1 HF.out.2.2.2.2.2.2.2.1 HF.out.2.2.2.2.2.2.2.2.1
    have g3 := fun W => implGap W v0 v1 HF.out.2.2.2.2.2.2.2.2.2.1 HF.out.2.2.2.2.2.2.2.2.2.2.1
    have k1 := fun W => implPairOk W n u0 u1 HF.out.2.2.2.2.2.2.2.1 HF.out.2.2.2.2.2.2.2.2.1
    have k2 := fun W => implPairOk W n v0 v1 HF.out.2.2.2.2.2.2.2.2.2.1 HF.out.2.2.2.2.2.2.2.2.2.2.1
    rw [HF.out.1] at k1
    rw [HF.out.2.1] at k2
    have i1 := fun W => implIs W u0 u1 x y
    have i2 := fun W => implIs W v0 v1 x y
    rw [HF.out.2.2.1] at i1
    rw [HF.out.2.2.2.1] at i2
    have q1 := HF.out.2.2.2.2.1
    have q2 := HF.out.2.2.2.2.2.1
    have q3 := HF.out.2.2.2.2.2.2.1
    have HZ : Hid (∀ z, (isB z z u0 u1 || isB z z v0 v1) = (isB z z x y && (decide (z ≤ g) || decide (h ≤ z)))) := HF.out.2.2.2.2.2.2.2.2.2.2.2
    clear HF
    generalize gapI x y = gp at *
    generalize gapI u0 u1 = gu at *
    generalize gapI v0 v1 = gv at *
    go_wp2_with first
      | (go_at_call 16; refine (m1 _).mono ?_; clear m1; rintro e w2 ⟨rfl, q⟩; replace O := O.below q; replace hb := hb.trans (q.mono hb.size); clear q; have R := owns2 w2 #[.int .i64 u0, .int .i64 u1] #[.int .i64 v0, .int .i64 v1] 24; replace O := (O.alloc (.cells #[.int .i64 u0, .int .i64 u1] 24)).alloc (.cells #[.int .i64 v0, .int .i64 v1] 24); have hz2 := hb.size; replace hb := (hb.alloc hb.size (.cells #[.int .i64 u0, .int .i64 u1] 24)).alloc (by simp; omega) (.cells #[.int .i64 v0, .int .i64 v1] 24); have cp : Own _ (w1.heap.size) _ := O.get 0 _ rfl; have cp0 := cp.cell 0 _ rfl; have cp1 := cp.cell 1 _ rfl; have cg : Own _ (w1.heap.size + 1) _ := O.get 1 _ rfl; have cg0 := cg.cell 0 _ rfl; have cg1 := cg.cell 1 _ rfl; have cu : Own _ (w2.heap.size) _ := R.get 0 _ rfl; have cu0 := cu.cell 0 _ rfl; have cu1 := cu.cell 1 _ rfl; have cv : Own _ (w2.heap.size + 1) _ := R.get 1 _ rfl; have cv0 := cv.cell 0 _ rfl; have cv1 := cv.cell 1 _ rfl)
      | (go_at_call 17; refine (m2 _).mono ?_; clear m2; rintro e w3 ⟨rfl, q⟩; replace O := O.below q; replace R := R.below q; replace hb := hb.trans (q.mono hb.size); clear q; replace O := (O.alloc (.cells #[.int .i64 u0, .int .i64 u1] 24)).alloc (.cells #[.int .i64 v0, .int .i64 v1] 24); replace R := (R.alloc (.cells #[.int .i64 u0, .int .i64 u1] 24)).alloc (.cells #[.int .i64 v0, .int .i64 v1] 24); have hz3 := hb.size; replace hb := (hb.alloc hb.size (.cells #[.int .i64 u0, .int .i64 u1] 24)).alloc (by simp; omega) (.cells #[.int .i64 v0, .int .i64 v1] 24); have cp : Own _ (w1.heap.size) _ := O.get 0 _ rfl; have cp0 := cp.cell 0 _ rfl; have cp1 := cp.cell 1 _ rfl; have cg : Own _ (w1.heap.size + 1) _ := O.get 1 _ rfl; have cg0 := cg.cell 0 _ rfl; have cg1 := cg.cell 1 _ rfl; have cu : Own _ (w2.heap.size) _ := R.get 0 _ rfl; have cu0 := cu.cell 0 _ rfl; have cu1 := cu.cell 1 _ rfl; have cv : Own _ (w2.heap.size + 1) _ := R.get 1 _ rfl; have cv0 := cv.cell 0 _ rfl; have cv1 := cv.cell 1 _ rfl)
      | (go_at_call 12; refine (g1 _).mono ?_; clear g1; rintro e w4 ⟨rfl, rfl⟩)
      | (go_at_call 12; refine (g2 _).mono ?_; clear g2; rintro e w5 ⟨rfl, rfl⟩)
      | (go_at_call 12; refine (g3 _).mono ?_; clear g3; rintro e w6 ⟨rfl, rfl⟩)
      | (go_at_call 13; refine (k1 _).mono ?_; clear k1; rintro e w7 ⟨rfl, q⟩; replace O := O.below q; replace R := R.below q; replace hb := hb.trans (q.mono hb.size); clear q; have cp : Own w7 (w1.heap.size) _ := O.get 0 _ rfl; have cp0 := cp.cell 0 _ rfl; have cp1 := cp.cell 1 _ rfl; have cg : Own w7 (w1.heap.size + 1) _ := O.get 1 _ rfl; have cg0 := cg.cell 0 _ rfl; have cg1 := cg.cell 1 _ rfl; have cu : Own w7 (w2.heap.size) _ := R.get 0 _ rfl; have cu0 := cu.cell 0 _ rfl; have cu1 := cu.cell 1 _ rfl; have cv : Own w7 (w2.heap.size + 1) _ := R.get 1 _ rfl; have cv0 := cv.cell 0 _ rfl; have cv1 := cv.cell 1 _ rfl)
      | (go_at_call 13; refine (k2 _).mono ?_; clear k2; rintro e w8 ⟨rfl, q⟩; replace O := O.below q; replace R := R.below q; replace hb := hb.trans (q.mono hb.size); clear q; have cp : Own w8 (w1.heap.size) _ := O.get 0 _ rfl; have cp0 := cp.cell 0 _ rfl; have cp1 := cp.cell 1 _ rfl; have cg : Own w8 (w1.heap.size + 1) _ := O.get 1 _ rfl; have cg0 := cg.cell 0 _ rfl; have cg1 := cg.cell 1 _ rfl; have cu : Own w8 (w2.heap.size) _ := R.get 0 _ rfl; have cu0 := cu.cell 0 _ rfl; have cu1 := cu.cell 1 _ rfl; have cv : Own w8 (w2.heap.size + 1) _ := R.get 1 _ rfl; have cv0 := cv.cell 0 _ rfl; have cv1 := cv.cell 1 _ rfl)
      | (go_at_call 14; refine (i1 _).mono ?_; clear i1; rintro e w9 ⟨rfl, q⟩; replace O := O.below q; replace R := R.below q; replace hb := hb.trans (q.mono hb.size); clear q; have cp : Own w9 (w1.heap.size) _ := O.get 0 _ rfl; have cp0 := cp.cell 0 _ rfl; have cp1 := cp.cell 1 _ rfl; have cg : Own w9 (w1.heap.size + 1) _ := O.get 1 _ rfl; have cg0 := cg.cell 0 _ rfl; have cg1 := cg.cell 1 _ rfl; have cu : Own w9 (w2.heap.size) _ := R.get 0 _ rfl; have cu0 := cu.cell 0 _ rfl; have cu1 := cu.cell 1 _ rfl; have cv : Own w9 (w2.heap.size + 1) _ := R.get 1 _ rfl; have cv0 := cv.cell 0 _ rfl; have cv1 := cv.cell 1 _ rfl)
      | (go_at_call 14; refine (i2 _).mono ?_; clear i2; rintro e w10 ⟨rfl, q⟩; replace O := O.below q; replace R := R.below q; replace hb := hb.trans (q.mono hb.size); clear q; have cp : Own w10 (w1.heap.size) _ := O.get 0 _ rfl; have cp0 := cp.cell 0 _ rfl; have cp1 := cp.cell 1 _ rfl; have cg : Own w10 (w1.heap.size + 1) _ := O.get 1 _ rfl; have cg0 := cg.cell 0 _ rfl; have cg1 := cg.cell 1 _ rfl; have cu : Own w10 (w2.heap.size) _ := R.get 0 _ rfl; have cu0 := cu.cell 0 _ rfl; have cu1 := cu.cell 1 _ rfl; have cv : Own w10 (w2.heap.size + 1) _ := R.get 1 _ rfl; have cv0 := cv.cell 0 _ rfl; have cv1 := cv.cell 1 _ rfl)
      | (go_at_call 9; refine (e2 _ hb).mono ?_; clear e2; rintro e w11 ⟨n', z, z', rfl, -, -, -, -, q⟩; replace O := O.below q; replace R := R.below q; replace hb := hb.trans (q.mono hb.size); clear q; have cp : Own w11 (w1.heap.size) _ := O.get 0 _ rfl; have cp0 := cp.cell 0 _ rfl; have cp1 := cp.cell 1 _ rfl; have cg : Own w11 (w1.heap.size + 1) _ := O.get 1 _ rfl; have cg0 := cg.cell 0 _ rfl; have cg1 := cg.cell 1 _ rfl; have cu : Own w11 (w2.heap.size) _ := R.get 0 _ rfl; have cu0 := cu.cell 0 _ rfl; have cu1 := cu.cell 1 _ rfl; have cv : Own w11 (w2.heap.size + 1) _ := R.get 1 _ rfl; have cv0 := cv.cell 0 _ rfl; have cv1 := cv.cell 1 _ rfl)
    have O2 := O.alloc (.cells #[.int .i64 z, .int .i64 z'] 24)
    have R2 := R.alloc (.cells #[.int .i64 z, .int .i64 z'] 24)
    have Q2 := Own.new w11 #[.int .i64 z, .int .i64 z'] 24
    have hb2 := hb.alloc hb.size (.cells #[.int .i64 z, .int .i64 z'] 24)
    have S0 : Hid (CutSt w w1.heap.size w2.heap.size w11.heap.size x y g h u0 u1 v0 v1 z z' (w11.alloc (.cells #[.int .i64 z, .int .i64 z'] 24))) := ⟨O2, R2, Q2, hb2⟩
    clear O R O2 R2 Q2 hb2 hb cp cg cu cv cp0 cp1 cg0 cg1 cu0 cu1 cv0 cv1
    go_loopg [19] 3 (fun gq iv wr => ∃ i : Nat, (i : Int) + gq = 3 ∧ iv = .int .i64 i ∧ Hid (CutSt w w1.heap.size w2.heap.size w11.heap.size x y g h u0 u1 v0 v1 z z' wr))
    case atStart => exact ⟨0, by omega, rfl, S0⟩
    case round =>
      obtain ⟨i, hi, rfl, S⟩ := hrel
      clear S0
      obtain ⟨sO, sR, sQ, sb⟩ := S.out
      have cp : Own wr w1.heap.size _ := sO.get 0 _ rfl
      have cg : Own wr (w1.heap.size + 1) _ := sO.get 1 _ rfl
      have cu : Own wr w2.heap.size _ := sR.get 0 _ rfl
      have cv : Own wr (w2.heap.size + 1) _ := sR.get 1 _ rfl
      have cp0 := cp.cell 0 _ rfl
      have cp1 := cp.cell 1 _ rfl
      have cg0 := cg.cell 0 _ rfl
      have cg1 := cg.cell 1 _ rfl
      have cu0 := cu.cell 0 _ rfl
      have cu1 := cu.cell 1 _ rfl
      have cv0 := cv.cell 0 _ rfl
      have cv1 := cv.cell 1 _ rfl
      have cq0 := sQ.cell 0 _ rfl
      by_cases hlast : i = 3
      · subst hlast
        go_wp2
        go_ret
        exact ⟨rfl, sb⟩
      · have hi3 : i = 0 ∨ i = 1 ∨ i = 2 := by omega
        rcases hi3 with rfl | rfl | rfl
        · have aO := sO.alloc (.cells #[.int .i64 z, .int .i64 z] 24)
          have aR := sR.alloc (.cells #[.int .i64 z, .int .i64 z] 24)
          have aQ := sQ.alloc (.cells #[.int .i64 z, .int .i64 z] 24)
          have aX := Own.new wr #[.int .i64 z, .int .i64 z] 24
          have ab := sb.alloc sb.size (.cells #[.int .i64 z, .int .i64 z] 24)
          clear S sO sR sQ sb cp cu cv cp0 cp1 cu0 cu1 cv0 cv1
          (have dp : Own _ w1.heap.size _ := aO.get 0 _ rfl; have dg : Own _ (w1.heap.size + 1) _ := aO.get 1 _ rfl; have du : Own _ w2.heap.size _ := aR.get 0 _ rfl; have dv : Own _ (w2.heap.size + 1) _ := aR.get 1 _ rfl; have dp0 := dp.cell 0 _ rfl; have dp1 := dp.cell 1 _ rfl; have dg0 := dg.cell 0 _ rfl; have dg1 := dg.cell 1 _ rfl; have du0 := du.cell 0 _ rfl; have du1 := du.cell 1 _ rfl; have dv0 := dv.cell 0 _ rfl; have dv1 := dv.cell 1 _ rfl; have dx0 := aX.cell 0 _ rfl; have dx1 := aX.cell 1 _ rfl)
          have HN := HZ.out z
          go_wp2_with (go_at_call 14; refine (implIs _ _ _ _ _).mono ?_; rintro e w12 ⟨rfl, q⟩; replace aO := aO.below q; replace aR := aR.below q; replace aQ := aQ.below q; replace aX := aX.below q; replace ab := ab.trans (q.mono ab.size); clear q; have dp : Own w12 w1.heap.size _ := aO.get 0 _ rfl; have dg : Own w12 (w1.heap.size + 1) _ := aO.get 1 _ rfl; have du : Own w12 w2.heap.size _ := aR.get 0 _ rfl; have dv : Own w12 (w2.heap.size + 1) _ := aR.get 1 _ rfl; have dp0 := dp.cell 0 _ rfl; have dp1 := dp.cell 1 _ rfl; have dg0 := dg.cell 0 _ rfl; have dg1 := dg.cell 1 _ rfl; have du0 := du.cell 0 _ rfl; have du1 := du.cell 1 _ rfl; have dv0 := dv.cell 0 _ rfl; have dv1 := dv.cell 1 _ rfl; have dx0 := aX.cell 0 _ rfl; have dx1 := aX.cell 1 _ rfl)
          all_goals first
            | (go_roundg 2
               case measure => omega
               case rel => exact ⟨1, by omega, by go_num, ⟨aO, aR, aQ, ab⟩⟩)
            | (exfalso; revert HN; simp [*])
          all_goals first
            | (refine cutL1 (g := g) ?_; assumption)
            | (refine cutL2 ?_; assumption)
            | (refine cutL3 ?_; assumption)
        · have aO := sO.alloc (.cells #[.int .i64 g, .int .i64 g] 24)
          have aR := sR.alloc (.cells #[.int .i64 g, .int .i64 g] 24)
          have aQ := sQ.alloc (.cells #[.int .i64 g, .int .i64 g] 24)
          have aX := Own.new wr #[.int .i64 g, .int .i64 g] 24
          have ab := sb.alloc sb.size (.cells #[.int .i64 g, .int .i64 g] 24)
          clear S sO sR sQ sb cp cu cv cp0 cp1 cu0 cu1 cv0 cv1
          (have dp : Own _ w1.heap.size _ := aO.get 0 _ rfl; have dg : Own _ (w1.heap.size + 1) _ := aO.get 1 _ rfl; have du : Own _ w2.heap.size _ := aR.get 0 _ rfl; have dv : Own _ (w2.heap.size + 1) _ := aR.get 1 _ rfl; have dp0 := dp.cell 0 _ rfl; have dp1 := dp.cell 1 _ rfl; have dg0 := dg.cell 0 _ rfl; have dg1 := dg.cell 1 _ rfl; have du0 := du.cell 0 _ rfl; have du1 := du.cell 1 _ rfl; have dv0 := dv.cell 0 _ rfl; have dv1 := dv.cell 1 _ rfl; have dx0 := aX.cell 0 _ rfl; have dx1 := aX.cell 1 _ rfl)
          have HN := HZ.out g
          go_wp2_with (go_at_call 14; refine (implIs _ _ _ _ _).mono ?_; rintro e w12 ⟨rfl, q⟩; replace aO := aO.below q; replace aR := aR.below q; replace aQ := aQ.below q; replace aX := aX.below q; replace ab := ab.trans (q.mono ab.size); clear q; have dp : Own w12 w1.heap.size _ := aO.get 0 _ rfl; have dg : Own w12 (w1.heap.size + 1) _ := aO.get 1 _ rfl; have du : Own w12 w2.heap.size _ := aR.get 0 _ rfl; have dv : Own w12 (w2.heap.size + 1) _ := aR.get 1 _ rfl; have dp0 := dp.cell 0 _ rfl; have dp1 := dp.cell 1 _ rfl; have dg0 := dg.cell 0 _ rfl; have dg1 := dg.cell 1 _ rfl; have du0 := du.cell 0 _ rfl; have du1 := du.cell 1 _ rfl; have dv0 := dv.cell 0 _ rfl; have dv1 := dv.cell 1 _ rfl; have dx0 := aX.cell 0 _ rfl; have dx1 := aX.cell 1 _ rfl)
          all_goals first
            | (go_roundg 1
               case measure => omega
               case rel => exact ⟨2, by omega, by go_num, ⟨aO, aR, aQ, ab⟩⟩)
            | (exfalso; revert HN; simp [*])
          all_goals first
            | (refine cutL1 (g := g) ?_; assumption)
            | (refine cutL2 ?_; assumption)
            | (refine cutL3 ?_; assumption)
        · have aO := sO.alloc (.cells #[.int .i64 h, .int .i64 h] 24)
          have aR := sR.alloc (.cells #[.int .i64 h, .int .i64 h] 24)
          have aQ := sQ.alloc (.cells #[.int .i64 h, .int .i64 h] 24)
          have aX := Own.new wr #[.int .i64 h, .int .i64 h] 24
          have ab := sb.alloc sb.size (.cells #[.int .i64 h, .int .i64 h] 24)
          clear S sO sR sQ sb cp cu cv cp0 cp1 cu0 cu1 cv0 cv1
          (have dp : Own _ w1.heap.size _ := aO.get 0 _ rfl; have dg : Own _ (w1.heap.size + 1) _ := aO.get 1 _ rfl; have du : Own _ w2.heap.size _ := aR.get 0 _ rfl; have dv : Own _ (w2.heap.size + 1) _ := aR.get 1 _ rfl; have dp0 := dp.cell 0 _ rfl; have dp1 := dp.cell 1 _ rfl; have dg0 := dg.cell 0 _ rfl; have dg1 := dg.cell 1 _ rfl; have du0 := du.cell 0 _ rfl; have du1 := du.cell 1 _ rfl; have dv0 := dv.cell 0 _ rfl; have dv1 := dv.cell 1 _ rfl; have dx0 := aX.cell 0 _ rfl; have dx1 := aX.cell 1 _ rfl)
          have HN := HZ.out h
          go_wp2_with (go_at_call 14; refine (implIs _ _ _ _ _).mono ?_; rintro e w12 ⟨rfl, q⟩; replace aO := aO.below q; replace aR := aR.below q; replace aQ := aQ.below q; replace aX := aX.below q; replace ab := ab.trans (q.mono ab.size); clear q; have dp : Own w12 w1.heap.size _ := aO.get 0 _ rfl; have dg : Own w12 (w1.heap.size + 1) _ := aO.get 1 _ rfl; have du : Own w12 w2.heap.size _ := aR.get 0 _ rfl; have dv : Own w12 (w2.heap.size + 1) _ := aR.get 1 _ rfl; have dp0 := dp.cell 0 _ rfl; have dp1 := dp.cell 1 _ rfl; have dg0 := dg.cell 0 _ rfl; have dg1 := dg.cell 1 _ rfl; have du0 := du.cell 0 _ rfl; have du1 := du.cell 1 _ rfl; have dv0 := dv.cell 0 _ rfl; have dv1 := dv.cell 1 _ rfl; have dx0 := aX.cell 0 _ rfl; have dx1 := aX.cell 1 _ rfl)
          all_goals first
            | (go_roundg 0
               case measure => omega
               case rel => exact ⟨3, by omega, by go_num, ⟨aO, aR, aQ, ab⟩⟩)
            | (exfalso; revert HN; simp [*])
          all_goals first
            | (refine cutL1 (g := g) ?_; assumption)
            | (refine cutL2 ?_; assumption)
            | (refine cutL3 ?_; assumption)
  · clear e2
    go_wp2_with first
      | (go_at_call 16; refine (m1 _).mono ?_; clear m1; rintro e w2 ⟨rfl, q⟩; replace O := O.below q; replace hb := hb.trans (q.mono hb.size); clear q; have R := owns2 w2 #[.int .i64 0, .int .i64 0] #[.int .i64 0, .int .i64 0] 24; replace O := (O.alloc (.cells #[.int .i64 0, .int .i64 0] 24)).alloc (.cells #[.int .i64 0, .int .i64 0] 24); have hz2 := hb.size; replace hb := (hb.alloc hb.size (.cells #[.int .i64 0, .int .i64 0] 24)).alloc (by simp; omega) (.cells #[.int .i64 0, .int .i64 0] 24); have cp : Own _ (w1.heap.size) _ := O.get 0 _ rfl; have cp0 := cp.cell 0 _ rfl; have cp1 := cp.cell 1 _ rfl; have cg : Own _ (w1.heap.size + 1) _ := O.get 1 _ rfl; have cg0 := cg.cell 0 _ rfl; have cg1 := cg.cell 1 _ rfl; have cu : Own _ (w2.heap.size) _ := R.get 0 _ rfl; have c0 := cu.cell 0 _ rfl; have c0 := cu.cell 1 _ rfl; have cv : Own _ (w2.heap.size + 1) _ := R.get 1 _ rfl; have c0 := cv.cell 0 _ rfl; have c0 := cv.cell 1 _ rfl)
      | (go_at_call 17; refine (m2 _).mono ?_; clear m2; rintro e w3 ⟨rfl, q⟩; replace O := O.below q; replace R := R.below q; replace hb := hb.trans (q.mono hb.size); clear q; replace O := (O.alloc (.cells #[.int .i64 0, .int .i64 0] 24)).alloc (.cells #[.int .i64 0, .int .i64 0] 24); replace R := (R.alloc (.cells #[.int .i64 0, .int .i64 0] 24)).alloc (.cells #[.int .i64 0, .int .i64 0] 24); have hz3 := hb.size; replace hb := (hb.alloc hb.size (.cells #[.int .i64 0, .int .i64 0] 24)).alloc (by simp; omega) (.cells #[.int .i64 0, .int .i64 0] 24); have cp : Own _ (w1.heap.size) _ := O.get 0 _ rfl; have cp0 := cp.cell 0 _ rfl; have cp1 := cp.cell 1 _ rfl; have cg : Own _ (w1.heap.size + 1) _ := O.get 1 _ rfl; have cg0 := cg.cell 0 _ rfl; have cg1 := cg.cell 1 _ rfl; have cu : Own _ (w2.heap.size) _ := R.get 0 _ rfl; have c0 := cu.cell 0 _ rfl; have c0 := cu.cell 1 _ rfl; have cv : Own _ (w2.heap.size + 1) _ := R.get 1 _ rfl; have c0 := cv.cell 0 _ rfl; have c0 := cv.cell 1 _ rfl)
    go_ret
    exact ⟨rfl, hb⟩

end Go.Proofs.Yteohgmmenlinbab
