/- FnPairMeet's walk: it returns true, whatever bytes come in. -/
import Derived.Test.YteohgmmenlinbabPairM
import Derived.Test.YteohgmmenlinbabPairHI
import Derived.Test.YteohgmmenlinbabPairC
import Derived.Test.YteohgmmenlinbabDrawM
import Derived.Test.YteohgmmenlinbabDrawQ
import Derived.Test.YteohgmmenlinbabQuiet
namespace Go.Proofs.Yteohgmmenlinbab
open Go.ChangeShapes Go.WideShapes Go.ChangeAt Go.RowKit
set_option linter.unusedVariables false

theorem Code8.belowM {w w' : World} {a : Option Addr} {len : Nat} (h : Code8 w a len) (q : Below w.heap.size w w') : Code8 w' a len := by
  rcases h with h | ⟨rb, ro, ha, hlt, hcell⟩
  · exact .inl h
  · refine .inr ⟨rb, ro, ha, Nat.lt_of_lt_of_le hlt q.size, fun j hj => ?_⟩
    obtain ⟨z, z0, z1, hz⟩ := hcell j hj
    exact ⟨z, z0, z1, (q.cell (p := ⟨rb, ro + j, none⟩) hlt).trans hz⟩

theorem meet_comm (n x0 y0 x1 y1 : Int) : meetB n x0 y0 x1 y1 = meetB n x1 y1 x0 y0 := by
  unfold meetB
  rw [Int.max_comm, Int.min_comm]
  cases pokI n x0 y0 <;> cases pokI n x1 y1 <;> rfl

theorem hull_comm (n x0 y0 x1 y1 : Int) : hullB n x0 y0 x1 y1 = hullB n x1 y1 x0 y0 := by
  unfold hullB
  rw [Bool.and_comm]

/-- What the hull of two ok pairs is, in numbers. -/
theorem meet_facts {n x0 y0 x1 y1 hx hy : Int} (A : pokI n x0 y0 = true) (B : pokI n x1 y1 = true) (ex : hx = min x0 x1) (ey : hy = max y0 y1) :
    isB x0 y0 hx hy = true ∧ isB x1 y1 hx hy = true ∧ meetB n x0 y0 hx hy = true ∧ max x0 hx = x0 ∧ min y0 hy = y0 ∧
    ((Lit.int .i64 x0).wf = true → (Lit.int .i64 x1).wf = true → (Lit.int .i64 hx).wf = true) ∧ ((Lit.int .i64 y0).wf = true → (Lit.int .i64 y1).wf = true → (Lit.int .i64 hy).wf = true) := by
  have A' := pok_iff.1 A
  have B' := pok_iff.1 B
  have o1 : okI n hx = true := by rw [ex]; rcases min_or x0 x1 with h | h <;> rw [h] <;> simp [A', B']
  have o2 : okI n hy = true := by rw [ey]; rcases max_or y0 y1 with h | h <;> rw [h] <;> simp [A', B']
  have H : pokI n hx hy = true := pok_iff.2 ⟨o1, o2, by omega, by omega, by omega⟩
  refine ⟨?_, ?_, ?_, by omega, by omega, ?_, ?_⟩
  · unfold isB; simp only [Bool.and_eq_true, decide_eq_true_eq]; omega
  · unfold isB; simp only [Bool.and_eq_true, decide_eq_true_eq]; omega
  · unfold meetB; rw [A, H]; simp only [Bool.true_and, decide_eq_true_eq]; omega
  · intro h h'; rw [ex]; rcases min_or x0 x1 with e | e <;> rw [e] <;> assumption
  · intro h h'; rw [ey]; rcases max_or y0 y1 with e | e <;> rw [e] <;> assumption

theorem meet_fin {n x0 y0 x1 y1 mx my : Int} {mk : Bool} (A : pokI n x0 y0 = true) (B : pokI n x1 y1 = true) (ex : mx = (if meetB n x0 y0 x1 y1 = true then max x0 x1 else 0)) (ey : my = (if meetB n x0 y0 x1 y1 = true then min y0 y1 else 0)) (ek : mk = meetB n x0 y0 x1 y1) (z : Int) :
    (isB z z x0 y0 && isB z z x1 y1) = (mk && isB z z mx my) := by
  have em : meetB n x0 y0 x1 y1 = decide (max x0 x1 ≤ min y0 y1) := by unfold meetB; rw [A, B]; simp
  by_cases h : max x0 x1 ≤ min y0 y1
  · rw [em, decide_eq_true h, if_pos rfl] at ex ey
    rw [em, decide_eq_true h] at ek
    rw [ex, ey, ek]
    unfold isB
    rw [Bool.eq_iff_iff]
    simp only [Bool.and_eq_true, decide_eq_true_eq, true_and]
    omega
  · rw [em, decide_eq_false h] at ek
    rw [ek]
    unfold isB
    rw [Bool.eq_iff_iff]
    simp only [Bool.and_eq_true, decide_eq_true_eq, Bool.false_and, Bool.false_eq_true, iff_false]
    omega

set_option maxRecDepth 20000 in
set_option maxHeartbeats 8000000 in
theorem walkMeet (w : World) (a : Option Addr) (len cap : Nat) (hc : len ≤ 1048576 → Code8 w a len) (hl : len ≤ cap) (hm : len ≤ maxLen)
    (a2 : Option Addr) (len2 cap2 : Nat) (hc2 : len2 ≤ 1048576 → Code8 w a2 len2) (hl2 : len2 ≤ cap2) (hm2 : len2 ≤ maxLen) :
    Calls Try.prog 5 #[.slice a len cap, .slice a2 len2 cap2] w fun e w' => e = .returned (.bool true) ∧ Below w.heap.size w w' := by
  unfold maxLen at hm hm2
  by_cases hbig : 1048576 < len
  · have hbig' : 1048576 < (len : Int) := by omega
    go_enter Try.func5, Try.ntmps5
    go_wp2
    go_ret
    exact ⟨rfl, Below.refl _ _⟩
  by_cases hbig2 : 1048576 < len2
  · have hbig' : 1048576 < (len2 : Int) := by omega
    have hb3 : ¬ 1048576 < (len : Int) := by omega
    go_enter Try.func5, Try.ntmps5
    go_wp2
    go_ret
    exact ⟨rfl, Below.refl _ _⟩
  have ho := drawMeet w a len cap (hc (by omega)) hl (by omega)
  have hC2 := hc2 (by omega)
  have e2 := fun W q => goodPair W a2 len2 cap2 (Code8.belowM hC2 q) hl2 (by omega)
  have hb3 : ¬ 1048576 < (len : Int) := by omega
  have hb4 : ¬ 1048576 < (len2 : Int) := by omega
  clear hc hm hc2 hm2 hC2
  go_enter Try.func5, Try.ntmps5
  go_wp2_with (go_at_call 18; refine ho.mono ?_; clear ho; rintro e w1 ⟨n, x0, y0, x1, y1, rfl, a1, a2', a3, a4, hb⟩)
  have O := owns2 w1 #[.int .i64 x0, .int .i64 y0] #[.int .i64 x1, .int .i64 y1] 24
  have hz1 := hb.size
  replace hb := (hb.alloc hb.size (.cells #[.int .i64 x0, .int .i64 y0] 24)).alloc (by simp; omega) (.cells #[.int .i64 x1, .int .i64 y1] 24)
  have ca : Own _ w1.heap.size _ := O.get 0 _ rfl
  have cb : Own _ (w1.heap.size + 1) _ := O.get 1 _ rfl
  have ca0 := ca.cell 0 _ rfl
  have ca1 := ca.cell 1 _ rfl
  have cb0 := cb.cell 0 _ rfl
  have cb1 := cb.cell 1 _ rfl
  have m1 := fun W => implMeet W n x0 y0 x1 y1 a1 a2' a3 a4
  have m2 := fun W => implMeet W n x1 y1 x0 y0 a3 a4 a1 a2'
  have h1 := fun W => implHull W n x0 y0 x1 y1 a1 a2' a3 a4
  have h2 := fun W => implHull W n x1 y1 x0 y0 a3 a4 a1 a2'
  have k1 := fun W => specPairOk W n x0 y0 a1 a2'
  have k2 := fun W => specPairOk W n x1 y1 a3 a4
  rw [meet_comm n x1 y1 x0 y0, Int.max_comm x1 x0, Int.min_comm y1 y0] at m2
  rw [hull_comm n x1 y1 x0 y0, Int.min_comm x1 x0, Int.max_comm y1 y0] at h2
  by_cases hh : hullB n x0 y0 x1 y1 = true
  · rw [if_pos hh, if_pos hh, hh] at h1 h2
    have hh' := hh
    unfold hullB at hh'
    rw [Bool.and_eq_true] at hh'
    obtain ⟨A, B⟩ := hh'
    rw [A] at k1
    rw [B] at k2
    obtain ⟨hx, ehx⟩ : ∃ t, t = min x0 x1 := ⟨_, rfl⟩
    obtain ⟨hy, ehy⟩ : ∃ t, t = max y0 y1 := ⟨_, rfl⟩
    rw [← ehx, ← ehy] at h1 h2
    obtain ⟨mx, emx⟩ : ∃ t, t = (if meetB n x0 y0 x1 y1 = true then max x0 x1 else 0) := ⟨_, rfl⟩
    obtain ⟨my, emy⟩ : ∃ t, t = (if meetB n x0 y0 x1 y1 = true then min y0 y1 else 0) := ⟨_, rfl⟩
    obtain ⟨mk, emk⟩ : ∃ t, t = meetB n x0 y0 x1 y1 := ⟨_, rfl⟩
    rw [← emx, ← emy, ← emk] at m1 m2
    have HF : Hid (hx = min x0 x1 ∧ hy = max y0 y1 ∧ mx = (if meetB n x0 y0 x1 y1 = true then max x0 x1 else 0) ∧ my = (if meetB n x0 y0 x1 y1 = true then min y0 y1 else 0) ∧ mk = meetB n x0 y0 x1 y1 ∧ pokI n x0 y0 = true ∧ pokI n x1 y1 = true) := ⟨ehx, ehy, emx, emy, emk, A, B⟩
    clear ehx ehy emx emy emk A B hh
    go_wp2_with first
      | (go_at_call 19; refine (m1 _).mono ?_; clear m1; rintro e w2 ⟨rfl, q⟩; replace O := O.below q; replace hb := hb.trans (q.mono hb.size); clear q; have ca : Own _ (w1.heap.size) _ := (O.alloc (.cells #[.int .i64 mx, .int .i64 my] 24)).get 0 _ rfl; have ca0 := ca.cell 0 _ rfl; have ca1 := ca.cell 1 _ rfl; have cb : Own _ (w1.heap.size + 1) _ := (O.alloc (.cells #[.int .i64 mx, .int .i64 my] 24)).get 1 _ rfl; have cb0 := cb.cell 0 _ rfl; have cb1 := cb.cell 1 _ rfl)
      | (go_at_call 19; refine (m2 _).mono ?_; clear m2; rintro e w3 ⟨rfl, q⟩; replace O := (O.alloc _).below q; have om := (Own.new w2 _ _).below q; have hz := hb.size; replace hb := (hb.alloc hb.size _).trans (q.mono (by simp; omega)); clear q hz; have ca : Own _ (w1.heap.size) _ := (O.alloc (.cells #[.int .i64 mx, .int .i64 my] 24)).get 0 _ rfl; have ca0 := ca.cell 0 _ rfl; have ca1 := ca.cell 1 _ rfl; have cb : Own _ (w1.heap.size + 1) _ := (O.alloc (.cells #[.int .i64 mx, .int .i64 my] 24)).get 1 _ rfl; have cb0 := cb.cell 0 _ rfl; have cb1 := cb.cell 1 _ rfl; have com0 := (om.alloc (.cells #[.int .i64 mx, .int .i64 my] 24)).cell 0 _ rfl; have com1 := (om.alloc (.cells #[.int .i64 mx, .int .i64 my] 24)).cell 1 _ rfl)
      | (go_at_call 20; refine (h1 _).mono ?_; clear h1; rintro e w4 ⟨rfl, q⟩; replace O := (O.alloc _).below q; replace om := (om.alloc _).below q; have on := (Own.new w3 _ _).below q; have hz := hb.size; replace hb := (hb.alloc hb.size _).trans (q.mono (by simp; omega)); clear q hz; have ca : Own _ (w1.heap.size) _ := (O.alloc (.cells #[.int .i64 hx, .int .i64 hy] 24)).get 0 _ rfl; have ca0 := ca.cell 0 _ rfl; have ca1 := ca.cell 1 _ rfl; have cb : Own _ (w1.heap.size + 1) _ := (O.alloc (.cells #[.int .i64 hx, .int .i64 hy] 24)).get 1 _ rfl; have cb0 := cb.cell 0 _ rfl; have cb1 := cb.cell 1 _ rfl; have com0 := (om.alloc (.cells #[.int .i64 hx, .int .i64 hy] 24)).cell 0 _ rfl; have com1 := (om.alloc (.cells #[.int .i64 hx, .int .i64 hy] 24)).cell 1 _ rfl; have con0 := (on.alloc (.cells #[.int .i64 hx, .int .i64 hy] 24)).cell 0 _ rfl; have con1 := (on.alloc (.cells #[.int .i64 hx, .int .i64 hy] 24)).cell 1 _ rfl)
      | (go_at_call 20; refine (h2 _).mono ?_; clear h2; rintro e w5 ⟨rfl, q⟩; replace O := (O.alloc _).below q; replace om := (om.alloc _).below q; replace on := (on.alloc _).below q; have oh := (Own.new w4 _ _).below q; have hz := hb.size; replace hb := (hb.alloc hb.size _).trans (q.mono (by simp; omega)); clear q hz; have ca : Own _ (w1.heap.size) _ := (O.alloc (.cells #[.int .i64 hx, .int .i64 hy] 24)).get 0 _ rfl; have ca0 := ca.cell 0 _ rfl; have ca1 := ca.cell 1 _ rfl; have cb : Own _ (w1.heap.size + 1) _ := (O.alloc (.cells #[.int .i64 hx, .int .i64 hy] 24)).get 1 _ rfl; have cb0 := cb.cell 0 _ rfl; have cb1 := cb.cell 1 _ rfl; have com0 := (om.alloc (.cells #[.int .i64 hx, .int .i64 hy] 24)).cell 0 _ rfl; have com1 := (om.alloc (.cells #[.int .i64 hx, .int .i64 hy] 24)).cell 1 _ rfl; have con0 := (on.alloc (.cells #[.int .i64 hx, .int .i64 hy] 24)).cell 0 _ rfl; have con1 := (on.alloc (.cells #[.int .i64 hx, .int .i64 hy] 24)).cell 1 _ rfl; have coh0 := (oh.alloc (.cells #[.int .i64 hx, .int .i64 hy] 24)).cell 0 _ rfl; have coh1 := (oh.alloc (.cells #[.int .i64 hx, .int .i64 hy] 24)).cell 1 _ rfl)
      | (go_at_call 21; refine (k1 _).mono ?_; clear k1; rintro e w6 ⟨rfl, q⟩; replace O := (O.alloc _).below q; replace om := (om.alloc _).below q; replace on := (on.alloc _).below q; replace oh := (oh.alloc _).below q; have og := (Own.new w5 _ _).below q; have hz := hb.size; replace hb := (hb.alloc hb.size _).trans (q.mono (by simp; omega)); clear q hz; have ca : Own _ (w1.heap.size) _ := O.get 0 _ rfl; have ca0 := ca.cell 0 _ rfl; have ca1 := ca.cell 1 _ rfl; have cb : Own _ (w1.heap.size + 1) _ := O.get 1 _ rfl; have cb0 := cb.cell 0 _ rfl; have cb1 := cb.cell 1 _ rfl; have com0 := om.cell 0 _ rfl; have com1 := om.cell 1 _ rfl; have con0 := on.cell 0 _ rfl; have con1 := on.cell 1 _ rfl; have coh0 := oh.cell 0 _ rfl; have coh1 := oh.cell 1 _ rfl; have cog0 := og.cell 0 _ rfl; have cog1 := og.cell 1 _ rfl)
      | (go_at_call 21; refine (k2 _).mono ?_; clear k2; rintro e w7 ⟨rfl, q⟩; replace O := O.below q; replace om := om.below q; replace on := on.below q; replace oh := oh.below q; replace og := og.below q; replace hb := hb.trans (q.mono hb.size); clear q; have ca : Own _ (w1.heap.size) _ := O.get 0 _ rfl; have ca0 := ca.cell 0 _ rfl; have ca1 := ca.cell 1 _ rfl; have cb : Own _ (w1.heap.size + 1) _ := O.get 1 _ rfl; have cb0 := cb.cell 0 _ rfl; have cb1 := cb.cell 1 _ rfl; have com0 := om.cell 0 _ rfl; have com1 := om.cell 1 _ rfl; have con0 := on.cell 0 _ rfl; have con1 := on.cell 1 _ rfl; have coh0 := oh.cell 0 _ rfl; have coh1 := oh.cell 1 _ rfl; have cog0 := og.cell 0 _ rfl; have cog1 := og.cell 1 _ rfl)
    have FF := meet_facts HF.out.2.2.2.2.2.1 HF.out.2.2.2.2.2.2 HF.out.1 HF.out.2.1
    have i1 := fun W => implIs W x0 y0 hx hy
    have i2 := fun W => implIs W x1 y1 hx hy
    have m3 := fun W => implMeet W n x0 y0 hx hy a1 a2' (FF.2.2.2.2.2.1 a1 a3) (FF.2.2.2.2.2.2 a2' a4)
    rw [FF.1] at i1
    rw [FF.2.1] at i2
    rw [FF.2.2.1, if_pos rfl, if_pos rfl, FF.2.2.2.1, FF.2.2.2.2.1] at m3
    clear FF on og
    go_wp2_with first
      | (go_at_call 14; refine (i1 _).mono ?_; clear i1; rintro e w8 ⟨rfl, q⟩; replace O := O.below q; replace om := om.below q; replace oh := oh.below q; replace hb := hb.trans (q.mono hb.size); clear q; have ca : Own _ (w1.heap.size) _ := O.get 0 _ rfl; have ca0 := ca.cell 0 _ rfl; have ca1 := ca.cell 1 _ rfl; have cb : Own _ (w1.heap.size + 1) _ := O.get 1 _ rfl; have cb0 := cb.cell 0 _ rfl; have cb1 := cb.cell 1 _ rfl; have com0 := om.cell 0 _ rfl; have com1 := om.cell 1 _ rfl; have coh0 := oh.cell 0 _ rfl; have coh1 := oh.cell 1 _ rfl)
      | (go_at_call 14; refine (i2 _).mono ?_; clear i2; rintro e w9 ⟨rfl, q⟩; replace O := O.below q; replace om := om.below q; replace oh := oh.below q; replace hb := hb.trans (q.mono hb.size); clear q; have ca : Own _ (w1.heap.size) _ := O.get 0 _ rfl; have ca0 := ca.cell 0 _ rfl; have ca1 := ca.cell 1 _ rfl; have cb : Own _ (w1.heap.size + 1) _ := O.get 1 _ rfl; have cb0 := cb.cell 0 _ rfl; have cb1 := cb.cell 1 _ rfl; have com0 := om.cell 0 _ rfl; have com1 := om.cell 1 _ rfl; have coh0 := oh.cell 0 _ rfl; have coh1 := oh.cell 1 _ rfl)
      | (go_at_call 19; refine (m3 _).mono ?_; clear m3; rintro e w10 ⟨rfl, q⟩; replace O := O.below q; replace om := om.below q; replace oh := oh.below q; replace hb := hb.trans (q.mono hb.size); clear q; have ca : Own _ (w1.heap.size) _ := (O.alloc (.cells #[.int .i64 x0, .int .i64 y0] 24)).get 0 _ rfl; have ca0 := ca.cell 0 _ rfl; have ca1 := ca.cell 1 _ rfl; have cb : Own _ (w1.heap.size + 1) _ := (O.alloc (.cells #[.int .i64 x0, .int .i64 y0] 24)).get 1 _ rfl; have cb0 := cb.cell 0 _ rfl; have cb1 := cb.cell 1 _ rfl; have com0 := (om.alloc (.cells #[.int .i64 x0, .int .i64 y0] 24)).cell 0 _ rfl; have com1 := (om.alloc (.cells #[.int .i64 x0, .int .i64 y0] 24)).cell 1 _ rfl; have coh0 := (oh.alloc (.cells #[.int .i64 x0, .int .i64 y0] 24)).cell 0 _ rfl; have coh1 := (oh.alloc (.cells #[.int .i64 x0, .int .i64 y0] 24)).cell 1 _ rfl)
      | (go_at_call 9; refine (e2 _ (hb.alloc hb.size _)).mono ?_; clear e2; rintro e w11 ⟨n', z, z', rfl, -, -, -, -, q⟩; replace O := (O.alloc _).below q; replace om := (om.alloc _).below q; have hz := hb.size; replace hb := (hb.alloc hb.size _).trans (q.mono (by simp; omega)); clear q; have OX := owns2 w11 #[.int .i64 z, .int .i64 z'] #[.int .i64 z, .int .i64 z] 24; replace O := (O.alloc (.cells #[.int .i64 z, .int .i64 z'] 24)).alloc (.cells #[.int .i64 z, .int .i64 z] 24); replace om := (om.alloc (.cells #[.int .i64 z, .int .i64 z'] 24)).alloc (.cells #[.int .i64 z, .int .i64 z] 24); have hz11 := hb.size; replace hb := (hb.alloc hb.size (.cells #[.int .i64 z, .int .i64 z'] 24)).alloc (by simp; omega) (.cells #[.int .i64 z, .int .i64 z] 24); have HFin : Hid _ := meet_fin HF.out.2.2.2.2.2.1 HF.out.2.2.2.2.2.2 HF.out.2.2.1 HF.out.2.2.2.1 HF.out.2.2.2.2.1 z; clear HF; have bp : Own _ w1.heap.size _ := O.get 0 _ rfl; have bq : Own _ (w1.heap.size + 1) _ := O.get 1 _ rfl; have bt : Own _ (w11.heap.size + 1) _ := OX.get 1 _ rfl; have Cp0 := bp.cell 0 _ rfl; have Cp1 := bp.cell 1 _ rfl; have Cq0 := bq.cell 0 _ rfl; have Cq1 := bq.cell 1 _ rfl; have Cv0 := om.cell 0 _ rfl; have Cv1 := om.cell 1 _ rfl; have Ct0 := bt.cell 0 _ rfl; have Ct1 := bt.cell 1 _ rfl)
      | (go_at_call 14; refine (implIs _ _ _ _ _).mono ?_; rintro e w12 ⟨rfl, q⟩; replace O := O.below q; replace om := om.below q; replace OX := OX.below q; replace hb := hb.trans (q.mono hb.size); clear q; have bp : Own w12 w1.heap.size _ := O.get 0 _ rfl; have bq : Own w12 (w1.heap.size + 1) _ := O.get 1 _ rfl; have bt : Own w12 (w11.heap.size + 1) _ := OX.get 1 _ rfl; have Cp0 := bp.cell 0 _ rfl; have Cp1 := bp.cell 1 _ rfl; have Cq0 := bq.cell 0 _ rfl; have Cq1 := bq.cell 1 _ rfl; have Cv0 := om.cell 0 _ rfl; have Cv1 := om.cell 1 _ rfl; have Ct0 := bt.cell 0 _ rfl; have Ct1 := bt.cell 1 _ rfl)
    · have hF := HFin.out
      have e0 : isB z z x0 y0 = true := by assumption
      have e1 : mk = true := by assumption
      rw [e0, e1, Bool.true_and, Bool.true_and] at hF
      go_ret
      rw [hF, beq_self_eq_true]
      exact ⟨rfl, hb⟩
    · have hF := HFin.out
      have e0 : isB z z x0 y0 = true := by assumption
      have e1 : mk = false := by rw [← Bool.not_eq_true]; assumption
      rw [e0, e1, Bool.true_and, Bool.false_and] at hF
      go_ret
      rw [hF, Bool.not_false]
      exact ⟨rfl, hb⟩
    · have hF := HFin.out
      have e0 : isB z z x0 y0 = false := by rw [← Bool.not_eq_true]; assumption
      have e1 : mk = true := by assumption
      rw [e0, e1, Bool.false_and, Bool.true_and] at hF
      go_ret
      rw [← hF, Bool.not_false]
      exact ⟨rfl, hb⟩
    · go_ret
      exact ⟨rfl, hb⟩
  · have hh' := hh
    have hmB : meetB n x0 y0 x1 y1 = false := by
      unfold hullB at hh'
      unfold meetB
      cases hA : pokI n x0 y0 <;> cases hB : pokI n x1 y1 <;> simp_all
    rw [if_neg hh, if_neg hh] at h1 h2
    rw [Bool.not_eq_true] at hh
    rw [hh] at h1 h2
    rw [hmB, if_neg (by decide), if_neg (by decide)] at m1 m2
    unfold hullB at hh
    generalize pokI n x0 y0 = A at *
    generalize pokI n x1 y1 = B at *
    cases A
    · clear hh hh' hmB
      go_wp2_with first
        | (go_at_call 19; refine (m1 _).mono ?_; clear m1; rintro e w2 ⟨rfl, q⟩; replace O := O.below q; replace hb := hb.trans (q.mono hb.size); clear q; have ca : Own _ (w1.heap.size) _ := (O.alloc (.cells #[.int .i64 0, .int .i64 0] 24)).get 0 _ rfl; have ca0 := ca.cell 0 _ rfl; have ca1 := ca.cell 1 _ rfl; have cb : Own _ (w1.heap.size + 1) _ := (O.alloc (.cells #[.int .i64 0, .int .i64 0] 24)).get 1 _ rfl; have cb0 := cb.cell 0 _ rfl; have cb1 := cb.cell 1 _ rfl)
        | (go_at_call 19; refine (m2 _).mono ?_; clear m2; rintro e w3 ⟨rfl, q⟩; replace O := (O.alloc _).below q; have om := (Own.new w2 _ _).below q; have hz := hb.size; replace hb := (hb.alloc hb.size _).trans (q.mono (by simp; omega)); clear q hz; have ca : Own _ (w1.heap.size) _ := (O.alloc (.cells #[.int .i64 0, .int .i64 0] 24)).get 0 _ rfl; have ca0 := ca.cell 0 _ rfl; have ca1 := ca.cell 1 _ rfl; have cb : Own _ (w1.heap.size + 1) _ := (O.alloc (.cells #[.int .i64 0, .int .i64 0] 24)).get 1 _ rfl; have cb0 := cb.cell 0 _ rfl; have cb1 := cb.cell 1 _ rfl; have com0 := (om.alloc (.cells #[.int .i64 0, .int .i64 0] 24)).cell 0 _ rfl; have com1 := (om.alloc (.cells #[.int .i64 0, .int .i64 0] 24)).cell 1 _ rfl)
        | (go_at_call 20; refine (h1 _).mono ?_; clear h1; rintro e w4 ⟨rfl, q⟩; replace O := (O.alloc _).below q; replace om := (om.alloc _).below q; have on := (Own.new w3 _ _).below q; have hz := hb.size; replace hb := (hb.alloc hb.size _).trans (q.mono (by simp; omega)); clear q hz; have ca : Own _ (w1.heap.size) _ := (O.alloc (.cells #[.int .i64 0, .int .i64 0] 24)).get 0 _ rfl; have ca0 := ca.cell 0 _ rfl; have ca1 := ca.cell 1 _ rfl; have cb : Own _ (w1.heap.size + 1) _ := (O.alloc (.cells #[.int .i64 0, .int .i64 0] 24)).get 1 _ rfl; have cb0 := cb.cell 0 _ rfl; have cb1 := cb.cell 1 _ rfl; have com0 := (om.alloc (.cells #[.int .i64 0, .int .i64 0] 24)).cell 0 _ rfl; have com1 := (om.alloc (.cells #[.int .i64 0, .int .i64 0] 24)).cell 1 _ rfl; have con0 := (on.alloc (.cells #[.int .i64 0, .int .i64 0] 24)).cell 0 _ rfl; have con1 := (on.alloc (.cells #[.int .i64 0, .int .i64 0] 24)).cell 1 _ rfl)
        | (go_at_call 20; refine (h2 _).mono ?_; clear h2; rintro e w5 ⟨rfl, q⟩; replace O := (O.alloc _).below q; replace om := (om.alloc _).below q; replace on := (on.alloc _).below q; have oh := (Own.new w4 _ _).below q; have hz := hb.size; replace hb := (hb.alloc hb.size _).trans (q.mono (by simp; omega)); clear q hz; have ca : Own _ (w1.heap.size) _ := (O.alloc (.cells #[.int .i64 0, .int .i64 0] 24)).get 0 _ rfl; have ca0 := ca.cell 0 _ rfl; have ca1 := ca.cell 1 _ rfl; have cb : Own _ (w1.heap.size + 1) _ := (O.alloc (.cells #[.int .i64 0, .int .i64 0] 24)).get 1 _ rfl; have cb0 := cb.cell 0 _ rfl; have cb1 := cb.cell 1 _ rfl; have com0 := (om.alloc (.cells #[.int .i64 0, .int .i64 0] 24)).cell 0 _ rfl; have com1 := (om.alloc (.cells #[.int .i64 0, .int .i64 0] 24)).cell 1 _ rfl; have con0 := (on.alloc (.cells #[.int .i64 0, .int .i64 0] 24)).cell 0 _ rfl; have con1 := (on.alloc (.cells #[.int .i64 0, .int .i64 0] 24)).cell 1 _ rfl; have coh0 := (oh.alloc (.cells #[.int .i64 0, .int .i64 0] 24)).cell 0 _ rfl; have coh1 := (oh.alloc (.cells #[.int .i64 0, .int .i64 0] 24)).cell 1 _ rfl)
        | (go_at_call 21; refine (k1 _).mono ?_; clear k1; rintro e w6 ⟨rfl, q⟩; replace O := (O.alloc _).below q; replace om := (om.alloc _).below q; replace on := (on.alloc _).below q; replace oh := (oh.alloc _).below q; have og := (Own.new w5 _ _).below q; have hz := hb.size; replace hb := (hb.alloc hb.size _).trans (q.mono (by simp; omega)); clear q hz; have ca : Own _ (w1.heap.size) _ := O.get 0 _ rfl; have ca0 := ca.cell 0 _ rfl; have ca1 := ca.cell 1 _ rfl; have cb : Own _ (w1.heap.size + 1) _ := O.get 1 _ rfl; have cb0 := cb.cell 0 _ rfl; have cb1 := cb.cell 1 _ rfl; have com0 := om.cell 0 _ rfl; have com1 := om.cell 1 _ rfl; have con0 := on.cell 0 _ rfl; have con1 := on.cell 1 _ rfl; have coh0 := oh.cell 0 _ rfl; have coh1 := oh.cell 1 _ rfl; have cog0 := og.cell 0 _ rfl; have cog1 := og.cell 1 _ rfl)
        | (go_at_call 21; refine (k2 _).mono ?_; clear k2; rintro e w7 ⟨rfl, q⟩; replace O := O.below q; replace om := om.below q; replace on := on.below q; replace oh := oh.below q; replace og := og.below q; replace hb := hb.trans (q.mono hb.size); clear q; have ca : Own _ (w1.heap.size) _ := O.get 0 _ rfl; have ca0 := ca.cell 0 _ rfl; have ca1 := ca.cell 1 _ rfl; have cb : Own _ (w1.heap.size + 1) _ := O.get 1 _ rfl; have cb0 := cb.cell 0 _ rfl; have cb1 := cb.cell 1 _ rfl; have com0 := om.cell 0 _ rfl; have com1 := om.cell 1 _ rfl; have con0 := on.cell 0 _ rfl; have con1 := on.cell 1 _ rfl; have coh0 := oh.cell 0 _ rfl; have coh1 := oh.cell 1 _ rfl; have cog0 := og.cell 0 _ rfl; have cog1 := og.cell 1 _ rfl)
      go_ret
      exact ⟨rfl, hb⟩
    · cases B
      · clear hh hh' hmB
        go_wp2_with first
          | (go_at_call 19; refine (m1 _).mono ?_; clear m1; rintro e w2 ⟨rfl, q⟩; replace O := O.below q; replace hb := hb.trans (q.mono hb.size); clear q; have ca : Own _ (w1.heap.size) _ := (O.alloc (.cells #[.int .i64 0, .int .i64 0] 24)).get 0 _ rfl; have ca0 := ca.cell 0 _ rfl; have ca1 := ca.cell 1 _ rfl; have cb : Own _ (w1.heap.size + 1) _ := (O.alloc (.cells #[.int .i64 0, .int .i64 0] 24)).get 1 _ rfl; have cb0 := cb.cell 0 _ rfl; have cb1 := cb.cell 1 _ rfl)
          | (go_at_call 19; refine (m2 _).mono ?_; clear m2; rintro e w3 ⟨rfl, q⟩; replace O := (O.alloc _).below q; have om := (Own.new w2 _ _).below q; have hz := hb.size; replace hb := (hb.alloc hb.size _).trans (q.mono (by simp; omega)); clear q hz; have ca : Own _ (w1.heap.size) _ := (O.alloc (.cells #[.int .i64 0, .int .i64 0] 24)).get 0 _ rfl; have ca0 := ca.cell 0 _ rfl; have ca1 := ca.cell 1 _ rfl; have cb : Own _ (w1.heap.size + 1) _ := (O.alloc (.cells #[.int .i64 0, .int .i64 0] 24)).get 1 _ rfl; have cb0 := cb.cell 0 _ rfl; have cb1 := cb.cell 1 _ rfl; have com0 := (om.alloc (.cells #[.int .i64 0, .int .i64 0] 24)).cell 0 _ rfl; have com1 := (om.alloc (.cells #[.int .i64 0, .int .i64 0] 24)).cell 1 _ rfl)
          | (go_at_call 20; refine (h1 _).mono ?_; clear h1; rintro e w4 ⟨rfl, q⟩; replace O := (O.alloc _).below q; replace om := (om.alloc _).below q; have on := (Own.new w3 _ _).below q; have hz := hb.size; replace hb := (hb.alloc hb.size _).trans (q.mono (by simp; omega)); clear q hz; have ca : Own _ (w1.heap.size) _ := (O.alloc (.cells #[.int .i64 0, .int .i64 0] 24)).get 0 _ rfl; have ca0 := ca.cell 0 _ rfl; have ca1 := ca.cell 1 _ rfl; have cb : Own _ (w1.heap.size + 1) _ := (O.alloc (.cells #[.int .i64 0, .int .i64 0] 24)).get 1 _ rfl; have cb0 := cb.cell 0 _ rfl; have cb1 := cb.cell 1 _ rfl; have com0 := (om.alloc (.cells #[.int .i64 0, .int .i64 0] 24)).cell 0 _ rfl; have com1 := (om.alloc (.cells #[.int .i64 0, .int .i64 0] 24)).cell 1 _ rfl; have con0 := (on.alloc (.cells #[.int .i64 0, .int .i64 0] 24)).cell 0 _ rfl; have con1 := (on.alloc (.cells #[.int .i64 0, .int .i64 0] 24)).cell 1 _ rfl)
          | (go_at_call 20; refine (h2 _).mono ?_; clear h2; rintro e w5 ⟨rfl, q⟩; replace O := (O.alloc _).below q; replace om := (om.alloc _).below q; replace on := (on.alloc _).below q; have oh := (Own.new w4 _ _).below q; have hz := hb.size; replace hb := (hb.alloc hb.size _).trans (q.mono (by simp; omega)); clear q hz; have ca : Own _ (w1.heap.size) _ := (O.alloc (.cells #[.int .i64 0, .int .i64 0] 24)).get 0 _ rfl; have ca0 := ca.cell 0 _ rfl; have ca1 := ca.cell 1 _ rfl; have cb : Own _ (w1.heap.size + 1) _ := (O.alloc (.cells #[.int .i64 0, .int .i64 0] 24)).get 1 _ rfl; have cb0 := cb.cell 0 _ rfl; have cb1 := cb.cell 1 _ rfl; have com0 := (om.alloc (.cells #[.int .i64 0, .int .i64 0] 24)).cell 0 _ rfl; have com1 := (om.alloc (.cells #[.int .i64 0, .int .i64 0] 24)).cell 1 _ rfl; have con0 := (on.alloc (.cells #[.int .i64 0, .int .i64 0] 24)).cell 0 _ rfl; have con1 := (on.alloc (.cells #[.int .i64 0, .int .i64 0] 24)).cell 1 _ rfl; have coh0 := (oh.alloc (.cells #[.int .i64 0, .int .i64 0] 24)).cell 0 _ rfl; have coh1 := (oh.alloc (.cells #[.int .i64 0, .int .i64 0] 24)).cell 1 _ rfl)
          | (go_at_call 21; refine (k1 _).mono ?_; clear k1; rintro e w6 ⟨rfl, q⟩; replace O := (O.alloc _).below q; replace om := (om.alloc _).below q; replace on := (on.alloc _).below q; replace oh := (oh.alloc _).below q; have og := (Own.new w5 _ _).below q; have hz := hb.size; replace hb := (hb.alloc hb.size _).trans (q.mono (by simp; omega)); clear q hz; have ca : Own _ (w1.heap.size) _ := O.get 0 _ rfl; have ca0 := ca.cell 0 _ rfl; have ca1 := ca.cell 1 _ rfl; have cb : Own _ (w1.heap.size + 1) _ := O.get 1 _ rfl; have cb0 := cb.cell 0 _ rfl; have cb1 := cb.cell 1 _ rfl; have com0 := om.cell 0 _ rfl; have com1 := om.cell 1 _ rfl; have con0 := on.cell 0 _ rfl; have con1 := on.cell 1 _ rfl; have coh0 := oh.cell 0 _ rfl; have coh1 := oh.cell 1 _ rfl; have cog0 := og.cell 0 _ rfl; have cog1 := og.cell 1 _ rfl)
          | (go_at_call 21; refine (k2 _).mono ?_; clear k2; rintro e w7 ⟨rfl, q⟩; replace O := O.below q; replace om := om.below q; replace on := on.below q; replace oh := oh.below q; replace og := og.below q; replace hb := hb.trans (q.mono hb.size); clear q; have ca : Own _ (w1.heap.size) _ := O.get 0 _ rfl; have ca0 := ca.cell 0 _ rfl; have ca1 := ca.cell 1 _ rfl; have cb : Own _ (w1.heap.size + 1) _ := O.get 1 _ rfl; have cb0 := cb.cell 0 _ rfl; have cb1 := cb.cell 1 _ rfl; have com0 := om.cell 0 _ rfl; have com1 := om.cell 1 _ rfl; have con0 := on.cell 0 _ rfl; have con1 := on.cell 1 _ rfl; have coh0 := oh.cell 0 _ rfl; have coh1 := oh.cell 1 _ rfl; have cog0 := og.cell 0 _ rfl; have cog1 := og.cell 1 _ rfl)
        go_ret
        exact ⟨rfl, hb⟩
      · simp at hh

end Go.Proofs.Yteohgmmenlinbab
