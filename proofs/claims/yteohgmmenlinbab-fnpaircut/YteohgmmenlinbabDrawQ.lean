/- The contracts of the drawing of two pairs, as the laws ask for it. -/
import Derived.Test.YteohgmmenlinbabDrawP
namespace Go.Proofs.Yteohgmmenlinbab
open Go.ChangeShapes Go.WideShapes Go.ChangeAt Go.RowKit
set_option linter.unusedVariables false

theorem pairsEndR {fn : Func} (hres : fn.results = #[.tmp 2, .cell 3 24, .cell 4 24]) {w W : World} {T : Array Value} {n x y x' y' : Int} (rs : Own W w.heap.size [.int .i64 x, .int .i64 y]) (rs' : Own W (w.heap.size + 1) [.int .i64 x', .int .i64 y']) (hb : Below w.heap.size w W)
    (a1 : (Lit.int .i64 x).wf = true) (a2 : (Lit.int .i64 y).wf = true) (a3 : (Lit.int .i64 x').wf = true) (a4 : (Lit.int .i64 y').wf = true)
    (h2 : T.getD 2 undef = .int .i64 n) (h3 : T.getD 3 undef = .pointer (some ⟨w.heap.size, 0, none⟩)) (h4 : T.getD 4 undef = .pointer (some ⟨w.heap.size + 1, 0, none⟩)) :
    bodyPost Try.prog fn (PairsOut w) Exit.ret { tmps := T, defers := [] } W := by
  have c0 := rs.cell 0 _ rfl
  have c1 := rs.cell 1 _ rfl
  have d0 := rs'.cell 0 _ rfl
  have d1 := rs'.cell 1 _ rfl
  refine bodyPost_ret (v := .tuple #[.int .i64 n, .agg #[.int .i64 x, .int .i64 y], .agg #[.int .i64 x', .int .i64 y']]) ?_ rfl ⟨n, x, y, x', y', rfl, a1, a2, a3, a4, hb⟩
  simp at h2 h3 h4
  simp [results, hres, go_sem, h2, h3, h4, c0, c1, d0, d1]

theorem drawMeet (w : World) (a : Option Addr) (len cap : Nat) (hc : Code8 w a len) (hl : len ≤ cap) (hm : len ≤ 1048576) :
    Calls Try.prog 18 #[.slice a len cap] w (PairsOut w) := by
  have O := owns2 w #[.int .i64 0, .int .i64 0] #[.int .i64 0, .int .i64 0] 24
  have hb0 := ((Below.refl _ w).alloc (Nat.le_refl _) (.cells #[.int .i64 0, .int .i64 0] 24)).alloc (by simp) (.cells #[.int .i64 0, .int .i64 0] 24)
  have hc1 : Code8 ((w.alloc (.cells #[.int .i64 0, .int .i64 0] 24)).alloc (.cells #[.int .i64 0, .int .i64 0] 24)) a len := by
    rcases hc with hc | ⟨rb, ro, ha, hlt, hcell⟩
    · exact .inl hc
    · refine .inr ⟨rb, ro, ha, by simp; omega, fun j hj => ?_⟩
      obtain ⟨z, z0, z1, hz⟩ := hcell j hj
      exact ⟨z, z0, z1, (hb0.cell (p := ⟨rb, ro + j, none⟩) hlt).trans hz⟩
  have ho := pairs _ a len cap hc1 hl hm
  clear hc hc1
  go_enter Try.func18, Try.ntmps18
  go_wp2_with first
    | (go_at_call 49; go_must (refine ho.mono ?_); clear ho; rintro e w1 ⟨n, x, y, x', y', rfl, a1, a2, a3, a4, q⟩; replace O := O.below q; have hb := hb0.trans (q.mono hb0.size); have b0 : Own w1 w.heap.size _ := O.get 0 _ rfl; have b1 : Own w1 (w.heap.size + 1) _ := O.get 1 _ rfl; have OX := owns2 w1 #[.int .i64 x, .int .i64 y] #[.int .i64 x', .int .i64 y'] 24; replace b0 := (b0.alloc (.cells #[.int .i64 x, .int .i64 y] 24)).alloc (.cells #[.int .i64 x', .int .i64 y'] 24); replace b1 := (b1.alloc (.cells #[.int .i64 x, .int .i64 y] 24)).alloc (.cells #[.int .i64 x', .int .i64 y'] 24); have hz := hb.size; replace hb := (hb.alloc hb.size (.cells #[.int .i64 x, .int .i64 y] 24)).alloc (by simp; omega) (.cells #[.int .i64 x', .int .i64 y'] 24))
  generalize (w1.alloc (.cells #[.int .i64 x, .int .i64 y] 24)).alloc (.cells #[.int .i64 x', .int .i64 y'] 24) = WX at *
  have hlt : w.heap.size + 1 < w1.heap.size := (O.get 1 _ rfl).lt
  have n1 : w1.heap.size ≠ w.heap.size := by omega
  have n2 : w1.heap.size ≠ w.heap.size + 1 := by omega
  have n3 : w1.heap.size + 1 ≠ w.heap.size := by omega
  have n4 : w1.heap.size + 1 ≠ w.heap.size + 1 := by omega
  have n5 : w.heap.size ≠ w1.heap.size := by omega
  have n6 : w.heap.size + 1 ≠ w1.heap.size := by omega
  have n7 : w.heap.size ≠ w1.heap.size + 1 := by omega
  have n8 : w.heap.size + 1 ≠ w1.heap.size + 1 := by omega
  have bx : Own WX w1.heap.size _ := OX.get 0 _ rfl
  have by' : Own WX (w1.heap.size + 1) _ := OX.get 1 _ rfl
  have c0 := b0.cell 0 _ rfl
  have c1 := b0.cell 1 _ rfl
  have d0 := b1.cell 0 _ rfl
  have d1 := b1.cell 1 _ rfl
  have f0 := b0.frz 0 _ rfl
  have f1 := b0.frz 1 _ rfl
  have g0 := b1.frz 0 _ rfl
  have g1 := b1.frz 1 _ rfl
  have x0 := bx.cell 0 _ rfl
  have x1 := bx.cell 1 _ rfl
  have y0 := by'.cell 0 _ rfl
  have y1 := by'.cell 1 _ rfl
  go_region
  go_wp2
  exact pairsEndR rfl ((((b0.set (i := 0) (.int .i64 x) (by simp)).set (i := 1) (.int .i64 y) (by simp)).other (j := w.heap.size + 1) (i := 0) _ (by omega)).other (j := w.heap.size + 1) (i := 1) _ (by omega)).drew
    ((((b1.other (j := w.heap.size) (i := 0) _ (by omega)).other (j := w.heap.size) (i := 1) _ (by omega)).set (i := 0) (.int .i64 x') (by simp)).set (i := 1) (.int .i64 y') (by simp)).drew
    ((((hb.setCell (p := ⟨w.heap.size, 0, none⟩) (Nat.le_refl _) _).setCell (p := ⟨w.heap.size, 1, none⟩) (Nat.le_refl _) _).setCell (p := ⟨w.heap.size + 1, 0, none⟩) (Nat.le_succ _) _).setCell (p := ⟨w.heap.size + 1, 1, none⟩) (Nat.le_succ _) _).drew a1 a2 a3 a4 rfl rfl rfl

theorem drawCut (w : World) (a : Option Addr) (len cap : Nat) (hc : Code8 w a len) (hl : len ≤ cap) (hm : len ≤ 1048576) :
    Calls Try.prog 15 #[.slice a len cap] w (PairsOut w) := by
  have O := owns2 w #[.int .i64 0, .int .i64 0] #[.int .i64 0, .int .i64 0] 24
  have hb0 := ((Below.refl _ w).alloc (Nat.le_refl _) (.cells #[.int .i64 0, .int .i64 0] 24)).alloc (by simp) (.cells #[.int .i64 0, .int .i64 0] 24)
  have hc1 : Code8 ((w.alloc (.cells #[.int .i64 0, .int .i64 0] 24)).alloc (.cells #[.int .i64 0, .int .i64 0] 24)) a len := by
    rcases hc with hc | ⟨rb, ro, ha, hlt, hcell⟩
    · exact .inl hc
    · refine .inr ⟨rb, ro, ha, by simp; omega, fun j hj => ?_⟩
      obtain ⟨z, z0, z1, hz⟩ := hcell j hj
      exact ⟨z, z0, z1, (hb0.cell (p := ⟨rb, ro + j, none⟩) hlt).trans hz⟩
  have ho := pairs _ a len cap hc1 hl hm
  clear hc hc1
  go_enter Try.func15, Try.ntmps15
  go_wp2_with first
    | (go_at_call 49; go_must (refine ho.mono ?_); clear ho; rintro e w1 ⟨n, x, y, x', y', rfl, a1, a2, a3, a4, q⟩; replace O := O.below q; have hb := hb0.trans (q.mono hb0.size); have b0 : Own w1 w.heap.size _ := O.get 0 _ rfl; have b1 : Own w1 (w.heap.size + 1) _ := O.get 1 _ rfl; have OX := owns2 w1 #[.int .i64 x, .int .i64 y] #[.int .i64 x', .int .i64 y'] 24; replace b0 := (b0.alloc (.cells #[.int .i64 x, .int .i64 y] 24)).alloc (.cells #[.int .i64 x', .int .i64 y'] 24); replace b1 := (b1.alloc (.cells #[.int .i64 x, .int .i64 y] 24)).alloc (.cells #[.int .i64 x', .int .i64 y'] 24); have hz := hb.size; replace hb := (hb.alloc hb.size (.cells #[.int .i64 x, .int .i64 y] 24)).alloc (by simp; omega) (.cells #[.int .i64 x', .int .i64 y'] 24))
  generalize (w1.alloc (.cells #[.int .i64 x, .int .i64 y] 24)).alloc (.cells #[.int .i64 x', .int .i64 y'] 24) = WX at *
  have hlt : w.heap.size + 1 < w1.heap.size := (O.get 1 _ rfl).lt
  have n1 : w1.heap.size ≠ w.heap.size := by omega
  have n2 : w1.heap.size ≠ w.heap.size + 1 := by omega
  have n3 : w1.heap.size + 1 ≠ w.heap.size := by omega
  have n4 : w1.heap.size + 1 ≠ w.heap.size + 1 := by omega
  have n5 : w.heap.size ≠ w1.heap.size := by omega
  have n6 : w.heap.size + 1 ≠ w1.heap.size := by omega
  have n7 : w.heap.size ≠ w1.heap.size + 1 := by omega
  have n8 : w.heap.size + 1 ≠ w1.heap.size + 1 := by omega
  have bx : Own WX w1.heap.size _ := OX.get 0 _ rfl
  have by' : Own WX (w1.heap.size + 1) _ := OX.get 1 _ rfl
  have c0 := b0.cell 0 _ rfl
  have c1 := b0.cell 1 _ rfl
  have d0 := b1.cell 0 _ rfl
  have d1 := b1.cell 1 _ rfl
  have f0 := b0.frz 0 _ rfl
  have f1 := b0.frz 1 _ rfl
  have g0 := b1.frz 0 _ rfl
  have g1 := b1.frz 1 _ rfl
  have x0 := bx.cell 0 _ rfl
  have x1 := bx.cell 1 _ rfl
  have y0 := by'.cell 0 _ rfl
  have y1 := by'.cell 1 _ rfl
  go_region
  go_wp2
  exact pairsEndR rfl ((((b0.set (i := 0) (.int .i64 x') (by simp)).set (i := 1) (.int .i64 y') (by simp)).other (j := w.heap.size + 1) (i := 0) _ (by omega)).other (j := w.heap.size + 1) (i := 1) _ (by omega)).drew
    ((((b1.other (j := w.heap.size) (i := 0) _ (by omega)).other (j := w.heap.size) (i := 1) _ (by omega)).set (i := 0) (.int .i64 x) (by simp)).set (i := 1) (.int .i64 y) (by simp)).drew
    ((((hb.setCell (p := ⟨w.heap.size, 0, none⟩) (Nat.le_refl _) _).setCell (p := ⟨w.heap.size, 1, none⟩) (Nat.le_refl _) _).setCell (p := ⟨w.heap.size + 1, 0, none⟩) (Nat.le_succ _) _).setCell (p := ⟨w.heap.size + 1, 1, none⟩) (Nat.le_succ _) _).drew a3 a4 a1 a2 rfl rfl rfl

end Go.Proofs.Yteohgmmenlinbab
