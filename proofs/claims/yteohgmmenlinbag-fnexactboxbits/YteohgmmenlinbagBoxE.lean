/- The laws' own comparison of two lists of pairs and of two boxes that hold the same: contracts. -/
import Derived.Test.YteohgmmenlinbagBoxT
namespace Go.Proofs.Yteohgmmenlinbag
open Go.ChangeShapes Go.WideShapes Go.ChangeAt Go.RowKit
set_option linter.unusedVariables false

theorem eqPairS (w : World) (a b : Option Addr) (ps : List (Int × Int)) (len cap cap' : Nat) (hlen : ps.length = len) (ha : PairsAt w a ps) (hb : PairsAt w b ps) (hl : len ≤ cap) (hl' : len ≤ cap') (hm : len ≤ 1048576) :
    Calls Try.prog 34 #[.slice a len cap, .slice b len cap'] w fun e w' => e = .returned (.bool true) ∧ Below w.heap.size w w' := by
  have hA : Hid (PairsAt w a ps ∧ PairsAt w b ps) := ⟨ha, hb⟩
  clear ha hb
  go_enter Try.func34, Try.ntmps34
  go_wp2
  go_loopg [5] len (fun gq iv wr => ∃ i : Nat, i + gq = len ∧ iv = .int .i64 i ∧ Below w.heap.size w wr)
  case atStart => exact ⟨0, by omega, rfl, Below.refl _ _⟩
  case round =>
    obtain ⟨i, hi, rfl, hB⟩ := hrel
    by_cases hlast : i < len
    · have hne : ps ≠ [] := by intro e; rw [e] at hlen; simp at hlen; omega
      obtain ⟨rb, ro, e1, hlt1, hc1⟩ := hA.out.1.2.resolve_left hne
      obtain ⟨sb, so, e2, hlt2, hc2⟩ := hA.out.2.2.resolve_left hne
      subst e1 e2
      have hpi : ∃ p, ps[i]? = some p := ⟨ps[i]'(by omega), List.getElem?_eq_getElem (by omega)⟩
      obtain ⟨⟨lo, hi'⟩, hpi⟩ := hpi
      have hx : Hid ((rb < wr.heap.size ∧ wr.cell? ⟨rb, ro + i * 2, none⟩ = some (.int .i64 lo) ∧ wr.cell? ⟨rb, ro + i * 2 + 1, none⟩ = some (.int .i64 hi')) ∧ (sb < wr.heap.size ∧ wr.cell? ⟨sb, so + i * 2, none⟩ = some (.int .i64 lo) ∧ wr.cell? ⟨sb, so + i * 2 + 1, none⟩ = some (.int .i64 hi'))) :=
        ⟨⟨Nat.lt_of_lt_of_le hlt1 hB.size, (hB.cell (p := ⟨rb, ro + i * 2, none⟩) hlt1).trans (hc1 i (lo, hi') hpi).1, (hB.cell (p := ⟨rb, ro + i * 2 + 1, none⟩) hlt1).trans (hc1 i (lo, hi') hpi).2⟩,
         ⟨Nat.lt_of_lt_of_le hlt2 hB.size, (hB.cell (p := ⟨sb, so + i * 2, none⟩) hlt2).trans (hc2 i (lo, hi') hpi).1, (hB.cell (p := ⟨sb, so + i * 2 + 1, none⟩) hlt2).trans (hc2 i (lo, hi') hpi).2⟩⟩
      clear hc1 hc2 hpi hA
      have hil : (i : Int) < len := by omega
      go_wp2
      refine region_below (by kernel_rfl) (by kernel_rfl) ?_
      repeat (first
        | go_big_quiet_step (first
          | (intro hC; go_at_call 62; exact Calls.qb hC (eqPairSame _ lo hi'))
          | (intro _; rfl))
        | (go_big_quiet_want
           go_big_quiet_op
           refine ⟨.pointer (some ⟨rb, ro + i * 2, none⟩), ?_, ?_⟩
           · intro W hC
             go_simp
           go_big_quiet_on)
        | (go_big_quiet_want
           go_big_quiet_op
           refine ⟨.pointer (some ⟨sb, so + i * 2, none⟩), ?_, ?_⟩
           · intro W hC
             go_simp
           go_big_quiet_on)
        | (go_big_quiet_want
           go_big_quiet_op
           refine ⟨.agg #[.int .i64 lo, .int .i64 hi'], ?_, ?_⟩
           · intro W hC
             have r0 := (hC.cell (p := ⟨rb, ro + i * 2, none⟩) hx.out.1.1).trans hx.out.1.2.1
             have r1 := (hC.cell (p := ⟨rb, ro + i * 2 + 1, none⟩) hx.out.1.1).trans hx.out.1.2.2
             have r2 := (hC.cell (p := ⟨sb, so + i * 2, none⟩) hx.out.2.1).trans hx.out.2.2.1
             have r3 := (hC.cell (p := ⟨sb, so + i * 2 + 1, none⟩) hx.out.2.1).trans hx.out.2.2.2
             go_simp
           go_big_quiet_on))
      refine wpQuiet_nil ?_
      intro w4 q4
      replace hB := hB.trans (q4.mono hB.size)
      go_wp2
      go_roundg (len - (i + 1))
      case measure => omega
      case rel => exact ⟨i + 1, by omega, by go_num, hB⟩
    · have hil : ¬ (i : Int) < len := by omega
      go_wp2
      go_ret
      exact ⟨rfl, hB⟩

theorem eqBox (w : World) (a b : Option Addr) (ps : List (Int × Int)) (len cap cap' : Nat) (hlen : ps.length = len) (ha : PairsAt w a ps) (hb : PairsAt w b ps) (hl : len ≤ cap) (hl' : len ≤ cap') (hm : len ≤ 1048576) :
    Calls Try.prog 13 #[.agg #[.slice a len cap], .agg #[.slice b len cap']] w fun e w' => e = .returned (.bool true) ∧ Below w.heap.size w w' := by
  have q0 : Below w.heap.size w ((w.alloc (.cells #[.slice a len cap] 30)).alloc (.cells #[.slice b len cap'] 30)) := ((Below.refl _ w).alloc (Nat.le_refl _) _).alloc (by simp) _
  have ha' : Hid _ := ha.below q0
  have hb' : Hid _ := hb.below q0
  clear ha hb
  go_enter Try.func13, Try.ntmps13
  go_wp2_with (go_at_call 34; refine (eqPairS _ a b ps len cap cap' hlen ha'.out hb'.out hl hl' hm).mono ?_; rintro e w2 ⟨rfl, q⟩)
  go_ret
  exact ⟨rfl, q0.trans (q.mono q0.size)⟩

theorem toBox (w : World) (a : Option Addr) (ps : List (Int × Int)) (len cap : Nat) (hlen : ps.length = len) (h : PairsAt w a ps) (hl : len ≤ cap) (hm : len ≤ 1048576) :
    Calls Try.prog 10 #[.agg #[.slice a len cap]] w (BoxNew w len ps) := by
  have q0 : Below w.heap.size w (((w.alloc (.cells #[.slice a len cap] 24)).alloc (.cells #[.slice none 0 0] 30)).alloc (.cells #[.slice none 0 0] 30)) := (((Below.refl _ w).alloc (Nat.le_refl _) _).alloc (by simp) _).alloc (by simp; omega) _
  have oR := (Own.new (w.alloc (.cells #[.slice a len cap] 24)) #[.slice none 0 0] 30).alloc (.cells #[.slice none 0 0] 30)
  have oO := Own.new ((w.alloc (.cells #[.slice a len cap] 24)).alloc (.cells #[.slice none 0 0] 30)) #[.slice none 0 0] 30
  simp only [World.size_alloc] at oR oO
  have h' : Hid _ := h.below q0
  clear h
  go_enter Try.func10, Try.ntmps10
  go_wp2_with (go_at_call 29; refine (toPairS _ a ps len cap hlen h'.out hl hm).mono ?_; rintro e w2 ⟨rfl, o, q⟩; have oR2 := oR.below q; have oO2 := oO.below q; have c1 := oO2.cell 0 _ rfl; have f1 := oO2.frz 0 _ rfl; have c2 := oR2.cell 0 _ rfl; have f2 := oR2.frz 0 _ rfl)
  have hs := q.size
  have oR3 := (oR2.other (j := w.heap.size + 1 + 1) (i := 0) (.slice (some ⟨w.heap.size + 1 + 1 + 1, 0, none⟩) len len) (by omega)).set (i := 0) (.slice (some ⟨w.heap.size + 1 + 1 + 1, 0, none⟩) len len) (by simp)
  have c3 := oR3.cell 0 _ rfl
  refine bodyPost_ret (v := .agg #[.slice (some ⟨w.heap.size + 1 + 1 + 1, 0, none⟩) len len]) ?_ rfl ⟨w.heap.size + 1 + 1 + 1, by omega, rfl, ?_, ?_⟩
  · simp [results, Try.f10, go_sem, c3]
  · simp only [World.size_alloc] at o
    exact (o.other _ (by omega)).other _ (by omega)
  · exact ((q0.trans (q.mono q0.size)).setCell (p := ⟨w.heap.size + 1 + 1, 0, none⟩) (by simp; omega) _).setCell (p := ⟨w.heap.size + 1, 0, none⟩) (by simp) _

end Go.Proofs.Yteohgmmenlinbag
