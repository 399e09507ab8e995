/- The laws' own comparison of two lists of pairs and of two boxes that hold the same: contracts. -/
import Derived.Test.YteohgmmenlinbagDoorBoxT
namespace Go.Proofs.YteohgmmenlinbagDoor
open Go.ChangeShapes Go.WideShapes Go.ChangeAt Go.RowKit
set_option linter.unusedVariables false

theorem eqPairS (w : World) (a b : Option Addr) (ps : List (Int × Int)) (len cap cap' : Nat) (hlen : ps.length = len) (ha : PairsAt w a ps) (hb : PairsAt w b ps) (hl : len ≤ cap) (hl' : len ≤ cap') (hm : len ≤ 1048576) :
    Calls Tryd.prog 17 #[.slice a len cap, .slice b len cap'] w fun e w' => e = .returned (.bool true) ∧ Below w.heap.size w w' := by
  have hA : Hid (PairsAt w a ps ∧ PairsAt w b ps) := ⟨ha, hb⟩
  clear ha hb
  go_enter Tryd.func17, Tryd.ntmps17
  go_wp2
  go_loopg [5] len (fun gq iv wr => ∃ i : Nat, i + gq = len ∧ iv = .int .i64 i ∧ Below w.heap.size w wr)
  case atStart => exact ⟨0, by omega, rfl, Below.refl _ _⟩
  case round =>
    obtain ⟨i, hi, rfl, hB⟩ := hrel
    by_cases hlast : i < len
    · have hne : ps ≠ [] := by intro e; rw [e] at hlen; simp at hlen; omega
      obtain ⟨rb, ro, e1, hlt1, hc1⟩ := hA.out.1.2.resolve_left hne
      obtain ⟨sb, so, e2, hlt2, hc2⟩ := hA.out.2.2.resolve_left hne
      subst e1 e2
      have hpi : ∃ p, ps[i]? = some p := ⟨ps[i]'(by omega), List.getElem?_eq_getElem (by omega)⟩
      obtain ⟨⟨lo, hi'⟩, hpi⟩ := hpi
      have hx : Hid ((rb < wr.heap.size ∧ wr.cell? ⟨rb, ro + i * 2, none⟩ = some (.int .i64 lo) ∧ wr.cell? ⟨rb, ro + i * 2 + 1, none⟩ = some (.int .i64 hi')) ∧ (sb < wr.heap.size ∧ wr.cell? ⟨sb, so + i * 2, none⟩ = some (.int .i64 lo) ∧ wr.cell? ⟨sb, so + i * 2 + 1, none⟩ = some (.int .i64 hi'))) :=
        ⟨⟨Nat.lt_of_lt_of_le hlt1 hB.size, (hB.cell (p := ⟨rb, ro + i * 2, none⟩) hlt1).trans (hc1 i (lo, hi') hpi).1, (hB.cell (p := ⟨rb, ro + i * 2 + 1, none⟩) hlt1).trans (hc1 i (lo, hi') hpi).2⟩,
         ⟨Nat.lt_of_lt_of_le hlt2 hB.size, (hB.cell (p := ⟨sb, so + i * 2, none⟩) hlt2).trans (hc2 i (lo, hi') hpi).1, (hB.cell (p := ⟨sb, so + i * 2 + 1, none⟩) hlt2).trans (hc2 i (lo, hi') hpi).2⟩⟩
      clear hc1 hc2 hpi hA
      have hil : (i : Int) < len := by omega
      go_wp2
      refine region_below (by kernel_rfl) (by kernel_rfl) ?_
      repeat (first
        | go_big_quiet_step (first
          | (intro hC; go_at_call 28; exact Calls.qb hC (eqPairSame _ lo hi'))
          | (intro _; rfl))
        | (go_big_quiet_want
           go_big_quiet_op
           refine ⟨.pointer (some ⟨rb, ro + i * 2, none⟩), ?_, ?_⟩
           · intro W hC
             go_simp
           go_big_quiet_on)
        | (go_big_quiet_want
           go_big_quiet_op
           refine ⟨.pointer (some ⟨sb, so + i * 2, none⟩), ?_, ?_⟩
           · intro W hC
             go_simp
           go_big_quiet_on)
        | (go_big_quiet_want
           go_big_quiet_op
           refine ⟨.agg #[.int .i64 lo, .int .i64 hi'], ?_, ?_⟩
           · intro W hC
             have r0 := (hC.cell (p := ⟨rb, ro + i * 2, none⟩) hx.out.1.1).trans hx.out.1.2.1
             have r1 := (hC.cell (p := ⟨rb, ro + i * 2 + 1, none⟩) hx.out.1.1).trans hx.out.1.2.2
             have r2 := (hC.cell (p := ⟨sb, so + i * 2, none⟩) hx.out.2.1).trans hx.out.2.2.1
             have r3 := (hC.cell (p := ⟨sb, so + i * 2 + 1, none⟩) hx.out.2.1).trans hx.out.2.2.2
             go_simp
           go_big_quiet_on))
      refine wpQuiet_nil ?_
      intro w4 q4
      replace hB := hB.trans (q4.mono hB.size)
      go_wp2
      go_roundg (len - (i + 1))
      case measure => omega
      case rel => exact ⟨i + 1, by omega, by go_num, hB⟩
    · have hil : ¬ (i : Int) < len := by omega
      go_wp2
      go_ret
      exact ⟨rfl, hB⟩

theorem eqBox (w : World) (a b : Option Addr) (ps : List (Int × Int)) (len cap cap' : Nat) (hlen : ps.length = len) (ha : PairsAt w a ps) (hb : PairsAt w b ps) (hl : len ≤ cap) (hl' : len ≤ cap') (hm : len ≤ 1048576) :
    Calls Tryd.prog 7 #[.agg #[.slice a len cap], .agg #[.slice b len cap']] w fun e w' => e = .returned (.bool true) ∧ Below w.heap.size w w' := by
  have q0 : Below w.heap.size w ((w.alloc (.cells #[.slice a len cap] 25)).alloc (.cells #[.slice b len cap'] 25)) := ((Below.refl _ w).alloc (Nat.le_refl _) _).alloc (by simp) _
  have ha' : Hid _ := ha.below q0
  have hb' : Hid _ := hb.below q0
  clear ha hb
  go_enter Tryd.func7, Tryd.ntmps7
  go_wp2_with (go_at_call 17; refine (eqPairS _ a b ps len cap cap' hlen ha'.out hb'.out hl hl' hm).mono ?_; rintro e w2 ⟨rfl, q⟩)
  go_ret
  exact ⟨rfl, q0.trans (q.mono q0.size)⟩

end Go.Proofs.YteohgmmenlinbagDoor
