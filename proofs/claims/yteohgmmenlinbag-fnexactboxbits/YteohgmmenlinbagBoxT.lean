/- The laws' own copy of a list of pairs and of a box: their contracts. -/
import Derived.Test.YteohgmmenlinbagBoxL
import Derived.Test.YteohgmmenlinbagBoxT0
import Derived.Laws.MakeOwn
import Derived.OwnWalk
namespace Go.Proofs.Yteohgmmenlinbag
open Go.ChangeShapes Go.WideShapes Go.ChangeAt Go.RowKit
set_option linter.unusedVariables false

theorem toPairS (w : World) (a : Option Addr) (ps : List (Int × Int)) (len cap : Nat) (hlen : ps.length = len) (h : PairsAt w a ps) (hl : len ≤ cap) (hm : len ≤ 1048576) :
    Calls Try.prog 29 #[.slice a len cap] w fun e w' => e = .returned (.slice (some ⟨w.heap.size, 0, none⟩) len len) ∧ OwnP w' w.heap.size ps ∧ Below w.heap.size w w' := by
  obtain ⟨i0, hi, hz0, hz1, hz2⟩ := info_parts infoPairB
  have hmk := fun W : World => run_make (P := Try.prog) W 28 49 i0 (.agg #[.int .i64 0, .int .i64 0]) Try.underlying28 hi hz0 .i64 .i64 (len : Int) (len : Int) (by omega) (Int.le_refl _) (by rw [hz2]; omega) (by omega)
  simp only [Int.toNat_natCast, hz1] at hmk
  clear hi hz0 hz1 hz2
  have B0 := Own.new w (madeCells (Value.agg #[.int .i64 0, .int .i64 0]).cells (len * 2)) 49
  have hsz : (madeCells (Value.agg #[.int .i64 0, .int .i64 0]).cells (len * 2)).toList.length = len * 2 := by simpa using size_madeCells _ _
  have S0 : Hid (CopySt w w.heap.size len ps 0 (w.alloc (.cells (madeCells (Value.agg #[.int .i64 0, .int .i64 0]).cells (len * 2)) 49))) :=
    ⟨⟨_, hsz, B0, fun j hj => absurd hj (by omega)⟩, (Below.refl _ w).alloc (Nat.le_refl _) _⟩
  have hH : Hid (PairsAt w a ps) := h
  clear B0 hsz h
  go_enter Try.func29, Try.ntmps29
  go_wp2
  go_loopg [4] len (fun gq iv wr => ∃ i : Nat, i + gq = len ∧ iv = .int .i64 i ∧ Hid (CopySt w w.heap.size len ps i wr))
  case atStart => exact ⟨0, by omega, rfl, S0⟩
  case round =>
    clear S0
    obtain ⟨i, hi, rfl, S⟩ := hrel
    by_cases hlast : i < len
    · obtain ⟨⟨vs, hv, ov, hc⟩, hb⟩ := S.out
      have hne : ps ≠ [] := by intro e; rw [e] at hlen; simp at hlen; omega
      obtain ⟨rb, ro, ha, hlt0, hcells⟩ := hH.out.2.resolve_left hne
      subst ha
      have hpi : ∃ p, ps[i]? = some p := ⟨ps[i]'(by omega), List.getElem?_eq_getElem (by omega)⟩
      obtain ⟨⟨lo, hi'⟩, hpi⟩ := hpi
      have c0 : wr.cell? ⟨rb, ro + i * 2, none⟩ = some (.int .i64 lo) := (hb.cell (p := ⟨rb, ro + i * 2, none⟩) hlt0).trans (hcells i (lo, hi') hpi).1
      have c1 : wr.cell? ⟨rb, ro + i * 2 + 1, none⟩ = some (.int .i64 hi') := (hb.cell (p := ⟨rb, ro + i * 2 + 1, none⟩) hlt0).trans (hcells i (lo, hi') hpi).2
      clear S
      have hil : (i : Int) < len := by omega
      have v0 : ∃ v, vs[i * 2]? = some v := ⟨vs[i * 2]'(by omega), List.getElem?_eq_getElem (by omega)⟩
      have v1 : ∃ v, vs[i * 2 + 1]? = some v := ⟨vs[i * 2 + 1]'(by omega), List.getElem?_eq_getElem (by omega)⟩
      obtain ⟨y0, v0⟩ := v0
      obtain ⟨y1, v1⟩ := v1
      have hcH : Hid (∀ j, j < i → ∀ p : Int × Int, ps[j]? = some p → vs[j * 2]? = some (.int .i64 p.1) ∧ vs[j * 2 + 1]? = some (.int .i64 p.2)) := hc
      have hpiH : Hid (ps[i]? = some (lo, hi')) := hpi
      clear hcells hc hpi
      go_wp2_with (go_at_call 54; refine (toPair _ lo hi').mono ?_; rintro e w2 ⟨rfl, q⟩; have o2 := ov.below q; have d0 := o2.cell (i * 2) _ v0; have d1 := o2.cell (i * 2 + 1) _ v1; have f0 := o2.frz (i * 2) _ v0; have f1 := o2.frz (i * 2 + 1) _ v1)
      go_roundg (len - (i + 1))
      case measure => omega
      case rel =>
        refine ⟨i + 1, by omega, by go_num, ⟨⟨_, ?_, (o2.set (i := i * 2) (.int .i64 lo) (by omega)).set (i := i * 2 + 1) (.int .i64 hi') (by rw [List.length_set]; omega), copy_step hv hlast hpiH.out hcH.out⟩, ?_⟩⟩
        · simpa using hv
        · exact ((hb.trans (q.mono hb.size)).setCell (p := ⟨w.heap.size, i * 2, none⟩) (Nat.le_refl _) _).setCell (p := ⟨w.heap.size, i * 2 + 1, none⟩) (Nat.le_refl _) _
    · have hil : ¬ (i : Int) < len := by omega
      go_wp2
      go_ret
      obtain ⟨⟨vs, hv, ov, hc⟩, hb⟩ := S.out
      exact ⟨rfl, ov.pairs fun j p hj => hc j (by have := (List.getElem?_eq_some_iff.1 hj).1; omega) p hj, hb⟩

/-- A box that is new, its block G beyond all that lay. -/
def BoxNew (w : World) (len : Nat) (ps : List (Int × Int)) (e : Ending) (w' : World) : Prop :=
  ∃ G, w.heap.size ≤ G ∧ e = .returned (.agg #[.slice (some ⟨G, 0, none⟩) len len]) ∧ OwnP w' G ps ∧ Below w.heap.size w w'

end Go.Proofs.Yteohgmmenlinbag
