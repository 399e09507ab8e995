/- The laws' own copy of a list of pairs and of a box: their contracts. -/
import Derived.Test.YteohgmmenlinbahBoxL
import Derived.Laws.MakeOwn
import Derived.OwnWalk
namespace Go.Proofs.Yteohgmmenlinbah
open Go.ChangeShapes Go.WideShapes Go.ChangeAt Go.RowKit
set_option linter.unusedVariables false

theorem infoPairB : (Try.prog.info? 40).map (fun i => (i.zero, i.size, i.bytes)) = some (some (.agg #[.int .i64 0, .int .i64 0]), 2, 16) := by kernel_rfl

/-- These pairs lie in block G from its first cell on, none frozen. -/
structure OwnP (W : World) (G : Nat) (ps : List (Int × Int)) : Prop where
  lt : G < W.heap.size
  cell : ∀ (i : Nat) (p : Int × Int), ps[i]? = some p → W.cell? ⟨G, i * 2, none⟩ = some (.int .i64 p.1) ∧ W.cell? ⟨G, i * 2 + 1, none⟩ = some (.int .i64 p.2)
  frz : ∀ (i : Nat) (p : Int × Int), ps[i]? = some p → W.frozen? ⟨G, i * 2, none⟩ = false ∧ W.frozen? ⟨G, i * 2 + 1, none⟩ = false

theorem OwnP.below {W W' : World} {G : Nat} {ps : List (Int × Int)} (h : OwnP W G ps) (q : Below W.heap.size W W') : OwnP W' G ps :=
  ⟨Nat.lt_of_lt_of_le h.lt q.size, fun i p hp => ⟨(q.cell (p := ⟨G, i * 2, none⟩) h.lt).trans (h.cell i p hp).1, (q.cell (p := ⟨G, i * 2 + 1, none⟩) h.lt).trans (h.cell i p hp).2⟩,
   fun i p hp => ⟨(q.frozen (p := ⟨G, i * 2, none⟩) h.lt).trans (h.frz i p hp).1, (q.frozen (p := ⟨G, i * 2 + 1, none⟩) h.lt).trans (h.frz i p hp).2⟩⟩

theorem OwnP.other {W : World} {G j k : Nat} {ps : List (Int × Int)} (h : OwnP W G ps) (v : Value) (hk : j ≠ G) : OwnP (W.setCell ⟨j, k, none⟩ v) G ps :=
  ⟨by simpa [World.setCell] using h.lt, fun i p hp => ⟨(World.cell?_setCell_other _ _ _ _ (fun e => by injection e; omega)).trans (h.cell i p hp).1, (World.cell?_setCell_other _ _ _ _ (fun e => by injection e; omega)).trans (h.cell i p hp).2⟩,
   fun i p hp => by rw [World.frozen?_setCell, World.frozen?_setCell]; exact h.frz i p hp⟩

theorem OwnP.at {W : World} {G : Nat} {ps : List (Int × Int)} (h : OwnP W G ps) (hw : ∀ p ∈ ps, (Lit.int .i64 p.1).wf = true ∧ (Lit.int .i64 p.2).wf = true) : PairsAt W (some ⟨G, 0, none⟩) ps :=
  ⟨hw, .inr ⟨G, 0, rfl, h.lt, fun i p hp => by rw [Nat.zero_add]; exact h.cell i p hp⟩⟩

theorem Own.pairs {W : World} {G : Nat} {vs : List Value} {ps : List (Int × Int)} (o : Own W G vs) (h : ∀ (i : Nat) (p : Int × Int), ps[i]? = some p → vs[i * 2]? = some (.int .i64 p.1) ∧ vs[i * 2 + 1]? = some (.int .i64 p.2)) : OwnP W G ps :=
  ⟨o.lt, fun i p hp => ⟨o.cell _ _ (h i p hp).1, o.cell _ _ (h i p hp).2⟩, fun i p hp => ⟨o.frz _ _ (h i p hp).1, o.frz _ _ (h i p hp).2⟩⟩

/-- The first i pairs lie in the new row. -/
def CopySt (w : World) (G len : Nat) (ps : List (Int × Int)) (i : Nat) (W : World) : Prop :=
  (∃ vs : List Value, vs.length = len * 2 ∧ Own W G vs ∧ ∀ j, j < i → ∀ p : Int × Int, ps[j]? = some p → vs[j * 2]? = some (.int .i64 p.1) ∧ vs[j * 2 + 1]? = some (.int .i64 p.2)) ∧ Below w.heap.size w W

theorem copy_step {vs : List Value} {ps : List (Int × Int)} {i len : Nat} {lo hi : Int} (hv : vs.length = len * 2) (hil : i < len) (hpi : ps[i]? = some (lo, hi)) (hc : ∀ j, j < i → ∀ p : Int × Int, ps[j]? = some p → vs[j * 2]? = some (.int .i64 p.1) ∧ vs[j * 2 + 1]? = some (.int .i64 p.2)) :
    ∀ j, j < i + 1 → ∀ p : Int × Int, ps[j]? = some p → ((vs.set (i * 2) (.int .i64 lo)).set (i * 2 + 1) (.int .i64 hi))[j * 2]? = some (.int .i64 p.1) ∧ ((vs.set (i * 2) (.int .i64 lo)).set (i * 2 + 1) (.int .i64 hi))[j * 2 + 1]? = some (.int .i64 p.2) := by
  intro j hj p hp
  by_cases e : j = i
  · subst e
    rw [hpi] at hp
    obtain rfl := Option.some.inj hp
    constructor
    · rw [List.getElem?_set_ne (by omega), List.getElem?_set_self (by omega)]
    · rw [List.getElem?_set_self (by rw [List.length_set]; omega)]
  · obtain ⟨h1, h2⟩ := hc j (by omega) p hp
    constructor
    · rw [List.getElem?_set_ne (by omega), List.getElem?_set_ne (by omega)]; exact h1
    · rw [List.getElem?_set_ne (by omega), List.getElem?_set_ne (by omega)]; exact h2

theorem toPairS (w : World) (a : Option Addr) (ps : List (Int × Int)) (len cap : Nat) (hlen : ps.length = len) (h : PairsAt w a ps) (hl : len ≤ cap) (hm : len ≤ 1048576) :
    Calls Try.prog 31 #[.slice a len cap] w fun e w' => e = .returned (.slice (some ⟨w.heap.size, 0, none⟩) len len) ∧ OwnP w' w.heap.size ps ∧ Below w.heap.size w w' := by
  obtain ⟨i0, hi, hz0, hz1, hz2⟩ := info_parts infoPairB
  have hmk := fun W : World => run_make (P := Try.prog) W 27 40 i0 (.agg #[.int .i64 0, .int .i64 0]) Try.underlying27 hi hz0 .i64 .i64 (len : Int) (len : Int) (by omega) (Int.le_refl _) (by rw [hz2]; omega) (by omega)
  simp only [Int.toNat_natCast, hz1] at hmk
  clear hi hz0 hz1 hz2
  have B0 := Own.new w (madeCells (Value.agg #[.int .i64 0, .int .i64 0]).cells (len * 2)) 40
  have hsz : (madeCells (Value.agg #[.int .i64 0, .int .i64 0]).cells (len * 2)).toList.length = len * 2 := by simpa using size_madeCells _ _
  have S0 : Hid (CopySt w w.heap.size len ps 0 (w.alloc (.cells (madeCells (Value.agg #[.int .i64 0, .int .i64 0]).cells (len * 2)) 40))) :=
    ⟨⟨_, hsz, B0, fun j hj => absurd hj (by omega)⟩, (Below.refl _ w).alloc (Nat.le_refl _) _⟩
  have hH : Hid (PairsAt w a ps) := h
  clear B0 hsz h
  go_enter Try.func31, Try.ntmps31
  go_wp2
  go_loopg [4] len (fun gq iv wr => ∃ i : Nat, i + gq = len ∧ iv = .int .i64 i ∧ Hid (CopySt w w.heap.size len ps i wr))
  case atStart => exact ⟨0, by omega, rfl, S0⟩
  case round =>
    clear S0
    obtain ⟨i, hi, rfl, S⟩ := hrel
    by_cases hlast : i < len
    · obtain ⟨⟨vs, hv, ov, hc⟩, hb⟩ := S.out
      have hne : ps ≠ [] := by intro e; rw [e] at hlen; simp at hlen; omega
      obtain ⟨rb, ro, ha, hlt0, hcells⟩ := hH.out.2.resolve_left hne
      subst ha
      have hpi : ∃ p, ps[i]? = some p := ⟨ps[i]'(by omega), List.getElem?_eq_getElem (by omega)⟩
      obtain ⟨⟨lo, hi'⟩, hpi⟩ := hpi
      have c0 : wr.cell? ⟨rb, ro + i * 2, none⟩ = some (.int .i64 lo) := (hb.cell (p := ⟨rb, ro + i * 2, none⟩) hlt0).trans (hcells i (lo, hi') hpi).1
      have c1 : wr.cell? ⟨rb, ro + i * 2 + 1, none⟩ = some (.int .i64 hi') := (hb.cell (p := ⟨rb, ro + i * 2 + 1, none⟩) hlt0).trans (hcells i (lo, hi') hpi).2
      clear S
      have hil : (i : Int) < len := by omega
      have v0 : ∃ v, vs[i * 2]? = some v := ⟨vs[i * 2]'(by omega), List.getElem?_eq_getElem (by omega)⟩
      have v1 : ∃ v, vs[i * 2 + 1]? = some v := ⟨vs[i * 2 + 1]'(by omega), List.getElem?_eq_getElem (by omega)⟩
      obtain ⟨y0, v0⟩ := v0
      obtain ⟨y1, v1⟩ := v1
      have hcH : Hid (∀ j, j < i → ∀ p : Int × Int, ps[j]? = some p → vs[j * 2]? = some (.int .i64 p.1) ∧ vs[j * 2 + 1]? = some (.int .i64 p.2)) := hc
      have hpiH : Hid (ps[i]? = some (lo, hi')) := hpi
      clear hcells hc hpi
      go_wp2_with (go_at_call 19; refine (toPair _ lo hi').mono ?_; rintro e w2 ⟨rfl, q⟩; have o2 := ov.below q; have d0 := o2.cell (i * 2) _ v0; have d1 := o2.cell (i * 2 + 1) _ v1; have f0 := o2.frz (i * 2) _ v0; have f1 := o2.frz (i * 2 + 1) _ v1)
      go_roundg (len - (i + 1))
      case measure => omega
      case rel =>
        refine ⟨i + 1, by omega, by go_num, ⟨⟨_, ?_, (o2.set (i := i * 2) (.int .i64 lo) (by omega)).set (i := i * 2 + 1) (.int .i64 hi') (by rw [List.length_set]; omega), copy_step hv hlast hpiH.out hcH.out⟩, ?_⟩⟩
        · simpa using hv
        · exact ((hb.trans (q.mono hb.size)).setCell (p := ⟨w.heap.size, i * 2, none⟩) (Nat.le_refl _) _).setCell (p := ⟨w.heap.size, i * 2 + 1, none⟩) (Nat.le_refl _) _
    · have hil : ¬ (i : Int) < len := by omega
      go_wp2
      go_ret
      obtain ⟨⟨vs, hv, ov, hc⟩, hb⟩ := S.out
      exact ⟨rfl, ov.pairs fun j p hj => hc j (by have := (List.getElem?_eq_some_iff.1 hj).1; omega) p hj, hb⟩

/-- A box that is new, its block G beyond all that lay. -/
def BoxNew (w : World) (len : Nat) (ps : List (Int × Int)) (e : Ending) (w' : World) : Prop :=
  ∃ G, w.heap.size ≤ G ∧ e = .returned (.agg #[.slice (some ⟨G, 0, none⟩) len len]) ∧ OwnP w' G ps ∧ Below w.heap.size w w'

end Go.Proofs.Yteohgmmenlinbah
