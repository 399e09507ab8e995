/- The laws' own marking of a list of pairs and of a box, and their look whether the marks still stand: contracts. -/
import Derived.Test.YteohgmmenlinbagDoorBoxS
import Derived.Test.YteohgmmenlinbagDoorGap0
namespace Go.Proofs.YteohgmmenlinbagDoor
open Go.ChangeShapes Go.WideShapes Go.ChangeAt Go.RowKit
set_option linter.unusedVariables false

/-- The marks from k on. -/
def marks (k : Int) (len : Nat) : List (Int × Int) := (List.range len).map fun (j : Nat) => (k + 2 * (j : Int), k + 2 * (j : Int) + 1)
theorem marks_length (k : Int) (len : Nat) : (marks k len).length = len := by simp [marks]
theorem marks_get {k : Int} {len j : Nat} (h : j < len) : (marks k len)[j]? = some (k + 2 * (j : Int), k + 2 * (j : Int) + 1) := by simp [marks, h]
theorem marks_of {k : Int} {len : Nat} {qs : List (Int × Int)} (hl : qs.length = len) (h : ∀ j, j < len → qs[j]? = some (k + 2 * (j : Int), k + 2 * (j : Int) + 1)) : qs = marks k len := by
  apply List.ext_getElem?
  intro j
  by_cases hj : j < len
  · rw [h j hj, marks_get hj]
  · rw [List.getElem?_eq_none (by omega), List.getElem?_eq_none (by rw [marks_length]; omega)]
theorem marks_wf {k : Int} {len : Nat} (h0 : 0 ≤ k) (h1 : k ≤ 1000000000000) (hm : len ≤ 1048576) : ∀ p ∈ marks k len, (Lit.int .i64 p.1).wf = true ∧ (Lit.int .i64 p.2).wf = true := by
  intro p hp
  obtain ⟨j, hj⟩ := List.getElem?_of_mem hp
  have hl : j < len := by have := (List.getElem?_eq_some_iff.1 hj).1; rw [marks_length] at this; exact this
  rw [marks_get hl] at hj
  obtain rfl := Option.some.inj hj
  exact ⟨i64_wf (by omega) (by omega), i64_wf (by omega) (by omega)⟩

theorem OwnP.setPair {W : World} {G i : Nat} {ps : List (Int × Int)} (h : OwnP W G ps) (x y : Int) (hi : i < ps.length) : OwnP ((W.setCell ⟨G, i * 2, none⟩ (.int .i64 x)).setCell ⟨G, i * 2 + 1, none⟩ (.int .i64 y)) G (ps.set i (x, y)) := by
  have hp : ps[i]? = some ps[i] := List.getElem?_eq_getElem hi
  have hc := h.cell i _ hp
  refine ⟨by simpa [World.setCell] using h.lt, fun j p hj => ?_, fun j p hj => ?_⟩
  · by_cases e : i = j
    · subst e
      rw [List.getElem?_set_self hi] at hj
      obtain rfl := Option.some.inj hj
      constructor
      · rw [World.cell?_setCell_other _ _ _ _ (fun q => by injection q; omega)]
        exact World.cell?_setCell_same _ _ _ hc.1
      · exact World.cell?_setCell_same _ _ _ ((World.cell?_setCell_other _ _ _ _ (fun q => by injection q; omega)).trans hc.2)
    · rw [List.getElem?_set_ne e] at hj
      have := h.cell j p hj
      constructor
      · rw [World.cell?_setCell_other _ _ _ _ (fun q => by injection q; omega), World.cell?_setCell_other _ _ _ _ (fun q => by injection q; omega)]; exact this.1
      · rw [World.cell?_setCell_other _ _ _ _ (fun q => by injection q; omega), World.cell?_setCell_other _ _ _ _ (fun q => by injection q; omega)]; exact this.2
  · simp only [World.frozen?_setCell]
    by_cases e : i = j
    · subst e
      exact h.frz i _ hp
    · rw [List.getElem?_set_ne e] at hj
      exact h.frz j p hj

/-- The first i of the pairs in block G bear marks. -/
def MarkSt (w : World) (G len : Nat) (k : Int) (i : Nat) (W : World) : Prop :=
  (∃ qs : List (Int × Int), qs.length = len ∧ OwnP W G qs ∧ ∀ j, j < i → qs[j]? = some (k + 2 * (j : Int), k + 2 * (j : Int) + 1)) ∧ KeepO (some G) w W

theorem markPairS (w : World) (G : Nat) (ps : List (Int × Int)) (len cap : Nat) (k : Int) (hlen : ps.length = len) (h : OwnP w G ps) (hl : len ≤ cap) (hm : len ≤ 1048576) (h0 : 0 ≤ k) (h1 : k ≤ 1000000000000) :
    Calls Tryd.prog 18 #[.slice (some ⟨G, 0, none⟩) len cap, .int .i64 k] w fun e w' => e = .returned (.int .i64 (k + 2 * len)) ∧ OwnP w' G (marks k len) ∧ KeepO (some G) w w' := by
  have S0 : Hid (MarkSt w G len k 0 w) := ⟨⟨ps, hlen, h, fun j hj => absurd hj (by omega)⟩, KeepO.of_below _ (Below.refl _ _)⟩
  clear h
  go_enter Tryd.func18, Tryd.ntmps18
  go_wp2
  go_loopg [1, 5] len (fun gq kv iv wr => ∃ i : Nat, i + gq = len ∧ kv = .int .i64 (k + 2 * i) ∧ iv = .int .i64 i ∧ Hid (MarkSt w G len k i wr))
  case atStart => exact ⟨0, by omega, by go_num, rfl, S0⟩
  case round =>
    clear S0
    obtain ⟨i, hi, rfl, rfl, S⟩ := hrel
    by_cases hlast : i < len
    · obtain ⟨⟨qs, hq, ov, hc⟩, hb⟩ := S.out
      clear S
      have hil : (i : Int) < len := by omega
      have hpi : qs[i]? = some (qs[i]'(by omega)) := List.getElem?_eq_getElem (by omega)
      generalize (qs[i]'(by omega)) = p at hpi
      have cc := ov.cell i _ hpi
      have ff := ov.frz i _ hpi
      obtain ⟨x, y⟩ := p
      dsimp only at cc
      have c0 := cc.1
      have c1 := cc.2
      have f0 := ff.1
      have f1 := ff.2
      have hcH : Hid (∀ j, j < i → qs[j]? = some (k + 2 * (j : Int), k + 2 * (j : Int) + 1)) := hc
      have hqH : Hid (qs.length = len) := hq
      clear cc ff hc hq hpi
      go_wp2
      go_roundg (len - (i + 1))
      case measure => omega
      case rel =>
        refine ⟨i + 1, by omega, by go_num, by go_num, ⟨⟨qs.set i (k + 2 * i, k + 2 * i + 1), by rw [List.length_set]; exact hqH.out, ov.setPair _ _ (by rw [hqH.out]; exact hlast), fun j hj => ?_⟩, ?_⟩⟩
        · by_cases e : i = j
          · subst e
            rw [List.getElem?_set_self (by rw [hqH.out]; exact hlast)]
          · rw [List.getElem?_set_ne e]
            exact hcH.out j (by omega)
        · exact (hb.setCell _).setCell _
    · have hil : ¬ (i : Int) < len := by omega
      go_wp2
      go_ret
      obtain ⟨⟨qs, hq, ov, hc⟩, hb⟩ := S.out
      obtain rfl : i = len := by omega
      rw [← marks_of hq hc]
      exact ⟨rfl, ov, hb⟩

theorem markPairS0 (w : World) (a : Option Addr) (cap : Nat) (k : Int) :
    Calls Tryd.prog 18 #[.slice a 0 cap, .int .i64 k] w fun e w' => e = .returned (.int .i64 k) ∧ w = w' := by
  go_enter Tryd.func18, Tryd.ntmps18
  go_wp2
  go_loopg [1, 5] 0 (fun gq kv iv wr => kv = .int .i64 k ∧ iv = .int .i64 0 ∧ wr = w)
  case atStart => exact ⟨rfl, rfl, rfl⟩
  case round =>
    obtain ⟨rfl, rfl, rfl⟩ := hrel
    go_wp2
    go_ret
    exact ⟨rfl, rfl⟩

/-- A box, marked. -/
theorem markBox (w : World) (a : Option Addr) (ps : List (Int × Int)) (o : Option Nat) (len cap : Nat) (k : Int) (hlen : ps.length = len) (h : HasO w a ps o) (hl : len ≤ cap) (hm : len ≤ 1048576) (h0 : 0 ≤ k) (h1 : k ≤ 1000000000000) :
    Calls Tryd.prog 10 #[.agg #[.slice a len cap], .int .i64 k] w fun e w' => e = .returned (.int .i64 (k + 2 * len)) ∧ HasO w' a (marks k len) o ∧ KeepO o w w' := by
  have q0 : Below w.heap.size w (w.alloc (.cells #[.slice a len cap] 25)) := (Below.refl _ w).alloc (Nat.le_refl _) _
  have hw := marks_wf h0 h1 hm
  rcases h.2 with ⟨e1, rfl⟩ | ⟨G, rfl, rfl, e3⟩
  · subst e1
    obtain rfl : 0 = len := by simpa using hlen
    clear h
    go_enter Tryd.func10, Tryd.ntmps10
    go_wp2_with (go_at_call 18; refine (markPairS0 _ a cap k).mono ?_; rintro e w2 ⟨rfl, rfl⟩)
    go_ret
    exact ⟨by simp, ⟨hw, .inl ⟨rfl, rfl⟩⟩, KeepO.of_below _ q0⟩
  · replace e3 := e3.below q0
    clear h
    go_enter Tryd.func10, Tryd.ntmps10
    go_wp2_with (go_at_call 18; refine (markPairS _ G ps len cap k hlen e3 hl hm h0 h1).mono ?_; rintro e w2 ⟨rfl, o2, q2⟩)
    go_ret
    exact ⟨rfl, o2.has hw, (KeepO.of_below _ q0).trans q2⟩

theorem heldPairS (w : World) (a : Option Addr) (len cap : Nat) (k : Int) (h : PairsAt w a (marks k len)) (hl : len ≤ cap) (hm : len ≤ 1048576) (h0 : 0 ≤ k) (h1 : k ≤ 1000000000000) :
    Calls Tryd.prog 19 #[.slice a len cap, .int .i64 k] w fun e w' => e = .returned (.int .i64 (k + 2 * len)) ∧ w = w' := by
  go_enter Tryd.func19, Tryd.ntmps19
  go_wp2
  go_loopg [1, 5] len (fun gq kv iv wr => ∃ i : Nat, i + gq = len ∧ kv = .int .i64 (k + 2 * i) ∧ iv = .int .i64 i ∧ wr = w)
  case atStart => exact ⟨0, by omega, by go_num, rfl, rfl⟩
  case round =>
    obtain ⟨i, hi, rfl, rfl, rfl⟩ := hrel
    by_cases hlast : i < len
    · obtain ⟨rb, ro, ha, hlt, hc⟩ := h.2.resolve_left (by intro e; have := marks_length k len; rw [e] at this; simp at this; omega)
      subst ha
      have cc := hc i _ (marks_get hlast)
      have c0 := cc.1
      have c1 := cc.2
      dsimp only at c0 c1
      have hil : (i : Int) < len := by omega
      clear cc hc h
      go_wp2
      go_roundg (len - (i + 1))
      case measure => omega
      case rel => exact ⟨i + 1, by omega, by go_num, by go_num, rfl⟩
    · have hil : ¬ (i : Int) < len := by omega
      obtain rfl : i = len := by omega
      go_wp2
      go_ret
      exact ⟨rfl, rfl⟩

theorem heldBox (w : World) (a : Option Addr) (len cap : Nat) (k : Int) (h : PairsAt w a (marks k len)) (hl : len ≤ cap) (hm : len ≤ 1048576) (h0 : 0 ≤ k) (h1 : k ≤ 1000000000000) :
    Calls Tryd.prog 11 #[.agg #[.slice a len cap], .int .i64 k] w fun e w' => e = .returned (.int .i64 (k + 2 * len)) ∧ Below w.heap.size w w' := by
  have q0 : Below w.heap.size w (w.alloc (.cells #[.slice a len cap] 25)) := (Below.refl _ w).alloc (Nat.le_refl _) _
  have h' := h.below q0
  clear h
  have hn : ¬ k + 2 * (len : Int) < 0 := by omega
  go_enter Tryd.func11, Tryd.ntmps11
  go_wp2_with (go_at_call 19; refine (heldPairS _ a len cap k h' hl hm h0 h1).mono ?_; rintro e w2 ⟨rfl, rfl⟩)
  go_ret
  exact ⟨rfl, q0⟩

end Go.Proofs.YteohgmmenlinbagDoor
