/- A reader and a list of uint64 of the call's own beside it: what a drawing function keeps. -/
import Derived.Test.YteohgmmenlinbacDoorBoxB
import Derived.Test.YteohgmmenlinbacDoorDrawV
import Derived.Test.YteohgmmenlinbacDoorDrawH
import Derived.Test.YteohgmmenlinbacDoorJA
import Derived.Test.YteohgmmenlinbacDoorPureO
namespace Go.Proofs.YteohgmmenlinbacDoor
open Go.ChangeShapes Go.WideShapes Go.ChangeAt Go.RowKit
set_option linter.unusedVariables false

theorem ownsRow_keepB {w w' : World} {b base : Nat} {e : TypeId} {size : Nat} {v : Value} {n : Nat} {xs : List Value} (h : w.ownsRow base e size v n xs) (q : Keep b w w') (hb : b < base) : w'.ownsRow base e size v n xs := by
  refine ⟨h.1, h.2.imp id fun ⟨g, cap, cur, a1, a2, a3, a4⟩ => ⟨g, cap, cur, a1, a2, ?_, a4⟩⟩
  rw [q.block g (Array.getElem?_eq_some_iff.1 a3).1 (by omega)]
  exact a3

theorem take_setA {α : Type} (a : Array α) (n k : Nat) (u : α) : (a.setIfInBounds k u).toList.take n = (a.toList.take n).set k u := by
  rw [Array.toList_setIfInBounds, List.take_set]

theorem ownsRow_put {w : World} {base : Nat} {e : TypeId} {g n cap k : Nat} {xs : List Value} {u : Value} (h : w.ownsRow base e 1 (.slice (some ⟨g, 0, none⟩) n cap) n xs) (hk : k < n) (hu : u.oneCell' = true) : (w.setCell ⟨g, k, none⟩ u).ownsRow base e 1 (.slice (some ⟨g, 0, none⟩) n cap) n (xs.set k u) := by
  obtain ⟨h1, h2⟩ := h
  refine ⟨by rw [List.length_set]; exact h1, ?_⟩
  rcases h2 with ⟨h2, _⟩ | ⟨g', cap', cur, hv, hb, hg, hc, hm, hs, ht⟩
  · cases h2
  · injection hv with e1 e2 e3
    injection e1 with e1
    injection e1 with e1
    subst e1 e3
    refine .inr ⟨g, cap, cur.setIfInBounds k u, rfl, hb, ?_, hc, hm, by rw [Array.size_setIfInBounds]; exact hs, ?_⟩
    · simp only [World.setCell, Array.getElem?_modify, if_true, hg, Option.map_some]
      rfl
    · rw [take_setA, ht]

structure DSt (w : World) (b base : Nat) (v : Value) (zs : List Int) (lim : Int) (W : World) : Prop where
  rd : Rd W b lim
  keep : Keep b w W
  row : W.ownsRow base 38 1 v zs.length (uvals zs)
  hb : b < base
  size : base ≤ W.heap.size
  bd : ∀ z ∈ zs, 0 ≤ z ∧ z ≤ 18446744073709551615
  len : zs.length ≤ 12

section
variable {w W W' : World} {b base : Nat} {v : Value} {zs : List Int} {lim : Int}
theorem DSt.next (h : DSt w b base v zs lim W) {l : Int} (hr : Rd W' b l) (hk : Keep b W W') : DSt w b base v zs l W' :=
  ⟨hr, h.keep.trans hk, ownsRow_keepB h.row hk h.hb, h.hb, Nat.le_trans h.size hk.size, h.bd, h.len⟩
theorem DSt.drew (h : DSt w b base v zs lim W) : DSt w b base v zs lim W.drew := h.next (h.rd.drewN 1) ((Keep.refl _ _).drew)
theorem DSt.mono (h : DSt w b base v zs lim W) {l : Int} (hl : lim ≤ l) : DSt w b base v zs l W := ⟨h.rd.mono hl, h.keep, h.row, h.hb, h.size, h.bd, h.len⟩

theorem DSt.pick (h : DSt w b base v zs lim W) (n : Int) (hl : lim ≤ 900000) :
    Calls Tryd.prog 27 #[.pointer (some ⟨b, 0, none⟩), .int .i64 n] W fun e W' => ∃ r, e = .returned (.int .i64 r) ∧ 0 ≤ r ∧ (1 ≤ n → r < n) ∧ DSt w b base v zs (lim + 1) W' :=
  (Go.Proofs.YteohgmmenlinbacDoor.pick W b lim n h.rd (by omega)).mono fun e W' ⟨r, he, h0, h1, _, hr, hk⟩ => ⟨r, he, h0, h1, h.next hr hk⟩
theorem DSt.big (h : DSt w b base v zs lim W) (hl : lim ≤ 900000) :
    Calls Tryd.prog 28 #[.pointer (some ⟨b, 0, none⟩)] W fun e W' => ∃ r, e = .returned (.int .u64 r) ∧ 0 ≤ r ∧ r ≤ 18446744073709551615 ∧ DSt w b base v zs (lim + 8) W' :=
  (Go.Proofs.YteohgmmenlinbacDoor.big W b lim h.rd (by omega)).mono fun e W' ⟨r, he, h0, h1, hr, hk⟩ => ⟨r, he, h0, h1, h.next hr hk⟩

theorem DSt.put {g cap k : Nat} {y : Int} (h : DSt w b base (.slice (some ⟨g, 0, none⟩) zs.length cap) zs lim W) (hk : k < zs.length) (h0 : 0 ≤ y) (h1 : y ≤ 18446744073709551615) (hg : base ≤ g) (hw : w.heap.size ≤ g) : DSt w b base (.slice (some ⟨g, 0, none⟩) (zs.set k y).length cap) (zs.set k y) lim (W.setCell ⟨g, k, none⟩ (.int .u64 y)) := by
  have hb := h.hb
  have q : Keep g W (W.setCell ⟨g, k, none⟩ (.int .u64 y)) := (Keep.refl g W).setCell rfl _
  refine ⟨h.rd.keep q (by omega), ⟨h.keep.os, h.keep.tape, h.keep.output, Nat.le_trans h.keep.size q.size, fun j hj hne => ?_⟩, ?_, h.hb, Nat.le_trans h.size q.size, ?_, by rw [List.length_set]; exact h.len⟩
  · rw [q.block j (Nat.lt_of_lt_of_le hj h.keep.size) (by omega), h.keep.block j hj hne]
  · rw [List.length_set]
    have := ownsRow_put (u := .int .u64 y) h.row hk rfl
    unfold uvals at this ⊢
    rw [List.map_set]
    exact this
  · intro z hz
    rcases List.mem_or_eq_of_mem_set hz with e | e
    · exact h.bd z e
    · rw [e]; exact ⟨h0, h1⟩

theorem DSt.cell {g cap k : Nat} (h : DSt w b base (.slice (some ⟨g, 0, none⟩) zs.length cap) zs lim W) (hk : k < zs.length) : ∃ z, W.cell? ⟨g, k, none⟩ = some (.int .u64 z) ∧ W.frozen? ⟨g, k, none⟩ = false ∧ 0 ≤ z ∧ z ≤ 18446744073709551615 := by
  obtain ⟨a, c, o, e, hc, hh, ho⟩ := ownsRow_hasU h.row
  injection e with e1 e2 e3
  have hz : zs[k]? = some zs[k] := List.getElem?_eq_getElem hk
  rcases hh with ⟨e, _⟩ | ⟨G, _, e2, e3⟩
  · rw [e] at hk; simp at hk
  · rw [e2] at e1
    injection e1 with e1
    injection e1 with e1
    subst e1
    exact ⟨_, e3.cell k _ hz, e3.frz k _ hz, h.bd _ (List.getElem_mem hk)⟩
end

/-- A number and a list of uint64. -/
def UNOut (w : World) (e : Ending) (w' : World) : Prop :=
  ∃ (n : Int) (a : Option Addr) (zs : List Int) (cap : Nat), e = .returned (.tuple #[.int .i64 n, .slice a zs.length cap]) ∧ zs.length ≤ cap ∧ zs.length ≤ 13 ∧ UAt w' a zs ∧ (∀ z ∈ zs, 0 ≤ z ∧ z ≤ 18446744073709551615) ∧ Below w.heap.size w w'

theorem cell_one {w : World} {k : Nat} {a : Value} {t : TypeId} (hk : w.heap.size = k) : ∀ j u, [a][j]? = some u → (w.alloc (.cells #[a] t)).cell? ((⟨k, 0, none⟩ : Addr).add j) = some u := by
  subst hk
  intro j u hj
  match j, hj with
  | 0, hj => simp at hj; subst hj; simp [Addr.add]
  | j + 1, hj => simp at hj

end Go.Proofs.YteohgmmenlinbacDoor
