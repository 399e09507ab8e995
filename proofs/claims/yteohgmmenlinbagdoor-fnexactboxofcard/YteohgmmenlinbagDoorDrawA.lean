/- What the drawing functions of the verifier's model (package spec) do to memory: contracts, stated over this seat's numbers of the functions; of what they answer only the bounds that a caller needs. -/
import Derived.Test.YteohgmmenlinbagDoorRows
import Derived.WalkKit
import Derived.ProofKit
import Derived.OpenShut
import Derived.ShutString
import Derived.ChangeOld
import Derived.Below
import Derived.Deep.QuietTactic
import Derived.BigQuiet
import Derived.Outline
namespace Go.Proofs.YteohgmmenlinbagDoor
open Go.ChangeShapes Go.WideShapes Go.ChangeAt Go.RowKit
set_option linter.unusedVariables false

/-- All blocks of w but b are as they were. -/
structure Keep (b : Nat) (w w' : World) : Prop where
  os : w'.os = w.os
  tape : w'.tape = w.tape
  output : w'.output = w.output
  size : w.heap.size ≤ w'.heap.size
  block : ∀ k, k < w.heap.size → k ≠ b → w'.heap[k]? = w.heap[k]?

theorem Keep.refl (b : Nat) (w : World) : Keep b w w := ⟨rfl, rfl, rfl, Nat.le_refl _, fun _ _ _ => rfl⟩
theorem Keep.trans {b : Nat} {u v w : World} (h : Keep b u v) (k : Keep b v w) : Keep b u w :=
  ⟨k.os.trans h.os, k.tape.trans h.tape, k.output.trans h.output, Nat.le_trans h.size k.size,
    fun i hi hb => (k.block i (Nat.lt_of_lt_of_le hi h.size) hb).trans (h.block i hi hb)⟩
theorem Keep.drew {b : Nat} {u w : World} (h : Keep b u w) : Keep b u w.drew := ⟨h.os, h.tape, h.output, h.size, h.block⟩
theorem Keep.drewN {b : Nat} {u w : World} (h : Keep b u w) (n : Nat) : Keep b u (w.drewN n) := ⟨h.os, h.tape, h.output, h.size, h.block⟩
theorem Keep.setCell {b : Nat} {u w : World} (h : Keep b u w) {p : Addr} (hp : p.block = b) (v : Value) : Keep b u (w.setCell p v) :=
  h.trans ⟨rfl, rfl, rfl, by simp [World.setCell], fun k _ hb => Below.heap_setCell _ _ _ _ (by omega)⟩
theorem Keep.alloc {b : Nat} {u w : World} (h : Keep b u w) (o : Obj) : Keep b u (w.alloc o) :=
  h.trans ⟨rfl, rfl, rfl, by simp, fun k hk _ => Below.heap_alloc _ _ _ hk⟩
theorem Keep.below {b B : Nat} {w w' : World} (h : Keep b w w') (hb : B ≤ b) (hB : B ≤ w.heap.size) : Below B w w' :=
  ⟨h.os, h.tape, h.output, h.size, fun k hk => h.block k (by omega) (by omega)⟩
theorem Keep.cell {b : Nat} {w w' : World} (h : Keep b w w') {p : Addr} (hs : p.block < w.heap.size) (hp : p.block ≠ b) : w'.cell? p = w.cell? p :=
  World.cell?_of_block (w := w) (h.block p.block hs hp)
theorem Keep.frozen {b : Nat} {w w' : World} (h : Keep b w w') {p : Addr} (hs : p.block < w.heap.size) (hp : p.block ≠ b) : w'.frozen? p = w.frozen? p :=
  World.frozen?_of_block (w := w) (h.block p.block hs hp)

/-- The bytes behind a reader's slice lie in a block below the reader's own. -/
def Bytes (w : World) (b : Nat) (a : Option Addr) (len : Nat) : Prop :=
  len = 0 ∨ ∃ rb ro, a = some ⟨rb, ro, none⟩ ∧ rb < b ∧ ∀ j, j < len → ∃ z : Int, 0 ≤ z ∧ z ≤ 255 ∧ w.cell? ⟨rb, ro + j, none⟩ = some (.int .u8 z)

/-- At block b lies a reader that has picked at most 'lim' times. -/
def Rd (w : World) (b : Nat) (lim : Int) : Prop :=
  b < w.heap.size ∧ ∃ a len cap p, len ≤ 2000 ∧ (0 : Int) ≤ p ∧ p ≤ lim ∧ w.cell? ⟨b, 0, none⟩ = some (.slice a len cap) ∧ w.cell? ⟨b, 1, none⟩ = some (.int .i64 p) ∧
    w.frozen? ⟨b, 1, none⟩ = false ∧ Bytes w b a len

theorem Rd.mono {w : World} {b : Nat} {l l' : Int} (h : Rd w b l) (hl : l ≤ l') : Rd w b l' := by
  obtain ⟨hs, a, len, cap, p, h1, h2, h3, h4⟩ := h
  exact ⟨hs, a, len, cap, p, h1, h2, by omega, h4⟩

theorem Rd.setCell {w : World} {b : Nat} {l q : Int} (h : Rd w b l) (h0 : 0 ≤ q) (hq : q ≤ l) : Rd (w.setCell ⟨b, 1, none⟩ (.int .i64 q)) b l := by
  obtain ⟨hs, a, len, cap, p, h1, h2, h3, h4, h5, h6, h7⟩ := h
  refine ⟨by simpa [World.setCell] using hs, a, len, cap, q, h1, h0, hq, ?_, ?_, ?_, ?_⟩
  · exact (World.cell?_setCell_other _ _ _ _ (by simp)).trans h4
  · exact World.cell?_setCell_same _ _ _ h5
  · rw [World.frozen?_setCell]; exact h6
  · rcases h7 with h7 | ⟨rb, ro, ha, hlt, hc⟩
    · exact .inl h7
    · refine .inr ⟨rb, ro, ha, hlt, fun j hj => ?_⟩
      obtain ⟨z, z0, z1, hz⟩ := hc j hj
      exact ⟨z, z0, z1, (World.cell?_setCell_other _ _ _ _ (fun e => by injection e; omega)).trans hz⟩

theorem Rd.drewN {w : World} {b : Nat} {l : Int} (h : Rd w b l) (n : Nat) : Rd (w.drewN n) b l := h

/-- A reader stays through what another block's writing does. -/
theorem Rd.keep {w w' : World} {b c : Nat} {l : Int} (h : Rd w b l) (k : Keep c w w') (hc : b < c) : Rd w' b l := by
  obtain ⟨hs, a, len, cap, p, h1, h2, h3, h4, h5, h6, h7⟩ := h
  refine ⟨Nat.lt_of_lt_of_le hs k.size, a, len, cap, p, h1, h2, h3, ?_, ?_, ?_, ?_⟩
  · rw [k.cell (p := ⟨b, 0, none⟩) hs (by show b ≠ c; omega)]; exact h4
  · rw [k.cell (p := ⟨b, 1, none⟩) hs (by show b ≠ c; omega)]; exact h5
  · rw [k.frozen (p := ⟨b, 1, none⟩) hs (by show b ≠ c; omega)]; exact h6
  · rcases h7 with h7 | ⟨rb, ro, ha, hlt, hcl⟩
    · exact .inl h7
    · refine .inr ⟨rb, ro, ha, hlt, fun j hj => ?_⟩
      obtain ⟨z, z0, z1, hz⟩ := hcl j hj
      exact ⟨z, z0, z1, by rw [k.cell (p := ⟨rb, ro + j, none⟩) (by show rb < _; omega) (by show rb ≠ c; omega)]; exact hz⟩

theorem Rd.alloc {w : World} {b : Nat} {l : Int} (h : Rd w b l) (o : Obj) : Rd (w.alloc o) b l :=
  h.keep (c := w.heap.size) ((Keep.refl _ w).alloc o) h.1

theorem Keep.new {b : Nat} {u w : World} (h : Keep b u w) {p : Addr} (hp : u.heap.size ≤ p.block) (v : Value) : Keep b u (w.setCell p v) :=
  ⟨h.os, h.tape, h.output, by simpa [World.setCell] using h.size, fun k hk hb => (Below.heap_setCell _ _ _ _ (by omega)).trans (h.block k hk hb)⟩

end Go.Proofs.YteohgmmenlinbagDoor
