/- Several texts in one: DrawA, DrawB, Top, DrawC, DrawD, DrawE, Own, SpecA, SpecG, Flat, RegInv, DrawF, Gap0, Gap. -/
import Derived.Test.YteohgmmenlinbacDoorRows
import Derived.WalkKit
import Derived.ProofKit
import Derived.OpenShut
import Derived.ShutString
import Derived.ChangeOld
import Derived.Below
import Derived.Deep.QuietTactic
import Derived.BigQuiet
import Derived.Outline
import Derived.WalkSpells
import Derived.Deep.LoopGhost
import Derived.WalkLawsBesides
import Derived.BigRegion
/- What the drawing functions of the verifier's model (package spec) do to memory: contracts, stated over this seat's numbers of the functions; of what they answer only the bounds that a caller needs. -/
namespace Go.Proofs.YteohgmmenlinbacDoor
open Go.ChangeShapes Go.WideShapes Go.ChangeAt Go.RowKit
set_option linter.unusedVariables false

/-- All blocks of w but b are as they were. -/
structure Keep (b : Nat) (w w' : World) : Prop where
  os : w'.os = w.os
  tape : w'.tape = w.tape
  output : w'.output = w.output
  size : w.heap.size ≤ w'.heap.size
  block : ∀ k, k < w.heap.size → k ≠ b → w'.heap[k]? = w.heap[k]?

theorem Keep.refl (b : Nat) (w : World) : Keep b w w := ⟨rfl, rfl, rfl, Nat.le_refl _, fun _ _ _ => rfl⟩
theorem Keep.trans {b : Nat} {u v w : World} (h : Keep b u v) (k : Keep b v w) : Keep b u w :=
  ⟨k.os.trans h.os, k.tape.trans h.tape, k.output.trans h.output, Nat.le_trans h.size k.size,
    fun i hi hb => (k.block i (Nat.lt_of_lt_of_le hi h.size) hb).trans (h.block i hi hb)⟩
theorem Keep.drew {b : Nat} {u w : World} (h : Keep b u w) : Keep b u w.drew := ⟨h.os, h.tape, h.output, h.size, h.block⟩
theorem Keep.drewN {b : Nat} {u w : World} (h : Keep b u w) (n : Nat) : Keep b u (w.drewN n) := ⟨h.os, h.tape, h.output, h.size, h.block⟩
theorem Keep.setCell {b : Nat} {u w : World} (h : Keep b u w) {p : Addr} (hp : p.block = b) (v : Value) : Keep b u (w.setCell p v) :=
  h.trans ⟨rfl, rfl, rfl, by simp [World.setCell], fun k _ hb => Below.heap_setCell _ _ _ _ (by omega)⟩
theorem Keep.alloc {b : Nat} {u w : World} (h : Keep b u w) (o : Obj) : Keep b u (w.alloc o) :=
  h.trans ⟨rfl, rfl, rfl, by simp, fun k hk _ => Below.heap_alloc _ _ _ hk⟩
theorem Keep.below {b B : Nat} {w w' : World} (h : Keep b w w') (hb : B ≤ b) (hB : B ≤ w.heap.size) : Below B w w' :=
  ⟨h.os, h.tape, h.output, h.size, fun k hk => h.block k (by omega) (by omega)⟩
theorem Keep.cell {b : Nat} {w w' : World} (h : Keep b w w') {p : Addr} (hs : p.block < w.heap.size) (hp : p.block ≠ b) : w'.cell? p = w.cell? p :=
  World.cell?_of_block (w := w) (h.block p.block hs hp)
theorem Keep.frozen {b : Nat} {w w' : World} (h : Keep b w w') {p : Addr} (hs : p.block < w.heap.size) (hp : p.block ≠ b) : w'.frozen? p = w.frozen? p :=
  World.frozen?_of_block (w := w) (h.block p.block hs hp)

/-- The bytes behind a reader's slice lie in a block below the reader's own. -/
def Bytes (w : World) (b : Nat) (a : Option Addr) (len : Nat) : Prop :=
  len = 0 ∨ ∃ rb ro, a = some ⟨rb, ro, none⟩ ∧ rb < b ∧ ∀ j, j < len → ∃ z : Int, 0 ≤ z ∧ z ≤ 255 ∧ w.cell? ⟨rb, ro + j, none⟩ = some (.int .u8 z)

/-- At block b lies a reader that has picked at most 'lim' times. -/
def Rd (w : World) (b : Nat) (lim : Int) : Prop :=
  b < w.heap.size ∧ ∃ a len cap p, len ≤ 2000 ∧ (0 : Int) ≤ p ∧ p ≤ lim ∧ w.cell? ⟨b, 0, none⟩ = some (.slice a len cap) ∧ w.cell? ⟨b, 1, none⟩ = some (.int .i64 p) ∧
    w.frozen? ⟨b, 1, none⟩ = false ∧ Bytes w b a len

theorem Rd.mono {w : World} {b : Nat} {l l' : Int} (h : Rd w b l) (hl : l ≤ l') : Rd w b l' := by
  obtain ⟨hs, a, len, cap, p, h1, h2, h3, h4⟩ := h
  exact ⟨hs, a, len, cap, p, h1, h2, by omega, h4⟩

theorem Rd.setCell {w : World} {b : Nat} {l q : Int} (h : Rd w b l) (h0 : 0 ≤ q) (hq : q ≤ l) : Rd (w.setCell ⟨b, 1, none⟩ (.int .i64 q)) b l := by
  obtain ⟨hs, a, len, cap, p, h1, h2, h3, h4, h5, h6, h7⟩ := h
  refine ⟨by simpa [World.setCell] using hs, a, len, cap, q, h1, h0, hq, ?_, ?_, ?_, ?_⟩
  · exact (World.cell?_setCell_other _ _ _ _ (by simp)).trans h4
  · exact World.cell?_setCell_same _ _ _ h5
  · rw [World.frozen?_setCell]; exact h6
  · rcases h7 with h7 | ⟨rb, ro, ha, hlt, hc⟩
    · exact .inl h7
    · refine .inr ⟨rb, ro, ha, hlt, fun j hj => ?_⟩
      obtain ⟨z, z0, z1, hz⟩ := hc j hj
      exact ⟨z, z0, z1, (World.cell?_setCell_other _ _ _ _ (fun e => by injection e; omega)).trans hz⟩

theorem Rd.drewN {w : World} {b : Nat} {l : Int} (h : Rd w b l) (n : Nat) : Rd (w.drewN n) b l := h

/-- A reader stays through what another block's writing does. -/
theorem Rd.keep {w w' : World} {b c : Nat} {l : Int} (h : Rd w b l) (k : Keep c w w') (hc : b < c) : Rd w' b l := by
  obtain ⟨hs, a, len, cap, p, h1, h2, h3, h4, h5, h6, h7⟩ := h
  refine ⟨Nat.lt_of_lt_of_le hs k.size, a, len, cap, p, h1, h2, h3, ?_, ?_, ?_, ?_⟩
  · rw [k.cell (p := ⟨b, 0, none⟩) hs (by show b ≠ c; omega)]; exact h4
  · rw [k.cell (p := ⟨b, 1, none⟩) hs (by show b ≠ c; omega)]; exact h5
  · rw [k.frozen (p := ⟨b, 1, none⟩) hs (by show b ≠ c; omega)]; exact h6
  · rcases h7 with h7 | ⟨rb, ro, ha, hlt, hcl⟩
    · exact .inl h7
    · refine .inr ⟨rb, ro, ha, hlt, fun j hj => ?_⟩
      obtain ⟨z, z0, z1, hz⟩ := hcl j hj
      exact ⟨z, z0, z1, by rw [k.cell (p := ⟨rb, ro + j, none⟩) (by show rb < _; omega) (by show rb ≠ c; omega)]; exact hz⟩

theorem Rd.alloc {w : World} {b : Nat} {l : Int} (h : Rd w b l) (o : Obj) : Rd (w.alloc o) b l :=
  h.keep (c := w.heap.size) ((Keep.refl _ w).alloc o) h.1

theorem Keep.new {b : Nat} {u w : World} (h : Keep b u w) {p : Addr} (hp : u.heap.size ≤ p.block) (v : Value) : Keep b u (w.setCell p v) :=
  ⟨h.os, h.tape, h.output, by simpa [World.setCell] using h.size, fun k hk hb => (Below.heap_setCell _ _ _ _ (by omega)).trans (h.block k hk hb)⟩

end Go.Proofs.YteohgmmenlinbacDoor


/- The contract of the reader's 'pick'. -/
namespace Go.Proofs.YteohgmmenlinbacDoor
open Go.ChangeShapes Go.WideShapes Go.ChangeAt Go.RowKit
set_option linter.unusedVariables false

theorem i64_xor_nat (a b : Nat) (ha : a < 9223372036854775808) (hb : b < 9223372036854775808) : bits .xor .i64 (a : Int) (b : Int) = ((a ^^^ b : Nat) : Int) := by
  have hx : a ^^^ b < 2 ^ 63 := Nat.xor_lt_two_pow (by omega) (by omega)
  show IntKind.i64.wrap ((BitVec.ofInt 64 (a : Int) ^^^ BitVec.ofInt 64 (b : Int)).toNat : Int) = _
  rw [BitVec.toNat_xor, ofInt_u64 a (by omega), ofInt_u64 b (by omega), IntKind.wrap_i64]
  omega

theorem xor_pos (a b : Int) (h1 : 0 ≤ a) (h2 : a < 9223372036854775808) (h3 : 0 ≤ b) (h4 : b < 9223372036854775808) : 0 ≤ bits .xor .i64 a b := by
  obtain ⟨m, rfl⟩ := Int.eq_ofNat_of_zero_le h1
  obtain ⟨n, rfl⟩ := Int.eq_ofNat_of_zero_le h3
  rw [i64_xor_nat m n (by omega) (by omega)]
  omega

/-- The mixture behind the code's end is no number below 0. -/
theorem mix_pos (x y p : Int) (len : Nat) (h0 : 0 ≤ p) (h1 : p ≤ 1000000) (hl0 : 1 ≤ len) (x0 : 0 ≤ x) (x1 : x ≤ 255) (y0 : 0 ≤ y) (y1 : y ≤ 255) :
    0 ≤ bits .xor .i64 (wrap64 (x * 131 + y * 1117 + p * 29 + wrap64 (p / (len : Int) * 53))) (wrap64 ((wrap64 (x * 131 + y * 1117 + p * 29 + wrap64 (p / (len : Int) * 53))).tdiv 64)) := by
  have d0 : 0 ≤ p / (len : Int) := Int.ediv_nonneg h0 (by omega)
  have d1 : p / (len : Int) ≤ p := Int.ediv_le_self _ h0
  generalize p / (len : Int) = d at d0 d1
  have e1 : wrap64 (d * 53) = d * 53 := IntWalk.wrap64_in _ (by omega)
  rw [e1]
  have e2 : wrap64 (x * 131 + y * 1117 + p * 29 + d * 53) = x * 131 + y * 1117 + p * 29 + d * 53 := IntWalk.wrap64_in _ (by omega)
  rw [e2]
  have t0 : 0 ≤ x * 131 + y * 1117 + p * 29 + d * 53 := by omega
  have t1 : x * 131 + y * 1117 + p * 29 + d * 53 ≤ 1000000000 := by omega
  generalize x * 131 + y * 1117 + p * 29 + d * 53 = t at t0 t1
  rw [Int.tdiv_eq_ediv_of_nonneg t0]
  have e3 : wrap64 (t / 64) = t / 64 := IntWalk.wrap64_in _ (by omega)
  rw [e3]
  exact xor_pos _ _ t0 (by omega) (by omega) (by omega)

theorem pick_none (w : World) (b : Nat) (a : Option Addr) (len cap : Nat) (p n : Int) (hs : w.cell? ⟨b, 0, none⟩ = some (.slice a len cap)) (hp : w.cell? ⟨b, 1, none⟩ = some (.int .i64 p))
    (hf : w.frozen? ⟨b, 1, none⟩ = false) (h0 : 0 ≤ p) (h1 : p ≤ 1000000) (hn : n < 1 ∨ len = 0) (hl : len ≤ 2000) :
    Calls Tryd.prog 27 #[.pointer (some ⟨b, 0, none⟩), .int .i64 n] w fun e w' => e = .returned (.int .i64 0) ∧ w' = w.setCell ⟨b, 1, none⟩ (.int .i64 (p + 1)) := by
  rcases hn with hn | hn
  · go_enter Tryd.func27, Tryd.ntmps27
    go_wp2
    go_ret
    exact ⟨rfl, rfl⟩
  · subst hn
    by_cases hq : n < 1
    · go_enter Tryd.func27, Tryd.ntmps27
      go_wp2
      go_ret
      exact ⟨rfl, rfl⟩
    · go_enter Tryd.func27, Tryd.ntmps27
      go_wp2
      go_ret
      exact ⟨rfl, rfl⟩

theorem pick_in (w : World) (b rb ro : Nat) (len cap : Nat) (p n z : Int) (hs : w.cell? ⟨b, 0, none⟩ = some (.slice (some ⟨rb, ro, none⟩) len cap)) (hp : w.cell? ⟨b, 1, none⟩ = some (.int .i64 p))
    (hf : w.frozen? ⟨b, 1, none⟩ = false) (hb : rb < b) (h0 : 0 ≤ p) (h1 : p ≤ 1000000) (hn : 1 ≤ n) (hl : len ≤ 2000) (hlt : p < (len : Int)) (hz : w.cell? ⟨rb, ro + p.toNat, none⟩ = some (.int .u8 z)) (z0 : 0 ≤ z) (z1 : z ≤ 255) :
    Calls Tryd.prog 27 #[.pointer (some ⟨b, 0, none⟩), .int .i64 n] w fun e w' => e = .returned (.int .i64 (z % n)) ∧ w' = w.setCell ⟨b, 1, none⟩ (.int .i64 (p + 1)) := by
  have hz' : (w.setCell ⟨b, 1, none⟩ (.int .i64 (p + 1))).cell? ⟨rb, ro + p.toNat, none⟩ = some (.int .u8 z) := (World.cell?_setCell_other _ _ _ _ (fun e => by injection e; omega)).trans hz
  have l0 : ((len : Int) == 0) = false := by simp; omega
  have n1 : decide (n < 1) = false := by simp; omega
  go_enter Tryd.func27, Tryd.ntmps27
  go_wp2
  go_ret
  exact ⟨rfl, rfl⟩

theorem pick_mix (w : World) (b rb ro : Nat) (len cap : Nat) (p n x y : Int) (hs : w.cell? ⟨b, 0, none⟩ = some (.slice (some ⟨rb, ro, none⟩) len cap)) (hp : w.cell? ⟨b, 1, none⟩ = some (.int .i64 p))
    (hf : w.frozen? ⟨b, 1, none⟩ = false) (hb : rb < b) (h0 : 0 ≤ p) (h1 : p ≤ 1000000) (hn : 1 ≤ n) (hl : len ≤ 2000) (hl0 : 1 ≤ len) (hlt : (len : Int) ≤ p)
    (hx : w.cell? ⟨rb, ro + (p % (len : Int)).toNat, none⟩ = some (.int .u8 x)) (hy : w.cell? ⟨rb, ro + ((p * 7 + 3) % (len : Int)).toNat, none⟩ = some (.int .u8 y))
    (x0 : 0 ≤ x) (x1 : x ≤ 255) (y0 : 0 ≤ y) (y1 : y ≤ 255) :
    Calls Tryd.prog 27 #[.pointer (some ⟨b, 0, none⟩), .int .i64 n] w fun e w' => ∃ r, e = .returned (.int .i64 r) ∧ 0 ≤ r ∧ r < n ∧ ∃ m, w' = (w.setCell ⟨b, 1, none⟩ (.int .i64 (p + 1))).drewN m := by
  have hx' : (w.setCell ⟨b, 1, none⟩ (.int .i64 (p + 1))).cell? ⟨rb, ro + (p % (len : Int)).toNat, none⟩ = some (.int .u8 x) := (World.cell?_setCell_other _ _ _ _ (fun e => by injection e; omega)).trans hx
  have hy' : (w.setCell ⟨b, 1, none⟩ (.int .i64 (p + 1))).cell? ⟨rb, ro + ((p * 7 + 3) % (len : Int)).toNat, none⟩ = some (.int .u8 y) := (World.cell?_setCell_other _ _ _ _ (fun e => by injection e; omega)).trans hy
  have l0 : ((len : Int) == 0) = false := by simp; omega
  have n1 : decide (n < 1) = false := by simp; omega
  have q1 : 0 ≤ p % (len : Int) := Int.emod_nonneg _ (by omega)
  have q2 : p % (len : Int) < (len : Int) := Int.emod_lt_of_pos _ (by omega)
  have q3 : 0 ≤ (p * 7 + 3) % (len : Int) := Int.emod_nonneg _ (by omega)
  have q4 : (p * 7 + 3) % (len : Int) < (len : Int) := Int.emod_lt_of_pos _ (by omega)
  go_enter Tryd.func27, Tryd.ntmps27
  go_wp2
  go_quiet (fail)
  go_wp2
  go_ret
  have hm := mix_pos x y p len h0 h1 hl0 x0 x1 y0 y1
  refine ⟨_, rfl, Int.tmod_nonneg _ hm, ?_, _, rfl⟩
  rw [Int.tmod_eq_emod_of_nonneg hm]
  exact Int.emod_lt_of_pos _ (by omega)

/-- WHAT 'pick' DOES: whatever the reader, it answers a number from 0 on, below n where n is above 0; the reader has picked once more; no other block is touched. -/
theorem pick (w : World) (b : Nat) (lim n : Int) (h : Rd w b lim) (hl : lim ≤ 1000000) :
    Calls Tryd.prog 27 #[.pointer (some ⟨b, 0, none⟩), .int .i64 n] w fun e w' => ∃ r, e = .returned (.int .i64 r) ∧ 0 ≤ r ∧ (1 ≤ n → r < n) ∧ (r = 0 ∨ r < n) ∧ Rd w' b (lim + 1) ∧ Keep b w w' := by
  have hR := h
  obtain ⟨hs, a, len, cap, p, h1, h2, h3, h4, h5, h6, h7⟩ := h
  have hnew : Rd (w.setCell ⟨b, 1, none⟩ (.int .i64 (p + 1))) b (lim + 1) := (hR.mono (by omega)).setCell (by omega) (by omega)
  have hkeep : Keep b w (w.setCell ⟨b, 1, none⟩ (.int .i64 (p + 1))) := (Keep.refl b w).setCell rfl _
  by_cases hq : n < 1 ∨ len = 0
  · refine (pick_none w b a len cap p n h4 h5 h6 h2 (by omega) hq h1).mono ?_
    rintro e w' ⟨rfl, rfl⟩
    exact ⟨0, rfl, by omega, fun _ => by omega, .inl rfl, hnew, hkeep⟩
  · have hn : 1 ≤ n := by omega
    have hlen : 1 ≤ len := by omega
    rcases h7 with h7 | ⟨rb, ro, rfl, hlt, hc⟩
    · omega
    · by_cases hin : p < (len : Int)
      · obtain ⟨z, z0, z1, hz⟩ := hc p.toNat (by omega)
        refine (pick_in w b rb ro len cap p n z h4 h5 h6 hlt h2 (by omega) hn h1 hin hz z0 z1).mono ?_
        rintro e w' ⟨rfl, rfl⟩
        exact ⟨z % n, rfl, Int.emod_nonneg _ (by omega), fun _ => Int.emod_lt_of_pos _ (by omega), .inr (Int.emod_lt_of_pos _ (by omega)), hnew, hkeep⟩
      · have q1 : 0 ≤ p % (len : Int) := Int.emod_nonneg _ (by omega)
        have q2 : p % (len : Int) < (len : Int) := Int.emod_lt_of_pos _ (by omega)
        have q3 : 0 ≤ (p * 7 + 3) % (len : Int) := Int.emod_nonneg _ (by omega)
        have q4 : (p * 7 + 3) % (len : Int) < (len : Int) := Int.emod_lt_of_pos _ (by omega)
        obtain ⟨x, x0, x1, hx⟩ := hc (p % (len : Int)).toNat (by omega)
        obtain ⟨y, y0, y1, hy⟩ := hc ((p * 7 + 3) % (len : Int)).toNat (by omega)
        refine (pick_mix w b rb ro len cap p n x y h4 h5 h6 hlt h2 (by omega) hn h1 hlen (by omega) hx hy x0 x1 y0 y1).mono ?_
        rintro e w' ⟨r, rfl, r0, r1, m, rfl⟩
        exact ⟨r, rfl, r0, fun _ => r1, .inr r1, hnew.drewN m, hkeep.drewN m⟩

end Go.Proofs.YteohgmmenlinbacDoor


/- The model's BitTop. -/
namespace Go.Proofs.YteohgmmenlinbacDoor
open Go.ChangeShapes Go.WideShapes Go.ChangeAt Go.RowKit
set_option linter.unusedVariables false

/-- The order number of the infinite one, as the model has it. -/
def topI (w : Int) : Int := if w = 32 then 2139095040 else if w = 64 then 9218868437227405312 else 0

theorem bitTop (w : World) (n : Int) :
    Calls Tryd.prog 44 #[.int .i64 n] w fun e w' => e = .returned (.int .i64 (topI n)) ∧ w' = w := by
  unfold topI
  by_cases h1 : n = 32
  · subst h1
    go_enter Tryd.func44, Tryd.ntmps44
    go_wp2
    go_ret
    exact ⟨rfl, rfl⟩
  · by_cases h2 : n = 64
    · subst h2
      go_enter Tryd.func44, Tryd.ntmps44
      go_wp2
      go_ret
      exact ⟨rfl, rfl⟩
    · have e1 : (n == 32) = false := by simp; exact h1
      have e2 : (n == 64) = false := by simp; exact h2
      rw [if_neg h1, if_neg h2]
      go_enter Tryd.func44, Tryd.ntmps44
      go_wp2
      go_ret
      exact ⟨rfl, rfl⟩

theorem topI_bounds (n : Int) : 0 ≤ topI n ∧ topI n ≤ 9218868437227405312 := by
  unfold topI
  split
  · omega
  · split <;> omega

end Go.Proofs.YteohgmmenlinbacDoor


/- The contracts of the reader's 'big' and 'ord', and of 'BitTop' of the model. -/
namespace Go.Proofs.YteohgmmenlinbacDoor
open Go.ChangeShapes Go.WideShapes Go.ChangeAt Go.RowKit
set_option linter.unusedVariables false

theorem big (w : World) (b : Nat) (lim : Int) (h : Rd w b lim) (hl : lim ≤ 999990) :
    Calls Tryd.prog 28 #[.pointer (some ⟨b, 0, none⟩)] w fun e w' => ∃ r, e = .returned (.int .u64 r) ∧ 0 ≤ r ∧ r ≤ 18446744073709551615 ∧ Rd w' b (lim + 8) ∧ Keep b w w' := by
  go_enter Tryd.func28, Tryd.ntmps28
  go_wp2
  go_loopg [3, 4] 8 (fun g sn si wr => ∃ (i : Nat) (n : Int), i + g = 8 ∧ sn = .int .u64 n ∧ si = .int .i64 i ∧ 0 ≤ n ∧ n ≤ 18446744073709551615 ∧ Rd wr b (lim + i) ∧ Keep b w wr)
  case atStart => exact ⟨0, 0, rfl, rfl, rfl, by omega, by omega, by simpa using h, Keep.refl b w⟩
  case round =>
    obtain ⟨i, n, hi, rfl, rfl, n0, n1, hr, hk⟩ := hrel
    have hp := fun hl' => pick wr b (lim + i) 256 hr hl'
    have hk' : Hid (Rd wr b (lim + i) ∧ Keep b w wr) := ⟨hr, hk⟩
    clear hr hk h
    go_wp2_with (go_at_call 27; go_must (refine (hp (by omega)).mono ?_); rintro e w1 ⟨r, rfl, r0, r1, -, hr1, hk1⟩)
    · go_roundg (8 - (i + 1))
      case measure => omega
      case rel =>
        refine ⟨i + 1, _, by omega, rfl, by go_num, ?_, ?_, ?_, hk'.out.2.trans hk1⟩
        · rw [IntKind.wrap_u64]; omega
        · rw [IntKind.wrap_u64]; omega
        · have e : lim + (i : Int) + 1 = lim + ((i + 1 : Nat) : Int) := by omega
          rw [e] at hr1; exact hr1
    · go_ret
      exact ⟨n, rfl, n0, n1, hk'.out.1.mono (by omega), hk'.out.2⟩

end Go.Proofs.YteohgmmenlinbacDoor


/- The contract of the reader's 'ord'. -/
namespace Go.Proofs.YteohgmmenlinbacDoor
open Go.ChangeShapes Go.WideShapes Go.ChangeAt Go.RowKit
set_option linter.unusedVariables false

/-- Since the world w0 only the reader at b has been written to, and new blocks have come; it has picked at most 'lim' times. -/
def St (w0 : World) (b : Nat) (lim : Int) (w : World) : Prop := Rd w b lim ∧ Keep b w0 w

theorem St.start {w : World} {b : Nat} {lim : Int} (h : Rd w b lim) : St w b lim w := ⟨h, Keep.refl b w⟩
theorem St.mono {w0 w : World} {b : Nat} {l l' : Int} (h : St w0 b l w) (hl : l ≤ l') : St w0 b l' w := ⟨h.1.mono hl, h.2⟩

theorem pickSt {w0 w : World} {b : Nat} {lim n : Int} (h : St w0 b lim w) (hl : lim ≤ 1000000) :
    Calls Tryd.prog 27 #[.pointer (some ⟨b, 0, none⟩), .int .i64 n] w fun e w' => ∃ r, e = .returned (.int .i64 r) ∧ 0 ≤ r ∧ (1 ≤ n → r < n) ∧ St w0 b (lim + 1) w' :=
  (pick w b lim n h.1 hl).mono fun _ _ ⟨r, he, h0, h1, _, hr, hk⟩ => ⟨r, he, h0, h1, hr, h.2.trans hk⟩

theorem bigSt {w0 w : World} {b : Nat} {lim : Int} (h : St w0 b lim w) (hl : lim ≤ 999990) :
    Calls Tryd.prog 28 #[.pointer (some ⟨b, 0, none⟩)] w fun e w' => ∃ r, e = .returned (.int .u64 r) ∧ 0 ≤ r ∧ r ≤ 18446744073709551615 ∧ St w0 b (lim + 8) w' :=
  (big w b lim h.1 hl).mono fun _ _ ⟨r, he, h0, h1, hr, hk⟩ => ⟨r, he, h0, h1, hr, h.2.trans hk⟩

theorem neg_mod (x t : Int) (t0 : 0 ≤ t) (t1 : t ≤ 9218868437227405312) :
    -(t + 5) ≤ wrap64 (-(x % (t + 1))) ∧ wrap64 (-(x % (t + 1))) ≤ t + 5 ∧ -(t + 5) ≤ x % (t + 1) ∧ x % (t + 1) ≤ t + 5 := by
  have h0 : 0 ≤ x % (t + 1) := Int.emod_nonneg _ (by omega)
  have h1 : x % (t + 1) < t + 1 := Int.emod_lt_of_pos _ (by omega)
  generalize x % (t + 1) = y at h0 h1
  rw [IntWalk.wrap64_in _ (by omega)]
  omega

theorem ord (w0 w : World) (b : Nat) (lim n : Int) (h : St w0 b lim w) (hl : lim ≤ 999900) :
    Calls Tryd.prog 51 #[.pointer (some ⟨b, 0, none⟩), .int .i64 n] w fun e w' => ∃ r, e = .returned (.int .i64 r) ∧ -(topI n + 5) ≤ r ∧ r ≤ topI n + 5 ∧ St w0 b (lim + 20) w' := by
  have hT := bitTop w n
  have hB := topI_bounds n
  generalize topI n = t at hT hB ⊢
  obtain ⟨t0, t1⟩ := hB
  go_enter Tryd.func51, Tryd.ntmps51
  go_wp2_with first | (go_at_call 44; go_must (refine hT.mono ?_); rintro e w1 ⟨rfl, rfl⟩; clear hT) | (go_at_call 27; go_must (refine (pickSt (by assumption) (by omega)).mono ?_); clear h; rintro e w1 ⟨r, rfl, r0, r1, h⟩; replace r1 := r1 (by omega)) | (go_at_call 28; go_must (refine (bigSt (by assumption) (by omega)).mono ?_); clear h; rintro e w1 ⟨r, rfl, r0, r1, h⟩)
  all_goals go_ret
  all_goals refine ⟨_, rfl, ?_, ?_, h.mono (by omega)⟩
  all_goals first | omega | exact (neg_mod _ t t0 t1).1 | exact (neg_mod _ t t0 t1).2.1 | exact (neg_mod _ t t0 t1).2.2.1 | exact (neg_mod _ t t0 t1).2.2.2

/-- A block of cells that was laid ahead of the calls stands as it was laid. -/
theorem St.laid {w w1 : World} {b : Nat} {l : Int} {c : Array Value} {t : TypeId} (hb : b < w.heap.size) (h : St (w.alloc (.cells c t)) b l w1) (i : Nat) (v : Value) (hv : c[i]? = some v) :
    w1.cell? ⟨w.heap.size, i, none⟩ = some v ∧ w1.frozen? ⟨w.heap.size, i, none⟩ = false := by
  have hs : w.heap.size < (w.alloc (.cells c t)).heap.size := by simp
  refine ⟨?_, ?_⟩
  · rw [h.2.cell (p := ⟨w.heap.size, i, none⟩) hs (by show w.heap.size ≠ b; omega)]
    rw [World.cell?_alloc_new]
    exact hv
  · rw [h.2.frozen (p := ⟨w.heap.size, i, none⟩) hs (by show w.heap.size ≠ b; omega)]
    simp

/-- A number that is an order number of a width, or not far beyond. -/
def Nr (x : Int) : Prop := -9218868437227406400 ≤ x ∧ x ≤ 9218868437227406400

theorem Nr.wf {x : Int} (h : Nr x) : (Lit.int .i64 x).wf = true := by
  obtain ⟨h1, h2⟩ := h
  simp only [Lit.wf, IntKind.min, IntKind.max, IntKind.signed, IntKind.bits, Bool.and_eq_true, decide_eq_true_eq, if_true]
  omega

theorem ordSt {w0 w : World} {b : Nat} {lim n : Int} (h : St w0 b lim w) (hl : lim ≤ 999900) :
    Calls Tryd.prog 51 #[.pointer (some ⟨b, 0, none⟩), .int .i64 n] w fun e w' => ∃ r, e = .returned (.int .i64 r) ∧ -9218868437227405317 ≤ r ∧ r ≤ 9218868437227405317 ∧ St w0 b (lim + 20) w' := by
  refine (ord w0 w b lim n h hl).mono ?_
  rintro e w' ⟨r, rfl, h1, h2, h3⟩
  have hB := topI_bounds n
  exact ⟨r, rfl, by omega, by omega, h3⟩

end Go.Proofs.YteohgmmenlinbacDoor


/- The contract of the reader's 'pair'. -/
namespace Go.Proofs.YteohgmmenlinbacDoor
open Go.ChangeShapes Go.WideShapes Go.ChangeAt Go.RowKit
set_option linter.unusedVariables false

/-- What 'pair' leaves: two ints, the reader further on, all other old blocks as they were. -/
def DPairOut (w : World) (b : Nat) (lim : Int) (e : Ending) (w' : World) : Prop :=
  ∃ x y, e = .returned (.agg #[.int .i64 x, .int .i64 y]) ∧ Nr x ∧ Nr y ∧ Rd w' b lim ∧ Keep b w w'

theorem run_results_cell {fn : Func} {p : Tmp} {ty : TypeId} (h : fn.results = #[.cell p ty]) (tmps : Array Value) (P : Program) (w : World) :
    (results fn tmps).run P w = ((asAddr (tmps.getD p undef)).run P w).andThen fun a w₁ => (loadVar ty a).run P w₁ := by
  simp only [results, h]
  simp [Sem.run_bind, Result.andThen]

theorem pair_end {w w1 : World} {b : Nat} {lim l x y : Int} {T : Array Value} (hb : b < w.heap.size) (h : St (w.alloc (.cells #[.int .i64 0, .int .i64 0] 40)) b l w1) (hl : l ≤ lim)
    (wx : Nr x) (wy : Nr y) (ht : T.getD 4 undef = .pointer (some ⟨w.heap.size, 0, none⟩)) :
    bodyPost Tryd.prog Tryd.f48 (DPairOut w b lim) Exit.ret { tmps := T, defers := [] } ((w1.setCell ⟨w.heap.size, 0, none⟩ (.int .i64 x)).setCell ⟨w.heap.size, 1, none⟩ (.int .i64 y)) := by
  have c0 := (h.laid hb 0 _ rfl).1
  have c1 := (h.laid hb 1 _ rfl).1
  have d0 : ((w1.setCell ⟨w.heap.size, 0, none⟩ (.int .i64 x)).setCell ⟨w.heap.size, 1, none⟩ (.int .i64 y)).cell? ⟨w.heap.size, 0, none⟩ = some (.int .i64 x) :=
    (World.cell?_setCell_other _ _ _ _ (by simp)).trans (World.cell?_setCell_same _ _ _ c0)
  have d1 : ((w1.setCell ⟨w.heap.size, 0, none⟩ (.int .i64 x)).setCell ⟨w.heap.size, 1, none⟩ (.int .i64 y)).cell? ⟨w.heap.size, 1, none⟩ = some (.int .i64 y) :=
    World.cell?_setCell_same _ _ _ ((World.cell?_setCell_other _ _ _ _ (by simp)).trans c1)
  have kk : Keep b w w1 := ((Keep.refl b w).alloc _).trans h.2
  have rr : Rd ((w1.setCell ⟨w.heap.size, 0, none⟩ (.int .i64 x)).setCell ⟨w.heap.size, 1, none⟩ (.int .i64 y)) b lim :=
    (h.1.mono hl).keep (c := w.heap.size) (((Keep.refl w.heap.size w1).setCell (p := ⟨w.heap.size, 0, none⟩) rfl _).setCell (p := ⟨w.heap.size, 1, none⟩) rfl _) hb
  have k2 : Keep b w ((w1.setCell ⟨w.heap.size, 0, none⟩ (.int .i64 x)).setCell ⟨w.heap.size, 1, none⟩ (.int .i64 y)) := (kk.new (Nat.le_refl _) _).new (Nat.le_refl _) _
  refine bodyPost_ret (v := .agg #[.int .i64 x, .int .i64 y]) ?_ rfl ⟨x, y, rfl, wx, wy, rr, k2⟩
  generalize ((w1.setCell ⟨w.heap.size, 0, none⟩ (.int .i64 x)).setCell ⟨w.heap.size, 1, none⟩ (.int .i64 y)) = W at d0 d1
  rw [run_results_cell rfl, ht]
  simp [go_sem, d0, d1]

theorem pair (w : World) (b : Nat) (lim n : Int) (h : Rd w b lim) (hl : lim ≤ 999800) :
    Calls Tryd.prog 48 #[.pointer (some ⟨b, 0, none⟩), .int .i64 n] w (DPairOut w b (lim + 50)) := by
  have hb := h.1
  have hk0 : Keep b w (w.alloc (.cells #[.int .i64 0, .int .i64 0] 40)) := (Keep.refl b w).alloc _
  replace h : St (w.alloc (.cells #[.int .i64 0, .int .i64 0] 40)) b lim (w.alloc (.cells #[.int .i64 0, .int .i64 0] 40)) := St.start (h.alloc _)
  go_enter Tryd.func48, Tryd.ntmps48
  go_wp2_with first | (go_at_call 51; go_must (refine (ordSt (by assumption) (by omega)).mono ?_); clear h; rintro e w1 ⟨r, rfl, rlo, rhi, h⟩; have c0 := (h.laid hb 0 _ rfl).1; have c1 := (h.laid hb 1 _ rfl).1; have f0 := (h.laid hb 0 _ rfl).2; have f1 := (h.laid hb 1 _ rfl).2) | (go_at_call 27; go_must (refine (pickSt (by assumption) (by omega)).mono ?_); clear h; rintro e w1 ⟨r, rfl, r0, r1, h⟩; replace r1 := r1 (by omega); have c0 := (h.laid hb 0 _ rfl).1; have c1 := (h.laid hb 1 _ rfl).1; have f0 := (h.laid hb 0 _ rfl).2; have f1 := (h.laid hb 1 _ rfl).2)
  all_goals exact pair_end hb h (by omega) ⟨by omega, by omega⟩ ⟨by omega, by omega⟩ rfl

end Go.Proofs.YteohgmmenlinbacDoor


/- Blocks of the call's own: what lies in them, and what keeps it. -/
namespace Go.Proofs.YteohgmmenlinbacDoor
open Go.ChangeShapes Go.WideShapes Go.ChangeAt Go.RowKit
set_option linter.unusedVariables false

/-- In block k lie these values, cell by cell, and none is frozen. -/
structure Own (w : World) (k : Nat) (vs : List Value) : Prop where
  lt : k < w.heap.size
  cell : ∀ i v, vs[i]? = some v → w.cell? ⟨k, i, none⟩ = some v
  frz : ∀ i v, vs[i]? = some v → w.frozen? ⟨k, i, none⟩ = false

theorem Own.new (w : World) (c : Array Value) (t : TypeId) : Own (w.alloc (.cells c t)) w.heap.size c.toList :=
  ⟨by simp, fun i v h => by rw [World.cell?_alloc_new]; simpa using h, fun i v h => by simp⟩

theorem Own.keep {w w' : World} {b k : Nat} {vs : List Value} (h : Own w k vs) (q : Keep b w w') (hk : k ≠ b) : Own w' k vs :=
  ⟨Nat.lt_of_lt_of_le h.lt q.size, fun i v hv => (q.cell (p := ⟨k, i, none⟩) h.lt hk).trans (h.cell i v hv), fun i v hv => (q.frozen (p := ⟨k, i, none⟩) h.lt hk).trans (h.frz i v hv)⟩

theorem Keep.of_below {w w' : World} (b : Nat) (q : Below w.heap.size w w') : Keep b w w' := ⟨q.os, q.tape, q.output, q.size, fun k hk _ => q.block k hk⟩

theorem Own.below {w w' : World} {k : Nat} {vs : List Value} (h : Own w k vs) (q : Below w.heap.size w w') : Own w' k vs :=
  h.keep (b := w.heap.size) (Keep.of_below _ q) (by have := h.lt; omega)

theorem Own.alloc {w : World} {k : Nat} {vs : List Value} (h : Own w k vs) (o : Obj) : Own (w.alloc o) k vs :=
  h.below ((Below.refl _ _).alloc (Nat.le_refl _) _)

theorem Own.drewN {w : World} {k : Nat} {vs : List Value} (h : Own w k vs) (n : Nat) : Own (w.drewN n) k vs := ⟨h.lt, h.cell, h.frz⟩
theorem Own.drew {w : World} {k : Nat} {vs : List Value} (h : Own w k vs) : Own w.drew k vs := ⟨h.lt, h.cell, h.frz⟩

theorem Own.other {w : World} {k j i : Nat} {vs : List Value} (h : Own w k vs) (v : Value) (hk : j ≠ k) : Own (w.setCell ⟨j, i, none⟩ v) k vs :=
  ⟨by simpa [World.setCell] using h.lt, fun i' u hu => (World.cell?_setCell_other _ _ _ _ (fun e => by injection e; omega)).trans (h.cell i' u hu), fun i' u hu => by rw [World.frozen?_setCell]; exact h.frz i' u hu⟩

theorem Own.set {w : World} {k i : Nat} {vs : List Value} (h : Own w k vs) (v : Value) (hi : i < vs.length) : Own (w.setCell ⟨k, i, none⟩ v) k (vs.set i v) := by
  refine ⟨by simpa [World.setCell] using h.lt, fun j u hu => ?_, fun j u hu => ?_⟩
  · by_cases e : i = j
    · subst e
      rw [List.getElem?_set_self hi] at hu
      obtain rfl := Option.some.inj hu
      exact World.cell?_setCell_same _ _ _ (h.cell i _ (List.getElem?_eq_getElem hi))
    · rw [List.getElem?_set_ne e] at hu
      exact (World.cell?_setCell_other _ _ _ _ (fun q => by injection q; omega)).trans (h.cell j u hu)
  · rw [World.frozen?_setCell]
    by_cases e : i = j
    · subst e
      exact h.frz i _ (List.getElem?_eq_getElem hi)
    · rw [List.getElem?_set_ne e] at hu
      exact h.frz j u hu

theorem Own.set2 {w : World} {k : Nat} {a b : Value} (h : Own w k [a, b]) (x y : Value) : Own ((w.setCell ⟨k, 0, none⟩ x).setCell ⟨k, 1, none⟩ y) k [x, y] :=
  (h.set x (i := 0) (by simp)).set y (i := 1) (by simp)

theorem Rd.own {w : World} {b j i : Nat} {l : Int} (h : Rd w b l) (v : Value) (hj : b < j) : Rd (w.setCell ⟨j, i, none⟩ v) b l :=
  h.keep (c := j) ((Keep.refl j w).setCell rfl v) hj

theorem Rd.below {w w' : World} {b : Nat} {l : Int} (h : Rd w b l) (q : Below w.heap.size w w') : Rd w' b l :=
  h.keep (c := w.heap.size) (Keep.of_below _ q) h.1

end Go.Proofs.YteohgmmenlinbacDoor


/- The model's small functions of chapter 1: contracts. -/
namespace Go.Proofs.YteohgmmenlinbacDoor
open Go.ChangeShapes Go.WideShapes Go.ChangeAt Go.RowKit
set_option linter.unusedVariables false

/-- An order number of a width. -/
def okI (w n : Int) : Bool := (w == 32 || w == 64) && (decide (-(topI w) ≤ n) && decide (n ≤ topI w))

theorem okI_32 (n : Int) : okI 32 n = true ↔ -2139095040 ≤ n ∧ n ≤ 2139095040 := by simp [okI, topI]
theorem okI_64 (n : Int) : okI 64 n = true ↔ -9218868437227405312 ≤ n ∧ n ≤ 9218868437227405312 := by simp [okI, topI]
theorem okI_width {w n : Int} (h : okI w n = true) : w = 32 ∨ w = 64 := by
  simp only [okI, Bool.and_eq_true, Bool.or_eq_true, beq_iff_eq] at h
  exact h.1

theorem specOk (w : World) (n x : Int) (hx : (Lit.int .i64 x).wf = true) :
    Calls Tryd.prog 45 #[.int .i64 n, .int .i64 x] w fun e w' => e = .returned (.bool (okI n x)) ∧ w = w' := by
  by_cases h1 : n = 32
  · subst h1
    by_cases h2 : -2139095040 ≤ x
    · by_cases h3 : x ≤ 2139095040
      · rw [(okI_32 x).2 ⟨h2, h3⟩]
        go_enter Tryd.func45, Tryd.ntmps45
        go_wp2
        go_ret
        exact ⟨rfl, rfl⟩
      · rw [show okI 32 x = false by rw [Bool.eq_false_iff, Ne, okI_32]; omega]
        have d3 : decide (x ≤ 2139095040) = false := by simp; omega
        go_enter Tryd.func45, Tryd.ntmps45
        go_wp2
        go_ret
        exact ⟨rfl, rfl⟩
    · rw [show okI 32 x = false by rw [Bool.eq_false_iff, Ne, okI_32]; omega]
      have d3 : decide (-2139095040 ≤ x) = false := by simp; omega
      go_enter Tryd.func45, Tryd.ntmps45
      go_wp2
      go_ret
      exact ⟨rfl, rfl⟩
  · by_cases h2 : n = 64
    · subst h2
      by_cases h2 : -9218868437227405312 ≤ x
      · by_cases h3 : x ≤ 9218868437227405312
        · rw [(okI_64 x).2 ⟨h2, h3⟩]
          go_enter Tryd.func45, Tryd.ntmps45
          go_wp2
          go_ret
          exact ⟨rfl, rfl⟩
        · rw [show okI 64 x = false by rw [Bool.eq_false_iff, Ne, okI_64]; omega]
          have d3 : decide (x ≤ 9218868437227405312) = false := by simp; omega
          go_enter Tryd.func45, Tryd.ntmps45
          go_wp2
          go_ret
          exact ⟨rfl, rfl⟩
      · rw [show okI 64 x = false by rw [Bool.eq_false_iff, Ne, okI_64]; omega]
        have d3 : decide (-9218868437227405312 ≤ x) = false := by simp; omega
        go_enter Tryd.func45, Tryd.ntmps45
        go_wp2
        go_ret
        exact ⟨rfl, rfl⟩
    · have e1 : (n == 32) = false := by simp; exact h1
      have e2 : (n == 64) = false := by simp; exact h2
      rw [show okI n x = false by simp [okI, e1, e2]]
      go_enter Tryd.func45, Tryd.ntmps45
      go_wp2
      go_ret
      exact ⟨rfl, rfl⟩

end Go.Proofs.YteohgmmenlinbacDoor


/- The model's PairOk: its contract. -/
namespace Go.Proofs.YteohgmmenlinbacDoor
open Go.ChangeShapes Go.WideShapes Go.ChangeAt Go.RowKit
set_option linter.unusedVariables false

/-- A pair is ok. -/
def pokI (n lo hi : Int) : Bool := okI n lo && (okI n hi && (decide (lo ≤ hi) && (decide (lo < topI n) && decide (-(topI n) < hi))))

theorem specPairOk (w : World) (n lo hi : Int) (h1 : (Lit.int .i64 lo).wf = true) (h2 : (Lit.int .i64 hi).wf = true) :
    Calls Tryd.prog 19 #[.int .i64 n, .agg #[.int .i64 lo, .int .i64 hi]] w fun e w' => e = .returned (.bool (pokI n lo hi)) ∧ Below w.heap.size w w' := by
  have ht := fun W => bitTop W n
  have ha := fun W => specOk W n lo h1
  have hb := fun W => specOk W n hi h2
  have tb := topI_bounds n
  unfold pokI
  generalize topI n = t at *
  generalize okI n lo = A at *
  generalize okI n hi = B at *
  have bel : Hid (Below w.heap.size w (w.alloc (.cells #[.int .i64 lo, .int .i64 hi] 40))) := (Below.refl _ _).alloc (Nat.le_refl _) _
  cases A
  · go_enter Tryd.func19, Tryd.ntmps19
    go_wp2_with first
      | (go_at_call 44; go_must (refine (ht _).mono ?_); rintro e w1 ⟨rfl, rfl⟩)
      | (go_at_call 45; refine (ha _).mono ?_; clear ha; rintro e w1 ⟨rfl, rfl⟩)
    go_ret
    exact ⟨by simp, bel.out⟩
  · cases B
    · go_enter Tryd.func19, Tryd.ntmps19
      go_wp2_with first
        | (go_at_call 44; go_must (refine (ht _).mono ?_); rintro e w1 ⟨rfl, rfl⟩)
        | (go_at_call 45; refine (ha _).mono ?_; clear ha; rintro e w1 ⟨rfl, rfl⟩)
        | (go_at_call 45; refine (hb _).mono ?_; clear hb; rintro e w1 ⟨rfl, rfl⟩)
      go_ret
      exact ⟨by simp, bel.out⟩
    · by_cases k1 : lo ≤ hi
      · by_cases k2 : lo < t
        · by_cases k3 : -t < hi
          · go_enter Tryd.func19, Tryd.ntmps19
            go_wp2_with first
              | (go_at_call 44; go_must (refine (ht _).mono ?_); rintro e w1 ⟨rfl, rfl⟩)
              | (go_at_call 45; refine (ha _).mono ?_; clear ha; rintro e w1 ⟨rfl, rfl⟩)
              | (go_at_call 45; refine (hb _).mono ?_; clear hb; rintro e w1 ⟨rfl, rfl⟩)
            go_ret
            exact ⟨by simp [k1, k2, k3], bel.out⟩
          · have d : decide (-t < hi) = false := by simp; omega
            go_enter Tryd.func19, Tryd.ntmps19
            go_wp2_with first
              | (go_at_call 44; go_must (refine (ht _).mono ?_); rintro e w1 ⟨rfl, rfl⟩)
              | (go_at_call 45; refine (ha _).mono ?_; clear ha; rintro e w1 ⟨rfl, rfl⟩)
              | (go_at_call 45; refine (hb _).mono ?_; clear hb; rintro e w1 ⟨rfl, rfl⟩)
            go_ret
            exact ⟨by simp [d], bel.out⟩
        · have d : decide (lo < t) = false := by simp; omega
          go_enter Tryd.func19, Tryd.ntmps19
          go_wp2_with first
            | (go_at_call 44; go_must (refine (ht _).mono ?_); rintro e w1 ⟨rfl, rfl⟩)
            | (go_at_call 45; refine (ha _).mono ?_; clear ha; rintro e w1 ⟨rfl, rfl⟩)
            | (go_at_call 45; refine (hb _).mono ?_; clear hb; rintro e w1 ⟨rfl, rfl⟩)
          go_ret
          exact ⟨by simp [d], bel.out⟩
      · have d : decide (lo ≤ hi) = false := by simp; omega
        go_enter Tryd.func19, Tryd.ntmps19
        go_wp2_with first
          | (go_at_call 44; go_must (refine (ht _).mono ?_); rintro e w1 ⟨rfl, rfl⟩)
          | (go_at_call 45; refine (ha _).mono ?_; clear ha; rintro e w1 ⟨rfl, rfl⟩)
          | (go_at_call 45; refine (hb _).mono ?_; clear hb; rintro e w1 ⟨rfl, rfl⟩)
        go_ret
        exact ⟨by simp [d], bel.out⟩

end Go.Proofs.YteohgmmenlinbacDoor


/- The cells of a list of pairs; rows that a call owns. -/
namespace Go.Proofs.YteohgmmenlinbacDoor
open Go.ChangeShapes Go.WideShapes Go.ChangeAt Go.RowKit
set_option linter.unusedVariables false

theorem infoPair : (Tryd.prog.info? 40).map (fun i => (i.zero, i.size, i.bytes)) = some (some (.agg #[.int .i64 0, .int .i64 0]), 2, 16) := by kernel_rfl

/-- The cells of a list of pairs. -/
def flat (ps : List (Int × Int)) : List Value := ps.flatMap fun p => [.int .i64 p.1, .int .i64 p.2]

theorem flat_snoc (ps : List (Int × Int)) (x y : Int) : flat ps ++ [.int .i64 x, .int .i64 y] = flat (ps ++ [(x, y)]) := by
  simp [flat]

theorem ownsRow_keep {w w' : World} {base b : Nat} {e : TypeId} {size : Nat} {v : Value} {n : Nat} {xs : List Value} (h : w.ownsRow base e size v n xs) (q : Keep b w w') (hb : b < base) : w'.ownsRow base e size v n xs := by
  obtain ⟨h1, h2⟩ := h
  refine ⟨h1, ?_⟩
  rcases h2 with h2 | ⟨g, cap, cur, a1, a2, a3, a4⟩
  · exact .inl h2
  · have hg : g < w.heap.size := by
      rcases Nat.lt_or_ge g w.heap.size with q | q
      · exact q
      · rw [Array.getElem?_eq_none q] at a3; cases a3
    exact .inr ⟨g, cap, cur, a1, a2, by rw [q.block g hg (by omega)]; exact a3, a4⟩

theorem Keep.trans_new {b c : Nat} {u v w : World} (h : Keep b u v) (k : Keep c v w) (hc : u.heap.size ≤ c) : Keep b u w :=
  ⟨k.os.trans h.os, k.tape.trans h.tape, k.output.trans h.output, Nat.le_trans h.size k.size, fun i hi hb => (k.block i (Nat.lt_of_lt_of_le hi h.size) (by omega)).trans (h.block i hi hb)⟩

theorem Keep.of_grown {w w' : World} {base : Nat} {e : TypeId} {size : Nat} {v : Value} {n : Nat} {xs : List Value} (hg : w.grownBy w' v.ownBlock) (hr : w.ownsRow base e size v n xs) (hB : base ≤ w.heap.size) : ∃ c, base ≤ c ∧ Keep c w w' := by
  rcases hr.2 with ⟨rfl, _⟩ | ⟨g, cap, cur, rfl, hgb, _⟩
  · exact ⟨w.heap.size, hB, hg.os, hg.tape, hg.output, hg.size, fun k hk _ => hg.block k hk (by simp [Value.ownBlock])⟩
  · exact ⟨g, hgb, hg.os, hg.tape, hg.output, hg.size, fun k hk hne => hg.block k hk (by simp [Value.ownBlock]; exact hne)⟩

theorem cell_two_new (w : World) (a b : Value) (t : TypeId) : ∀ j u, [a, b][j]? = some u → (w.alloc (.cells #[a, b] t)).cell? ((⟨w.heap.size, 0, none⟩ : Addr).add j) = some u := by
  intro j u hj
  match j, hj with
  | 0, hj => simp at hj; subst hj; simp [Addr.add]
  | 1, hj => simp at hj; subst hj; simp [Addr.add]
  | j + 2, hj => simp at hj

theorem cell_two_at {w : World} {k : Nat} {a b : Value} {t : TypeId} (hk : w.heap.size = k) : ∀ j u, [a, b][j]? = some u → (w.alloc (.cells #[a, b] t)).cell? ((⟨k, 0, none⟩ : Addr).add j) = some u := by
  subst hk
  exact cell_two_new w a b t

end Go.Proofs.YteohgmmenlinbacDoor


/- A region that draws its order, walked by an invariant: whatever operation comes up, it keeps the invariant. No program is named here. -/
namespace Go.Proofs.YteohgmmenlinbacDoor
open Go.RowKit

theorem all_listed {ops : Array Oper} {md : Region.Mode} {listed : Array Bool} (hsz : listed.size = ops.size) (hac : ∀ i o, ops[i]? = some o → ∀ e ∈ o.after, Region.binds md e = true → e.on < i)
    (hr : Region.ready md ops listed = []) : ∀ i, i < ops.size → listed.getD i false = true := by
  intro i
  induction i using Nat.strongRecOn with
  | ind i ih =>
    intro hi
    have ho : ops[i]? = some ops[i] := Array.getElem?_eq_getElem hi
    have hn : i ∉ Region.ready md ops listed := by rw [hr]; simp
    rw [mem_ready] at hn
    cases hl : listed.getD i false with
    | true => rfl
    | false =>
      exfalso
      apply hn
      refine ⟨?_, _, ho, fun e he hb => ?_⟩
      · have hi' : i < listed.size := by omega
        simp only [Array.getD_eq_getD_getElem?, Array.getElem?_eq_getElem hi', Option.getD_some] at hl ⊢
        exact hl
      · have hlt := hac i _ ho e he hb
        exact ih e.on hlt (by omega)

theorem any_inv {P : Program} {ops : Array Oper} {md : Region.Mode} {Q : Exit → Act → World → Prop} (I : (Nat → Bool) → Act → World → Prop)
    (hac : ∀ i o, ops[i]? = some o → ∀ e ∈ o.after, Region.binds md e = true → e.on < i)
    (hs : ∀ f a w i o, I f a w → ops[i]? = some o → f i = false → (∀ e ∈ o.after, Region.binds md e = true → f e.on = true) → wpOp P ops Q i (fun a' w' => I (fun j => j == i || f j) a' w') a w)
    (he : ∀ f a w, I f a w → (∀ i, i < ops.size → f i = true) → Q .normal a w) :
    ∀ (fuel : Nat) (listed : Array Bool) (a : Act) (w : World), listed.size = ops.size → listed.toList.count false ≤ fuel → I (fun j => listed.getD j false) a w → wpAny P md ops Q fuel listed a w := by
  intro fuel
  induction fuel with
  | zero =>
    intro listed a w hsz hc hI
    have hall : ∀ i, i < ops.size → listed.getD i false = true := by
      intro i hi
      have hi' : i < listed.size := by omega
      have h0 : listed.toList.count false = 0 := by omega
      rw [List.count_eq_zero] at h0
      cases hb : listed[i] with
      | true => simp [Array.getElem?_eq_getElem hi', hb]
      | false => exact absurd (by rw [← hb]; simp) h0
    refine ⟨?_, he _ _ _ hI hall⟩
    apply List.eq_nil_iff_forall_not_mem.2
    intro i hi
    rw [mem_ready] at hi
    obtain ⟨h0, o, ho, _⟩ := hi
    have hlt : i < ops.size := (Array.getElem?_eq_some_iff.1 ho).1
    have hi' : i < listed.size := by omega
    have := hall i hlt
    simp only [Array.getD_eq_getD_getElem?, Array.getElem?_eq_getElem hi', Option.getD_some] at h0 this
    rw [h0] at this
    cases this
  | succ fuel ih =>
    intro listed a w hsz hc hI
    refine ⟨fun hr => he _ _ _ hI (all_listed hsz hac hr), fun i hi => ?_⟩
    rw [mem_ready] at hi
    obtain ⟨h0, o, ho, hall⟩ := hi
    have hlt : i < ops.size := (Array.getElem?_eq_some_iff.1 ho).1
    have hi' : i < listed.size := by omega
    have hf : listed.getD i false = false := by
      simp only [Array.getD_eq_getD_getElem?, Array.getElem?_eq_getElem hi', Option.getD_some] at h0 ⊢
      exact h0
    refine wpOp_mono (fun a' w' hI' => ih _ a' w' (by simpa using hsz) ?_ ?_) (hs _ a w i o hI ho hf hall)
    · have hb : listed[i] = false := by
        simpa only [Array.getD_eq_getD_getElem?, Array.getElem?_eq_getElem hi', Option.getD_some] using hf
      have e : (listed.setIfInBounds i true).toList = listed.toList.set i true := by simp
      rw [e]
      have hl : i < listed.toList.length := by simpa using hi'
      have := List.count_set (a := true) (b := false) hl
      rw [this]
      have hb2 : listed.toList[i] = false := by simpa using hb
      have h1 : (true == false) = false := rfl
      simp only [hb2, beq_self_eq_true, if_true, h1, Bool.false_eq_true, if_false]
      omega
    · have e : (fun j => (listed.setIfInBounds i true).getD j false) = fun j => j == i || listed.getD j false := by
        funext j
        by_cases hij : j = i
        · subst hij
          simp [hi']
        · rw [getD_set_ne false (Ne.symm hij)]
          simp [hij]
      rw [e]
      exact hI'

/-- Every edge goes back. -/
def backB (md : Region.Mode) (ops : Array Oper) : Bool :=
  (List.range ops.size).all fun i => ((ops[i]?).map fun o => o.after.all fun e => !Region.binds md e || decide (e.on < i)).getD true

theorem back_of {md : Region.Mode} {ops : Array Oper} (h : backB md ops = true) : ∀ i o, ops[i]? = some o → ∀ e ∈ o.after, Region.binds md e = true → e.on < i := by
  intro i o ho e he hb
  have hlt : i < ops.size := (Array.getElem?_eq_some_iff.1 ho).1
  unfold backB at h
  rw [List.all_eq_true] at h
  have := h i (List.mem_range.2 hlt)
  rw [ho] at this
  simp only [Option.map_some, Option.getD_some, Array.all_eq_true_iff_forall_mem, Bool.or_eq_true, Bool.not_eq_true', decide_eq_true_eq] at this
  rcases this e he with h1 | h1
  · rw [hb] at h1; cases h1
  · exact h1

theorem region_inv {P : Program} {id : Nat} {ops : Array Oper} {Q : Exit → Act → World → Prop} {a : Act} {w : World} (hm : P.follows .mixedOrders = true) (hB : backB .any ops = true) (I : (Nat → Bool) → Act → World → Prop)
    (h0 : I (fun _ => false) a w.drew)
    (hs : ∀ f a w i o, I f a w → ops[i]? = some o → f i = false → (∀ e ∈ o.after, Region.binds .any e = true → f e.on = true) → wpOp P ops Q i (fun a' w' => I (fun j => j == i || f j) a' w') a w)
    (he : ∀ f a w, I f a w → (∀ i, i < ops.size → f i = true) → Q .normal a w) : (Code.region id ops true).wp P Q a w := by
  refine wp_region_any hm (any_inv I (back_of hB) hs he ops.size _ a _ (by simp) ?_ ?_)
  · simp
  · have e : (fun j => (Array.replicate ops.size false).getD j false) = fun _ => false := by
      funext j
      rw [Array.getD_eq_getD_getElem?]
      by_cases hj : j < ops.size
      · simp [hj]
      · rw [Array.getElem?_eq_none (by simp; omega)]; rfl
    rw [e]
    exact h0

def upd (f : Nat → Bool) (i : Nat) : Nat → Bool := fun j => j == i || f j
theorem upd_ne {f : Nat → Bool} {i j : Nat} (h : j ≠ i) (hu : upd f i j = true) : f j = true := by
  unfold upd at hu
  simpa [h] using hu
theorem upd_same {f : Nat → Bool} {i j : Nat} (h : j ≠ i) : upd f i j = f j := by
  unfold upd
  simp [h]
theorem upd_of {f : Nat → Bool} {i j : Nat} (h : f j = true) : upd f i j = true := by
  unfold upd
  simp [h]
theorem upd_self {f : Nat → Bool} {i : Nat} : upd f i i = true := by
  unfold upd
  simp

/-- Each operation, whenever it may come up, keeps the invariant. -/
def stepsOk (P : Program) (Q : Exit → Act → World → Prop) (I : (Nat → Bool) → Act → World → Prop) : Nat → List Oper → Prop
  | _, [] => True
  | i, o :: l => (∀ f a w, I f a w → f i = false → (o.after.all fun e => !Region.binds .any e || f e.on) = true → ∀ K : Act → World → Prop, (∀ a' w', I (upd f i) a' w' → K a' w') → o.wp P a w K Q) ∧ stepsOk P Q I (i + 1) l

theorem stepsOk_at {P : Program} {Q : Exit → Act → World → Prop} {I : (Nat → Bool) → Act → World → Prop} : ∀ (l : List Oper) (k i : Nat) (o : Oper), stepsOk P Q I k l → l[i]? = some o →
    ∀ f a w, I f a w → f (k + i) = false → (o.after.all fun e => !Region.binds .any e || f e.on) = true → o.wp P a w (fun a' w' => I (upd f (k + i)) a' w') Q
  | [], _, _, _, _, h => by simp at h
  | o' :: l, k, 0, o, hs, h => by
    simp at h
    subst h
    intro f a w h1 h2 h3
    exact hs.1 f a w h1 h2 h3 _ (fun _ _ h => h)
  | o' :: l, k, i + 1, o, hs, h => by
    have := stepsOk_at l (k + 1) i o hs.2 (by simpa using h)
    rw [show k + (i + 1) = k + 1 + i by omega]
    exact this

theorem dep_of {o : Oper} {f : Nat → Bool} (h : (o.after.all fun e => !Region.binds .any e || f e.on) = true) {e : Edge} (he : e ∈ o.after) (hb : Region.binds .any e = true) : f e.on = true := by
  rw [Array.all_eq_true_iff_forall_mem] at h
  have := h e he
  rw [hb] at this
  simpa using this

/-- The rule for a region without guards, its operations written out. -/
theorem region_steps {P : Program} {id : Nat} {l : List Oper} {Q : Exit → Act → World → Prop} {a : Act} {w : World} (hm : P.follows .mixedOrders = true) (hB : backB .any l.toArray = true) (hG : (l.all fun o => o.guard.isNone) = true)
    (I : Act → (Nat → Bool) → Act → World → Prop)
    (h0 : I a (fun _ => false) a w.drew) (hs : stepsOk P Q (I a) 0 l)
    (he : ∀ f a' w', I a f a' w' → (∀ i, i < l.length → f i = true) → Q .normal a' w') : (Code.region id l.toArray true).wp P Q a w := by
  refine region_inv hm hB (I a) h0 (fun f a' w' i o hI ho hf hd => ?_) (fun f a' w' hI hall => he f a' w' hI (by simpa using hall))
  have hol : l[i]? = some o := by simpa using ho
  have hg : o.guard = none := by
    rw [List.all_eq_true] at hG
    simpa using hG o (List.mem_of_getElem? hol)
  have hw : Region.wanted o (yielded l.toArray a'.tmps) = true := by
    unfold Region.wanted
    rw [hg]
  unfold wpOp
  simp only [ho, hw, if_true]
  refine .inl ?_
  have := stepsOk_at l 0 i o hs hol f a' w' hI (by simpa using hf) (by
    rw [Array.all_eq_true_iff_forall_mem]
    intro e he'
    cases hb : Region.binds .any e
    · rfl
    · simpa using hd e he' hb)
  rw [Nat.zero_add] at this
  exact this

end Go.Proofs.YteohgmmenlinbacDoor


/- The contract of the model's 'l5Open'. -/
namespace Go.Proofs.YteohgmmenlinbacDoor
open Go.ChangeShapes Go.WideShapes Go.ChangeAt Go.RowKit
set_option linter.unusedVariables false

/-- The bytes of a code: what the law is handed. -/
def Code8 (w : World) (a : Option Addr) (len : Nat) : Prop :=
  len = 0 ∨ ∃ rb ro, a = some ⟨rb, ro, none⟩ ∧ rb < w.heap.size ∧ ∀ j, j < len → ∃ z : Int, 0 ≤ z ∧ z ≤ 255 ∧ w.cell? ⟨rb, ro + j, none⟩ = some (.int .u8 z)

theorem code8_of {w : World} {x : Addr} {len cap : Nat} {zs : List Int} (hl : len ≤ cap) (hz : zs.length = cap) (hcell : ∀ i, i < zs.length → w.cell? (x.add i) = some (.int .u8 (zs.getD i 0)))
    (hwf : ∀ n ∈ zs, (Lit.int .u8 n).wf = true) : Code8 w (some x) len := by
  by_cases h0 : len = 0
  · exact .inl h0
  · obtain ⟨b, off, rfl, hc⟩ := ints_at hcell (by omega)
    refine .inr ⟨b, off, rfl, ?_, fun j hj => ?_⟩
    · have h := hc 0 (by omega)
      rcases Nat.lt_or_ge b w.heap.size with hb | hb
      · exact hb
      · simp [World.cell?, Array.getElem?_eq_none hb] at h
    · refine ⟨zs.getD j 0, ?_, ?_, hc j (by omega)⟩ <;>
        have hm : zs.getD j 0 ∈ zs := by rw [List.getD_eq_getElem?_getD, List.getElem?_eq_getElem (show j < zs.length by omega)]; exact List.getElem_mem _
      · have := bounds_u8 (hwf _ hm); omega
      · have := bounds_u8 (hwf _ hm); omega

theorem rd_new {w : World} {a : Option Addr} {len n cap : Nat} {t : TypeId} (hc : Code8 w a len) (hn : n ≤ len) (h2 : n ≤ 2000) : Rd (w.alloc (.cells #[.slice a n cap, .int .i64 0] t)) w.heap.size 0 := by
  refine ⟨by simp, a, n, cap, 0, h2, Int.le_refl _, Int.le_refl _, ?_, ?_, by simp, ?_⟩
  · rw [World.cell?_alloc_new]; rfl
  · rw [World.cell?_alloc_new]; rfl
  · rcases hc with hc | ⟨rb, ro, ha, hlt, hcell⟩
    · exact .inl (by omega)
    · refine .inr ⟨rb, ro, ha, hlt, fun j hj => ?_⟩
      obtain ⟨z, z0, z1, hz⟩ := hcell j (by omega)
      exact ⟨z, z0, z1, (World.cell?_alloc_lt _ _ _ hlt).trans hz⟩

theorem opened (w : World) (a : Option Addr) (len cap : Nat) (hc : Code8 w a len) (hl : len ≤ cap) (hm : len ≤ 1048576) :
    Calls Tryd.prog 23 #[.slice a len cap] w fun e w' => e = .returned (.pointer (some ⟨w.heap.size, 0, none⟩)) ∧ Rd w' w.heap.size 0 ∧ Keep w.heap.size w w' := by
  by_cases h2 : 2000 < len
  · go_enter Tryd.func23, Tryd.ntmps23
    go_wp2
    go_ret
    exact ⟨rfl, rd_new hc (by omega) (by omega), (Keep.refl _ _).alloc _⟩
  · go_enter Tryd.func23, Tryd.ntmps23
    go_wp2
    go_ret
    exact ⟨rfl, rd_new hc (by omega) (by omega), (Keep.refl _ _).alloc _⟩

end Go.Proofs.YteohgmmenlinbacDoor


/- Steps between two numbers. -/
namespace Go.Proofs.YteohgmmenlinbacDoor
open Go.ChangeShapes Go.WideShapes Go.ChangeAt Go.RowKit
set_option linter.unusedVariables false

def gapI (lo hi : Int) : Int := if hi < lo then 0 else hi - lo

theorem i64_bounds {n : Int} (h : (Lit.int .i64 n).wf = true) : -9223372036854775808 ≤ n ∧ n ≤ 9223372036854775807 := by
  simpa [Lit.wf, IntKind.min, IntKind.max, IntKind.signed, IntKind.bits, Bool.and_eq_true, decide_eq_true_eq] using h

theorem i64_wf {n : Int} (h1 : -9223372036854775808 ≤ n) (h2 : n ≤ 9223372036854775807) : (Lit.int .i64 n).wf = true := by
  simp only [Lit.wf, IntKind.min, IntKind.max, IntKind.signed, IntKind.bits, Bool.and_eq_true, decide_eq_true_eq, if_true]
  omega

theorem gap_eq {lo hi : Int} (h1 : (Lit.int .i64 lo).wf = true) (h2 : (Lit.int .i64 hi).wf = true) (h : ¬ hi < lo) :
    IntKind.u64.wrap (IntKind.u64.wrap hi - IntKind.u64.wrap lo) = gapI lo hi := by
  have a1 := i64_bounds h1
  have a2 := i64_bounds h2
  unfold gapI
  rw [if_neg h, IntKind.wrap_u64, IntKind.wrap_u64, IntKind.wrap_u64]
  omega

theorem gap_bounds {lo hi : Int} (h1 : (Lit.int .i64 lo).wf = true) (h2 : (Lit.int .i64 hi).wf = true) : 0 ≤ gapI lo hi ∧ gapI lo hi ≤ 18446744073709551615 := by
  have a1 := i64_bounds h1
  have a2 := i64_bounds h2
  unfold gapI
  split <;> omega

end Go.Proofs.YteohgmmenlinbacDoor


/- BitGap of the model: its contract. -/
namespace Go.Proofs.YteohgmmenlinbacDoor
open Go.ChangeShapes Go.WideShapes Go.ChangeAt Go.RowKit
set_option linter.unusedVariables false

end Go.Proofs.YteohgmmenlinbacDoor

