/- The contract of the reader's 'pick'. -/
import Derived.Test.YteohgmmenlinbaaDoorDrawA
namespace Go.Proofs.YteohgmmenlinbaaDoor
open Go.ChangeShapes Go.WideShapes Go.ChangeAt Go.RowKit
set_option linter.unusedVariables false

theorem i64_xor_nat (a b : Nat) (ha : a < 9223372036854775808) (hb : b < 9223372036854775808) : bits .xor .i64 (a : Int) (b : Int) = ((a ^^^ b : Nat) : Int) := by
  have hx : a ^^^ b < 2 ^ 63 := Nat.xor_lt_two_pow (by omega) (by omega)
  show IntKind.i64.wrap ((BitVec.ofInt 64 (a : Int) ^^^ BitVec.ofInt 64 (b : Int)).toNat : Int) = _
  rw [BitVec.toNat_xor, ofInt_u64 a (by omega), ofInt_u64 b (by omega), IntKind.wrap_i64]
  omega

theorem xor_pos (a b : Int) (h1 : 0 ≤ a) (h2 : a < 9223372036854775808) (h3 : 0 ≤ b) (h4 : b < 9223372036854775808) : 0 ≤ bits .xor .i64 a b := by
  obtain ⟨m, rfl⟩ := Int.eq_ofNat_of_zero_le h1
  obtain ⟨n, rfl⟩ := Int.eq_ofNat_of_zero_le h3
  rw [i64_xor_nat m n (by omega) (by omega)]
  omega

/-- The mixture behind the code's end is no number below 0. -/
theorem mix_pos (x y p : Int) (len : Nat) (h0 : 0 ≤ p) (h1 : p ≤ 1000000) (hl0 : 1 ≤ len) (x0 : 0 ≤ x) (x1 : x ≤ 255) (y0 : 0 ≤ y) (y1 : y ≤ 255) :
    0 ≤ bits .xor .i64 (wrap64 (x * 131 + y * 1117 + p * 29 + wrap64 (p / (len : Int) * 53))) (wrap64 ((wrap64 (x * 131 + y * 1117 + p * 29 + wrap64 (p / (len : Int) * 53))).tdiv 64)) := by
  have d0 : 0 ≤ p / (len : Int) := Int.ediv_nonneg h0 (by omega)
  have d1 : p / (len : Int) ≤ p := Int.ediv_le_self _ h0
  generalize p / (len : Int) = d at d0 d1
  have e1 : wrap64 (d * 53) = d * 53 := IntWalk.wrap64_in _ (by omega)
  rw [e1]
  have e2 : wrap64 (x * 131 + y * 1117 + p * 29 + d * 53) = x * 131 + y * 1117 + p * 29 + d * 53 := IntWalk.wrap64_in _ (by omega)
  rw [e2]
  have t0 : 0 ≤ x * 131 + y * 1117 + p * 29 + d * 53 := by omega
  have t1 : x * 131 + y * 1117 + p * 29 + d * 53 ≤ 1000000000 := by omega
  generalize x * 131 + y * 1117 + p * 29 + d * 53 = t at t0 t1
  rw [Int.tdiv_eq_ediv_of_nonneg t0]
  have e3 : wrap64 (t / 64) = t / 64 := IntWalk.wrap64_in _ (by omega)
  rw [e3]
  exact xor_pos _ _ t0 (by omega) (by omega) (by omega)

theorem pick_none (w : World) (b : Nat) (a : Option Addr) (len cap : Nat) (p n : Int) (hs : w.cell? ⟨b, 0, none⟩ = some (.slice a len cap)) (hp : w.cell? ⟨b, 1, none⟩ = some (.int .i64 p))
    (hf : w.frozen? ⟨b, 1, none⟩ = false) (h0 : 0 ≤ p) (h1 : p ≤ 1000000) (hn : n < 1 ∨ len = 0) (hl : len ≤ 2000) :
    Calls Tryd.prog 16 #[.pointer (some ⟨b, 0, none⟩), .int .i64 n] w fun e w' => e = .returned (.int .i64 0) ∧ w' = w.setCell ⟨b, 1, none⟩ (.int .i64 (p + 1)) := by
  rcases hn with hn | hn
  · go_enter Tryd.func16, Tryd.ntmps16
    go_wp2
    go_ret
    exact ⟨rfl, rfl⟩
  · subst hn
    by_cases hq : n < 1
    · go_enter Tryd.func16, Tryd.ntmps16
      go_wp2
      go_ret
      exact ⟨rfl, rfl⟩
    · go_enter Tryd.func16, Tryd.ntmps16
      go_wp2
      go_ret
      exact ⟨rfl, rfl⟩

theorem pick_in (w : World) (b rb ro : Nat) (len cap : Nat) (p n z : Int) (hs : w.cell? ⟨b, 0, none⟩ = some (.slice (some ⟨rb, ro, none⟩) len cap)) (hp : w.cell? ⟨b, 1, none⟩ = some (.int .i64 p))
    (hf : w.frozen? ⟨b, 1, none⟩ = false) (hb : rb < b) (h0 : 0 ≤ p) (h1 : p ≤ 1000000) (hn : 1 ≤ n) (hl : len ≤ 2000) (hlt : p < (len : Int)) (hz : w.cell? ⟨rb, ro + p.toNat, none⟩ = some (.int .u8 z)) (z0 : 0 ≤ z) (z1 : z ≤ 255) :
    Calls Tryd.prog 16 #[.pointer (some ⟨b, 0, none⟩), .int .i64 n] w fun e w' => e = .returned (.int .i64 (z % n)) ∧ w' = w.setCell ⟨b, 1, none⟩ (.int .i64 (p + 1)) := by
  have hz' : (w.setCell ⟨b, 1, none⟩ (.int .i64 (p + 1))).cell? ⟨rb, ro + p.toNat, none⟩ = some (.int .u8 z) := (World.cell?_setCell_other _ _ _ _ (fun e => by injection e; omega)).trans hz
  have l0 : ((len : Int) == 0) = false := by simp; omega
  have n1 : decide (n < 1) = false := by simp; omega
  go_enter Tryd.func16, Tryd.ntmps16
  go_wp2
  go_ret
  exact ⟨rfl, rfl⟩

theorem pick_mix (w : World) (b rb ro : Nat) (len cap : Nat) (p n x y : Int) (hs : w.cell? ⟨b, 0, none⟩ = some (.slice (some ⟨rb, ro, none⟩) len cap)) (hp : w.cell? ⟨b, 1, none⟩ = some (.int .i64 p))
    (hf : w.frozen? ⟨b, 1, none⟩ = false) (hb : rb < b) (h0 : 0 ≤ p) (h1 : p ≤ 1000000) (hn : 1 ≤ n) (hl : len ≤ 2000) (hl0 : 1 ≤ len) (hlt : (len : Int) ≤ p)
    (hx : w.cell? ⟨rb, ro + (p % (len : Int)).toNat, none⟩ = some (.int .u8 x)) (hy : w.cell? ⟨rb, ro + ((p * 7 + 3) % (len : Int)).toNat, none⟩ = some (.int .u8 y))
    (x0 : 0 ≤ x) (x1 : x ≤ 255) (y0 : 0 ≤ y) (y1 : y ≤ 255) :
    Calls Tryd.prog 16 #[.pointer (some ⟨b, 0, none⟩), .int .i64 n] w fun e w' => ∃ r, e = .returned (.int .i64 r) ∧ 0 ≤ r ∧ r < n ∧ ∃ m, w' = (w.setCell ⟨b, 1, none⟩ (.int .i64 (p + 1))).drewN m := by
  have hx' : (w.setCell ⟨b, 1, none⟩ (.int .i64 (p + 1))).cell? ⟨rb, ro + (p % (len : Int)).toNat, none⟩ = some (.int .u8 x) := (World.cell?_setCell_other _ _ _ _ (fun e => by injection e; omega)).trans hx
  have hy' : (w.setCell ⟨b, 1, none⟩ (.int .i64 (p + 1))).cell? ⟨rb, ro + ((p * 7 + 3) % (len : Int)).toNat, none⟩ = some (.int .u8 y) := (World.cell?_setCell_other _ _ _ _ (fun e => by injection e; omega)).trans hy
  have l0 : ((len : Int) == 0) = false := by simp; omega
  have n1 : decide (n < 1) = false := by simp; omega
  have q1 : 0 ≤ p % (len : Int) := Int.emod_nonneg _ (by omega)
  have q2 : p % (len : Int) < (len : Int) := Int.emod_lt_of_pos _ (by omega)
  have q3 : 0 ≤ (p * 7 + 3) % (len : Int) := Int.emod_nonneg _ (by omega)
  have q4 : (p * 7 + 3) % (len : Int) < (len : Int) := Int.emod_lt_of_pos _ (by omega)
  go_enter Tryd.func16, Tryd.ntmps16
  go_wp2
  go_quiet (fail)
  go_wp2
  go_ret
  have hm := mix_pos x y p len h0 h1 hl0 x0 x1 y0 y1
  refine ⟨_, rfl, Int.tmod_nonneg _ hm, ?_, _, rfl⟩
  rw [Int.tmod_eq_emod_of_nonneg hm]
  exact Int.emod_lt_of_pos _ (by omega)

/-- WHAT 'pick' DOES: whatever the reader, it answers a number from 0 on, below n where n is above 0; the reader has picked once more; no other block is touched. -/
theorem pick (w : World) (b : Nat) (lim n : Int) (h : Rd w b lim) (hl : lim ≤ 1000000) :
    Calls Tryd.prog 16 #[.pointer (some ⟨b, 0, none⟩), .int .i64 n] w fun e w' => ∃ r, e = .returned (.int .i64 r) ∧ 0 ≤ r ∧ (1 ≤ n → r < n) ∧ (r = 0 ∨ r < n) ∧ Rd w' b (lim + 1) ∧ Keep b w w' := by
  have hR := h
  obtain ⟨hs, a, len, cap, p, h1, h2, h3, h4, h5, h6, h7⟩ := h
  have hnew : Rd (w.setCell ⟨b, 1, none⟩ (.int .i64 (p + 1))) b (lim + 1) := (hR.mono (by omega)).setCell (by omega) (by omega)
  have hkeep : Keep b w (w.setCell ⟨b, 1, none⟩ (.int .i64 (p + 1))) := (Keep.refl b w).setCell rfl _
  by_cases hq : n < 1 ∨ len = 0
  · refine (pick_none w b a len cap p n h4 h5 h6 h2 (by omega) hq h1).mono ?_
    rintro e w' ⟨rfl, rfl⟩
    exact ⟨0, rfl, by omega, fun _ => by omega, .inl rfl, hnew, hkeep⟩
  · have hn : 1 ≤ n := by omega
    have hlen : 1 ≤ len := by omega
    rcases h7 with h7 | ⟨rb, ro, rfl, hlt, hc⟩
    · omega
    · by_cases hin : p < (len : Int)
      · obtain ⟨z, z0, z1, hz⟩ := hc p.toNat (by omega)
        refine (pick_in w b rb ro len cap p n z h4 h5 h6 hlt h2 (by omega) hn h1 hin hz z0 z1).mono ?_
        rintro e w' ⟨rfl, rfl⟩
        exact ⟨z % n, rfl, Int.emod_nonneg _ (by omega), fun _ => Int.emod_lt_of_pos _ (by omega), .inr (Int.emod_lt_of_pos _ (by omega)), hnew, hkeep⟩
      · have q1 : 0 ≤ p % (len : Int) := Int.emod_nonneg _ (by omega)
        have q2 : p % (len : Int) < (len : Int) := Int.emod_lt_of_pos _ (by omega)
        have q3 : 0 ≤ (p * 7 + 3) % (len : Int) := Int.emod_nonneg _ (by omega)
        have q4 : (p * 7 + 3) % (len : Int) < (len : Int) := Int.emod_lt_of_pos _ (by omega)
        obtain ⟨x, x0, x1, hx⟩ := hc (p % (len : Int)).toNat (by omega)
        obtain ⟨y, y0, y1, hy⟩ := hc ((p * 7 + 3) % (len : Int)).toNat (by omega)
        refine (pick_mix w b rb ro len cap p n x y h4 h5 h6 hlt h2 (by omega) hn h1 hlen (by omega) hx hy x0 x1 y0 y1).mono ?_
        rintro e w' ⟨r, rfl, r0, r1, m, rfl⟩
        exact ⟨r, rfl, r0, fun _ => r1, .inr r1, hnew.drewN m, hkeep.drewN m⟩

end Go.Proofs.YteohgmmenlinbaaDoor
