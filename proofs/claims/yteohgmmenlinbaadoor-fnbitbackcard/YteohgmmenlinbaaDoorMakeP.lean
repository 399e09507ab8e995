/- Making a float out of a size and a power: pure facts. -/
import Derived.Test.YteohgmmenlinbaaDoorSpecD
import Derived.Lib.TrailingZeros
import Derived.Lib.BitFns
namespace Go.Proofs.YteohgmmenlinbaaDoor
open Go.RowKit
set_option linter.unusedVariables false

theorem isV_shr {F : Nat} {L : Int} {r s : Nat} {p : Int} (z : Nat) (hp : -4000 ≤ p) (h : 2 ^ z ∣ s) : isV F L r (s / 2 ^ z) (p + z) ↔ isV F L r s p := by
  unfold isV
  have e : 2 ^ (p + z + 5000).toNat = 2 ^ z * 2 ^ (p + 5000).toNat := by rw [← Nat.pow_add]; congr 1; omega
  rw [e, ← Nat.mul_assoc, Nat.div_mul_cancel h]

theorem isV_shl {F : Nat} {L : Int} {r s : Nat} {p : Int} (k : Nat) (hp : -4000 ≤ p - k) : isV F L r (s * 2 ^ k) (p - k) ↔ isV F L r s p := by
  unfold isV
  have e : 2 ^ (p + 5000).toNat = 2 ^ k * 2 ^ (p - k + 5000).toNat := by rw [← Nat.pow_add]; congr 1; omega
  rw [e, Nat.mul_assoc]

theorem bitLen_two : ∀ (f s : Nat), s < f → 0 < s → s < 2 ^ 64 → 0 < Lib.bitLen s ∧ 2 ^ (Lib.bitLen s - 1) ≤ s ∧ s < 2 ^ Lib.bitLen s
  | 0, s, h, _, _ => by omega
  | f + 1, s, h, h0, h1 => by
    rw [Lib.bitLen_half s (by omega) h1]
    by_cases c : s = 1
    · subst c
      exact ⟨by decide, by decide, by decide⟩
    · obtain ⟨a, b, d⟩ := bitLen_two f (s / 2) (by omega) (by omega) (by omega)
      generalize Lib.bitLen (s / 2) = n at *
      refine ⟨by omega, ?_, ?_⟩
      · have : 1 + n - 1 = n - 1 + 1 := by omega
        rw [this, Nat.pow_succ]
        omega
      · rw [Nat.add_comm, Nat.pow_succ]
        omega

/-- The zeros at a number's end, and what is left of it. -/
theorem ctz_parts {s0 : Nat} (h0 : 0 < s0) (h1 : s0 < 2 ^ 64) : Lib.ctz 64 s0 < 64 ∧ 2 ^ Lib.ctz 64 s0 ∣ s0 ∧ s0 / 2 ^ Lib.ctz 64 s0 % 2 = 1 ∧ 0 < s0 / 2 ^ Lib.ctz 64 s0 := by
  unfold Lib.ctz
  rw [if_neg (by omega)]
  obtain ⟨m, hm, hlt⟩ := Lib.ctzFrom_spec 64 s0 h0 h1
  generalize Lib.ctzFrom 64 s0 = k at *
  have e : s0 / 2 ^ k = 2 * m + 1 := by
    rw [hm, Nat.mul_div_cancel_left _ (Nat.two_pow_pos k)]
  exact ⟨hlt, ⟨_, hm⟩, by rw [e]; omega, by rw [e]; omega⟩

/-- What is at hand behind the first four rows. -/
structure Mk (s0 : Nat) (p0 : Int) (z s n : Nat) : Prop where
  z64 : z < 64
  dvd : 2 ^ z ∣ s0
  eq : s = s0 / 2 ^ z
  odd : s % 2 = 1
  pos : 0 < s
  n0 : 0 < n
  lo : 2 ^ (n - 1) ≤ s
  hi : s < 2 ^ n
  n64 : n ≤ 64

theorem mk_of {s0 : Nat} (p0 : Int) (h0 : 0 < s0) (h1 : s0 < 2 ^ 64) : Mk s0 p0 (Lib.ctz 64 s0) (s0 / 2 ^ Lib.ctz 64 s0) (Lib.bitLen (s0 / 2 ^ Lib.ctz 64 s0)) := by
  obtain ⟨a, b, c, d⟩ := ctz_parts h0 h1
  have hs : s0 / 2 ^ Lib.ctz 64 s0 < 2 ^ 64 := Nat.lt_of_le_of_lt (Nat.div_le_self _ _) h1
  obtain ⟨e, f, g⟩ := bitLen_two _ _ (Nat.lt_succ_self _) d hs
  exact ⟨a, b, rfl, c, d, e, f, g, Lib.bitLen_le _ 64 (Nat.le_refl _) hs⟩

theorem mk_iff {s0 : Nat} {p0 : Int} {z s n : Nat} (h : Mk s0 p0 z s n) (hp : -4000 ≤ p0) (F : Nat) (L : Int) (r : Nat) : isV F L r s (p0 + z) ↔ isV F L r s0 p0 := by
  rw [h.eq]
  exact isV_shr z hp h.dvd

theorem make_none {F : Nat} {L : Int} {inf : Nat} {bl : Bool} {s0 : Nat} {p0 : Int} {z s n : Nat} (h : Mk s0 p0 z s n) (hL : -4000 ≤ L) (hp : -2000 ≤ p0) (hc : F + 1 < n ∨ p0 + z < L) : MakeAns F L inf bl s0 p0 0 false := by
  refine ans_none hL (by omega) (mk_iff h (by omega) F L) h.odd ?_
  rcases hc with hc | hc
  · left
    have := Nat.pow_le_pow_right (n := 2) (by decide) (show F + 1 ≤ n - 1 by omega)
    have := h.lo
    omega
  · exact .inr hc

/-- The size is moved up as far as there is room, and as the power goes down. -/
theorem make_fits {F : Nat} {L : Int} {s0 : Nat} {p0 : Int} {z s n sh : Nat} (h : Mk s0 p0 z s n) (hn : n ≤ F + 1) (hp : L ≤ p0 + z) (hs : (sh : Int) = min ((F : Int) + 1 - n) (p0 + z - L)) :
    s * 2 ^ sh < 2 ^ (F + 1) ∧ (p0 + z - sh = L ∨ 2 ^ F ≤ s * 2 ^ sh) ∧ L ≤ p0 + z - sh := by
  refine ⟨?_, ?_, by omega⟩
  · have h1 : s * 2 ^ sh < 2 ^ n * 2 ^ sh := Nat.mul_lt_mul_of_pos_right h.hi (Nat.two_pow_pos _)
    rw [← Nat.pow_add] at h1
    have := Nat.pow_le_pow_right (n := 2) (by decide) (show n + sh ≤ F + 1 by omega)
    omega
  · by_cases c : p0 + z - sh = L
    · exact .inl c
    · right
      have e : sh = F + 1 - n := by omega
      have h1 : 2 ^ (n - 1) * 2 ^ sh ≤ s * 2 ^ sh := Nat.mul_le_mul_right _ h.lo
      rw [← Nat.pow_add] at h1
      have := h.n0
      have e2 : n - 1 + sh = F := by omega
      rw [e2] at h1
      exact h1

theorem mk_shl {s0 : Nat} {p0 : Int} {z s n sh : Nat} (h : Mk s0 p0 z s n) (hp : -2000 ≤ p0) (hs : sh ≤ 64) (F : Nat) (L : Int) (r : Nat) : isV F L r (s * 2 ^ sh) (p0 + z - sh) ↔ isV F L r s0 p0 :=
  (isV_shl sh (by omega)).trans (mk_iff h (by omega) F L r)

theorem make_over {F G : Nat} {L : Int} {inf : Nat} {bl : Bool} {s0 : Nat} {p0 : Int} {z s n sh : Nat} (h : Mk s0 p0 z s n) (hL : -4000 ≤ L) (hp0 : -2000 ≤ p0) (hF : F ≤ 60) (hn : n ≤ F + 1) (hp : L ≤ p0 + z) (hs : (sh : Int) = min ((F : Int) + 1 - n) (p0 + z - L)) (hG : 2 ≤ G) (hi : inf = G * 2 ^ F)
    (hc : (G : Int) - 1 ≤ p0 + z - L - sh) : MakeAns F L inf bl s0 p0 0 false := by
  obtain ⟨f1, f2, f3⟩ := make_fits h hn hp hs
  have f4 : 2 ^ F ≤ s * 2 ^ sh := f2.resolve_left (by omega)
  refine ans_over hL f3 (mk_shl h hp0 (by omega) F L) f1 f4 ?_
  obtain ⟨d, hd⟩ : ∃ d, (p0 + z - sh - L).toNat = G - 1 + d := ⟨(p0 + z - sh - L).toNat - (G - 1), by omega⟩
  rw [hd, hi, Nat.add_mul]
  have e : G * 2 ^ F = (G - 1) * 2 ^ F + 2 ^ F := by
    have : G = G - 1 + 1 := by omega
    rw [this, Nat.add_mul, Nat.one_mul]
    simp
  rw [e]
  have := Nat.zero_le (d * 2 ^ F)
  omega

theorem make_fit {F G : Nat} {L : Int} {inf : Nat} {bl : Bool} {s0 : Nat} {p0 o : Int} {z s n sh : Nat} (h : Mk s0 p0 z s n) (hL : -4000 ≤ L) (hp0 : -2000 ≤ p0) (hF : F ≤ 60) (hn : n ≤ F + 1) (hp : L ≤ p0 + z) (hs : (sh : Int) = min ((F : Int) + 1 - n) (p0 + z - L)) (hG : 2 ≤ G) (hi : inf = G * 2 ^ F)
    (hc : p0 + z - L - sh < (G : Int) - 1) (ho : o = if bl then -(((p0 + z - L - sh).toNat * 2 ^ F + s * 2 ^ sh : Nat) : Int) else (((p0 + z - L - sh).toNat * 2 ^ F + s * 2 ^ sh : Nat) : Int)) : MakeAns F L inf bl s0 p0 o true := by
  obtain ⟨f1, f2, f3⟩ := make_fits h hn hp hs
  have e0 : p0 + z - L - sh = p0 + z - sh - L := by omega
  rw [e0] at ho hc
  refine ans_fit hL f3 (mk_shl h hp0 (by omega) F L) f1 f2 ?_ ho
  have hm : (p0 + z - sh - L).toNat ≤ G - 2 := by omega
  have := Nat.mul_le_mul_right (2 ^ F) hm
  have e : G * 2 ^ F = (G - 2) * 2 ^ F + 2 ^ (F + 1) := by
    have : G = G - 2 + 2 := by omega
    rw [Nat.pow_succ, Nat.mul_comm (2 ^ F) 2, ← Nat.add_mul, ← this]
  rw [hi, e]
  omega

/-- Two answers to one question are the same. -/
theorem make_same {F : Nat} {L : Int} {inf : Nat} {bl : Bool} {s0 : Nat} {p0 o o' : Int} {k k' : Bool} (h : MakeAns F L inf bl s0 p0 o k) (h' : MakeAns F L inf bl s0 p0 o' k') : o = o' ∧ k = k' := by
  rcases h with ⟨rfl, r, hr, hv, rfl⟩ | ⟨rfl, rfl, hn⟩
  · rcases h' with ⟨rfl, r', hr', hv', rfl⟩ | ⟨rfl, rfl, hn'⟩
    · have : r = r' := by
        unfold isV at hv hv'
        exact val_inj (Nat.eq_of_mul_eq_mul_right (Nat.two_pow_pos _) (hv.trans hv'.symm))
      subst this
      exact ⟨rfl, rfl⟩
    · exact absurd hv (hn' r hr)
  · rcases h' with ⟨rfl, r', hr', hv', rfl⟩ | ⟨rfl, rfl, hn'⟩
    · exact absurd hv' (hn r' hr')
    · exact ⟨rfl, rfl⟩

end Go.Proofs.YteohgmmenlinbaaDoor
