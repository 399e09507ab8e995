/- bits.Len64 counts how often its number can be halved till nothing is left. Conditions: the number is one of 64 bits. -/
import Derived.Test.YteohgmmenlinbaaChecked
import Derived.Lib.Strings
import Derived.Lib.Slices
import Derived.Lib.Small
import Derived.Lib.Walk
import Derived.Lib.BitFns
namespace Go.Proofs.Yteohgmmenlinbaa
set_option linter.unusedVariables false

/-- How often a number can be halved till nothing is left. -/
def halvI (g : Int) : Int := (Lib.bitLen g.toNat : Nat)

theorem halv_zero : halvI 0 = 0 := by decide +kernel
theorem halv_step {g : Int} (h0 : 0 < g) (h1 : g ≤ 18446744073709551615) : halvI g = 1 + halvI (g / 2) := by
  unfold halvI
  have := Lib.bitLen_half g.toNat (by omega) (by omega)
  have e : (g / 2).toNat = g.toNat / 2 := by omega
  rw [e]
  omega
theorem halv_bounds {g : Int} (h0 : 0 ≤ g) (h1 : g ≤ 18446744073709551615) : 0 ≤ halvI g ∧ halvI g ≤ 64 := by
  unfold halvI
  have := Lib.bitLen_le g.toNat 64 (Nat.le_refl _) (by omega)
  omega

/-- The top byte of a number tells its length. -/
theorem len_top {x d : Int} (k : Nat) (hd : d = 2 ^ k) (hx : x ≤ 18446744073709551615) (h1 : d ≤ x) (h2 : x / d ≤ 255) : Lib.len8 (x / d) + k = halvI x := by
  have hd0 : 0 < d := by rw [hd]; exact Int.pow_pos (by decide)
  have h0 : 0 ≤ x / d := Int.ediv_nonneg (by omega) (by omega)
  rw [Lib.len8_of _ h0 h2]
  unfold halvI
  have e : (x / d).toNat = x.toNat / 2 ^ k := by
    obtain ⟨m, rfl⟩ : ∃ m : Nat, x = m := ⟨x.toNat, by omega⟩
    subst hd
    have : ((2 : Int) ^ k) = ((2 ^ k : Nat) : Int) := by simp
    rw [this, ← Int.natCast_ediv, Int.toNat_natCast, Int.toNat_natCast]
  have hk : 2 ^ k ≤ x.toNat := by
    have : ((2 ^ k : Nat) : Int) = d := by rw [hd]; simp
    omega
  have := Lib.bitLen_shift k x.toNat hk (by omega)
  rw [e]
  omega
theorem len_low {x : Int} (h0 : 0 ≤ x) (h1 : x ≤ 255) : Lib.len8 x = halvI x := by
  rw [Lib.len8_of _ h0 h1]; rfl

end Go.Proofs.Yteohgmmenlinbaa

namespace Go.Proofs
set_option maxHeartbeats 4000000 in
set_option maxRecDepth 100000 in
theorem Yteohgmmenlinbaa.len64 (w : World) (x : Int) (h0 : 0 ≤ x) (h1 : x ≤ 18446744073709551615) :
    Calls Try.prog 81 #[.int .u64 x] w fun e w' => e = .returned (.int .i64 (Yteohgmmenlinbaa.halvI x)) ∧ w' = w := by
  have hb := Yteohgmmenlinbaa.halv_bounds h0 h1
  go_enter Try.func81, Try.ntmps81
  go_wp2
  all_goals (go_ret; refine ⟨congrArg Ending.returned (congrArg (Value.int IntKind.i64) ?_), rfl⟩)
  all_goals first
    | (have l := Yteohgmmenlinbaa.len_top (x := x) (d := 72057594037927936) 56 rfl h1 (by omega) (by omega); rw [show x / 4294967296 / 65536 / 256 % 256 = x / 72057594037927936 by omega]; omega)
    | (have l := Yteohgmmenlinbaa.len_top (x := x) (d := 281474976710656) 48 rfl h1 (by omega) (by omega); rw [show x / 4294967296 / 65536 % 256 = x / 281474976710656 by omega]; omega)
    | (have l := Yteohgmmenlinbaa.len_top (x := x) (d := 1099511627776) 40 rfl h1 (by omega) (by omega); rw [show x / 4294967296 / 256 % 256 = x / 1099511627776 by omega]; omega)
    | (have l := Yteohgmmenlinbaa.len_top (x := x) (d := 4294967296) 32 rfl h1 (by omega) (by omega); rw [show x / 4294967296 % 256 = x / 4294967296 by omega]; omega)
    | (have l := Yteohgmmenlinbaa.len_top (x := x) (d := 16777216) 24 rfl h1 (by omega) (by omega); rw [show x / 65536 / 256 % 256 = x / 16777216 by omega]; omega)
    | (have l := Yteohgmmenlinbaa.len_top (x := x) (d := 65536) 16 rfl h1 (by omega) (by omega); rw [show x / 65536 % 256 = x / 65536 by omega]; omega)
    | (have l := Yteohgmmenlinbaa.len_top (x := x) (d := 256) 8 rfl h1 (by omega) (by omega); rw [show x / 256 % 256 = x / 256 by omega]; omega)
    | (have l := Yteohgmmenlinbaa.len_low h0 (by omega); rw [show x % 256 = x by omega]; omega)
end Go.Proofs
