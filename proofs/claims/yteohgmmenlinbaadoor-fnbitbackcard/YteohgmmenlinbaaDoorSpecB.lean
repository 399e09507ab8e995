/- The model's BitPartOf: its contract. -/
import Derived.Test.YteohgmmenlinbaaDoorSpecA
import Derived.Test.YteohgmmenlinbaaDoorNum
namespace Go.Proofs.YteohgmmenlinbaaDoor
open Go.ChangeShapes Go.WideShapes Go.ChangeAt Go.RowKit
set_option linter.unusedVariables false

def fracI (w : Int) : Nat := if w = 32 then 23 else 52
def leastI (w : Int) : Int := if w = 32 then -149 else -1074
def magN (F r : Nat) : Nat := if r < 2 ^ F then r else 2 ^ F + r % 2 ^ F
def expN (F r : Nat) : Nat := r / 2 ^ F - 1

theorem val_mag (F r : Nat) : val F r = magN F r * 2 ^ expN F r := by
  unfold val magN expN
  by_cases h : r < 2 ^ F
  · rw [if_pos h, if_pos h, Nat.div_eq_of_lt h]; simp
  · rw [if_neg h, if_neg h]

/-- A finite order number of a width. -/
def finI (w n : Int) : Bool := okI w n && (n != topI w && n != -(topI w))

def partV (w n : Int) : Value := .agg #[.bool (decide (n < 0)), .int .u64 (magN (fracI w) n.natAbs : Nat), .int .i64 (leastI w + (expN (fracI w) n.natAbs : Nat))]
def noPart : Value := .agg #[.bool false, .int .u64 0, .int .i64 0]

def PartOut (w : World) (v : Value) (ok : Bool) (e : Ending) (w' : World) : Prop := e = .returned (.tuple #[v, .bool ok]) ∧ Below w.heap.size w w'

theorem wf64 {n : Int} (h1 : -9223372036854775808 ≤ n) (h2 : n ≤ 9223372036854775807) : (Lit.int .i64 n).wf = true := by
  simp only [Lit.wf, IntKind.min, IntKind.max, IntKind.signed, IntKind.bits, Bool.and_eq_true, decide_eq_true_eq, if_true]
  omega

theorem partV32 (n : Int) : partV 32 n = if n < 0 then (if -n < 8388608 then .agg #[.bool true, .int .u64 (-n % 8388608), .int .i64 (-149)] else .agg #[.bool true, .int .u64 (-n % 8388608 + 8388608), .int .i64 (-149 + -n / 8388608 - 1)])
    else (if n < 8388608 then .agg #[.bool false, .int .u64 (n % 8388608), .int .i64 (-149)] else .agg #[.bool false, .int .u64 (n % 8388608 + 8388608), .int .i64 (-149 + n / 8388608 - 1)]) := by
  have e1 : fracI 32 = 23 := by decide
  have e2 : leastI 32 = -149 := by decide
  unfold partV magN expN
  rw [e1, e2]
  have e3 : 2 ^ 23 = 8388608 := by decide
  rw [e3]
  by_cases hn : n < 0
  · by_cases hs : -n < 8388608
    · have a1 : n.natAbs < 8388608 := by omega
      have a2 : (n.natAbs : Int) = -n % 8388608 := by omega
      have a3 : -149 + ((n.natAbs / 8388608 - 1 : Nat) : Int) = -149 := by omega
      rw [if_pos hn, if_pos hs, if_pos a1, a2, a3, decide_eq_true hn]
    · have a1 : ¬ n.natAbs < 8388608 := by omega
      have a2 : ((8388608 + n.natAbs % 8388608 : Nat) : Int) = -n % 8388608 + 8388608 := by omega
      have a3 : -149 + ((n.natAbs / 8388608 - 1 : Nat) : Int) = -149 + -n / 8388608 - 1 := by omega
      rw [if_pos hn, if_neg hs, if_neg a1, a2, a3, decide_eq_true hn]
  · by_cases hs : n < 8388608
    · have a1 : n.natAbs < 8388608 := by omega
      have a2 : (n.natAbs : Int) = n % 8388608 := by omega
      have a3 : -149 + ((n.natAbs / 8388608 - 1 : Nat) : Int) = -149 := by omega
      rw [if_neg hn, if_pos hs, if_pos a1, a2, a3, decide_eq_false hn]
    · have a1 : ¬ n.natAbs < 8388608 := by omega
      have a2 : ((8388608 + n.natAbs % 8388608 : Nat) : Int) = n % 8388608 + 8388608 := by omega
      have a3 : -149 + ((n.natAbs / 8388608 - 1 : Nat) : Int) = -149 + n / 8388608 - 1 := by omega
      rw [if_neg hn, if_neg hs, if_neg a1, a2, a3, decide_eq_false hn]

theorem partV64 (n : Int) : partV 64 n = if n < 0 then (if -n < 4503599627370496 then .agg #[.bool true, .int .u64 (-n % 4503599627370496), .int .i64 (-1074)] else .agg #[.bool true, .int .u64 (-n % 4503599627370496 + 4503599627370496), .int .i64 (-1074 + -n / 4503599627370496 - 1)])
    else (if n < 4503599627370496 then .agg #[.bool false, .int .u64 (n % 4503599627370496), .int .i64 (-1074)] else .agg #[.bool false, .int .u64 (n % 4503599627370496 + 4503599627370496), .int .i64 (-1074 + n / 4503599627370496 - 1)]) := by
  have e1 : fracI 64 = 52 := by decide
  have e2 : leastI 64 = -1074 := by decide
  unfold partV magN expN
  rw [e1, e2]
  have e3 : 2 ^ 52 = 4503599627370496 := by decide
  rw [e3]
  by_cases hn : n < 0
  · by_cases hs : -n < 4503599627370496
    · have a1 : n.natAbs < 4503599627370496 := by omega
      have a2 : (n.natAbs : Int) = -n % 4503599627370496 := by omega
      have a3 : -1074 + ((n.natAbs / 4503599627370496 - 1 : Nat) : Int) = -1074 := by omega
      rw [if_pos hn, if_pos hs, if_pos a1, a2, a3, decide_eq_true hn]
    · have a1 : ¬ n.natAbs < 4503599627370496 := by omega
      have a2 : ((4503599627370496 + n.natAbs % 4503599627370496 : Nat) : Int) = -n % 4503599627370496 + 4503599627370496 := by omega
      have a3 : -1074 + ((n.natAbs / 4503599627370496 - 1 : Nat) : Int) = -1074 + -n / 4503599627370496 - 1 := by omega
      rw [if_pos hn, if_neg hs, if_neg a1, a2, a3, decide_eq_true hn]
  · by_cases hs : n < 4503599627370496
    · have a1 : n.natAbs < 4503599627370496 := by omega
      have a2 : (n.natAbs : Int) = n % 4503599627370496 := by omega
      have a3 : -1074 + ((n.natAbs / 4503599627370496 - 1 : Nat) : Int) = -1074 := by omega
      rw [if_neg hn, if_pos hs, if_pos a1, a2, a3, decide_eq_false hn]
    · have a1 : ¬ n.natAbs < 4503599627370496 := by omega
      have a2 : ((4503599627370496 + n.natAbs % 4503599627370496 : Nat) : Int) = n % 4503599627370496 + 4503599627370496 := by omega
      have a3 : -1074 + ((n.natAbs / 4503599627370496 - 1 : Nat) : Int) = -1074 + n / 4503599627370496 - 1 := by omega
      rw [if_neg hn, if_neg hs, if_neg a1, a2, a3, decide_eq_false hn]

end Go.Proofs.YteohgmmenlinbaaDoor
