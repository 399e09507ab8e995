/- The model's BitPartOf: its contract. -/
import Derived.Test.YteohgmmenlinbabJA
import Derived.Test.YteohgmmenlinbabNum
namespace Go.Proofs.Yteohgmmenlinbab
open Go.ChangeShapes Go.WideShapes Go.ChangeAt Go.RowKit
set_option linter.unusedVariables false

def fracI (w : Int) : Nat := if w = 32 then 23 else 52
def leastI (w : Int) : Int := if w = 32 then -149 else -1074
def magN (F r : Nat) : Nat := if r < 2 ^ F then r else 2 ^ F + r % 2 ^ F
def expN (F r : Nat) : Nat := r / 2 ^ F - 1

theorem val_mag (F r : Nat) : val F r = magN F r * 2 ^ expN F r := by
  unfold val magN expN
  by_cases h : r < 2 ^ F
  · rw [if_pos h, if_pos h, Nat.div_eq_of_lt h]; simp
  · rw [if_neg h, if_neg h]

/-- A finite order number of a width. -/
def finI (w n : Int) : Bool := okI w n && (n != topI w && n != -(topI w))

def partV (w n : Int) : Value := .agg #[.bool (decide (n < 0)), .int .u64 (magN (fracI w) n.natAbs : Nat), .int .i64 (leastI w + (expN (fracI w) n.natAbs : Nat))]
def noPart : Value := .agg #[.bool false, .int .u64 0, .int .i64 0]

def PartOut (w : World) (v : Value) (ok : Bool) (e : Ending) (w' : World) : Prop := e = .returned (.tuple #[v, .bool ok]) ∧ Below w.heap.size w w'

theorem wf64 {n : Int} (h1 : -9223372036854775808 ≤ n) (h2 : n ≤ 9223372036854775807) : (Lit.int .i64 n).wf = true := by
  simp only [Lit.wf, IntKind.min, IntKind.max, IntKind.signed, IntKind.bits, Bool.and_eq_true, decide_eq_true_eq, if_true]
  omega

theorem part_end {w W : World} {T : Array Value} {x y z : Value} {ok : Bool}
    (c0 : W.cell? ⟨w.heap.size, 0, none⟩ = some x) (c1 : W.cell? ⟨w.heap.size, 1, none⟩ = some y) (c2 : W.cell? ⟨w.heap.size, 2, none⟩ = some z) (hb : Below w.heap.size w W)
    (ht : T.getD 4 undef = .pointer (some ⟨w.heap.size, 0, none⟩)) (hk : T.getD 5 undef = .bool ok) :
    bodyPost Try.prog Try.f112 (PartOut w (.agg #[x, y, z]) ok) Exit.ret { tmps := T, defers := [] } W := by
  refine bodyPost_ret (v := .tuple #[.agg #[x, y, z], .bool ok]) ?_ rfl ⟨rfl, hb⟩
  rw [results_cell_tmp (p := 4) (u := 5) (ty := 119) rfl, ht, hk]
  simp [go_sem, c0, c1, c2]

theorem partV32 (n : Int) : partV 32 n = if n < 0 then (if -n < 8388608 then .agg #[.bool true, .int .u64 (-n % 8388608), .int .i64 (-149)] else .agg #[.bool true, .int .u64 (-n % 8388608 + 8388608), .int .i64 (-149 + -n / 8388608 - 1)])
    else (if n < 8388608 then .agg #[.bool false, .int .u64 (n % 8388608), .int .i64 (-149)] else .agg #[.bool false, .int .u64 (n % 8388608 + 8388608), .int .i64 (-149 + n / 8388608 - 1)]) := by
  have e1 : fracI 32 = 23 := by decide
  have e2 : leastI 32 = -149 := by decide
  unfold partV magN expN
  rw [e1, e2]
  have e3 : 2 ^ 23 = 8388608 := by decide
  rw [e3]
  by_cases hn : n < 0
  · by_cases hs : -n < 8388608
    · have a1 : n.natAbs < 8388608 := by omega
      have a2 : (n.natAbs : Int) = -n % 8388608 := by omega
      have a3 : -149 + ((n.natAbs / 8388608 - 1 : Nat) : Int) = -149 := by omega
      rw [if_pos hn, if_pos hs, if_pos a1, a2, a3, decide_eq_true hn]
    · have a1 : ¬ n.natAbs < 8388608 := by omega
      have a2 : ((8388608 + n.natAbs % 8388608 : Nat) : Int) = -n % 8388608 + 8388608 := by omega
      have a3 : -149 + ((n.natAbs / 8388608 - 1 : Nat) : Int) = -149 + -n / 8388608 - 1 := by omega
      rw [if_pos hn, if_neg hs, if_neg a1, a2, a3, decide_eq_true hn]
  · by_cases hs : n < 8388608
    · have a1 : n.natAbs < 8388608 := by omega
      have a2 : (n.natAbs : Int) = n % 8388608 := by omega
      have a3 : -149 + ((n.natAbs / 8388608 - 1 : Nat) : Int) = -149 := by omega
      rw [if_neg hn, if_pos hs, if_pos a1, a2, a3, decide_eq_false hn]
    · have a1 : ¬ n.natAbs < 8388608 := by omega
      have a2 : ((8388608 + n.natAbs % 8388608 : Nat) : Int) = n % 8388608 + 8388608 := by omega
      have a3 : -149 + ((n.natAbs / 8388608 - 1 : Nat) : Int) = -149 + n / 8388608 - 1 := by omega
      rw [if_neg hn, if_neg hs, if_neg a1, a2, a3, decide_eq_false hn]

theorem partV64 (n : Int) : partV 64 n = if n < 0 then (if -n < 4503599627370496 then .agg #[.bool true, .int .u64 (-n % 4503599627370496), .int .i64 (-1074)] else .agg #[.bool true, .int .u64 (-n % 4503599627370496 + 4503599627370496), .int .i64 (-1074 + -n / 4503599627370496 - 1)])
    else (if n < 4503599627370496 then .agg #[.bool false, .int .u64 (n % 4503599627370496), .int .i64 (-1074)] else .agg #[.bool false, .int .u64 (n % 4503599627370496 + 4503599627370496), .int .i64 (-1074 + n / 4503599627370496 - 1)]) := by
  have e1 : fracI 64 = 52 := by decide
  have e2 : leastI 64 = -1074 := by decide
  unfold partV magN expN
  rw [e1, e2]
  have e3 : 2 ^ 52 = 4503599627370496 := by decide
  rw [e3]
  by_cases hn : n < 0
  · by_cases hs : -n < 4503599627370496
    · have a1 : n.natAbs < 4503599627370496 := by omega
      have a2 : (n.natAbs : Int) = -n % 4503599627370496 := by omega
      have a3 : -1074 + ((n.natAbs / 4503599627370496 - 1 : Nat) : Int) = -1074 := by omega
      rw [if_pos hn, if_pos hs, if_pos a1, a2, a3, decide_eq_true hn]
    · have a1 : ¬ n.natAbs < 4503599627370496 := by omega
      have a2 : ((4503599627370496 + n.natAbs % 4503599627370496 : Nat) : Int) = -n % 4503599627370496 + 4503599627370496 := by omega
      have a3 : -1074 + ((n.natAbs / 4503599627370496 - 1 : Nat) : Int) = -1074 + -n / 4503599627370496 - 1 := by omega
      rw [if_pos hn, if_neg hs, if_neg a1, a2, a3, decide_eq_true hn]
  · by_cases hs : n < 4503599627370496
    · have a1 : n.natAbs < 4503599627370496 := by omega
      have a2 : (n.natAbs : Int) = n % 4503599627370496 := by omega
      have a3 : -1074 + ((n.natAbs / 4503599627370496 - 1 : Nat) : Int) = -1074 := by omega
      rw [if_neg hn, if_pos hs, if_pos a1, a2, a3, decide_eq_false hn]
    · have a1 : ¬ n.natAbs < 4503599627370496 := by omega
      have a2 : ((4503599627370496 + n.natAbs % 4503599627370496 : Nat) : Int) = n % 4503599627370496 + 4503599627370496 := by omega
      have a3 : -1074 + ((n.natAbs / 4503599627370496 - 1 : Nat) : Int) = -1074 + n / 4503599627370496 - 1 := by omega
      rw [if_neg hn, if_neg hs, if_neg a1, a2, a3, decide_eq_false hn]

theorem specPart32 (w : World) (n : Int) (h : -2139095040 < n) (h2 : n < 2139095040) :
    Calls Try.prog 112 #[.int .i64 32, .int .i64 n] w (PartOut w (partV 32 n) true) := by
  have ho := specOk (w.alloc (.cells #[.bool false, .int .u64 0, .int .i64 0] 119)) 32 n (wf64 (by omega) (by omega))
  rw [(okI_32 n).2 (by omega)] at ho
  have q1 : (n == 2139095040) = false := by simp; omega
  have q2 : (n == -2139095040) = false := by simp; omega
  have hv := partV32 n
  by_cases hn : n < 0
  · obtain ⟨m, rfl⟩ : ∃ m, n = -m := ⟨-n, by omega⟩
    rw [Int.neg_neg] at hv
    have hm : 0 < m := by omega
    by_cases hs : m < 8388608
    · rw [hv, if_pos hn, if_pos hs]
      clear hv
      go_enter Try.func112, Try.ntmps112
      go_wp2_with first | (go_at_call 52; go_must (refine ho.mono ?_); clear ho; rintro e w1 ⟨rfl, rfl⟩) | go_in
      refine part_end ?_ ?_ ?_ ?_ rfl rfl
      · simp
        try omega
      · simp
      · simp
      · exact ((Below.refl _ _).alloc (Nat.le_refl _) _).alloc (by simp) _
    · rw [hv, if_pos hn, if_neg hs]
      clear hv
      go_enter Try.func112, Try.ntmps112
      go_wp2_with first | (go_at_call 52; go_must (refine ho.mono ?_); clear ho; rintro e w1 ⟨rfl, rfl⟩) | go_in
      refine part_end ?_ ?_ ?_ ?_ rfl rfl
      · simp
        try omega
      · simp
      · simp
      · exact ((Below.refl _ _).alloc (Nat.le_refl _) _).alloc (by simp) _
  · by_cases hs : n < 8388608
    · rw [hv, if_neg hn, if_pos hs]
      clear hv
      go_enter Try.func112, Try.ntmps112
      go_wp2_with first | (go_at_call 52; go_must (refine ho.mono ?_); clear ho; rintro e w1 ⟨rfl, rfl⟩) | go_in
      refine part_end ?_ ?_ ?_ ?_ rfl rfl
      · simp
        try omega
      · simp
      · simp
      · exact ((Below.refl _ _).alloc (Nat.le_refl _) _).alloc (by simp) _
    · rw [hv, if_neg hn, if_neg hs]
      clear hv
      go_enter Try.func112, Try.ntmps112
      go_wp2_with first | (go_at_call 52; go_must (refine ho.mono ?_); clear ho; rintro e w1 ⟨rfl, rfl⟩) | go_in
      refine part_end ?_ ?_ ?_ ?_ rfl rfl
      · simp
        try omega
      · simp
      · simp
      · exact ((Below.refl _ _).alloc (Nat.le_refl _) _).alloc (by simp) _

theorem specPart64 (w : World) (n : Int) (h : -9218868437227405312 < n) (h2 : n < 9218868437227405312) :
    Calls Try.prog 112 #[.int .i64 64, .int .i64 n] w (PartOut w (partV 64 n) true) := by
  have ho := specOk (w.alloc (.cells #[.bool false, .int .u64 0, .int .i64 0] 119)) 64 n (wf64 (by omega) (by omega))
  rw [(okI_64 n).2 (by omega)] at ho
  have q1 : (n == 9218868437227405312) = false := by simp; omega
  have q2 : (n == -9218868437227405312) = false := by simp; omega
  have hv := partV64 n
  by_cases hn : n < 0
  · obtain ⟨m, rfl⟩ : ∃ m, n = -m := ⟨-n, by omega⟩
    rw [Int.neg_neg] at hv
    have hm : 0 < m := by omega
    by_cases hs : m < 4503599627370496
    · rw [hv, if_pos hn, if_pos hs]
      clear hv
      go_enter Try.func112, Try.ntmps112
      go_wp2_with first | (go_at_call 52; go_must (refine ho.mono ?_); clear ho; rintro e w1 ⟨rfl, rfl⟩) | go_in
      refine part_end ?_ ?_ ?_ ?_ rfl rfl
      · simp
        try omega
      · simp
      · simp
      · exact ((Below.refl _ _).alloc (Nat.le_refl _) _).alloc (by simp) _
    · rw [hv, if_pos hn, if_neg hs]
      clear hv
      go_enter Try.func112, Try.ntmps112
      go_wp2_with first | (go_at_call 52; go_must (refine ho.mono ?_); clear ho; rintro e w1 ⟨rfl, rfl⟩) | go_in
      refine part_end ?_ ?_ ?_ ?_ rfl rfl
      · simp
        try omega
      · simp
      · simp
      · exact ((Below.refl _ _).alloc (Nat.le_refl _) _).alloc (by simp) _
  · by_cases hs : n < 4503599627370496
    · rw [hv, if_neg hn, if_pos hs]
      clear hv
      go_enter Try.func112, Try.ntmps112
      go_wp2_with first | (go_at_call 52; go_must (refine ho.mono ?_); clear ho; rintro e w1 ⟨rfl, rfl⟩) | go_in
      refine part_end ?_ ?_ ?_ ?_ rfl rfl
      · simp
        try omega
      · simp
      · simp
      · exact ((Below.refl _ _).alloc (Nat.le_refl _) _).alloc (by simp) _
    · rw [hv, if_neg hn, if_neg hs]
      clear hv
      go_enter Try.func112, Try.ntmps112
      go_wp2_with first | (go_at_call 52; go_must (refine ho.mono ?_); clear ho; rintro e w1 ⟨rfl, rfl⟩) | go_in
      refine part_end ?_ ?_ ?_ ?_ rfl rfl
      · simp
        try omega
      · simp
      · simp
      · exact ((Below.refl _ _).alloc (Nat.le_refl _) _).alloc (by simp) _

end Go.Proofs.Yteohgmmenlinbab
