/- The model's BitWiden: its contract. -/
import Derived.Test.YteohgmmenlinbabSpecD
import Derived.Test.YteohgmmenlinbabNumC
namespace Go.Proofs.Yteohgmmenlinbab
open Go.ChangeShapes Go.WideShapes Go.ChangeAt Go.RowKit
set_option linter.unusedVariables false

/-- A narrow order number among the wide ones. -/
def widI (n : Int) : Int := if n < 0 then -(wid n.natAbs : Int) else (wid n.natAbs : Int)

theorem widI_neg (n : Int) : widI (-n) = -widI n := by
  unfold widI
  rcases Int.lt_trichotomy n 0 with h | h | h
  · rw [if_neg (by omega), if_pos h, Int.natAbs_neg]; omega
  · subst h; rw [if_neg (by omega), if_neg (by omega)]; simp [wid_zero]
  · rw [if_pos (by omega), if_neg (by omega), Int.natAbs_neg]

theorem widI_lt {a b : Int} (h : a < b) (ha : -2139095040 ≤ a) (hb : b ≤ 2139095040) : widI a < widI b := by
  unfold widI
  have hi : infS = 2139095040 := rfl
  by_cases h1 : a < 0
  · rw [if_pos h1]
    by_cases h2 : b < 0
    · rw [if_pos h2]
      have := wid_lt (r := b.natAbs) (s := a.natAbs) (by omega) (by omega)
      omega
    · rw [if_neg h2]
      have := wid_lt (r := 0) (s := a.natAbs) (by omega) (by omega)
      omega
  · rw [if_neg h1, if_neg (by omega)]
    have := wid_lt (r := a.natAbs) (s := b.natAbs) (by omega) (by omega)
    omega

theorem widI_le {a b : Int} (h : a ≤ b) (ha : -2139095040 ≤ a) (hb : b ≤ 2139095040) : widI a ≤ widI b := by
  by_cases e : a = b
  · subst e; omega
  · have := widI_lt (a := a) (b := b) (by omega) ha hb; omega

theorem widI_top : widI 2139095040 = 9218868437227405312 := by
  unfold widI
  rw [if_neg (by omega)]
  have : wid 2139095040 = infD := wid_top
  show ((wid 2139095040 : Nat) : Int) = _
  rw [this]; rfl

theorem widI_bounds {n : Int} (h1 : -2139095040 ≤ n) (h2 : n ≤ 2139095040) : -9218868437227405312 ≤ widI n ∧ widI n ≤ 9218868437227405312 := by
  have t := widI_top
  have a := widI_le h2 h1 (Int.le_refl _)
  have b := widI_le h1 (Int.le_refl _) h2
  rw [widI_neg, t] at b
  rw [t] at a
  exact ⟨b, a⟩

theorem isV_of {F : Nat} {L : Int} {r size : Nat} {p : Int} (hL : -4000 ≤ L) (hp : L ≤ p) (h : val F r = size * 2 ^ (p - L).toNat) : isV F L r size p := by
  unfold isV
  rw [pow_sub_split hp hL, h, Nat.mul_assoc]

theorem isV_inj {F : Nat} {L : Int} {r s size : Nat} {p : Int} (h : isV F L r size p) (k : isV F L s size p) : r = s :=
  val_inj (Nat.eq_of_mul_eq_mul_right (Nat.two_pow_pos _) (h.trans k.symm))

theorem ans_unique {F : Nat} {L : Int} {inf r size : Nat} {bl : Bool} {p o : Int} {k : Bool} (h : MakeAns F L inf bl size p o k) (hr : r < inf) (hv : isV F L r size p) :
    k = true ∧ o = if bl then -(r : Int) else r := by
  rcases h with ⟨rfl, s, _, hs, ho⟩ | ⟨_, _, hn⟩
  · rw [isV_inj hv hs]; exact ⟨rfl, ho⟩
  · exact absurd hv (hn r hr)

theorem wid_isV (r : Nat) (h : r < infS) : isV 52 (-1074) (wid r) (magN 23 r) (-149 + (expN 23 r : Nat)) := by
  refine isV_of (by omega) (by omega) ?_
  have e : (-149 + ((expN 23 r : Nat) : Int) - -1074).toNat = expN 23 r + 925 := by omega
  rw [e, wid_val h, val_mag, Nat.pow_add, Nat.mul_assoc]

theorem specMakeZero (w : World) (bl : Bool) (p0 : Int) (h3 : -2000 ≤ p0) (h4 : p0 ≤ 2000) :
    Calls Try.prog 113 #[.int .i64 64, .agg #[.bool bl, .int .u64 0, .int .i64 p0]] w fun e w' => e = .returned (.tuple #[.int .i64 0, .bool true]) ∧ Below w.heap.size w w' := by
  go_enter Try.func113, Try.ntmps113
  go_wp2
  go_ret2
  exact ⟨rfl, (Below.refl _ _).alloc (Nat.le_refl _) _⟩

def WidOut (w : World) (v : Int) (k : Bool) (e : Ending) (w' : World) : Prop := e = .returned (.tuple #[.int .i64 v, .bool k]) ∧ Below w.heap.size w w'

theorem specWidenNo (w : World) (n : Int) (hx : (Lit.int .i64 n).wf = true) (h : okI 32 n = false) :
    Calls Try.prog 102 #[.int .i64 n] w (WidOut w 0 false) := by
  have ho := specOk w 32 n hx
  rw [h] at ho
  go_enter Try.func102, Try.ntmps102
  go_wp2_with (go_at_call 52; go_must (refine ho.mono ?_); clear ho; rintro e w1 ⟨rfl, rfl⟩)
  go_ret2
  exact ⟨rfl, Below.refl _ _⟩

theorem specWidenInf (w : World) (n : Int) (h : n = 2139095040 ∨ n = -2139095040) :
    Calls Try.prog 102 #[.int .i64 n] w (WidOut w (widI n) true) := by
  have hx : (Lit.int .i64 n).wf = true := wf64 (by omega) (by omega)
  have hk : okI 32 n = true := (okI_32 n).2 (by omega)
  have ho := specOk w 32 n hx
  have hp := specPartNo w 32 n hx (by unfold finI; rw [hk]; rcases h with rfl | rfl <;> decide)
  rw [hk] at ho
  clear hk hx
  unfold noPart at hp
  rcases h with rfl | rfl
  · rw [widI_top]
    go_enter Try.func102, Try.ntmps102
    go_wp2_with first | (go_at_call 52; go_must (refine ho.mono ?_); clear ho; rintro e w1 ⟨rfl, rfl⟩) | (go_at_call 112; go_must (refine hp.mono ?_); clear hp; rintro e w1 ⟨rfl, hb⟩) | go_in
    go_ret2
    exact ⟨rfl, hb.alloc hb.size _⟩
  · rw [widI_neg, widI_top]
    go_enter Try.func102, Try.ntmps102
    go_wp2_with first | (go_at_call 52; go_must (refine ho.mono ?_); clear ho; rintro e w1 ⟨rfl, rfl⟩) | (go_at_call 112; go_must (refine hp.mono ?_); clear hp; rintro e w1 ⟨rfl, hb⟩) | go_in
    go_ret2
    exact ⟨rfl, hb.alloc hb.size _⟩

theorem specWidenFin (w : World) (n : Int) (h1 : -2139095040 < n) (h2 : n < 2139095040) :
    Calls Try.prog 102 #[.int .i64 n] w (WidOut w (widI n) true) := by
  have hx : (Lit.int .i64 n).wf = true := wf64 (by omega) (by omega)
  have hk : okI 32 n = true := (okI_32 n).2 (by omega)
  have ho := specOk w 32 n hx
  have hp := specPart32 w n h1 h2
  rw [hk] at ho
  have hi : infS = 2139095040 := rfl
  have hv := wid_isV n.natAbs (by omega)
  have hlt := wid_lt_inf (r := n.natAbs) (by omega)
  have e2 : leastI 32 = -149 := by decide
  have e1 : fracI 32 = 23 := by decide
  unfold partV at hp
  rw [e1, e2] at hp
  have hE : expN 23 n.natAbs ≤ 254 := by unfold expN; omega
  have hM : magN 23 n.natAbs ≤ 16777216 := by unfold magN; split <;> omega
  by_cases hz : magN 23 n.natAbs = 0
  · have hn : n = 0 := by
      unfold magN at hz
      split at hz <;> omega
    subst hn
    have hm := fun W => specMakeZero W false (-149) (by omega) (by omega)
    have e5 : magN 23 (Int.natAbs 0) = 0 := by decide
    have e6 : expN 23 (Int.natAbs 0) = 0 := by decide
    rw [e5, e6] at hp
    rw [show widI 0 = 0 by simp [widI, wid_zero]]
    have e7 : (Value.agg #[.bool (decide ((0 : Int) < 0)), .int .u64 ((0 : Nat) : Int), .int .i64 (-149 + ((0 : Nat) : Int))]) = .agg #[.bool false, .int .u64 0, .int .i64 (-149)] := rfl
    rw [e7] at hp
    clear e7
    clear hv hlt hk hx hE hM hz e5 e6 e1 e2 hi h1 h2
    go_enter Try.func102, Try.ntmps102
    go_wp2_with first | (go_at_call 52; go_must (refine ho.mono ?_); clear ho; rintro e w1 ⟨rfl, rfl⟩) | (go_at_call 112; go_must (refine hp.mono ?_); clear hp; rintro e w1 ⟨rfl, hb⟩) | (go_at_call 113; go_must (refine (hm _).mono ?_); clear hm; rintro e w2 ⟨rfl, hb2⟩)
    go_ret2
    exact ⟨rfl, (hb.alloc hb.size _).trans (hb2.mono (by simp; have := hb.size; omega))⟩
  · have hm := fun W => specMake64 W (decide (n < 0)) (magN 23 n.natAbs) (-149 + (expN 23 n.natAbs : Nat)) (by omega) (by omega) (by omega) (by omega)
    have hend : ∀ o k, MakeAns 52 (-1074) 9218868437227405312 (decide (n < 0)) (magN 23 n.natAbs) (-149 + (expN 23 n.natAbs : Nat)) o k → k = true ∧ o = widI n := by
      intro o k ha
      obtain ⟨q1, q2⟩ := ans_unique ha hlt hv
      refine ⟨q1, ?_⟩
      rw [q2]
      unfold widI
      by_cases hn : n < 0 <;> simp [hn]
    have HN : Hid (∀ o k, MakeAns 52 (-1074) 9218868437227405312 (decide (n < 0)) (magN 23 n.natAbs) (-149 + (expN 23 n.natAbs : Nat)) o k → k = true ∧ o = widI n) := hend
    generalize magN 23 n.natAbs = mg at *
    generalize hpw : (-149 + ((expN 23 n.natAbs : Nat) : Int)) = pw at *
    generalize hbl : decide (n < 0) = bl at *
    generalize widI n = v at *
    clear hv hlt hend hk hx hE hM hz hpw hbl e1 e2 hi h1 h2
    go_enter Try.func102, Try.ntmps102
    go_wp2_with first | (go_at_call 52; go_must (refine ho.mono ?_); clear ho; rintro e w1 ⟨rfl, rfl⟩) | (go_at_call 112; go_must (refine hp.mono ?_); clear hp; rintro e w1 ⟨rfl, hb⟩) | (go_at_call 113; go_must (refine (hm _).mono ?_); clear hm; rintro e w2 ⟨o, k, rfl, hb2, ha⟩)
    go_ret2
    obtain ⟨rfl, rfl⟩ := HN.out o k ha
    exact ⟨rfl, (hb.alloc hb.size _).trans (hb2.mono (by simp; have := hb.size; omega))⟩

theorem specWiden (w : World) (n : Int) (hx : (Lit.int .i64 n).wf = true) :
    Calls Try.prog 102 #[.int .i64 n] w (WidOut w (if okI 32 n = true then widI n else 0) (okI 32 n)) := by
  by_cases h : okI 32 n = true
  · rw [if_pos h, h]
    have hb := (okI_32 n).1 h
    by_cases hi : n = 2139095040 ∨ n = -2139095040
    · exact specWidenInf w n hi
    · exact specWidenFin w n (by omega) (by omega)
  · rw [if_neg h]
    rw [Bool.not_eq_true] at h
    rw [h]
    exact specWidenNo w n hx h

/-- n is the greatest narrow order number that is not above the wide one. -/
def IsBelow (ord n : Int) : Prop := -2139095040 ≤ n ∧ n ≤ 2139095040 ∧ widI n ≤ ord ∧ (n < 2139095040 → ord < widI (n + 1))

theorem isBelow_unique {ord m n : Int} (h : IsBelow ord m) (k : IsBelow ord n) : m = n := by
  obtain ⟨a1, a2, a3, a4⟩ := h
  obtain ⟨b1, b2, b3, b4⟩ := k
  rcases Int.lt_trichotomy m n with h | h | h
  · have := widI_le (a := m + 1) (b := n) (by omega) (by omega) b2
    have := a4 (by omega)
    omega
  · exact h
  · have := widI_le (a := n + 1) (b := m) (by omega) (by omega) a2
    have := b4 (by omega)
    omega

def BelOut (w : World) (ord : Int) (e : Ending) (w' : World) : Prop := ∃ n, e = .returned (.tuple #[.int .i64 n, .bool true]) ∧ IsBelow ord n ∧ Below w.heap.size w w'

end Go.Proofs.Yteohgmmenlinbab
