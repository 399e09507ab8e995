/- The law's own 'pbLess': it holds two values against each other by their parts. -/
import Derived.Test.YteohgmmenlinbaaTop
import Derived.WalkLawsBesides
import Derived.Outline
import Derived.RegionTactic
import Derived.Deep.QuietTactic
import Derived.BigQuiet
import Derived.Deep.LoopGhost
namespace Go.Proofs.Yteohgmmenlinbaa
open Go.ChangeShapes Go.WideShapes Go.ChangeAt Go.RowKit
set_option linter.unusedVariables false

/-- size * 2 ^ power, in units of 2 ^ -5000. -/
def scaled (s : Nat) (p : Int) : Nat := s * 2 ^ (p + 5000).toNat

theorem scaled_twice {s : Nat} {p : Int} (hp : -4000 < p) : scaled (s * 2) (p - 1) = scaled s p := by
  unfold scaled
  have e : (p + 5000).toNat = (p - 1 + 5000).toNat + 1 := by omega
  rw [e, Nat.pow_succ, Nat.mul_assoc, Nat.mul_comm 2]

/-- Two values with full sizes stand as their powers stand, and else as their sizes. -/
theorem scaled_lt {p q : Nat} {i j : Int} (p1 : 9223372036854775808 ≤ p) (p2 : p < 18446744073709551616) (q1 : 9223372036854775808 ≤ q) (q2 : q < 18446744073709551616) (hi : -4000 ≤ i) (hj : -4000 ≤ j) :
    scaled p i < scaled q j ↔ (i < j ∨ (i = j ∧ p < q)) := by
  unfold scaled
  rcases Int.lt_trichotomy i j with h | h | h
  · refine ⟨fun _ => .inl h, fun _ => ?_⟩
    have e : (j + 5000).toNat = ((j - i).toNat - 1) + 1 + (i + 5000).toNat := by omega
    rw [e, Nat.pow_add, ← Nat.mul_assoc]
    refine Nat.mul_lt_mul_of_pos_right ?_ (Nat.two_pow_pos _)
    rw [Nat.pow_succ]
    have := Nat.mul_le_mul_left q (Nat.one_le_two_pow (n := (j - i).toNat - 1))
    rw [← Nat.mul_assoc]
    omega
  · subst h
    refine ⟨fun hl => .inr ⟨rfl, Nat.lt_of_mul_lt_mul_right hl⟩, fun hr => ?_⟩
    exact Nat.mul_lt_mul_of_pos_right (by omega) (Nat.two_pow_pos _)
  · refine ⟨fun hl => ?_, fun hr => by omega⟩
    have e : (i + 5000).toNat = ((i - j).toNat - 1) + 1 + (j + 5000).toNat := by omega
    rw [e, Nat.pow_add, ← Nat.mul_assoc] at hl
    have hl := Nat.lt_of_mul_lt_mul_right hl
    rw [Nat.pow_succ] at hl
    have := Nat.mul_le_mul_left p (Nat.one_le_two_pow (n := (i - j).toNat - 1))
    rw [← Nat.mul_assoc] at hl
    omega

/-- What 'pbLess' answers. -/
def lessB (ab : Bool) (sa : Nat) (pa : Int) (bb : Bool) (sb : Nat) (pb : Int) : Bool :=
  if sa = 0 ∧ sb = 0 then false else if sa = 0 then !bb else if sb = 0 then ab else if ab != bb then ab
  else if ab then decide (scaled sb pb < scaled sa pa) else decide (scaled sa pa < scaled sb pb)

def BoolOut (w : World) (b : Bool) (e : Ending) (w' : World) : Prop := e = .returned (.bool b) ∧ Below w.heap.size w w'

theorem log2_twice {s : Nat} (h : 0 < s) : (s * 2).log2 = s.log2 + 1 := by
  rw [Nat.mul_comm]
  exact Nat.log2_two_mul (by omega)

set_option maxHeartbeats 4000000 in
theorem pbSame (w : World) (bl : Bool) (sa sb : Nat) (pa pb : Int) (h1 : 0 < sa) (h2 : 0 < sb) (h3 : sa ≤ 18446744073709551615) (h4 : sb ≤ 18446744073709551615) (a1 : -2000 ≤ pa) (a2 : pa ≤ 2000) (b1 : -2000 ≤ pb) (b2 : pb ≤ 2000) :
    Calls Try.prog 21 #[.agg #[.bool bl, .int .u64 sa, .int .i64 pa], .agg #[.bool bl, .int .u64 sb, .int .i64 pb]] w
      (BoolOut w (if bl then decide (scaled sb pb < scaled sa pa) else decide (scaled sa pa < scaled sb pb))) := by
  have d1 : ((sa : Int) == 0) = false := by simp; omega
  have d2 : ((sb : Int) == 0) = false := by simp; omega
  have la : sa.log2 < 64 := (Nat.log2_lt (by omega)).2 (by omega)
  have lb : sb.log2 < 64 := (Nat.log2_lt (by omega)).2 (by omega)
  obtain ⟨P, Q, I, J, hPQ⟩ : ∃ (P Q : Nat) (I J : Int), P = (if bl then sb else sa) ∧ Q = (if bl then sa else sb) ∧ I = (if bl then pb else pa) ∧ J = (if bl then pa else pb) := ⟨_, _, _, _, rfl, rfl, rfl, rfl⟩
  have HP : Hid (0 < P ∧ 0 < Q ∧ P ≤ 18446744073709551615 ∧ Q ≤ 18446744073709551615 ∧ -2000 ≤ I ∧ I ≤ 2000 ∧ -2000 ≤ J ∧ J ≤ 2000 ∧
      (if bl then decide (scaled sb pb < scaled sa pa) else decide (scaled sa pa < scaled sb pb)) = decide (scaled P I < scaled Q J)) := by
    obtain ⟨rfl, rfl, rfl, rfl⟩ := hPQ
    cases bl <;> exact ⟨by simpa, by simpa, by simpa, by simpa, by simpa, by simpa, by simpa, by simpa, by simp⟩
  rw [HP.out.2.2.2.2.2.2.2.2]
  have hb0 : Below w.heap.size w w := Below.refl _ _
  cases bl
  all_goals
    simp only [Bool.false_eq_true, reduceIte] at hPQ
    obtain ⟨rfl, rfl, rfl, rfl⟩ := hPQ
    go_enter Try.func21, Try.ntmps21
    go_wp2
    go_region
    all_goals go_wp2
    all_goals try go_region
    all_goals try go_wp2
    all_goals try go_region
    all_goals try go_wp2
    all_goals try go_region
    all_goals try go_wp2
    all_goals
      clear d1 d2 h1 h2 h3 h4 a1 a2 b1 b2
      go_loopg [7, 9] 18446744073709551616 (fun g sv pv wr => ∃ (p : Nat) (i : Int), 18446744073709551616 - p ≤ g ∧ sv = .int .u64 p ∧ pv = .int .i64 i ∧ 0 < p ∧ p ≤ 18446744073709551615 ∧ -2063 ≤ i ∧ i ≤ 2000 ∧
        Hid (scaled p i = scaled P I ∧ -2000 ≤ i + p.log2 ∧ Below w.heap.size w wr))
      case atStart =>
        obtain ⟨q1, q2, q3, q4, q5, q6, q7, q8, _⟩ := HP.out
        exact ⟨P, I, by omega, rfl, rfl, q1, q3, by omega, q6, ⟨rfl, by omega, by repeat (first | exact Below.refl _ _ | refine Below.drew ?_ | refine Below.alloc ?_ (by simp; try omega) _)⟩⟩
      case round =>
        obtain ⟨p, i, hg, rfl, rfl, p0, p1, i0, i1, HR⟩ := hrel
        by_cases c : p < 9223372036854775808
        · have c' : (p : Int) < 9223372036854775808 := by omega
          have HS : Hid (scaled (p * 2) (i - 1) = scaled P I ∧ -2000 ≤ i - 1 + (p * 2).log2 ∧ -2063 ≤ i - 1 ∧ Below w.heap.size w wr) := by
            obtain ⟨q1, q2, q3⟩ := HR.out
            have l1 := log2_twice p0
            have l2 : p.log2 < 63 := (Nat.log2_lt (by omega)).2 (by omega)
            exact ⟨(scaled_twice (by omega)).trans q1, by omega, by omega, q3⟩
          go_wp2
          go_roundg (18446744073709551616 - p * 2)
          case measure => omega
          case rel => exact ⟨p * 2, i - 1, Nat.le_refl _, by go_num, by go_num, by omega, by omega, HS.out.2.2.1, by omega, ⟨HS.out.1, HS.out.2.1, HS.out.2.2.2⟩⟩
        · have c' : ¬ (p : Int) < 9223372036854775808 := by omega
          go_wp2
          clear c'
          go_loopg [8, 10] 18446744073709551616 (fun g sv pv wr => ∃ (q : Nat) (j : Int), 18446744073709551616 - q ≤ g ∧ sv = .int .u64 q ∧ pv = .int .i64 j ∧ 0 < q ∧ q ≤ 18446744073709551615 ∧ -2063 ≤ j ∧ j ≤ 2000 ∧
            Hid (scaled q j = scaled Q J ∧ -2000 ≤ j + q.log2 ∧ Below w.heap.size w wr))
          case atStart =>
            obtain ⟨q1, q2, q3, q4, q5, q6, q7, q8, _⟩ := HP.out
            exact ⟨Q, J, by omega, rfl, rfl, q2, q4, by omega, q8, ⟨rfl, by omega, HR.out.2.2⟩⟩
          case round =>
            obtain ⟨q, j, hg2, rfl, rfl, q0, q1, j0, j1, HR2⟩ := hrel
            by_cases c2 : q < 9223372036854775808
            · have c3 : (q : Int) < 9223372036854775808 := by omega
              have HS : Hid (scaled (q * 2) (j - 1) = scaled Q J ∧ -2000 ≤ j - 1 + (q * 2).log2 ∧ -2063 ≤ j - 1 ∧ Below w.heap.size w wr) := by
                obtain ⟨r1, r2, r3⟩ := HR2.out
                have l1 := log2_twice q0
                have l2 : q.log2 < 63 := (Nat.log2_lt (by omega)).2 (by omega)
                exact ⟨(scaled_twice (by omega)).trans r1, by omega, by omega, r3⟩
              go_wp2
              go_roundg (18446744073709551616 - q * 2)
              case measure => omega
              case rel => exact ⟨q * 2, j - 1, Nat.le_refl _, by go_num, by go_num, by omega, by omega, HS.out.2.2.1, by omega, ⟨HS.out.1, HS.out.2.1, HS.out.2.2.2⟩⟩
            · have c3 : ¬ (q : Int) < 9223372036854775808 := by omega
              have hE : decide (scaled P I < scaled Q J) = (decide (i < j) || (i == j && decide ((p : Int) < (q : Int)))) := by
                rw [← HR.out.1, ← HR2.out.1]
                have h := scaled_lt (p := p) (q := q) (i := i) (j := j) (by omega) (by omega) (by omega) (by omega) (by omega) (by omega)
                rw [Bool.eq_iff_iff]
                simp only [decide_eq_true_eq, Bool.or_eq_true, Bool.and_eq_true, beq_iff_eq]
                rw [h]
                omega
              have HE : Hid (decide (scaled P I < scaled Q J) = (decide (i < j) || (i == j && decide ((p : Int) < (q : Int))))) := hE
              have HB : Hid (Below w.heap.size w wr) := HR2.out.2.2
              clear hE HP HR HR2
              by_cases k1 : i < j
              · go_wp2
                go_ret
                exact ⟨by rw [HE.out]; simp [k1], HB.out⟩
              · by_cases k2 : i = j
                · subst k2
                  by_cases k3 : (p : Int) < (q : Int)
                  · go_wp2
                    go_ret
                    exact ⟨by rw [HE.out]; simp [k3], HB.out⟩
                  · have k4 : decide ((p : Int) < (q : Int)) = false := by simp; omega
                    go_wp2
                    go_ret
                    exact ⟨by rw [HE.out, k4]; simp, HB.out⟩
                · have k4 : (i == j) = false := by simp; exact k2
                  have k5 : decide (i < j) = false := by simp; omega
                  go_wp2
                  go_ret
                  exact ⟨by rw [HE.out]; simp [k4, k5], HB.out⟩

theorem pbLess (w : World) (ab bb : Bool) (sa sb : Nat) (pa pb : Int) (h3 : sa ≤ 18446744073709551615) (h4 : sb ≤ 18446744073709551615) (a1 : -2000 ≤ pa) (a2 : pa ≤ 2000) (b1 : -2000 ≤ pb) (b2 : pb ≤ 2000) :
    Calls Try.prog 21 #[.agg #[.bool ab, .int .u64 sa, .int .i64 pa], .agg #[.bool bb, .int .u64 sb, .int .i64 pb]] w (BoolOut w (lessB ab sa pa bb sb pb)) := by
  unfold lessB
  by_cases ha : sa = 0
  · subst ha
    by_cases hb : sb = 0
    · subst hb
      rw [if_pos ⟨rfl, rfl⟩]
      go_enter Try.func21, Try.ntmps21
      go_wp2
      go_ret
      exact ⟨rfl, ((Below.refl _ _).alloc (Nat.le_refl _) _).alloc (by simp) _⟩
    · rw [if_neg (by omega), if_pos rfl]
      have d2 : ((sb : Int) == 0) = false := by simp; omega
      go_enter Try.func21, Try.ntmps21
      go_wp2
      go_ret
      exact ⟨rfl, ((Below.refl _ _).alloc (Nat.le_refl _) _).alloc (by simp) _⟩
  · rw [if_neg (by omega), if_neg ha]
    have d1 : ((sa : Int) == 0) = false := by simp; omega
    by_cases hb : sb = 0
    · subst hb
      rw [if_pos rfl]
      go_enter Try.func21, Try.ntmps21
      go_wp2
      go_ret
      exact ⟨rfl, ((Below.refl _ _).alloc (Nat.le_refl _) _).alloc (by simp) _⟩
    · rw [if_neg hb]
      have d2 : ((sb : Int) == 0) = false := by simp; omega
      by_cases hs : ab = bb
      · subst hs
        rw [if_neg (by simp)]
        exact pbSame w ab sa sb pa pb (by omega) (by omega) h3 h4 a1 a2 b1 b2
      · have hne : (ab != bb) = true := by simp; exact hs
        rw [if_pos hne]
        clear hne
        cases ab <;> cases bb
        · exact absurd rfl hs
        · go_enter Try.func21, Try.ntmps21
          go_wp2
          go_ret
          exact ⟨rfl, ((Below.refl _ _).alloc (Nat.le_refl _) _).alloc (by simp) _⟩
        · go_enter Try.func21, Try.ntmps21
          go_wp2
          go_ret
          exact ⟨rfl, ((Below.refl _ _).alloc (Nat.le_refl _) _).alloc (by simp) _⟩
        · exact absurd rfl hs

end Go.Proofs.Yteohgmmenlinbaa
