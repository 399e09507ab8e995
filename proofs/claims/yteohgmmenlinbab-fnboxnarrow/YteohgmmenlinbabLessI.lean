/- PairLess of both, as a function of a pair, over whatever function gives the narrow one below. -/
import Derived.Test.YteohgmmenlinbabPairO
import Derived.Test.YteohgmmenlinbabJA
namespace Go.Proofs.Yteohgmmenlinbab
open Go.RowKit
set_option linter.unusedVariables false

/-- A function that gives the narrow one that is not above a wide one. -/
def BelF (bel : Int → Int) : Prop := ∀ x, -9218868437227405312 ≤ x → x ≤ 9218868437227405312 → IsBelow x (bel x)
theorem exists_belF : ∃ bel, BelF bel := by
  have h : ∀ x : Int, ∃ n, -9218868437227405312 ≤ x → x ≤ 9218868437227405312 → IsBelow x n := by
    intro x
    by_cases h1 : -9218868437227405312 ≤ x
    · by_cases h2 : x ≤ 9218868437227405312
      · obtain ⟨n, hn⟩ := exists_below h1 h2
        exact ⟨n, fun _ _ => hn⟩
      · exact ⟨0, fun _ h => absurd h h2⟩
    · exact ⟨0, fun h _ => absurd h h1⟩
  exact ⟨fun x => (h x).choose, fun x => (h x).choose_spec⟩

def lessI (bel : Int → Int) (p : Int × Int) : (Int × Int) × Bool := ((if pokI 64 p.1 p.2 = true then bel p.1 else 0, if pokI 64 p.1 p.2 = true then -bel (-p.2) else 0), pokI 64 p.1 p.2)

theorem less_yes {bel : Int → Int} (hB : BelF bel) {x y : Int} (h : pokI 64 x y = true) : IsBelow x (bel x) ∧ IsBelow (-y) (bel (-y)) := by
  have kx := (okI_64 x).1 (pok_ok h).1
  have ky := (okI_64 y).1 (pok_ok h).2
  exact ⟨hB x kx.1 kx.2, hB (-y) (by omega) (by omega)⟩

theorem implLessI {bel : Int → Int} (hB : BelF bel) (w : World) (x y : Int) (a1 : (Lit.int .i64 x).wf = true) (a2 : (Lit.int .i64 y).wf = true) :
    Calls Try.prog 75 #[.agg #[.int .i64 x, .int .i64 y]] w (PairOut w (lessI bel (x, y)).1.1 (lessI bel (x, y)).1.2 (lessI bel (x, y)).2) := by
  unfold lessI
  by_cases h : pokI 64 x y = true
  · simp only [h]
    exact implLess w x y _ _ a1 a2 h (less_yes hB h).1 (less_yes hB h).2
  · simp only [if_neg h]
    have h' : pokI 64 x y = false := by simpa using h
    rw [h']
    exact implLessNo w x y a1 a2 h'

theorem less_wf {bel : Int → Int} (hB : BelF bel) (x y : Int) : (Lit.int .i64 (lessI bel (x, y)).1.1).wf = true ∧ (Lit.int .i64 (lessI bel (x, y)).1.2).wf = true := by
  unfold lessI
  by_cases h : pokI 64 x y = true
  · simp only [if_pos h]
    obtain ⟨h1, h2, _⟩ := (less_yes hB h).1
    obtain ⟨k1, k2, _⟩ := (less_yes hB h).2
    exact ⟨i64_wf (by omega) (by omega), i64_wf (by omega) (by omega)⟩
  · simp only [if_neg h]
    exact ⟨rfl, rfl⟩

end Go.Proofs.Yteohgmmenlinbab
