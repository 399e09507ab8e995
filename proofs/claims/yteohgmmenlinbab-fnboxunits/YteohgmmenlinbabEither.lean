/- One contract out of several, for a function that is called on several boxes in a quiet region. -/
import Derived.Test.YteohgmmenlinbabJB
namespace Go.Proofs.Yteohgmmenlinbab
open Go.RowKit
set_option linter.unusedVariables false

theorem either2 {Q : Option Addr → Nat → Nat → Int → Prop} {a1 a2 : Option Addr} {l1 c1 l2 c2 : Nat} {u1 u2 : Int} (h1 : Q a1 l1 c1 u1) (h2 : Q a2 l2 c2 u2) :
    ∀ a l c u, (a = a1 ∧ l = l1 ∧ c = c1 ∧ u = u1) ∨ (a = a2 ∧ l = l2 ∧ c = c2 ∧ u = u2) → Q a l c u := by
  rintro a l c u (⟨e1, e2, e3, e4⟩ | ⟨e1, e2, e3, e4⟩)
  · rw [e1, e2, e3, e4]; exact h1
  · rw [e1, e2, e3, e4]; exact h2

theorem either3 {Q : Option Addr → Nat → Nat → Int → Prop} {a1 a2 a3 : Option Addr} {l1 c1 l2 c2 l3 c3 : Nat} {u1 u2 u3 : Int} (h1 : Q a1 l1 c1 u1) (h2 : Q a2 l2 c2 u2) (h3 : Q a3 l3 c3 u3) :
    ∀ a l c u, (a = a1 ∧ l = l1 ∧ c = c1 ∧ u = u1) ∨ (a = a2 ∧ l = l2 ∧ c = c2 ∧ u = u2) ∨ (a = a3 ∧ l = l3 ∧ c = c3 ∧ u = u3) → Q a l c u := by
  rintro a l c u (⟨e1, e2, e3, e4⟩ | ⟨e1, e2, e3, e4⟩ | ⟨e1, e2, e3, e4⟩)
  · rw [e1, e2, e3, e4]; exact h1
  · rw [e1, e2, e3, e4]; exact h2
  · rw [e1, e2, e3, e4]; exact h3

end Go.Proofs.Yteohgmmenlinbab
