/- Rounds over a box: what lies in memory. -/
import Derived.Test.YteohgmmenlinbaaJB
namespace Go.Proofs.Yteohgmmenlinbaa
open Go.ChangeShapes Go.WideShapes Go.ChangeAt Go.RowKit
set_option linter.unusedVariables false

/-- What lies in memory between two rounds over a box. -/
def RowSt (w : World) (rb ro len cap : Nat) (ps : List (Int × Int)) (W : World) : Prop :=
  Own W w.heap.size [.slice (some ⟨rb, ro, none⟩) len cap] ∧ PairsAt W (some ⟨rb, ro, none⟩) ps ∧ Below w.heap.size w W

theorem RowSt.below {w : World} {rb ro len cap : Nat} {ps : List (Int × Int)} {W W' : World} (h : RowSt w rb ro len cap ps W) (q : Below W.heap.size W W') : RowSt w rb ro len cap ps W' :=
  ⟨h.1.below q, h.2.1.below q, h.2.2.trans (q.mono h.2.2.size)⟩

theorem bok_len {n : Int} {ps : List (Int × Int)} (h : bokI n ps = true) : 1 ≤ ps.length ∧ ps.length ≤ 6 := by
  unfold bokI at h
  simp only [Bool.and_eq_true, decide_eq_true_eq] at h
  exact ⟨h.1, h.2.1⟩

end Go.Proofs.Yteohgmmenlinbaa
