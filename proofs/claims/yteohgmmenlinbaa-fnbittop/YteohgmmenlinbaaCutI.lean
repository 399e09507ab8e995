/- PairCut of both, as a function of a pair. -/
import Derived.Test.YteohgmmenlinbaaPairJ
import Derived.Test.YteohgmmenlinbaaParted
namespace Go.Proofs.Yteohgmmenlinbaa
open Go.RowKit
set_option linter.unusedVariables false

/-- Whether the upper part comes first. -/
def upFirst (x y g h : Int) : Bool := decide (gapI h y < gapI x g)
def cutF (n g h : Int) : PartF := fun p => if cutB n p.1 p.2 g h = true then (if upFirst p.1 p.2 g h = true then ((h, p.2), (p.1, g), true) else ((p.1, g), (h, p.2), true)) else ((0, 0), (0, 0), false)

theorem cut_wf (n g h : Int) (wg : (Lit.int .i64 g).wf = true) (wh : (Lit.int .i64 h).wf = true) (p : Int × Int) (hp : (Lit.int .i64 p.1).wf = true ∧ (Lit.int .i64 p.2).wf = true) : ((Lit.int .i64 (cutF n g h p).1.1).wf = true ∧ (Lit.int .i64 (cutF n g h p).1.2).wf = true) ∧ (Lit.int .i64 (cutF n g h p).2.1.1).wf = true ∧ (Lit.int .i64 (cutF n g h p).2.1.2).wf = true := by
  unfold cutF
  by_cases hc : cutB n p.1 p.2 g h = true
  · rw [if_pos hc]
    by_cases hu : upFirst p.1 p.2 g h = true
    · rw [if_pos hu]
      exact ⟨⟨wh, hp.2⟩, hp.1, wg⟩
    · rw [if_neg hu]
      exact ⟨⟨hp.1, wg⟩, wh, hp.2⟩
  · rw [if_neg hc]
    exact ⟨⟨rfl, rfl⟩, rfl, rfl⟩

end Go.Proofs.Yteohgmmenlinbaa
