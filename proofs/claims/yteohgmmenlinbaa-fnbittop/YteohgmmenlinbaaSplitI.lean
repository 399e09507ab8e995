/- PairSplit of both, as a function of a pair. -/
import Derived.Test.YteohgmmenlinbaaPairG
import Derived.Test.YteohgmmenlinbaaParted
namespace Go.Proofs.Yteohgmmenlinbaa
open Go.RowKit
set_option linter.unusedVariables false

def splitF (n : Int) : PartF := fun p => ((if splitB n p.1 p.2 = true then p.1 else 0, if splitB n p.1 p.2 = true then midI p.1 p.2 else 0), (if splitB n p.1 p.2 = true then midI p.1 p.2 else 0, if splitB n p.1 p.2 = true then p.2 else 0), splitB n p.1 p.2)

theorem split_wf (n : Int) (p : Int × Int) (hp : (Lit.int .i64 p.1).wf = true ∧ (Lit.int .i64 p.2).wf = true) : ((Lit.int .i64 (splitF n p).1.1).wf = true ∧ (Lit.int .i64 (splitF n p).1.2).wf = true) ∧ (Lit.int .i64 (splitF n p).2.1.1).wf = true ∧ (Lit.int .i64 (splitF n p).2.1.2).wf = true := by
  unfold splitF
  have hm := mid_split (n := n) hp.1 hp.2
  by_cases h : splitB n p.1 p.2 = true
  · simp only [if_pos h]
    exact ⟨⟨hp.1, hm⟩, hm, hp.2⟩
  · simp only [if_neg h]
    exact ⟨⟨rfl, rfl⟩, rfl, rfl⟩

theorem implSplitF (w : World) (n x y : Int) (h1 : (Lit.int .i64 x).wf = true) (h2 : (Lit.int .i64 y).wf = true) :
    Calls Try.prog 53 #[.int .i64 n, .agg #[.int .i64 x, .int .i64 y]] w (TwoOut2 w (splitF n (x, y)).1.1 (splitF n (x, y)).1.2 (splitF n (x, y)).2.1.1 (splitF n (x, y)).2.1.2 (splitF n (x, y)).2.2) := implSplitA w n x y h1 h2
end Go.Proofs.Yteohgmmenlinbaa
