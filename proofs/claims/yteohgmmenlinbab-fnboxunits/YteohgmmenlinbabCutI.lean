/- PairCut of both, as a function of a pair. -/
import Derived.Test.YteohgmmenlinbabPairJ
import Derived.Test.YteohgmmenlinbabParted
namespace Go.Proofs.Yteohgmmenlinbab
open Go.RowKit
set_option linter.unusedVariables false

/-- Whether the upper part comes first. -/
def upFirst (x y g h : Int) : Bool := decide (gapI h y < gapI x g)
def cutF (n g h : Int) : PartF := fun p => if cutB n p.1 p.2 g h = true then (if upFirst p.1 p.2 g h = true then ((h, p.2), (p.1, g), true) else ((p.1, g), (h, p.2), true)) else ((0, 0), (0, 0), false)

theorem cut_wf (n g h : Int) (wg : (Lit.int .i64 g).wf = true) (wh : (Lit.int .i64 h).wf = true) (p : Int × Int) (hp : (Lit.int .i64 p.1).wf = true ∧ (Lit.int .i64 p.2).wf = true) : ((Lit.int .i64 (cutF n g h p).1.1).wf = true ∧ (Lit.int .i64 (cutF n g h p).1.2).wf = true) ∧ (Lit.int .i64 (cutF n g h p).2.1.1).wf = true ∧ (Lit.int .i64 (cutF n g h p).2.1.2).wf = true := by
  unfold cutF
  by_cases hc : cutB n p.1 p.2 g h = true
  · rw [if_pos hc]
    by_cases hu : upFirst p.1 p.2 g h = true
    · rw [if_pos hu]
      exact ⟨⟨wh, hp.2⟩, hp.1, wg⟩
    · rw [if_neg hu]
      exact ⟨⟨hp.1, wg⟩, wh, hp.2⟩
  · rw [if_neg hc]
    exact ⟨⟨rfl, rfl⟩, rfl, rfl⟩

theorem cutBoth2 (w : World) (n x y g h : Int) (a1 : (Lit.int .i64 x).wf = true) (a2 : (Lit.int .i64 y).wf = true) (a3 : (Lit.int .i64 g).wf = true) (a4 : (Lit.int .i64 h).wf = true) :
    Calls Try.prog 17 #[.int .i64 n, .agg #[.int .i64 x, .int .i64 y], .agg #[.int .i64 g, .int .i64 h]] w (TwoOut2 w (cutF n g h (x, y)).1.1 (cutF n g h (x, y)).1.2 (cutF n g h (x, y)).2.1.1 (cutF n g h (x, y)).2.1.2 (cutF n g h (x, y)).2.2) ∧
      Calls Try.prog 16 #[.int .i64 n, .agg #[.int .i64 x, .int .i64 y], .agg #[.int .i64 g, .int .i64 h]] w (TwoOut2 w (cutF n g h (x, y)).1.1 (cutF n g h (x, y)).1.2 (cutF n g h (x, y)).2.1.1 (cutF n g h (x, y)).2.1.2 (cutF n g h (x, y)).2.2) := by
  unfold cutF
  by_cases hk : cutB n x y g h = true
  · simp only [if_pos hk]
    have hk' := hk
    unfold cutB at hk'
    simp only [Bool.and_eq_true, decide_eq_true_eq] at hk'
    obtain ⟨k1, k2, k3, k4⟩ := hk'
    have hs := specCut w n x y g h a1 a2 a3 a4 k1 k2 k3 k4
    by_cases kk : gapI h y < gapI x g
    · have hu : upFirst x y g h = true := decide_eq_true kk
      simp only [if_pos hu]
      rw [if_pos kk] at hs
      exact ⟨hs, implCut w n x y g h a1 a2 a3 a4 k1 k2 h y x g true ⟨by rw [k3, k4]; rfl, by simp [kk], by simp [kk], by simp [kk], by simp [kk]⟩⟩
    · have hu : ¬ upFirst x y g h = true := by unfold upFirst; simp; omega
      simp only [if_neg hu]
      rw [if_neg kk] at hs
      exact ⟨hs, implCut w n x y g h a1 a2 a3 a4 k1 k2 x g h y true ⟨by rw [k3, k4]; rfl, by simp [kk], by simp [kk], by simp [kk], by simp [kk]⟩⟩
  · simp only [if_neg hk]
    rw [Bool.not_eq_true] at hk
    refine ⟨specCutNo w n x y g h a1 a2 a3 a4 hk, ?_⟩
    by_cases hp : pokI n x y = false ∨ h ≤ g
    · exact implCutNo1 w n x y g h a1 a2 a3 a4 hp
    · have k1 : pokI n x y = true := by
        cases hq : pokI n x y
        · exact absurd (.inl hq) hp
        · rfl
      have k2 : g < h := by
        rcases Int.lt_or_le g h with q | q
        · exact q
        · exact absurd (.inr q) hp
      refine implCut w n x y g h a1 a2 a3 a4 k1 k2 0 0 0 0 false ⟨?_, rfl, rfl, rfl, rfl⟩
      unfold cutB at hk
      rw [k1, decide_eq_true k2] at hk
      simpa using hk.symm

end Go.Proofs.Yteohgmmenlinbab
