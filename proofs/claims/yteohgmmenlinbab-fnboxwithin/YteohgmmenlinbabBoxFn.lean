/- BoxFine of the program and of the model: contracts. -/
import Derived.Test.YteohgmmenlinbabJB
import Derived.Test.YteohgmmenlinbabBoxR
namespace Go.Proofs.Yteohgmmenlinbab
open Go.ChangeShapes Go.WideShapes Go.ChangeAt Go.RowKit
set_option linter.unusedVariables false

def mostI (m : Int) : Int := max 1 (min m 1000000) + 1
/-- Few floats stand between the bounds. -/
def fineI (n : Int) (ps : List (Int × Int)) (m : Int) : Bool := bokI n ps && ps.all fun p => decide (gapI p.1 p.2 ≤ mostI m)

theorem fineFits (w : World) (i lo hi m : Int) (C : Nat) (hc : w.cell? ⟨C, 0, none⟩ = some (.int .u64 m)) (hC : C < w.heap.size) :
    Calls Try.prog 72 #[.int .i64 i, .agg #[.int .i64 lo, .int .i64 hi, .int .u64 (gapI lo hi)], .pointer (some ⟨C, 0, none⟩)] w fun e w' => e = .returned (.bool (!decide (gapI lo hi ≤ m))) ∧ Below w.heap.size w w' := by
  generalize gapI lo hi = g at *
  have hc' : (w.alloc (.cells #[.int .i64 lo, .int .i64 hi, .int .u64 g] 67)).cell? ⟨C, 0, none⟩ = some (.int .u64 m) := (World.cell?_alloc_lt _ _ _ hC).trans hc
  clear hc
  go_enter Try.func72, Try.ntmps72
  go_wp2
  all_goals go_ret
  all_goals refine ⟨?_, (Below.refl _ w).alloc (Nat.le_refl _) _⟩
  all_goals (refine congrArg Ending.returned (congrArg Value.bool ?_); by_cases hgm : m < g <;> simp [hgm] <;> omega)

theorem fine_first {ps : List (Int × Int)} {m r : Int}
    (hr : (r = -1 ∧ ∀ x : Fin ps.length, (!decide (gapI (ps[x.1]?.getD (0, 0)).1 (ps[x.1]?.getD (0, 0)).2 ≤ m)) = false) ∨ (∃ x : Fin ps.length, r = (x.1 : Int) ∧ (!decide (gapI (ps[x.1]?.getD (0, 0)).1 (ps[x.1]?.getD (0, 0)).2 ≤ m)) = true ∧ ∀ y : Fin ps.length, y.1 < x.1 → (!decide (gapI (ps[y.1]?.getD (0, 0)).1 (ps[y.1]?.getD (0, 0)).2 ≤ m)) = false)) :
    decide (r = -1) = ps.all fun p => decide (gapI p.1 p.2 ≤ m) := by
  rcases hr with ⟨rfl, hall⟩ | ⟨x, rfl, hx, _⟩
  · symm
    rw [show decide ((-1 : Int) = -1) = true from rfl, List.all_eq_true]
    intro p hp
    obtain ⟨j, hj⟩ := List.getElem?_of_mem hp
    have := hall ⟨j, (List.getElem?_eq_some_iff.1 hj).1⟩
    simp only [getD_of hj] at this
    simpa using this
  · have hp : ps[x.1]? = some ps[x.1] := List.getElem?_eq_getElem x.2
    rw [getD_of hp] at hx
    have : (ps.all fun p => decide (gapI p.1 p.2 ≤ m)) = false := by
      rw [List.all_eq_false]
      exact ⟨ps[x.1], List.mem_of_getElem? hp, by simpa using hx⟩
    rw [this]
    simp only [decide_eq_false_iff_not]
    omega

theorem implBoxFine (w : World) (n : Int) (a : Option Addr) (ps : List (Int × Int)) (cap : Nat) (h : PairsAt w a ps) (hl : ps.length ≤ cap) (hm : ps.length ≤ 1048576) (m : Int) (wm : (Lit.int .i64 m).wf = true) :
    Calls Try.prog 36 #[.int .i64 n, .agg #[.slice a ps.length cap], .int .i64 m] w fun e w' => e = .returned (.bool (fineI n ps m)) ∧ Below w.heap.size w w' := by
  have q0 : Below w.heap.size w (w.alloc (.cells #[.slice a ps.length cap] 41)) := (Below.refl _ w).alloc (Nat.le_refl _) _
  have o0 := Own.new w #[.slice a ps.length cap] 41
  have hk := implBoxOk (w.alloc (.cells #[.slice a ps.length cap] 41)) n a ps cap (h.below q0) hl hm
  unfold fineI
  cases hbk : bokI n ps
  · rw [hbk] at hk
    rw [Bool.false_and]
    generalize ps.length = len at *
    go_enter Try.func36, Try.ntmps36
    go_wp2_with (go_at_call 34; refine hk.mono ?_; clear hk; rintro e w2 ⟨rfl, q⟩)
    go_ret
    exact ⟨rfl, q0.trans (q.mono q0.size)⟩
  · rw [hbk] at hk
    rw [Bool.true_and]
    have hG := fun W (q : Below w.heap.size w W) (C : Nat) (hC : C < W.heap.size) (M : Int) (hc : W.cell? ⟨C, 0, none⟩ = some (.int .u64 M)) => firstThat W a ps.length cap _ _ hl hm ((h.below q).lies (by omega) (Nat.le_refl _)) 72 C (enters_of Try.func72 (by kernel_rfl) rfl)
      (fun x => !decide (gapI (ps[x.1]?.getD (0, 0)).1 (ps[x.1]?.getD (0, 0)).2 ≤ M)) (fun x W' hW => fineFits W' _ _ _ _ C ((hW.cell (p := ⟨C, 0, none⟩) hC).trans hc) (Nat.lt_of_lt_of_le hC hW.size))
    have hfin := fun r => @fine_first ps (mostI m) r
    obtain ⟨len, hlen⟩ : ∃ len, ps.length = len := ⟨_, rfl⟩
    have hM : mostI m = max 1 (min m 1000000) + 1 := rfl
    have hMb : 2 ≤ mostI m ∧ mostI m ≤ 1000001 := by omega
    simp only [hlen] at hG hfin hk o0 q0 ⊢
    generalize (ps.all fun p => decide (gapI p.1 p.2 ≤ mostI m)) = R at *
    generalize mostI m = M at *
    clear h
    have h3 : (m < 1 ∧ M = 2) ∨ (m = 1 ∧ M = 2) ∨ (1 < m ∧ m < 1000000 ∧ M = m + 1) ∨ (m = 1000000 ∧ M = 1000001) ∨ (1000000 < m ∧ M = 1000001) := by omega
    clear hM hMb
    rcases h3 with ⟨k1, rfl⟩ | ⟨rfl, rfl⟩ | ⟨k1, k2, rfl⟩ | ⟨rfl, rfl⟩ | ⟨k1, rfl⟩
    all_goals go_enter Try.func36, Try.ntmps36
    · go_wp2_with first
        | (go_at_call 34; refine hk.mono ?_; clear hk; rintro e w2 ⟨rfl, q⟩; replace q0 := q0.trans (q.mono q0.size); replace o0 := o0.below q; have c0 := o0.cell 0 _ rfl; clear q
           have qa : Below w2.heap.size w2 (w2.alloc (.cells #[.int .u64 (2)] 65)) := (Below.refl _ _).alloc (Nat.le_refl _) _
           have oM := Own.new w2 #[.int .u64 (2)] 65
           have q1 := q0.trans (qa.mono q0.size); have o1 := o0.below qa; have c1 := o1.cell 0 _ rfl)
        | (go_at_call 70; refine (hG _ q1 _ oM.lt (2) (oM.cell 0 _ rfl)).mono ?_; rintro e w4 ⟨r, rfl, hr, q⟩)
      all_goals try (exfalso; omega)
      all_goals go_ret
      all_goals exact ⟨by rw [← hfin r hr]; rfl, q1.trans (q.mono q1.size)⟩
    · go_wp2_with first
        | (go_at_call 34; refine hk.mono ?_; clear hk; rintro e w2 ⟨rfl, q⟩; replace q0 := q0.trans (q.mono q0.size); replace o0 := o0.below q; have c0 := o0.cell 0 _ rfl; clear q
           have qa : Below w2.heap.size w2 (w2.alloc (.cells #[.int .u64 (2)] 65)) := (Below.refl _ _).alloc (Nat.le_refl _) _
           have oM := Own.new w2 #[.int .u64 (2)] 65
           have q1 := q0.trans (qa.mono q0.size); have o1 := o0.below qa; have c1 := o1.cell 0 _ rfl)
        | (go_at_call 70; refine (hG _ q1 _ oM.lt (2) (oM.cell 0 _ rfl)).mono ?_; rintro e w4 ⟨r, rfl, hr, q⟩)
      all_goals try (exfalso; omega)
      all_goals go_ret
      all_goals exact ⟨by rw [← hfin r hr]; rfl, q1.trans (q.mono q1.size)⟩
    · go_wp2_with first
        | (go_at_call 34; refine hk.mono ?_; clear hk; rintro e w2 ⟨rfl, q⟩; replace q0 := q0.trans (q.mono q0.size); replace o0 := o0.below q; have c0 := o0.cell 0 _ rfl; clear q
           have qa : Below w2.heap.size w2 (w2.alloc (.cells #[.int .u64 (m + 1)] 65)) := (Below.refl _ _).alloc (Nat.le_refl _) _
           have oM := Own.new w2 #[.int .u64 (m + 1)] 65
           have q1 := q0.trans (qa.mono q0.size); have o1 := o0.below qa; have c1 := o1.cell 0 _ rfl)
        | (go_at_call 70; refine (hG _ q1 _ oM.lt (m + 1) (oM.cell 0 _ rfl)).mono ?_; rintro e w4 ⟨r, rfl, hr, q⟩)
      all_goals try (exfalso; omega)
      all_goals go_ret
      all_goals exact ⟨by rw [← hfin r hr]; rfl, q1.trans (q.mono q1.size)⟩
    · go_wp2_with first
        | (go_at_call 34; refine hk.mono ?_; clear hk; rintro e w2 ⟨rfl, q⟩; replace q0 := q0.trans (q.mono q0.size); replace o0 := o0.below q; have c0 := o0.cell 0 _ rfl; clear q
           have qa : Below w2.heap.size w2 (w2.alloc (.cells #[.int .u64 (1000001)] 65)) := (Below.refl _ _).alloc (Nat.le_refl _) _
           have oM := Own.new w2 #[.int .u64 (1000001)] 65
           have q1 := q0.trans (qa.mono q0.size); have o1 := o0.below qa; have c1 := o1.cell 0 _ rfl)
        | (go_at_call 70; refine (hG _ q1 _ oM.lt (1000001) (oM.cell 0 _ rfl)).mono ?_; rintro e w4 ⟨r, rfl, hr, q⟩)
      all_goals try (exfalso; omega)
      all_goals go_ret
      all_goals exact ⟨by rw [← hfin r hr]; rfl, q1.trans (q.mono q1.size)⟩
    · go_wp2_with first
        | (go_at_call 34; refine hk.mono ?_; clear hk; rintro e w2 ⟨rfl, q⟩; replace q0 := q0.trans (q.mono q0.size); replace o0 := o0.below q; have c0 := o0.cell 0 _ rfl; clear q
           have qa : Below w2.heap.size w2 (w2.alloc (.cells #[.int .u64 (1000001)] 65)) := (Below.refl _ _).alloc (Nat.le_refl _) _
           have oM := Own.new w2 #[.int .u64 (1000001)] 65
           have q1 := q0.trans (qa.mono q0.size); have o1 := o0.below qa; have c1 := o1.cell 0 _ rfl)
        | (go_at_call 70; refine (hG _ q1 _ oM.lt (1000001) (oM.cell 0 _ rfl)).mono ?_; rintro e w4 ⟨r, rfl, hr, q⟩)
      all_goals try (exfalso; omega)
      all_goals go_ret
      all_goals exact ⟨by rw [← hfin r hr]; rfl, q1.trans (q.mono q1.size)⟩

end Go.Proofs.Yteohgmmenlinbab
