/- BoxWidest of the program: its contract. -/
import Derived.Test.YteohgmmenlinbaaBoxG
import Derived.Test.YteohgmmenlinbaaFoldS
namespace Go.Proofs.Yteohgmmenlinbaa
open Go.ChangeShapes Go.WideShapes Go.ChangeAt Go.RowKit
set_option linter.unusedVariables false

/-- The steps of a coordinate. -/
abbrev gq (p : Int × Int) : Int := gapI p.1 p.2
def maxS (v : Int) (p : Int × Int) : Int := max v (gq p)
def mostL (ps : List (Int × Int)) : Int := ps.foldl maxS 0
def widestI (n : Int) (ps : List (Int × Int)) : Int := if bokI n ps = true then firstI (fun p => decide (gq p = mostL ps)) ps else -1

theorem most_fold (ps : List (Int × Int)) (v : Int) : v ≤ ps.foldl maxS v ∧ (∀ p ∈ ps, gq p ≤ ps.foldl maxS v) ∧ (∀ M, v ≤ M → (∀ p ∈ ps, gq p ≤ M) → ps.foldl maxS v ≤ M) := by
  induction ps generalizing v with
  | nil => exact ⟨Int.le_refl _, by simp, fun M h _ => h⟩
  | cons p ps ih =>
    obtain ⟨h1, h2, h3⟩ := ih (maxS v p)
    rw [List.foldl_cons]
    have hm : maxS v p = max v (gq p) := rfl
    refine ⟨by omega, fun q hq => ?_, fun M hv hM => h3 M ?_ fun q hq => hM q (by simp [hq])⟩
    · rcases List.mem_cons.1 hq with rfl | hq
      · omega
      · exact h2 q hq
    · have := hM p (by simp)
      omega

theorem fold_fin' {α : Type} (f : α → Int × Int → α) (ps : List (Int × Int)) (v : α) : (List.finRange ps.length).foldl (fun v x => f v (ps[x.1]?.getD (0, 0))) v = ps.foldl f v := by
  have e : (List.finRange ps.length).map (fun x => ps[x.1]?.getD (0, 0)) = ps := by
    apply List.ext_getElem?
    intro i
    by_cases hi : i < ps.length
    · rw [List.getElem?_map, List.getElem?_eq_getElem (by simpa using hi)]
      simp [hi]
    · rw [List.getElem?_eq_none (by simp; omega), List.getElem?_eq_none (by omega)]
  conv => rhs; rw [← e, List.foldl_map]

theorem widestTake (w : World) (v lo hi : Int) :
    Calls Try.prog 48 #[.int .u64 v, .agg #[.int .i64 lo, .int .i64 hi, .int .u64 (gapI lo hi)]] w fun e w' => e = .returned (.int .u64 (maxS v (lo, hi))) ∧ Below w.heap.size w w' := by
  unfold maxS gq
  dsimp only
  generalize gapI lo hi = g at *
  go_enter Try.func48, Try.ntmps48
  go_wp2
  all_goals go_ret
  all_goals refine ⟨?_, (Below.refl _ w).alloc (Nat.le_refl _) _⟩
  all_goals (refine congrArg Ending.returned (congrArg (Value.int IntKind.u64) ?_); omega)

theorem widestFits (w : World) (i lo hi m : Int) (C : Nat) (hc : w.cell? ⟨C, 0, none⟩ = some (.int .u64 m)) (hC : C < w.heap.size) :
    Calls Try.prog 50 #[.int .i64 i, .agg #[.int .i64 lo, .int .i64 hi, .int .u64 (gapI lo hi)], .pointer (some ⟨C, 0, none⟩)] w fun e w' => e = .returned (.bool (decide (gq (lo, hi) = m))) ∧ Below w.heap.size w w' := by
  unfold gq
  dsimp only
  generalize gapI lo hi = g at *
  have hc' : (w.alloc (.cells #[.int .i64 lo, .int .i64 hi, .int .u64 g] 61)).cell? ⟨C, 0, none⟩ = some (.int .u64 m) := (World.cell?_alloc_lt _ _ _ hC).trans hc
  clear hc
  go_enter Try.func50, Try.ntmps50
  go_wp2
  all_goals go_ret
  all_goals refine ⟨?_, (Below.refl _ w).alloc (Nat.le_refl _) _⟩
  all_goals first | rfl | (congr 2; simp)

theorem implBoxWidest (w : World) (n : Int) (a : Option Addr) (ps : List (Int × Int)) (cap : Nat) (h : PairsAt w a ps) (hl : ps.length ≤ cap) (hm : ps.length ≤ 1048576) :
    Calls Try.prog 13 #[.int .i64 n, .agg #[.slice a ps.length cap]] w fun e w' => e = .returned (.int .i64 (widestI n ps)) ∧ Below w.heap.size w w' := by
  have q0 : Below w.heap.size w (w.alloc (.cells #[.slice a ps.length cap] 25)) := (Below.refl _ w).alloc (Nat.le_refl _) _
  have o0 := Own.new w #[.slice a ps.length cap] 25
  have hk := implBoxOk (w.alloc (.cells #[.slice a ps.length cap] 25)) n a ps cap (h.below q0) hl hm
  unfold widestI
  cases hbk : bokI n ps
  · rw [hbk] at hk
    rw [if_neg (by decide)]
    generalize ps.length = len at *
    go_enter Try.func13, Try.ntmps13
    go_wp2_with (go_at_call 38; refine hk.mono ?_; clear hk; rintro e w2 ⟨rfl, q⟩)
    go_ret
    exact ⟨rfl, q0.trans (q.mono q0.size)⟩
  · rw [hbk] at hk
    rw [if_pos rfl]
    have hF := fun W (q : Below w.heap.size w W) => foldS W a ps.length cap _ _ hl hm ((h.below q).lies (by omega) (Nat.le_refl _)) 48 (enters_of Try.func48 (by kernel_rfl) rfl) 0 (fun v x => maxS v (ps[x.1]?.getD (0, 0))) (fun pre x W' hx => widestTake W' _ _ _)
    rw [fold_fin'] at hF
    have hG := fun W (q : Below w.heap.size w W) (C : Nat) (hC : C < W.heap.size) (hc : W.cell? ⟨C, 0, none⟩ = some (.int .u64 (ps.foldl maxS 0))) => firstThat W a ps.length cap _ _ hl hm ((h.below q).lies (by omega) (Nat.le_refl _)) 50 C (enters_of Try.func50 (by kernel_rfl) rfl)
      (fun x => decide (gq (ps[x.1]?.getD (0, 0)) = ps.foldl maxS 0)) (fun x W' hW => widestFits W' _ _ _ _ C ((hW.cell (p := ⟨C, 0, none⟩) hC).trans hc) (Nat.lt_of_lt_of_le hC hW.size))
    have hfin := fun r hr => @first_eq (fun p => decide (gq p = mostL ps)) ps r hr
    obtain ⟨len, hlen⟩ : ∃ len, ps.length = len := ⟨_, rfl⟩
    have hmost : ps.foldl maxS 0 = mostL ps := rfl
    rw [hmost] at hF hG
    simp only [hlen] at hF hG hfin hk o0 q0 ⊢
    generalize mostL ps = M at *
    generalize hRR : firstI (fun p => decide (gq p = M)) ps = R at *
    clear h hmost hRR
    go_enter Try.func13, Try.ntmps13
    go_wp2_with first
      | (go_at_call 38; refine hk.mono ?_; clear hk; rintro e w2 ⟨rfl, q⟩; replace q0 := q0.trans (q.mono q0.size); replace o0 := o0.below q; have c0 := o0.cell 0 _ rfl; clear q)
      | (go_at_call 47; refine (hF _ q0).mono ?_; clear hF; rintro e w3 ⟨rfl, q⟩; replace q0 := q0.trans (q.mono q0.size); replace o0 := o0.below q; clear q
         have qa : Below w3.heap.size w3 (w3.alloc (.cells #[.int .u64 M] 59)) := (Below.refl _ _).alloc (Nat.le_refl _) _
         have oM := Own.new w3 #[.int .u64 M] 59
         replace q0 := q0.trans (qa.mono q0.size); replace o0 := o0.below qa; have c0 := o0.cell 0 _ rfl; clear qa)
      | (go_at_call 49; refine (hG _ q0 _ oM.lt (oM.cell 0 _ rfl)).mono ?_; clear hG; rintro e w4 ⟨r, rfl, hr, q⟩)
    go_ret
    exact ⟨by rw [← hfin r hr]; rfl, q0.trans (q.mono q0.size)⟩

end Go.Proofs.Yteohgmmenlinbaa
