/- The first coordinate that fits; BoxWidest and BoxIs of the program: contracts. -/
import Derived.Test.YteohgmmenlinbagBoxK
import Derived.Test.YteohgmmenlinbagFoldS
namespace Go.Proofs.Yteohgmmenlinbag
open Go.ChangeShapes Go.WideShapes Go.ChangeAt Go.RowKit
set_option linter.unusedVariables false

def firstI (P : Int × Int → Bool) (ps : List (Int × Int)) : Int := if ps.any P = true then (ps.findIdx P : Nat) else -1

theorem first_at {P : Int × Int → Bool} {ps : List (Int × Int)} {k : Nat} {p : Int × Int} (hk : ps[k]? = some p) (hp : P p = true) (he : ∀ (j : Nat) q, j < k → ps[j]? = some q → P q = false) : firstI P ps = k := by
  have hkl := (List.getElem?_eq_some_iff.1 hk).1
  have e : ps[k] = p := by rw [List.getElem?_eq_getElem hkl] at hk; exact Option.some.inj hk
  have hany : ps.any P = true := by rw [List.any_eq_true]; exact ⟨p, List.mem_of_getElem? hk, hp⟩
  unfold firstI
  rw [if_pos hany]
  congr 1
  rw [List.findIdx_eq hkl]
  refine ⟨by rw [e]; exact hp, fun j hj => ?_⟩
  exact he j _ hj (List.getElem?_eq_getElem (by omega))

theorem first_none {P : Int × Int → Bool} {ps : List (Int × Int)} (h : ∀ (j : Nat) q, ps[j]? = some q → P q = false) : firstI P ps = -1 := by
  have hany : ¬ ps.any P = true := by
    rw [List.any_eq_true]
    rintro ⟨p, hp, hP⟩
    obtain ⟨j, hj⟩ := List.getElem?_of_mem hp
    rw [h j p hj] at hP
    cases hP
  unfold firstI
  rw [if_neg hany]

theorem getD_of' {ps : List (Int × Int)} {i : Nat} {p : Int × Int} (h : ps[i]? = some p) : ps[i]?.getD (0, 0) = p := by rw [h]; rfl

theorem first_eq {P : Int × Int → Bool} {ps : List (Int × Int)} {r : Int}
    (hr : (r = -1 ∧ ∀ x : Fin ps.length, P (ps[x.1]?.getD (0, 0)) = false) ∨ (∃ x : Fin ps.length, r = (x.1 : Int) ∧ P (ps[x.1]?.getD (0, 0)) = true ∧ ∀ y : Fin ps.length, y.1 < x.1 → P (ps[y.1]?.getD (0, 0)) = false)) : r = firstI P ps := by
  rcases hr with ⟨rfl, hall⟩ | ⟨x, rfl, hx, hy⟩
  · rw [first_none fun j q hj => ?_]
    have := hall ⟨j, (List.getElem?_eq_some_iff.1 hj).1⟩
    rw [getD_of' hj] at this
    exact this
  · have hp : ps[x.1]? = some ps[x.1] := List.getElem?_eq_getElem x.2
    rw [getD_of' hp] at hx
    rw [first_at hp hx fun j q hj hq => ?_]
    have := hy ⟨j, (List.getElem?_eq_some_iff.1 hq).1⟩ hj
    rw [getD_of' hq] at this
    exact this

theorem first_neg {P : Int × Int → Bool} {ps : List (Int × Int)} : decide (firstI P ps = -1) = !ps.any P := by
  unfold firstI
  cases h : ps.any P
  · simp
  · simp only [if_true, Bool.not_true, decide_eq_false_iff_not]; omega

/-- The steps of a coordinate. -/
abbrev gq (p : Int × Int) : Int := gapI p.1 p.2
def maxS (v : Int) (p : Int × Int) : Int := max v (gq p)
def mostL (ps : List (Int × Int)) : Int := ps.foldl maxS 0
def widestI (n : Int) (ps : List (Int × Int)) : Int := if bokI n ps = true then firstI (fun p => decide (gq p = mostL ps)) ps else -1

theorem most_fold (ps : List (Int × Int)) (v : Int) : v ≤ ps.foldl maxS v ∧ (∀ p ∈ ps, gq p ≤ ps.foldl maxS v) ∧ (∀ M, v ≤ M → (∀ p ∈ ps, gq p ≤ M) → ps.foldl maxS v ≤ M) := by
  induction ps generalizing v with
  | nil => exact ⟨Int.le_refl _, by simp, fun M h _ => h⟩
  | cons p ps ih =>
    obtain ⟨h1, h2, h3⟩ := ih (maxS v p)
    rw [List.foldl_cons]
    have hm : maxS v p = max v (gq p) := rfl
    refine ⟨by omega, fun q hq => ?_, fun M hv hM => h3 M ?_ fun q hq => hM q (by simp [hq])⟩
    · rcases List.mem_cons.1 hq with rfl | hq
      · omega
      · exact h2 q hq
    · have := hM p (by simp)
      omega

theorem fold_fin' {α : Type} (f : α → Int × Int → α) (ps : List (Int × Int)) (v : α) : (List.finRange ps.length).foldl (fun v x => f v (ps[x.1]?.getD (0, 0))) v = ps.foldl f v := by
  have e : (List.finRange ps.length).map (fun x => ps[x.1]?.getD (0, 0)) = ps := by
    apply List.ext_getElem?
    intro i
    by_cases hi : i < ps.length
    · rw [List.getElem?_map, List.getElem?_eq_getElem (by simpa using hi)]
      simp [hi]
    · rw [List.getElem?_eq_none (by simp; omega), List.getElem?_eq_none (by omega)]
  conv => rhs; rw [← e, List.foldl_map]

theorem widestTake (w : World) (v lo hi : Int) :
    Calls Try.prog 50 #[.int .u64 v, .agg #[.int .i64 lo, .int .i64 hi, .int .u64 (gapI lo hi)]] w fun e w' => e = .returned (.int .u64 (maxS v (lo, hi))) ∧ Below w.heap.size w w' := by
  unfold maxS gq
  dsimp only
  generalize gapI lo hi = g at *
  go_enter Try.func50, Try.ntmps50
  go_wp2
  all_goals go_ret
  all_goals refine ⟨?_, (Below.refl _ w).alloc (Nat.le_refl _) _⟩
  all_goals (refine congrArg Ending.returned (congrArg (Value.int IntKind.u64) ?_); omega)

theorem widestFits (w : World) (i lo hi m : Int) (C : Nat) (hc : w.cell? ⟨C, 0, none⟩ = some (.int .u64 m)) (hC : C < w.heap.size) :
    Calls Try.prog 51 #[.int .i64 i, .agg #[.int .i64 lo, .int .i64 hi, .int .u64 (gapI lo hi)], .pointer (some ⟨C, 0, none⟩)] w fun e w' => e = .returned (.bool (decide (gq (lo, hi) = m))) ∧ Below w.heap.size w w' := by
  unfold gq
  dsimp only
  generalize gapI lo hi = g at *
  have hc' : (w.alloc (.cells #[.int .i64 lo, .int .i64 hi, .int .u64 g] 54)).cell? ⟨C, 0, none⟩ = some (.int .u64 m) := (World.cell?_alloc_lt _ _ _ hC).trans hc
  clear hc
  go_enter Try.func51, Try.ntmps51
  go_wp2
  all_goals go_ret
  all_goals refine ⟨?_, (Below.refl _ w).alloc (Nat.le_refl _) _⟩
  all_goals first | rfl | (congr 2; simp)

theorem implBoxWidest (w : World) (n : Int) (a : Option Addr) (ps : List (Int × Int)) (cap : Nat) (h : PairsAt w a ps) (hl : ps.length ≤ cap) (hm : ps.length ≤ 1048576) :
    Calls Try.prog 25 #[.int .i64 n, .agg #[.slice a ps.length cap]] w fun e w' => e = .returned (.int .i64 (widestI n ps)) ∧ Below w.heap.size w w' := by
  have q0 : Below w.heap.size w (w.alloc (.cells #[.slice a ps.length cap] 30)) := (Below.refl _ w).alloc (Nat.le_refl _) _
  have o0 := Own.new w #[.slice a ps.length cap] 30
  have hk := implBoxOk (w.alloc (.cells #[.slice a ps.length cap] 30)) n a ps cap (h.below q0) hl hm
  unfold widestI
  cases hbk : bokI n ps
  · rw [hbk] at hk
    rw [if_neg (by decide)]
    generalize ps.length = len at *
    go_enter Try.func25, Try.ntmps25
    go_wp2_with (go_at_call 30; refine hk.mono ?_; clear hk; rintro e w2 ⟨rfl, q⟩)
    go_ret
    exact ⟨rfl, q0.trans (q.mono q0.size)⟩
  · rw [hbk] at hk
    rw [if_pos rfl]
    have hF := fun W (q : Below w.heap.size w W) => foldS W a ps.length cap _ _ hl hm ((h.below q).lies (by omega) (Nat.le_refl _)) 50 (enters_of Try.func50 (by kernel_rfl) rfl) 0 (fun v x => maxS v (ps[x.1]?.getD (0, 0))) (fun pre x W' hx => widestTake W' _ _ _)
    rw [fold_fin'] at hF
    have hG := fun W (q : Below w.heap.size w W) (C : Nat) (hC : C < W.heap.size) (hc : W.cell? ⟨C, 0, none⟩ = some (.int .u64 (ps.foldl maxS 0))) => firstThat W a ps.length cap _ _ hl hm ((h.below q).lies (by omega) (Nat.le_refl _)) 51 C (enters_of Try.func51 (by kernel_rfl) rfl)
      (fun x => decide (gq (ps[x.1]?.getD (0, 0)) = ps.foldl maxS 0)) (fun x W' hW => widestFits W' _ _ _ _ C ((hW.cell (p := ⟨C, 0, none⟩) hC).trans hc) (Nat.lt_of_lt_of_le hC hW.size))
    have hfin := fun r hr => @first_eq (fun p => decide (gq p = mostL ps)) ps r hr
    obtain ⟨len, hlen⟩ : ∃ len, ps.length = len := ⟨_, rfl⟩
    have hmost : ps.foldl maxS 0 = mostL ps := rfl
    rw [hmost] at hF hG
    simp only [hlen] at hF hG hfin hk o0 q0 ⊢
    generalize mostL ps = M at *
    generalize hRR : firstI (fun p => decide (gq p = M)) ps = R at *
    clear h hmost hRR
    go_enter Try.func25, Try.ntmps25
    go_wp2_with first
      | (go_at_call 30; refine hk.mono ?_; clear hk; rintro e w2 ⟨rfl, q⟩; replace q0 := q0.trans (q.mono q0.size); replace o0 := o0.below q; have c0 := o0.cell 0 _ rfl; clear q)
      | (go_at_call 49; refine (hF _ q0).mono ?_; clear hF; rintro e w3 ⟨rfl, q⟩; replace q0 := q0.trans (q.mono q0.size); replace o0 := o0.below q; clear q
         have qa : Below w3.heap.size w3 (w3.alloc (.cells #[.int .u64 M] 52)) := (Below.refl _ _).alloc (Nat.le_refl _) _
         have oM := Own.new w3 #[.int .u64 M] 52
         replace q0 := q0.trans (qa.mono q0.size); replace o0 := o0.below qa; have c0 := o0.cell 0 _ rfl; clear qa)
      | (go_at_call 39; refine (hG _ q0 _ oM.lt (oM.cell 0 _ rfl)).mono ?_; clear hG; rintro e w4 ⟨r, rfl, hr, q⟩)
    go_ret
    exact ⟨by rw [← hfin r hr]; rfl, q0.trans (q.mono q0.size)⟩

end Go.Proofs.Yteohgmmenlinbag
