/- BoxUnits and BoxPath of the program and of the model: contracts. -/
import Derived.Test.YteohgmmenlinbaaJB
import Derived.Test.YteohgmmenlinbaaFoldI
import Derived.Test.YteohgmmenlinbaaHalv
namespace Go.Proofs.Yteohgmmenlinbaa
open Go.ChangeShapes Go.WideShapes Go.ChangeAt Go.RowKit
set_option linter.unusedVariables false

/-- The steps of a coordinate. -/
abbrev gp (p : Int × Int) : Int := gapI p.1 p.2
/-- What a coordinate of so many steps makes the units more by. -/
def ufI (g : Int) : Int := if g = 0 then 1 else 4 * min g 1000000000 - 1
def unS (v : Int) (p : Int × Int) : Int := min (v * ufI (gp p)) 1000000000
def unL (ps : List (Int × Int)) : Int := ps.foldl unS 1
def paS (v : Int) (p : Int × Int) : Int := v + halvI (gp p)
def paL (ps : List (Int × Int)) : Int := ps.foldl paS 1
def unitsI (n : Int) (ps : List (Int × Int)) : Int := if bokI n ps = true then unL ps else 0
def pathI (n : Int) (ps : List (Int × Int)) : Int := if bokI n ps = true then paL ps else 0

abbrev Wf (p : Int × Int) : Prop := (Lit.int .i64 p.1).wf = true ∧ (Lit.int .i64 p.2).wf = true

theorem fold_fin {α : Type} (f : α → Int × Int → α) (ps : List (Int × Int)) (v : α) : (List.finRange ps.length).foldl (fun v x => f v (ps[x.1]?.getD (0, 0))) v = ps.foldl f v := by
  have e : (List.finRange ps.length).map (fun x => ps[x.1]?.getD (0, 0)) = ps := by
    apply List.ext_getElem?
    intro i
    by_cases hi : i < ps.length
    · rw [List.getElem?_map, List.getElem?_eq_getElem (by simpa using hi)]
      simp [hi]
    · rw [List.getElem?_eq_none (by simp; omega), List.getElem?_eq_none (by omega)]
  conv => rhs; rw [← e, List.foldl_map]

theorem uf_pos {g : Int} (h : 0 ≤ g) : 1 ≤ ufI g ∧ ufI g ≤ 3999999999 := by
  unfold ufI
  split <;> omega

theorem gp_nonneg (p : Int × Int) : 0 ≤ gp p := by
  unfold gp gapI
  split <;> omega

theorem mul_ge {v u : Int} (hv : 1 ≤ v) (hu : 1 ≤ u) : v ≤ v * u := by
  have := Int.mul_le_mul_of_nonneg_left hu (show (0 : Int) ≤ v by omega)
  omega

theorem mul_top {v u : Int} (h1 : 1 ≤ v) (h2 : v ≤ 1000000000) (h3 : 1 ≤ u) (h4 : u ≤ 3999999999) : 1 ≤ v * u ∧ v * u ≤ 3999999999000000000 := by
  have a := Int.mul_le_mul_of_nonneg_left h4 (show (0 : Int) ≤ v by omega)
  have b := mul_ge h1 h3
  omega

theorem un_bounds {v : Int} (h1 : 1 ≤ v) (h2 : v ≤ 1000000000) (p : Int × Int) : 1 ≤ unS v p ∧ unS v p ≤ 1000000000 := by
  unfold unS
  have u := uf_pos (gp_nonneg p)
  have := mul_top h1 h2 u.1 u.2
  omega

theorem un_fold {v : Int} (ps : List (Int × Int)) (h1 : 1 ≤ v) (h2 : v ≤ 1000000000) : 1 ≤ ps.foldl unS v ∧ ps.foldl unS v ≤ 1000000000 := by
  induction ps generalizing v with
  | nil => exact ⟨h1, h2⟩
  | cons p ps ih => exact ih (un_bounds h1 h2 p).1 (un_bounds h1 h2 p).2

theorem un_full (ps : List (Int × Int)) : ps.foldl unS 1000000000 = 1000000000 := by
  induction ps with
  | nil => rfl
  | cons p ps ih =>
    have u := uf_pos (gp_nonneg p)
    have := mul_ge (v := 1000000000) (by omega) u.1
    have e : unS 1000000000 p = 1000000000 := by unfold unS; omega
    rw [List.foldl_cons, e, ih]

theorem pa_fold {ps : List (Int × Int)} (h : ∀ p ∈ ps, Wf p) (v : Int) : v ≤ ps.foldl paS v ∧ ps.foldl paS v ≤ v + 64 * ps.length := by
  induction ps generalizing v with
  | nil => simp
  | cons p ps ih =>
    have hb := gap_bounds (h p (by simp)).1 (h p (by simp)).2
    have hh := halv_bounds hb.1 hb.2
    have := ih (fun q hq => h q (by simp [hq])) (paS v p)
    rw [List.foldl_cons, List.length_cons]
    unfold paS at this ⊢
    unfold gp at this ⊢
    omega

theorem take_succ_fold {α : Type} (f : α → Int × Int → α) {ps : List (Int × Int)} {i : Nat} {p : Int × Int} (h : ps[i]? = some p) (v : α) : (ps.take (i + 1)).foldl f v = f ((ps.take i).foldl f v) p := by
  have hi := (List.getElem?_eq_some_iff.1 h).1
  have e : ps[i] = p := by rw [List.getElem?_eq_getElem hi] at h; exact Option.some.inj h
  rw [List.take_succ_eq_append_getElem hi, List.foldl_append, e]
  rfl

theorem stepsUnits (w : World) (g : Int) (h0 : 0 ≤ g) (h1 : g ≤ 18446744073709551615) :
    Calls Try.prog 41 #[.int .u64 g] w fun e w' => e = .returned (.int .i64 (ufI g)) ∧ w' = w := by
  by_cases hg : g = 0
  · subst hg
    go_enter Try.func41, Try.ntmps41
    go_wp2
    go_ret
    exact ⟨rfl, rfl⟩
  · go_enter Try.func41, Try.ntmps41
    go_wp2
    all_goals go_ret
    all_goals refine ⟨?_, rfl⟩
    all_goals (unfold ufI; rw [if_neg hg]; congr 2 <;> omega)

theorem unitsTake (w : World) (v lo hi : Int) (h1 : 1 ≤ v) (h2 : v ≤ 1000000000) (w1 : (Lit.int .i64 lo).wf = true) (w2 : (Lit.int .i64 hi).wf = true) :
    Calls Try.prog 40 #[.int .i64 v, .agg #[.int .i64 lo, .int .i64 hi, .int .u64 (gapI lo hi)]] w fun e w' => e = .returned (.int .i64 (unS v (lo, hi))) ∧ Below w.heap.size w w' := by
  have hb := gap_bounds w1 w2
  have hk := fun W => stepsUnits W (gapI lo hi) hb.1 hb.2
  have hu := uf_pos hb.1
  unfold unS gp
  dsimp only
  generalize gapI lo hi = g at *
  generalize ufI g = u at *
  have ht := mul_top h1 h2 hu.1 hu.2
  go_enter Try.func40, Try.ntmps40
  go_wp2_with (go_at_call 41; refine (hk _).mono ?_; clear hk; rintro e w2 ⟨rfl, rfl⟩)
  all_goals go_ret
  all_goals refine ⟨?_, (Below.refl _ w).alloc (Nat.le_refl _) _⟩
  all_goals (congr 2 <;> omega)

theorem pathTake (w : World) (v lo hi : Int) (h1 : 1 ≤ v) (h2 : v ≤ 1000000000) (w1 : (Lit.int .i64 lo).wf = true) (w2 : (Lit.int .i64 hi).wf = true) :
    Calls Try.prog 42 #[.int .i64 v, .agg #[.int .i64 lo, .int .i64 hi, .int .u64 (gapI lo hi)]] w fun e w' => e = .returned (.int .i64 (paS v (lo, hi))) ∧ Below w.heap.size w w' := by
  have hb := gap_bounds w1 w2
  have hk := fun W => halvings W (gapI lo hi) hb.1 hb.2
  have hh := halv_bounds hb.1 hb.2
  unfold paS gp
  dsimp only
  generalize gapI lo hi = g at *
  generalize halvI g = u at *
  go_enter Try.func42, Try.ntmps42
  go_wp2_with (go_at_call 43; refine (hk _).mono ?_; clear hk; rintro e w2 ⟨rfl, rfl⟩)
  all_goals go_ret
  all_goals refine ⟨?_, (Below.refl _ w).alloc (Nat.le_refl _) _⟩
  all_goals (congr 2 <;> omega)

theorem implBoxUnits (w : World) (n : Int) (a : Option Addr) (ps : List (Int × Int)) (cap : Nat) (h : PairsAt w a ps) (hl : ps.length ≤ cap) (hm : ps.length ≤ 1048576) :
    Calls Try.prog 9 #[.int .i64 n, .agg #[.slice a ps.length cap]] w fun e w' => e = .returned (.int .i64 (unitsI n ps)) ∧ Below w.heap.size w w' := by
  have q0 : Below w.heap.size w (w.alloc (.cells #[.slice a ps.length cap] 25)) := (Below.refl _ w).alloc (Nat.le_refl _) _
  have o0 := Own.new w #[.slice a ps.length cap] 25
  have hk := implBoxOk (w.alloc (.cells #[.slice a ps.length cap] 25)) n a ps cap (h.below q0) hl hm
  unfold unitsI
  cases hbk : bokI n ps
  · rw [hbk] at hk
    rw [if_neg (by decide)]
    generalize ps.length = len at *
    go_enter Try.func9, Try.ntmps9
    go_wp2_with (go_at_call 38; refine hk.mono ?_; clear hk; rintro e w2 ⟨rfl, q⟩)
    go_ret
    exact ⟨rfl, q0.trans (q.mono q0.size)⟩
  · rw [hbk] at hk
    rw [if_pos rfl]
    have hF := fun W (q : Below w.heap.size w W) => foldI W a ps.length cap _ _ hl hm ((h.below q).lies (by omega) (Nat.le_refl _)) 40 (enters_of Try.func40 (by kernel_rfl) rfl) 1 (fun v x => unS v (ps[x.1]?.getD (0, 0))) (fun pre x W' hx => by
          have hv : 1 ≤ pre.foldl (fun v (x : Fin ps.length) => unS v (ps[x.1]?.getD (0, 0))) 1 ∧ pre.foldl (fun v (x : Fin ps.length) => unS v (ps[x.1]?.getD (0, 0))) 1 ≤ 1000000000 := by
            have := un_fold (v := 1) (pre.map fun x : Fin ps.length => ps[x.1]?.getD (0, 0)) (by omega) (by omega)
            rw [List.foldl_map] at this
            exact this
          have hp : ps[x.1]? = some ps[x.1] := List.getElem?_eq_getElem x.2
          have wf := h.1 _ (List.mem_of_getElem? hp)
          rw [← getD_of hp] at wf
          exact unitsTake W' _ _ _ hv.1 (by have := hx; have := hv.2; omega) wf.1 wf.2)
    rw [fold_fin] at hF
    change Calls Try.prog _ _ _ fun e w' => e = .returned (.int .i64 (ps.foldl unS 1)) ∧ _
    generalize ps.foldl unS 1 = R at *
    generalize ps.length = len at *
    clear h
    go_enter Try.func9, Try.ntmps9
    go_wp2_with first
      | (go_at_call 38; refine hk.mono ?_; clear hk; rintro e w2 ⟨rfl, q⟩; replace q0 := q0.trans (q.mono q0.size); have c0 := (o0.below q).cell 0 _ rfl; clear q)
      | (go_at_call 39; refine (hF _ q0).mono ?_; clear hF; rintro e w3 ⟨rfl, q⟩)
    go_ret
    exact ⟨rfl, q0.trans (q.mono q0.size)⟩

theorem implBoxPath (w : World) (n : Int) (a : Option Addr) (ps : List (Int × Int)) (cap : Nat) (h : PairsAt w a ps) (hl : ps.length ≤ cap) (hm : ps.length ≤ 1048576) :
    Calls Try.prog 10 #[.int .i64 n, .agg #[.slice a ps.length cap]] w fun e w' => e = .returned (.int .i64 (pathI n ps)) ∧ Below w.heap.size w w' := by
  have q0 : Below w.heap.size w (w.alloc (.cells #[.slice a ps.length cap] 25)) := (Below.refl _ w).alloc (Nat.le_refl _) _
  have o0 := Own.new w #[.slice a ps.length cap] 25
  have hk := implBoxOk (w.alloc (.cells #[.slice a ps.length cap] 25)) n a ps cap (h.below q0) hl hm
  unfold pathI
  cases hbk : bokI n ps
  · rw [hbk] at hk
    rw [if_neg (by decide)]
    generalize ps.length = len at *
    go_enter Try.func10, Try.ntmps10
    go_wp2_with (go_at_call 38; refine hk.mono ?_; clear hk; rintro e w2 ⟨rfl, q⟩)
    go_ret
    exact ⟨rfl, q0.trans (q.mono q0.size)⟩
  · rw [hbk] at hk
    rw [if_pos rfl]
    have hF := fun W (q : Below w.heap.size w W) => foldI W a ps.length cap _ _ hl hm ((h.below q).lies (by omega) (Nat.le_refl _)) 42 (enters_of Try.func42 (by kernel_rfl) rfl) 1 (fun v x => paS v (ps[x.1]?.getD (0, 0))) (fun pre x W' hx => by
          have hv : 1 ≤ pre.foldl (fun v (x : Fin ps.length) => paS v (ps[x.1]?.getD (0, 0))) 1 ∧ pre.foldl (fun v (x : Fin ps.length) => paS v (ps[x.1]?.getD (0, 0))) 1 ≤ 1000000000 := by
            have := pa_fold (ps := pre.map fun x : Fin ps.length => ps[x.1]?.getD (0, 0)) (by
              intro p hp
              obtain ⟨x, _, rfl⟩ := List.mem_map.1 hp
              rw [List.getElem?_eq_getElem x.2]
              exact h.1 _ (List.getElem_mem x.2)) 1
            rw [List.foldl_map, List.length_map] at this
            omega
          have hp : ps[x.1]? = some ps[x.1] := List.getElem?_eq_getElem x.2
          have wf := h.1 _ (List.mem_of_getElem? hp)
          rw [← getD_of hp] at wf
          exact pathTake W' _ _ _ hv.1 (by have := hx; have := hv.2; omega) wf.1 wf.2)
    rw [fold_fin] at hF
    change Calls Try.prog _ _ _ fun e w' => e = .returned (.int .i64 (ps.foldl paS 1)) ∧ _
    generalize ps.foldl paS 1 = R at *
    generalize ps.length = len at *
    clear h
    go_enter Try.func10, Try.ntmps10
    go_wp2_with first
      | (go_at_call 38; refine hk.mono ?_; clear hk; rintro e w2 ⟨rfl, q⟩; replace q0 := q0.trans (q.mono q0.size); have c0 := (o0.below q).cell 0 _ rfl; clear q)
      | (go_at_call 39; refine (hF _ q0).mono ?_; clear hF; rintro e w3 ⟨rfl, q⟩)
    go_ret
    exact ⟨rfl, q0.trans (q.mono q0.size)⟩

end Go.Proofs.Yteohgmmenlinbaa
