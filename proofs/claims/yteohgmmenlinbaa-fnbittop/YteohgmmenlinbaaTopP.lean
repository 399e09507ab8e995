/- What a stack of boxes keeps while it is used up: pure facts. -/
import Derived.Test.YteohgmmenlinbaaPureP
import Derived.Test.YteohgmmenlinbaaBoxX
import Derived.Test.YteohgmmenlinbaaBoxW
namespace Go.Proofs.Yteohgmmenlinbaa
open Go.RowKit
set_option linter.unusedVariables false

abbrev PS := List (Int × Int)
abbrev BV := Value × List (Int × Int)

theorem un_pos (ps : PS) : 1 ≤ unL ps := by
  rw [unL_eq]
  have := prod_pos ps
  omega

theorem pa_ge : ∀ (ps : PS) (v : Int), (∀ p ∈ ps, Wf p) → v ≤ ps.foldl paS v
  | [], v, _ => Int.le_refl _
  | p :: ps, v, h => by
    have hp := h p (by simp)
    have gb := gap_bounds hp.1 hp.2
    have h1 := (halv_bounds gb.1 gb.2).1
    have ih := pa_ge ps (paS v p) (fun q hq => h q (by simp [hq]))
    have e : paS v p = v + halvI (gapI p.1 p.2) := rfl
    rw [List.foldl_cons]
    omega

theorem pa_pos {ps : PS} (h : ∀ p ∈ ps, Wf p) : 1 ≤ paL ps := pa_ge ps 1 h

def sumU : List BV → Int
  | [] => 0
  | x :: S => unL x.2 + sumU S

theorem sumU_app : ∀ (S T : List BV), sumU (S ++ T) = sumU S + sumU T
  | [], T => by simp [sumU]
  | x :: S, T => by
    have ih := sumU_app S T
    show unL x.2 + sumU (S ++ T) = unL x.2 + sumU S + sumU T
    omega

theorem sumU_len : ∀ S : List BV, (S.length : Int) ≤ sumU S
  | [] => by simp [sumU]
  | x :: S => by
    have ih := sumU_len S
    have := un_pos x.2
    show ((S.length + 1 : Nat) : Int) ≤ unL x.2 + sumU S
    omega

theorem sumU_one (x : BV) : sumU [x] = unL x.2 := by
  show unL x.2 + 0 = _
  omega

/-- A box of one point. -/
def Pt (q : PS) : Prop := ∀ p ∈ q, p.1 = p.2

/-- Each point of b lies in one of these boxes. -/
def Cov (b : PS) (S T G : List BV) : Prop := ∀ q, Pt q → isbI q b = true → ∃ x, (x ∈ S ∨ x ∈ T ∨ x ∈ G) ∧ isbI q x.2 = true

structure Used (n : Int) (b : PS) (U P : Int) (k : Nat) (S T G : List BV) : Prop where
  sum : (k : Int) + sumU S ≤ U
  path : ∀ (i : Nat) (x : BV), S[i]? = some x → (i : Int) + paL x.2 ≤ P
  ok : ∀ x ∈ S, bokI n x.2 = true ∧ x.2.length = b.length ∧ ∀ p ∈ x.2, Wf p
  cov : Cov b S T G
  lt : T.length ≤ k
  lg : G.length ≤ k
  len : ∀ x : BV, (x ∈ T ∨ x ∈ G) → x.2.length = b.length

theorem pok_sub {n lo hi a b : Int} (h : pokI n lo hi = true) (h1 : lo ≤ a) (h2 : a < b) (h3 : b ≤ hi) : pokI n a b = true := by
  unfold pokI okI at h ⊢
  simp only [Bool.and_eq_true, decide_eq_true_eq] at h ⊢
  obtain ⟨⟨hw, a1, a2⟩, ⟨_, a3, a4⟩, a5, a6, a7⟩ := h
  exact ⟨⟨hw, by omega, by omega⟩, ⟨hw, by omega, by omega⟩, by omega, by omega, by omega⟩

theorem bok_set {n : Int} {ps : PS} {j : Nat} {r : Int × Int} (h : bokI n ps = true) (hr : pokI n r.1 r.2 = true) : bokI n (ps.set j r) = true := by
  unfold bokI at h ⊢
  simp only [Bool.and_eq_true, decide_eq_true_eq, List.all_eq_true, List.length_set] at h ⊢
  refine ⟨h.1, h.2.1, fun p hp => ?_⟩
  rcases List.mem_or_eq_of_mem_set hp with e | e
  · exact h.2.2 p e
  · rw [e]; exact hr

theorem wf_set {ps : PS} {j : Nat} {r : Int × Int} (h : ∀ p ∈ ps, Wf p) (hr : Wf r) : ∀ p ∈ ps.set j r, Wf p := by
  intro p hp
  rcases List.mem_or_eq_of_mem_set hp with e | e
  · exact h p e
  · rw [e]; exact hr

theorem at2_set_self {ps : PS} {j : Nat} (r : Int × Int) (h : j < ps.length) : at2 (ps.set j r) j = r := at2_of (List.getElem?_set_self h)
theorem at2_set_other {ps : PS} {j i : Nat} (r : Int × Int) (h : i ≠ j) : at2 (ps.set j r) i = at2 ps i := by
  unfold at2
  rw [List.getElem?_set_ne (Ne.symm h)]

theorem isb_set {q x : PS} {j : Nat} (hj : j < x.length) (r : Int × Int) (h : isbI q x = true) (hr : isP (at2 q j) r = true) : isbI q (x.set j r) = true := by
  obtain ⟨hl, hi⟩ := isb_iff.1 h
  refine isb_true (by rw [List.length_set]; exact hl) fun i hi' => ?_
  by_cases e : i = j
  · subst e
    rw [at2_set_self r hj]
    exact hr
  · rw [at2_set_other r e]
    exact hi i hi'

theorem isP_iff {p r : Int × Int} : isP p r = true ↔ r.1 ≤ p.1 ∧ p.2 ≤ r.2 := by
  unfold isP isB
  simp only [Bool.and_eq_true, decide_eq_true_eq]

theorem cov_two {q x : PS} {j : Nat} (hj : j < x.length) (r1 r2 : Int × Int) (hq : Pt q) (h : isbI q x = true)
    (hr : ∀ v, (at2 x j).1 ≤ v → v ≤ (at2 x j).2 → (r1.1 ≤ v ∧ v ≤ r1.2) ∨ (r2.1 ≤ v ∧ v ≤ r2.2)) : isbI q (x.set j r1) = true ∨ isbI q (x.set j r2) = true := by
  obtain ⟨hl, hi⟩ := isb_iff.1 h
  have hjq : j < q.length := by omega
  have h1 := isP_iff.1 (hi j hjq)
  have h2 := hq _ (List.mem_of_getElem? (at2_get hjq))
  rcases hr (at2 q j).1 h1.1 (by omega) with e | e
  · exact .inl (isb_set hj r1 h (isP_iff.2 ⟨e.1, by omega⟩))
  · exact .inr (isb_set hj r2 h (isP_iff.2 ⟨e.1, by omega⟩))

theorem isb_part {x : PS} {j : Nat} {r : Int × Int} (hj : j < x.length) (h1 : (at2 x j).1 ≤ r.1) (h2 : r.2 ≤ (at2 x j).2) : isbI (x.set j r) x = true := by
  refine isb_true (by rw [List.length_set]) fun i hi => ?_
  by_cases e : i = j
  · subst e
    rw [at2_set_self r hj]
    exact isP_iff.2 ⟨h1, h2⟩
  · rw [at2_set_other r e]
    exact isP_iff.2 ⟨Int.le_refl _, Int.le_refl _⟩

theorem Used.start {n : Int} {x : BV} (h : bokI n x.2 = true) (hw : ∀ p ∈ x.2, Wf p) : Used n x.2 (unL x.2) (paL x.2) 0 [x] [] [] := by
  refine ⟨?_, fun i y hy => ?_, fun y hy => ?_, fun q _ hi => ⟨x, .inl (by simp), hi⟩, Nat.le_refl _, Nat.le_refl _, fun y hy => by simp at hy⟩
  · rw [sumU_one]; omega
  · have hi : i = 0 := by
      have := (List.getElem?_eq_some_iff.1 hy).1
      simp at this
      exact this
    subst hi
    simp at hy
    subst hy
    omega
  · simp at hy
    subst hy
    exact ⟨h, rfl, hw⟩

theorem get_mid {α : Type} {S : List α} {x y : α} {i : Nat} (h : (S ++ [x])[i]? = some y) : (i < S.length ∧ S[i]? = some y) ∨ (i = S.length ∧ y = x) := by
  rcases Nat.lt_or_ge i S.length with q | q
  · rw [List.getElem?_append_left q] at h
    exact .inl ⟨q, h⟩
  · rw [List.getElem?_append_right q] at h
    have hl := (List.getElem?_eq_some_iff.1 h).1
    simp at hl
    have e : i - S.length = 0 := by omega
    rw [e] at h
    simp at h
    exact .inr ⟨by omega, h.symm⟩

section
variable {n : Int} {b : PS} {U P : Int} {k : Nat} {S T G : List BV} {x : BV}

theorem Used.top (h : Used n b U P k (S ++ [x]) T G) : bokI n x.2 = true ∧ x.2.length = b.length ∧ (∀ p ∈ x.2, Wf p) ∧ (k : Int) < U ∧ ((S ++ [x]).length : Int) ≤ P ∧ unL x.2 ≤ U := by
  obtain ⟨h1, h2, h3⟩ := h.ok x (by simp)
  have hs := h.sum
  rw [sumU_app, sumU_one] at hs
  have h4 := sumU_len S
  have h5 := un_pos x.2
  have h6 := h.path S.length x (by simp)
  have h7 := pa_pos h3
  refine ⟨h1, h2, h3, by omega, ?_, by omega⟩
  rw [List.length_append]
  show ((S.length + 1 : Nat) : Int) ≤ P
  omega

theorem Used.path_low (h : Used n b U P k (S ++ [x]) T G) : ∀ (i : Nat) (y : BV), S[i]? = some y → (i : Int) + paL y.2 ≤ P := fun i y hy =>
  h.path i y (by rw [List.getElem?_append_left (List.getElem?_eq_some_iff.1 hy).1]; exact hy)

theorem Used.told (h : Used n b U P k (S ++ [x]) T G) : Used n b U P (k + 1) S (T ++ [x]) G := by
  have hs := h.sum
  rw [sumU_app, sumU_one] at hs
  have h5 := un_pos x.2
  refine ⟨by omega, h.path_low, fun y hy => h.ok y (by simp [hy]), fun q hq hi => ?_, by simp; exact h.lt, by have := h.lg; omega, fun y hy => by
    rcases hy with e | e
    · rcases List.mem_append.1 e with e | e
      · exact h.len y (.inl e)
      · simp at e; subst e; exact (h.ok _ (by simp)).2.1
    · exact h.len y (.inr e)⟩
  obtain ⟨y, hy, hi'⟩ := h.cov q hq hi
  refine ⟨y, ?_, hi'⟩
  rcases hy with e | e | e
  · rcases List.mem_append.1 e with e | e
    · exact .inl e
    · exact .inr (.inl (by simp at e; simp [e]))
  · exact .inr (.inl (by simp [e]))
  · exact .inr (.inr e)

theorem Used.gone (h : Used n b U P k (S ++ [x]) T G) : Used n b U P (k + 1) S T (G ++ [x]) := by
  have hs := h.sum
  rw [sumU_app, sumU_one] at hs
  have h5 := un_pos x.2
  refine ⟨by omega, h.path_low, fun y hy => h.ok y (by simp [hy]), fun q hq hi => ?_, by have := h.lt; omega, by simp; exact h.lg, fun y hy => by
    rcases hy with e | e
    · exact h.len y (.inl e)
    · rcases List.mem_append.1 e with e | e
      · exact h.len y (.inr e)
      · simp at e; subst e; exact (h.ok _ (by simp)).2.1⟩
  obtain ⟨y, hy, hi'⟩ := h.cov q hq hi
  refine ⟨y, ?_, hi'⟩
  rcases hy with e | e | e
  · rcases List.mem_append.1 e with e | e
    · exact .inl e
    · exact .inr (.inr (by simp at e; simp [e]))
  · exact .inr (.inl e)
  · exact .inr (.inr (by simp [e]))

theorem gap_of {a b : Int} (h : a ≤ b) : gapI a b = b - a := by
  unfold gapI
  rw [if_neg (by omega)]

theorem gap_two {a b : Int} (h : 2 ≤ gapI a b) : a + 2 ≤ b := by
  unfold gapI at h
  split at h <;> omega

/-- One bound goes in by a step. -/
theorem Used.step (h : Used n b U P k (S ++ [x]) T G) (hU : U ≤ 3000) {j : Nat} (hj : j < x.2.length) (hg : 2 ≤ gp (at2 x.2 j)) {y z : BV} {r1 r2 : Int × Int} (hy : y.2 = x.2.set j r1) (hz : z.2 = x.2.set j r2)
    (hr : (r1 = ((at2 x.2 j).1 + 1, (at2 x.2 j).2) ∧ r2 = ((at2 x.2 j).1, (at2 x.2 j).1 + 1)) ∨ (r1 = ((at2 x.2 j).1, (at2 x.2 j).2 - 1) ∧ r2 = ((at2 x.2 j).2 - 1, (at2 x.2 j).2))) :
    Used n b U P (k + 1) (S ++ [y]) T (G ++ [z]) := by
  obtain ⟨h1, h2, h3, h4, h5, h6⟩ := h.top
  have hs := h.sum
  rw [sumU_app, sumU_one] at hs
  have g2 := gap_two hg
  have wx := h3 _ (List.mem_of_getElem? (at2_get hj))
  have b1 := i64_bounds wx.1
  have b2 := i64_bounds wx.2
  have hgx : gp (at2 x.2 j) = (at2 x.2 j).2 - (at2 x.2 j).1 := gap_of (by omega)
  have hg1 : gp r1 = gp (at2 x.2 j) - 1 ∧ (at2 x.2 j).1 ≤ r1.1 ∧ r1.1 < r1.2 ∧ r1.2 ≤ (at2 x.2 j).2 := by
    rw [hgx]
    rcases hr with ⟨e, _⟩ | ⟨e, _⟩ <;> subst e <;> refine ⟨?_, by dsimp only; omega, by dsimp only; omega, by dsimp only; omega⟩
    · show gapI _ _ = _
      rw [gap_of (by omega)]
      omega
    · show gapI _ _ = _
      rw [gap_of (by omega)]
      omega
  obtain ⟨e1, e2, e3, e4⟩ := hg1
  have wr : Wf r1 := ⟨i64_wf (by omega) (by omega), i64_wf (by omega) (by omega)⟩
  have hu : unL y.2 + 1 ≤ unL x.2 := by
    have := units_part hj (q1 := r1) (q2 := (0, 0)) (by omega) (fun hq => by
      rw [e1]
      have : ufI (gp (0, 0)) = 1 := rfl
      rw [this]
      unfold ufI at hq ⊢
      rw [if_neg (by omega)] at hq ⊢
      rw [if_neg (by omega)]
      omega)
    rw [← hy] at this
    have := un_pos (x.2.set j (0, 0))
    omega
  have hp : paL y.2 ≤ paL x.2 := by
    rw [hy, paL_set hj, e1]
    have gb := gap_bounds wx.1 wx.2
    have := halv_mono (a := gp (at2 x.2 j) - 1) (b := gp (at2 x.2 j)) (by omega) (by omega) gb.2
    omega
  refine ⟨?_, fun i c hc => ?_, fun c hc => ?_, fun q hq hi => ?_, by have := h.lt; omega, by simp; exact h.lg, fun y hy => by
    rcases hy with e | e
    · exact h.len y (.inl e)
    · rcases List.mem_append.1 e with e | e
      · exact h.len y (.inr e)
      · simp at e; subst e; rw [hz, List.length_set]; exact h2⟩
  · rw [sumU_app, sumU_one]
    omega
  · rcases get_mid hc with ⟨_, e⟩ | ⟨e, e'⟩
    · exact h.path_low i c e
    · subst e'
      have := h.path S.length x (by simp)
      omega
  · rcases List.mem_append.1 hc with e | e
    · exact h.ok c (by simp [e])
    · simp at e
      subst e
      rw [hy]
      exact ⟨bok_set h1 (pok_sub (bok_at h1 hj) e2 e3 e4), by rw [List.length_set]; exact h2, wf_set h3 wr⟩
  · obtain ⟨c, hc, hi'⟩ := h.cov q hq hi
    rcases hc with e | e | e
    · rcases List.mem_append.1 e with e | e
      · exact ⟨c, .inl (by simp [e]), hi'⟩
      · simp at e
        subst e
        rcases cov_two hj r1 r2 hq hi' (fun v v1 v2 => by rcases hr with ⟨e, e'⟩ | ⟨e, e'⟩ <;> subst e e' <;> dsimp only <;> omega) with t | t
        · exact ⟨y, .inl (by simp), by rw [hy]; exact t⟩
        · exact ⟨z, .inr (.inr (by simp)), by rw [hz]; exact t⟩
    · exact ⟨c, .inr (.inl e), hi'⟩
    · exact ⟨c, .inr (.inr (by simp [e])), hi'⟩

theorem split_yes {n : Int} {x : PS} {j : Nat} (h1 : bokI n x = true) (hj : j < x.length) (hg : 2 ≤ gp (at2 x j)) : partK n (splitF n) x (j : Int) = true := by
  unfold partK
  rw [h1, decide_eq_true (show (0 : Int) ≤ (j : Int) by omega), decide_eq_true (show (j : Int) < x.length by omega)]
  show splitB n (at2 x (j : Int).toNat).1 (at2 x (j : Int).toNat).2 = true
  rw [show (j : Int).toNat = j by omega]
  unfold splitB
  rw [bok_at h1 hj, decide_eq_true hg]
  rfl

theorem split_ab {n : Int} {x : PS} {j : Nat} (h1 : bokI n x = true) (hj : j < x.length) (hg : 2 ≤ gp (at2 x j)) :
    partA n (splitF n) x (j : Int) = x.set j ((at2 x j).1, midI (at2 x j).1 (at2 x j).2) ∧ partB n (splitF n) x (j : Int) = x.set j (midI (at2 x j).1 (at2 x j).2, (at2 x j).2) := by
  have hk := split_yes h1 hj hg
  have hs : splitB n (at2 x j).1 (at2 x j).2 = true := by
    unfold splitB
    rw [bok_at h1 hj, decide_eq_true hg]
    rfl
  constructor
  · unfold partA
    rw [if_pos hk, show (j : Int).toNat = j by omega]
    unfold splitF
    simp only [if_pos hs]
  · unfold partB
    rw [if_pos hk, show (j : Int).toNat = j by omega]
    unfold splitF
    simp only [if_pos hs]

theorem mid_in {lo hi : Int} (h : lo + 2 ≤ hi) : lo < midI lo hi ∧ midI lo hi < hi := by
  unfold midI
  rw [gap_of (by omega)]
  omega

theorem split_in {n : Int} {x : PS} {j : Nat} (h1 : bokI n x = true) (hj : j < x.length) (hg : 2 ≤ gp (at2 x j)) :
    isbI (partA n (splitF n) x (j : Int)) x = true ∧ isbI (partB n (splitF n) x (j : Int)) x = true := by
  obtain ⟨e1, e2⟩ := split_ab h1 hj hg
  have m := mid_in (gap_two hg)
  rw [e1, e2]
  exact ⟨isb_part hj (Int.le_refl _) (by dsimp only; omega), isb_part hj (by dsimp only; omega) (Int.le_refl _)⟩

/-- A box is split. -/
theorem Used.split (h : Used n b U P k (S ++ [x]) T G) (hU : U ≤ 3000) {j : Nat} (hj : j < x.2.length) (hg : 2 ≤ gp (at2 x.2 j)) {y z : BV} (hy : y.2 = partA n (splitF n) x.2 (j : Int)) (hz : z.2 = partB n (splitF n) x.2 (j : Int)) :
    Used n b U P (k + 1) (S ++ [z] ++ [y]) T G := by
  obtain ⟨h1, h2, h3, h4, h5, h6⟩ := h.top
  have hs := h.sum
  rw [sumU_app, sumU_one] at hs
  obtain ⟨l1, l2, l3⟩ := split_less h3 (split_yes h1 hj hg)
  obtain ⟨e1, e2⟩ := split_ab h1 hj hg
  have m := mid_in (gap_two hg)
  have wx := h3 _ (List.mem_of_getElem? (at2_get hj))
  have mb := mid_bounds wx.1 wx.2
  rw [← hy, ← hz] at l1
  rw [← hy] at l2
  rw [← hz] at l3
  rw [e1] at hy
  rw [e2] at hz
  have l1' := l1 (by omega)
  have hpx := h.path S.length x (by simp)
  refine ⟨?_, fun i c hc => ?_, fun c hc => ?_, fun q hq hi => ?_, by have := h.lt; omega, by have := h.lg; omega, h.len⟩
  · rw [sumU_app, sumU_app, sumU_one, sumU_one]
    omega
  · rcases get_mid hc with ⟨_, e⟩ | ⟨e, e'⟩
    · rcases get_mid e with ⟨_, e⟩ | ⟨e, e'⟩
      · exact h.path_low i c e
      · subst e'
        omega
    · subst e'
      rw [List.length_append] at e
      simp at e
      omega
  · rcases List.mem_append.1 hc with e | e
    · rcases List.mem_append.1 e with e | e
      · exact h.ok c (by simp [e])
      · simp at e
        subst e
        rw [hz]
        exact ⟨bok_set h1 (pok_sub (bok_at h1 hj) (by omega) m.2 (Int.le_refl _)), by rw [List.length_set]; exact h2, wf_set h3 ⟨mb.2.2, wx.2⟩⟩
    · simp at e
      subst e
      rw [hy]
      exact ⟨bok_set h1 (pok_sub (bok_at h1 hj) (Int.le_refl _) m.1 (by omega)), by rw [List.length_set]; exact h2, wf_set h3 ⟨wx.1, mb.2.2⟩⟩
  · obtain ⟨c, hc, hi'⟩ := h.cov q hq hi
    rcases hc with e | e | e
    · rcases List.mem_append.1 e with e | e
      · exact ⟨c, .inl (by simp [e]), hi'⟩
      · simp at e
        subst e
        rcases cov_two hj ((at2 c.2 j).1, midI (at2 c.2 j).1 (at2 c.2 j).2) (midI (at2 c.2 j).1 (at2 c.2 j).2, (at2 c.2 j).2) hq hi' (fun v v1 v2 => by dsimp only; omega) with t | t
        · exact ⟨y, .inl (by simp), by rw [hy]; exact t⟩
        · exact ⟨z, .inl (by simp), by rw [hz]; exact t⟩
    · exact ⟨c, .inr (.inl e), hi'⟩
    · exact ⟨c, .inr (.inr e), hi'⟩
end

/-- The widest coordinate of a box is one of its coordinates. -/
theorem widest_at {n : Int} {ps : PS} (h : bokI n ps = true) : ∃ j : Nat, widestI n ps = (j : Int) ∧ j < ps.length := by
  have hl : 1 ≤ ps.length := by
    unfold bokI at h
    simp only [Bool.and_eq_true, decide_eq_true_eq] at h
    exact h.1
  have hm := most_fold ps 0
  have hex : ∃ p ∈ ps, gq p = mostL ps := by
    apply Classical.byContradiction
    intro hn
    have hne : ∀ p ∈ ps, gq p ≤ mostL ps - 1 := by
      intro p hp
      have h1 : gq p ≤ mostL ps := hm.2.1 p hp
      have h2 : ¬ gq p = mostL ps := fun e => hn ⟨p, hp, e⟩
      omega
    match ps, hl with
    | p :: ps, _ =>
      have h0 := hne p (by simp)
      have hp0 : 0 ≤ gq p := gp_nonneg p
      have h3 : mostL (p :: ps) ≤ mostL (p :: ps) - 1 := hm.2.2 (mostL (p :: ps) - 1) (by omega) hne
      omega
  obtain ⟨p, hp, he⟩ := hex
  refine ⟨ps.findIdx (fun p => decide (gq p = mostL ps)), ?_, ?_⟩
  · unfold widestI firstI
    rw [if_pos h, if_pos]
    rw [List.any_eq_true]
    exact ⟨p, hp, decide_eq_true he⟩
  · exact List.findIdx_lt_length_of_exists ⟨p, hp, decide_eq_true he⟩

end Go.Proofs.Yteohgmmenlinbaa
