/- Units and path of a box whose coordinate is changed: pure facts. -/
import Derived.Test.YteohgmmenlinbaaBoxU
import Derived.Test.YteohgmmenlinbaaJB
namespace Go.Proofs.Yteohgmmenlinbaa
open Go.RowKit
set_option linter.unusedVariables false

/-- The product that the units are, not held down. -/
def prodU : List (Int × Int) → Int
  | [] => 1
  | p :: ps => ufI (gp p) * prodU ps

theorem prod_pos : ∀ ps : List (Int × Int), 1 ≤ prodU ps
  | [] => by decide
  | p :: ps => by
    have h1 := (uf_pos (gp_nonneg p)).1
    have h2 := mul_ge h1 (prod_pos ps)
    show 1 ≤ ufI (gp p) * prodU ps
    omega

theorem un_prod : ∀ (ps : List (Int × Int)) (v : Int), 1 ≤ v → v ≤ 1000000000 → ps.foldl unS v = min (v * prodU ps) 1000000000
  | [], v, h1, h2 => by simp [prodU]; omega
  | p :: ps, v, h1, h2 => by
    have hb := un_bounds h1 h2 p
    have hp := prod_pos ps
    have hu := (uf_pos (gp_nonneg p)).1
    rw [List.foldl_cons, un_prod ps _ hb.1 hb.2]
    show min (unS v p * prodU ps) 1000000000 = min (v * (ufI (gp p) * prodU ps)) 1000000000
    rw [← Int.mul_assoc]
    have h3 := mul_ge h1 hu
    unfold unS
    generalize v * ufI (gp p) = t at *
    by_cases ht : t ≤ 1000000000
    · have e : min t 1000000000 = t := by omega
      rw [e]
    · have e : min t 1000000000 = 1000000000 := by omega
      rw [e]
      have a := mul_ge (v := t) (by omega) hp
      have b := mul_ge (v := 1000000000) (by omega) hp
      omega

theorem unL_eq (ps : List (Int × Int)) : unL ps = min (prodU ps) 1000000000 := by
  unfold unL
  rw [un_prod ps 1 (by omega) (by omega), Int.one_mul]

/-- One coordinate apart from the others. -/
theorem prod_set : ∀ (ps : List (Int × Int)) (k : Nat), k < ps.length → ∃ P, 1 ≤ P ∧ prodU ps = P * ufI (gp (at2 ps k)) ∧ ∀ q, prodU (ps.set k q) = P * ufI (gp q)
  | [], k, h => by simp at h
  | p :: ps, 0, h => by
    refine ⟨prodU ps, prod_pos ps, ?_, fun q => ?_⟩
    · show ufI (gp p) * prodU ps = _
      rw [Int.mul_comm]
      rfl
    · show ufI (gp q) * prodU ps = _
      rw [Int.mul_comm]
  | p :: ps, k + 1, h => by
    obtain ⟨P, h1, h2, h3⟩ := prod_set ps k (by simpa using h)
    have hu := (uf_pos (gp_nonneg p)).1
    refine ⟨ufI (gp p) * P, by have := mul_ge hu h1; omega, ?_, fun q => ?_⟩
    · show ufI (gp p) * prodU ps = _
      have e : at2 (p :: ps) (k + 1) = at2 ps k := by unfold at2; simp
      rw [h2, e, Int.mul_assoc]
    · show ufI (gp p) * prodU (ps.set k q) = _
      rw [h3, Int.mul_assoc]

/-- Both parts together are less, by one at least. -/
theorem units_part {ps : List (Int × Int)} {k : Nat} (hk : k < ps.length) {q1 q2 : Int × Int} (h : unL ps < 1000000000)
    (hq : ufI (gp (at2 ps k)) < 1000000000 → ufI (gp q1) + ufI (gp q2) + 1 ≤ ufI (gp (at2 ps k))) : unL (ps.set k q1) + unL (ps.set k q2) + 1 ≤ unL ps := by
  obtain ⟨P, h1, h2, h3⟩ := prod_set ps k hk
  rw [unL_eq] at h ⊢
  rw [unL_eq, unL_eq, h3, h3]
  have hg := (uf_pos (gp_nonneg (at2 ps k))).1
  have h4 : prodU ps < 1000000000 := by omega
  have h5 : ufI (gp (at2 ps k)) ≤ prodU ps := by
    rw [h2, Int.mul_comm]
    exact mul_ge hg h1
  have h6 := hq (by omega)
  have h7 : P * (ufI (gp q1) + ufI (gp q2) + 1) ≤ P * ufI (gp (at2 ps k)) := Int.mul_le_mul_of_nonneg_left h6 (by omega)
  rw [Int.mul_add, Int.mul_add, Int.mul_one] at h7
  omega

theorem uf_split {g : Int} (h2 : 2 ≤ g) (h : ufI g < 1000000000) : ufI (g / 2) + ufI (g - g / 2) + 1 ≤ ufI g := by
  unfold ufI at h ⊢
  split at h
  · omega
  · split <;> split <;> omega

theorem uf_cut {g a b : Int} (ha : 0 ≤ a) (hb : 0 ≤ b) (hab : a + b + 1 ≤ g) (h : ufI g < 1000000000) : ufI a + ufI b + 1 ≤ ufI g := by
  unfold ufI at h ⊢
  split at h
  · omega
  · split <;> split <;> omega

/-- Halvings grow with the number. -/
theorem halv_mono {a b : Int} (h0 : 0 ≤ a) (h : a ≤ b) (h1 : b ≤ 18446744073709551615) : halvI a ≤ halvI b := by
  obtain ⟨n, hn⟩ : ∃ n : Nat, b = n := ⟨b.toNat, by omega⟩
  induction n using Nat.strongRecOn generalizing a b with
  | ind n ih =>
    by_cases hb : b = 0
    · have : a = 0 := by omega
      rw [this, hb]
      exact Int.le_refl _
    · rw [halv_step (g := b) (by omega) h1]
      by_cases ha : a = 0
      · rw [ha, halv_zero]
        have := (halv_bounds (g := b / 2) (by omega) (by omega)).1
        omega
      · rw [halv_step (g := a) (by omega) (by omega)]
        have := ih (b / 2).toNat (by omega) (a := a / 2) (b := b / 2) (by omega) (by omega) (by omega) (by omega)
        omega

theorem pa_shift : ∀ (ps : List (Int × Int)) (v : Int), ps.foldl paS v = v + ps.foldl paS 0
  | [], v => by simp
  | p :: ps, v => by
    rw [List.foldl_cons, List.foldl_cons, pa_shift ps (paS v p), pa_shift ps (paS 0 p)]
    unfold paS
    omega

theorem pa_set : ∀ (ps : List (Int × Int)) (k : Nat) (v : Int) (q : Int × Int), k < ps.length → (ps.set k q).foldl paS v = ps.foldl paS v - halvI (gp (at2 ps k)) + halvI (gp q)
  | [], k, v, q, h => by simp at h
  | p :: ps, 0, v, q, h => by
    show (q :: ps).foldl paS v = (p :: ps).foldl paS v - halvI (gp p) + halvI (gp q)
    rw [List.foldl_cons, List.foldl_cons, pa_shift ps (paS v p), pa_shift ps (paS v q)]
    unfold paS
    omega
  | p :: ps, k + 1, v, q, h => by
    have e : at2 (p :: ps) (k + 1) = at2 ps k := by unfold at2; simp
    rw [e]
    show (p :: ps.set k q).foldl paS v = _
    rw [List.foldl_cons, List.foldl_cons]
    exact pa_set ps k _ q (by simpa using h)

theorem paL_set {ps : List (Int × Int)} {k : Nat} (h : k < ps.length) (q : Int × Int) : paL (ps.set k q) = paL ps - halvI (gp (at2 ps k)) + halvI (gp q) := pa_set ps k 1 q h

theorem uf_mono {a b : Int} (h0 : 0 ≤ a) (h : a ≤ b) : ufI a ≤ ufI b := by
  unfold ufI
  split <;> split <;> omega

/-- A box within has no more units, and no longer a path. -/
theorem units_mono : ∀ (ps qs : List (Int × Int)), ps.length = qs.length → (∀ j, j < ps.length → gp (at2 ps j) ≤ gp (at2 qs j)) → prodU ps ≤ prodU qs
  | [], [], _, _ => Int.le_refl _
  | [], q :: qs, h, _ => by simp at h
  | p :: ps, [], h, _ => by simp at h
  | p :: ps, q :: qs, h, hg => by
    have ih := units_mono ps qs (by simpa using h) (fun j hj => by have := hg (j + 1) (by simp; omega); unfold at2 at this ⊢; simpa using this)
    have h0 := hg 0 (by simp)
    have hu := uf_mono (gp_nonneg p) (b := gp q) h0
    have a := (uf_pos (gp_nonneg p)).1
    have b := prod_pos qs
    have c1 : ufI (gp p) * prodU ps ≤ ufI (gp p) * prodU qs := Int.mul_le_mul_of_nonneg_left ih (by omega)
    have c2 : ufI (gp p) * prodU qs ≤ ufI (gp q) * prodU qs := Int.mul_le_mul_of_nonneg_right hu (by omega)
    exact Int.le_trans c1 c2

theorem path_mono : ∀ (ps qs : List (Int × Int)) (v : Int), ps.length = qs.length → (∀ j, j < ps.length → gp (at2 ps j) ≤ gp (at2 qs j) ∧ gp (at2 qs j) ≤ 18446744073709551615) → ps.foldl paS v ≤ qs.foldl paS v
  | [], [], v, _, _ => Int.le_refl _
  | [], q :: qs, v, h, _ => by simp at h
  | p :: ps, [], v, h, _ => by simp at h
  | p :: ps, q :: qs, v, h, hg => by
    have ih := path_mono ps qs 0 (by simpa using h) (fun j hj => by have := hg (j + 1) (by simp; omega); unfold at2 at this ⊢; simpa using this)
    have h0 := hg 0 (by simp)
    have hu := halv_mono (gp_nonneg p) (b := gp q) h0.1 h0.2
    have hu2 : paS v p ≤ paS v q := by
      have hu3 : halvI (gapI p.1 p.2) ≤ halvI (gapI q.1 q.2) := hu
      unfold paS gp
      omega
    rw [List.foldl_cons, List.foldl_cons, pa_shift ps, pa_shift qs]
    omega

end Go.Proofs.Yteohgmmenlinbaa
