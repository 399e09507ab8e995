/- The program's BoxOk: its contract. -/
import Derived.Test.YteohgmmenlinbagDoorBoxF
namespace Go.Proofs.YteohgmmenlinbagDoor
open Go.ChangeShapes Go.WideShapes Go.ChangeAt Go.RowKit
set_option linter.unusedVariables false

theorem notOk (w : World) (n i lo hi g : Int) (C : Nat) (h1 : (Lit.int .i64 lo).wf = true) (h2 : (Lit.int .i64 hi).wf = true) (hc : w.cell? ⟨C, 0, none⟩ = some (.int .i64 n)) (hC : C < w.heap.size) :
    Calls Tryd.prog 33 #[.int .i64 i, .agg #[.int .i64 lo, .int .i64 hi, .int .u64 g], .pointer (some ⟨C, 0, none⟩)] w fun e w' => e = .returned (.bool (!pokI n lo hi)) ∧ Below w.heap.size w w' := by
  have hk := fun W => implPairOk W n lo hi h1 h2
  have hc' : (w.alloc (.cells #[.int .i64 lo, .int .i64 hi, .int .u64 g] 73)).cell? ⟨C, 0, none⟩ = some (.int .i64 n) := (World.cell?_alloc_lt _ _ _ hC).trans hc
  clear hc
  go_enter Tryd.func33, Tryd.ntmps33
  go_wp2_with (go_at_call 34; refine (hk _).mono ?_; clear hk; rintro e w2 ⟨rfl, q⟩)
  go_ret
  exact ⟨rfl, ((Below.refl _ w).alloc (Nat.le_refl _) _).trans (q.mono (by simp))⟩

theorem getD_of {ps : List (Int × Int)} {i : Nat} {p : Int × Int} (h : ps[i]? = some p) : ps[i]?.getD (0, 0) = p := by rw [h]; rfl

theorem bok_first {n : Int} {ps : List (Int × Int)} {r : Int} (h1 : 1 ≤ ps.length) (h6 : ps.length ≤ 6)
    (hr : (r = -1 ∧ ∀ x : Fin ps.length, (!pokI n (ps[x.1]?.getD (0, 0)).1 (ps[x.1]?.getD (0, 0)).2) = false) ∨ (∃ x : Fin ps.length, r = (x.1 : Int) ∧ (!pokI n (ps[x.1]?.getD (0, 0)).1 (ps[x.1]?.getD (0, 0)).2) = true ∧ ∀ y : Fin ps.length, y.1 < x.1 → (!pokI n (ps[y.1]?.getD (0, 0)).1 (ps[y.1]?.getD (0, 0)).2) = false)) :
    decide (r = -1) = bokI n ps := by
  rcases hr with ⟨rfl, hall⟩ | ⟨x, rfl, hx, _⟩
  · rw [bok_true h1 h6 (fun j p hj => ?_)]
    · rfl
    · have := hall ⟨j, (List.getElem?_eq_some_iff.1 hj).1⟩
      simp only [getD_of hj] at this
      simpa using this
  · have hp : ps[x.1]? = some ps[x.1] := List.getElem?_eq_getElem x.2
    rw [getD_of hp] at hx
    rw [bok_false (lo := ps[x.1].1) (hi := ps[x.1].2) hp (by simpa using hx)]
    simp only [decide_eq_false_iff_not]
    omega

theorem implBoxOk (w : World) (n : Int) (a : Option Addr) (ps : List (Int × Int)) (cap : Nat) (h : PairsAt w a ps) (hl : ps.length ≤ cap) (hm : ps.length ≤ 1048576) :
    Calls Tryd.prog 26 #[.int .i64 n, .agg #[.slice a ps.length cap]] w fun e w' => e = .returned (.bool (bokI n ps)) ∧ Below w.heap.size w w' := by
  by_cases h1 : 1 ≤ ps.length
  · by_cases h6 : ps.length ≤ 6
    · have k1 : ¬ (ps.length : Int) < 1 := by omega
      have k6 : ¬ (6 : Int) < ps.length := by omega
      have q0 : Below w.heap.size w ((w.alloc (.cells #[.int .i64 n] 3)).alloc (.cells #[.slice a ps.length cap] 25)) := ((Below.refl _ w).alloc (Nat.le_refl _) _).alloc (by simp) _
      have hF := firstThat ((w.alloc (.cells #[.int .i64 n] 3)).alloc (.cells #[.slice a ps.length cap] 25)) a ps.length cap _ _ hl hm ((h.below q0).lies (by omega) (Nat.le_refl _)) 33 w.heap.size (enters_of Tryd.func33 (by kernel_rfl) rfl)
        (fun x => !pokI n (ps[x.1]?.getD (0, 0)).1 (ps[x.1]?.getD (0, 0)).2) (fun x W hW => by
          have hp : ps[x.1]? = some ps[x.1] := List.getElem?_eq_getElem x.2
          have wf := h.1 _ (List.mem_of_getElem? hp)
          rw [← getD_of hp] at wf
          refine notOk W n _ _ _ _ w.heap.size wf.1 wf.2 ?_ (by have := hW.size; simp at this; omega)
          refine (hW.cell (p := ⟨w.heap.size, 0, none⟩) (by simp; omega)).trans ?_
          rw [World.cell?_alloc_lt _ _ _ (by simp), World.cell?_alloc_new]; rfl)
      have hfin := fun r => bok_first (n := n) (r := r) h1 h6
      obtain ⟨len, hlen⟩ : ∃ len, ps.length = len := ⟨_, rfl⟩
      simp only [hlen] at k1 k6 hF hfin ⊢
      generalize bokI n ps = B at *
      have q0' : Hid _ := q0
      clear h q0 h1 h6 hl hm
      go_enter Tryd.func26, Tryd.ntmps26
      go_wp2_with (go_at_call 35; refine hF.mono ?_; clear hF; rintro e w2 ⟨r, rfl, hr, q⟩)
      go_ret
      exact ⟨by rw [← hfin r hr]; rfl, q0'.out.trans (by rw [hlen]; exact q.mono (by simp; omega))⟩
    · have k1 : ¬ (ps.length : Int) < 1 := by omega
      have k6 : (6 : Int) < ps.length := by omega
      have e : bokI n ps = false := by unfold bokI; rw [decide_eq_false h6]; simp
      rw [e]
      generalize ps.length = len at *
      go_enter Tryd.func26, Tryd.ntmps26
      go_wp2
      go_ret
      exact ⟨rfl, by repeat (first | exact Below.refl _ _ | refine Below.drew ?_ | refine Below.alloc ?_ (by simp; try omega) _)⟩
  · have k1 : (ps.length : Int) < 1 := by omega
    have e : bokI n ps = false := by unfold bokI; rw [decide_eq_false h1]; simp
    rw [e]
    generalize ps.length = len at *
    go_enter Tryd.func26, Tryd.ntmps26
    go_wp2
    go_ret
    exact ⟨rfl, by repeat (first | exact Below.refl _ _ | refine Below.drew ?_ | refine Below.alloc ?_ (by simp; try omega) _)⟩

end Go.Proofs.YteohgmmenlinbagDoor
