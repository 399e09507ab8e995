/- The program's BoxBits: its contract. -/
import Derived.Test.YteohgmmenlinbacDoorFoldU
import Derived.Test.YteohgmmenlinbacDoorJB
namespace Go.Proofs.YteohgmmenlinbacDoor
open Go.ChangeShapes Go.WideShapes Go.ChangeAt Go.RowKit
set_option linter.unusedVariables false

theorem zsOf_fin (n : Int) (ps : List (Int × Int)) : zsOf n (fun j => (ps[j]?.getD (0, 0)).1) (fun j => (ps[j]?.getD (0, 0)).2) (List.finRange ps.length) = bitsL n ps := by
  have e : (List.finRange ps.length).map (fun x => ps[x.1]?.getD (0, 0)) = ps := by
    apply List.ext_getElem?
    intro i
    by_cases hi : i < ps.length
    · rw [List.getElem?_map, List.getElem?_eq_getElem (by simpa using hi)]
      simp [hi]
    · rw [List.getElem?_eq_none (by simp; omega), List.getElem?_eq_none (by omega)]
  unfold bitsL zsOf
  conv => rhs; rw [← e, List.flatMap_map]

set_option maxHeartbeats 2000000 in
theorem implBoxBits (w : World) (n : Int) (a : Option Addr) (ps : List (Int × Int)) (cap : Nat) (h : PairsAt w a ps) (hl : ps.length ≤ cap) (hm : ps.length ≤ 1048576) :
    Calls Tryd.prog 5 #[.int .i64 n, .agg #[.slice a ps.length cap]] w (UOut w (bboxL n ps)) := by
  have q0 : Below w.heap.size w ((w.alloc (.cells #[.int .i64 n] 3)).alloc (.cells #[.slice a ps.length cap] 25)) := ((Below.refl _ w).alloc (Nat.le_refl _) _).alloc (by simp) _
  have oC := (Own.new w #[.int .i64 n] 3).alloc (.cells #[.slice a ps.length cap] 25)
  have oA := Own.new (w.alloc (.cells #[.int .i64 n] 3)) #[.slice a ps.length cap] 25
  rw [World.size_alloc] at oA
  have hk := implBoxOk ((w.alloc (.cells #[.int .i64 n] 3)).alloc (.cells #[.slice a ps.length cap] 25)) n a ps cap (h.below q0) hl hm
  cases hbk : bokI n ps
  · have e : bboxL n ps = [] := by unfold bboxL; rw [hbk]; rfl
    rw [e]
    rw [hbk] at hk
    clear e hbk
    generalize ps.length = len at *
    go_enter Tryd.func5, Tryd.ntmps5
    have c0 := oC.cell 0 _ rfl
    have c1 := oA.cell 0 _ rfl
    go_wp2_with (go_at_call 13; refine hk.mono ?_; clear hk; rintro e w2 ⟨rfl, q⟩)
    go_ret
    exact ⟨none, 0, none, rfl, Nat.le_refl _, .inl ⟨rfl, rfl⟩, (fun G hG => by cases hG), q0.trans (q.mono q0.size)⟩
  · have e : bboxL n ps = bitsL n ps := by unfold bboxL; rw [hbk]; rfl
    rw [e]
    rw [hbk] at hk
    have hl6 : 1 ≤ ps.length ∧ ps.length ≤ 6 := by unfold bokI at hbk; simp only [Bool.and_eq_true, decide_eq_true_eq] at hbk; exact ⟨hbk.1, hbk.2.1⟩
    have hF := fun W (k0 : Nat) (q : Below w.heap.size w W) (oW : Own W w.heap.size [.int .i64 n]) => foldU W n w.heap.size k0 a ps.length cap _ _ hl hm ((h.below q).lies (by omega) (Nat.le_refl _)) hl6.2 oW (fun j hj => by
          have hp : ps[j]? = some ps[j] := List.getElem?_eq_getElem hj
          have wf := h.1 _ (List.mem_of_getElem? hp)
          rw [← getD_of hp] at wf
          exact wf)
    rw [zsOf_fin] at hF
    have hne : Hid (bitsL n ps ≠ []) := by
      show bitsL n ps ≠ []
      intro e
      have := bitsL_length n ps
      rw [e] at this
      simp at this
      omega
    clear e hbk h
    generalize bitsL n ps = zs at *
    generalize ps.length = len at *
    have c0 := oC.cell 0 _ rfl
    have c1 := oA.cell 0 _ rfl
    go_enter Tryd.func5, Tryd.ntmps5
    go_wp2_with first
      | (go_at_call 13; refine hk.mono ?_; clear hk; rintro e w2 ⟨rfl, q⟩; replace q0 := q0.trans (q.mono q0.size); replace oC := oC.below q; replace oA := oA.below q; clear q c0 c1; have c1 := oA.cell 0 _ rfl; have q1 := q0.alloc q0.size (.cells #[] 38); have oC1 := oC.alloc (.cells #[] 38))
      | (go_at_call 14; refine (hF _ _ q1 oC1).mono ?_; clear hF; rintro e w3 ⟨v, rfl, hv, q⟩)
    rcases hv with ⟨h1, _⟩ | ⟨_, h2⟩
    · exact absurd h1 hne.out
    · obtain ⟨a3, cap3, o3, hv3, hc3, hh, ho3⟩ := ownsRow_hasU h2
      subst hv3
      go_ret
      exact ⟨a3, cap3, o3, rfl, hc3, hh, (fun G hG => by have := ho3 G hG; have := q1.size; omega), q1.trans (q.mono q1.size)⟩

end Go.Proofs.YteohgmmenlinbacDoor
