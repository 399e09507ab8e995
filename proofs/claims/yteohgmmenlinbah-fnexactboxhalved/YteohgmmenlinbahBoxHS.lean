/- BoxHalved of the model: its contract. -/
import Derived.Test.YteohgmmenlinbahBoxH
namespace Go.Proofs.Yteohgmmenlinbah
open Go.ChangeShapes Go.WideShapes Go.ChangeAt Go.RowKit
set_option linter.unusedVariables false

set_option maxHeartbeats 1000000 in
theorem specBoxHalved (w : World) (n : Int) (a b : Option Addr) (ps qs : List (Int × Int)) (cap cap' : Nat) (h : PairsAt w a ps) (h' : PairsAt w b qs) (hl : ps.length ≤ cap) (hl' : qs.length ≤ cap') (hm : ps.length ≤ 1048576) (hm' : qs.length ≤ 1048576) :
    Calls Try.prog 10 #[.int .i64 n, .agg #[.slice a ps.length cap], .agg #[.slice b qs.length cap']] w fun e w' => e = .returned (.bool (halvedI n ps qs)) ∧ Below w.heap.size w w' := by
  have q0 : Below w.heap.size w ((w.alloc (.cells #[.slice a ps.length cap] 29)).alloc (.cells #[.slice b qs.length cap'] 29)) := ((Below.refl _ w).alloc (Nat.le_refl _) _).alloc (by simp) _
  have oA := (Own.new w #[.slice a ps.length cap] 29).alloc (.cells #[.slice b qs.length cap'] 29)
  have oB := Own.new (w.alloc (.cells #[.slice a ps.length cap] 29)) #[.slice b qs.length cap'] 29
  simp only [World.size_alloc] at oB
  have k1 := fun W (q : Below w.heap.size w W) => specBoxOk W n a ps cap (h.below q) hl hm
  have k2 := fun W (q : Below w.heap.size w W) => specBoxOk W n b qs cap' (h'.below q) hl' hm'
  have k3 := fun W (q : Below w.heap.size w W) => specBoxIs W b a qs ps cap' cap (h'.below q) (h.below q) hl' hl hm' hm
  unfold halvedI
  cases h1 : bokI n ps
  · rw [h1] at k1
    clear k2 k3
    generalize ps.length = len at *
    generalize qs.length = len' at *
    have q0' : Hid _ := q0
    go_enter Try.func10, Try.ntmps10
    go_wp2_with (go_at_call 28; refine (k1 _ q0).mono ?_; clear k1; rintro e w2 ⟨rfl, q⟩)
    go_ret
    exact ⟨rfl, q0'.out.trans (q.mono q0'.out.size)⟩
  cases h2 : bokI n qs
  · rw [h1] at k1
    rw [h2] at k2
    clear k3
    generalize ps.length = len at *
    generalize qs.length = len' at *
    go_enter Try.func10, Try.ntmps10
    go_wp2_with first
      | (go_at_call 28; refine (k1 _ q0).mono ?_; clear k1; rintro e w2 ⟨rfl, q⟩; replace q0 := q0.trans (q.mono q0.size); replace oB := oB.below q; clear q; have c1 := oB.cell 0 _ rfl)
      | (go_at_call 28; refine (k2 _ q0).mono ?_; clear k2; rintro e w3 ⟨rfl, q⟩; replace q0 := q0.trans (q.mono q0.size); clear q)
    go_ret
    exact ⟨rfl, q0⟩
  cases h3 : isbI qs ps
  · rw [h1] at k1
    rw [h2] at k2
    rw [h3] at k3
    generalize ps.length = len at *
    generalize qs.length = len' at *
    go_enter Try.func10, Try.ntmps10
    go_wp2_with first
      | (go_at_call 28; refine (k1 _ q0).mono ?_; clear k1; rintro e w2 ⟨rfl, q⟩; replace q0 := q0.trans (q.mono q0.size); replace oA := oA.below q; replace oB := oB.below q; clear q; have c1 := oB.cell 0 _ rfl)
      | (go_at_call 28; refine (k2 _ q0).mono ?_; clear k2 c1; rintro e w3 ⟨rfl, q⟩; replace q0 := q0.trans (q.mono q0.size); replace oA := oA.below q; replace oB := oB.below q; clear q; have c0 := oA.cell 0 _ rfl; have c1 := oB.cell 0 _ rfl)
      | (go_at_call 29; refine (k3 _ q0).mono ?_; clear k3; rintro e w4 ⟨rfl, q⟩; replace q0 := q0.trans (q.mono q0.size); clear q)
    go_ret
    exact ⟨rfl, q0⟩
  have hlen := (isb_iff.1 h3).1.symm
  rw [h1] at k1
  rw [h2] at k2
  rw [h3] at k3
  simp only [Bool.true_and]
  obtain ⟨len, hlen1⟩ : ∃ len, ps.length = len := ⟨_, rfl⟩
  have hlen2 : qs.length = len := by omega
  have hT : ∀ i, i < len → halfP (at2 ps i) (at2 qs i) = true → ((List.range ps.length).any fun j => halfP (at2 ps j) (at2 qs j)) = true := fun i hi => half_any (by omega)
  have hN : (∀ j, j < len → halfP (at2 ps j) (at2 qs j) = false) → ((List.range ps.length).any fun j => halfP (at2 ps j) (at2 qs j)) = false := fun hh => half_none (by rw [hlen1]; exact hh)
  generalize ((List.range ps.length).any fun j => halfP (at2 ps j) (at2 qs j)) = B at *
  rw [hlen1] at hl hm k1 k3 q0 oA oB ⊢
  rw [hlen2] at hl' k2 k3 q0 oA oB ⊢
  have S0 : RowSt2 w a b len cap cap' ps qs _ := RowSt2.new h h'
  clear h1 h2 h3 q0 oA oB
  have c0 := S0.1.1.cell 0 _ rfl
  go_enter Try.func10, Try.ntmps10
  go_wp2_with first
    | (go_at_call 28; refine (k1 _ S0.2.2).mono ?_; clear k1 c0; rintro e w2 ⟨rfl, q⟩; replace S0 := S0.below q; clear q; have c1 := S0.1.2.cell 0 _ rfl)
    | (go_at_call 28; refine (k2 _ S0.2.2).mono ?_; clear k2 c1; rintro e w3 ⟨rfl, q⟩; replace S0 := S0.below q; clear q; have c0 := S0.1.1.cell 0 _ rfl; have c1 := S0.1.2.cell 0 _ rfl)
    | (go_at_call 29; refine (k3 _ S0.2.2).mono ?_; clear k3 c0 c1; rintro e w4 ⟨rfl, q⟩; replace S0 := S0.below q; clear q)
  have S0' : Hid (RowSt2 w a b len cap cap' ps qs w4) := S0
  clear S0 h h'
  go_loopg [7] len (fun gk iv wr => ∃ i : Nat, i + gk = len ∧ iv = .int .i64 i ∧ Hid (∀ j, j < i → halfP (at2 ps j) (at2 qs j) = false) ∧ Hid (RowSt2 w a b len cap cap' ps qs wr))
  case atStart => exact ⟨0, by omega, rfl, fun j hj => absurd hj (by omega), S0'⟩
  case round =>
    clear S0'
    obtain ⟨i, hi, rfl, A, S⟩ := hrel
    have b0 := S.out.1.1.cell 0 _ rfl
    have b1 := S.out.1.2.cell 0 _ rfl
    by_cases hlast : i < len
    · obtain ⟨rb, ro, ea, hlta, c0, c1⟩ := S.out.2.1.1.atD (i := i) (by omega)
      obtain ⟨sb, so, eb, hltb, d0, d1⟩ := S.out.2.1.2.atD (i := i) (by omega)
      have wa := S.out.2.1.1.wfD (i := i) (by omega)
      have wb := S.out.2.1.2.wfD (i := i) (by omega)
      subst ea eb
      have hTi := hT i hlast
      have hstep : halfP (at2 ps i) (at2 qs i) = false → ∀ j, j < i + 1 → halfP (at2 ps j) (at2 qs j) = false := fun hh j hj => by
        by_cases e : j = i
        · subst e; exact hh
        · exact A.out j (by omega)
      unfold halfP at hstep hTi
      have hg := gap_bounds wa.1 wa.2
      have k4 := fun W => l3gap W _ _ wa.1 wa.2
      have k5 := fun W => l3gap W _ _ wb.1 wb.2
      clear hT hN
      generalize (at2 ps i).1 = lo at *
      generalize (at2 ps i).2 = hi' at *
      generalize (at2 qs i).1 = blo at *
      generalize (at2 qs i).2 = bhi at *
      generalize gapI lo hi' = g at *
      generalize gapI blo bhi = k at *
      have hil : (i : Int) < len := by omega
      have hx : Hid (w.heap.size < wr.heap.size ∧ w.heap.size + 1 < wr.heap.size) := ⟨S.out.1.1.lt, S.out.1.2.lt⟩
      by_cases hg0 : 0 < g
      · have hgd : decide (0 < g) = true := decide_eq_true hg0
        have e2 : IntKind.u64.wrap (g.tdiv 2) = g / 2 := by
          rw [IntKind.wrap_u64, Int.tdiv_eq_ediv_of_nonneg hg.1]
          omega
        by_cases hk : k ≤ g / 2
        · have e := hTi (by unfold halfB; rw [hgd, decide_eq_true hk]; rfl)
          subst e
          clear hTi hstep A
          go_wp2_with first
            | (go_at_call 30; refine (k4 _).mono ?_; clear k4; rintro e w5 ⟨rfl, q⟩; replace S : Hid (RowSt2 w (some ⟨rb, ro, none⟩) (some ⟨sb, so, none⟩) len cap cap' ps qs _) := RowSt2.below S.out q; have c2 := S.out.1.2.cell 0 _ rfl; have d2 := (q.cell (p := ⟨sb, so + i * 2, none⟩) hltb).trans d0; have d3 := (q.cell (p := ⟨sb, so + i * 2 + 1, none⟩) hltb).trans d1; clear q)
            | (go_at_call 30; refine (k5 _).mono ?_; clear k5; rintro e w6 ⟨rfl, q⟩; replace S : Hid (RowSt2 w (some ⟨rb, ro, none⟩) (some ⟨sb, so, none⟩) len cap cap' ps qs _) := RowSt2.below S.out q; clear q)
          go_ret
          exact ⟨rfl, S.out.2.2⟩
        · have A5 : Hid (∀ j, j < i + 1 → halfP (at2 ps j) (at2 qs j) = false) := hstep (by unfold halfB; rw [hgd, decide_eq_false hk]; rfl)
          clear hTi hstep A
          go_wp2_with first
            | (go_at_call 30; refine (k4 _).mono ?_; clear k4; rintro e w5 ⟨rfl, q⟩; replace S : Hid (RowSt2 w (some ⟨rb, ro, none⟩) (some ⟨sb, so, none⟩) len cap cap' ps qs _) := RowSt2.below S.out q; have c2 := S.out.1.2.cell 0 _ rfl; have d2 := (q.cell (p := ⟨sb, so + i * 2, none⟩) hltb).trans d0; have d3 := (q.cell (p := ⟨sb, so + i * 2 + 1, none⟩) hltb).trans d1; clear q)
            | (go_at_call 30; refine (k5 _).mono ?_; clear k5; rintro e w6 ⟨rfl, q⟩; replace S : Hid (RowSt2 w (some ⟨rb, ro, none⟩) (some ⟨sb, so, none⟩) len cap cap' ps qs _) := RowSt2.below S.out q; clear q)
          go_roundg (len - (i + 1))
          case measure => omega
          case rel => exact ⟨i + 1, by omega, by go_num, A5, S⟩
      · have A5 : Hid (∀ j, j < i + 1 → halfP (at2 ps j) (at2 qs j) = false) := hstep (by unfold halfB; rw [decide_eq_false hg0]; rfl)
        clear hTi hstep A k5
        go_wp2_with (go_at_call 30; refine (k4 _).mono ?_; clear k4; rintro e w5 ⟨rfl, q⟩; replace S : Hid (RowSt2 w (some ⟨rb, ro, none⟩) (some ⟨sb, so, none⟩) len cap cap' ps qs _) := RowSt2.below S.out q; clear q)
        go_roundg (len - (i + 1))
        case measure => omega
        case rel => exact ⟨i + 1, by omega, by go_num, A5, S⟩
    · have hil : ¬ (i : Int) < len := by omega
      have e := hN fun j hj => A.out j (by omega)
      subst e
      clear hT hN A
      go_wp2
      go_ret
      exact ⟨rfl, S.out.2.2⟩

end Go.Proofs.Yteohgmmenlinbah
