/- BoxUnits and BoxPath of the model: contracts. -/
import Derived.Test.YteohgmmenlinbaaHalvS
import Derived.Test.YteohgmmenlinbaaSpanS
import Derived.Test.YteohgmmenlinbaaBoxU
import Derived.Test.YteohgmmenlinbaaBoxR
namespace Go.Proofs.Yteohgmmenlinbaa
open Go.ChangeShapes Go.WideShapes Go.ChangeAt Go.RowKit
set_option linter.unusedVariables false

theorem un_end {ps : List (Int × Int)} {i : Nat} (h : (ps.take (i + 1)).foldl unS 1 = 1000000000) : unL ps = 1000000000 := by
  unfold unL
  conv => lhs; rw [← List.take_append_drop (i + 1) ps]
  rw [List.foldl_append, h, un_full]

set_option maxHeartbeats 1000000 in
theorem specBoxUnits (w : World) (n : Int) (a : Option Addr) (ps : List (Int × Int)) (cap : Nat) (h : PairsAt w a ps) (hl : ps.length ≤ cap) (hm : ps.length ≤ 1048576) :
    Calls Try.prog 11 #[.int .i64 n, .agg #[.slice a ps.length cap]] w fun e w' => e = .returned (.int .i64 (unitsI n ps)) ∧ Below w.heap.size w w' := by
  have q0 : Below w.heap.size w (w.alloc (.cells #[.slice a ps.length cap] 25)) := (Below.refl _ w).alloc (Nat.le_refl _) _
  have o0 := Own.new w #[.slice a ps.length cap] 25
  have hk := specBoxOk (w.alloc (.cells #[.slice a ps.length cap] 25)) n a ps cap (h.below q0) hl hm
  unfold unitsI
  cases hbk : bokI n ps
  · rw [hbk] at hk
    rw [if_neg (by decide)]
    generalize ps.length = len at *
    go_enter Try.func11, Try.ntmps11
    go_wp2_with (go_at_call 44; refine hk.mono ?_; clear hk; rintro e w2 ⟨rfl, q⟩)
    go_ret
    exact ⟨rfl, q0.trans (q.mono q0.size)⟩
  · rw [hbk] at hk
    rw [if_pos rfl]
    have hlen' := bok_len hbk
    obtain ⟨rb, ro, ha, hlt, hc⟩ := h.2.resolve_left (by intro e; rw [e] at hlen'; simp at hlen')
    subst ha
    obtain ⟨len, hlen⟩ : ∃ len, ps.length = len := ⟨_, rfl⟩
    rw [hlen] at hk hlen' hl hm o0 q0 ⊢
    have hcell : Hid (PairsAt w (some ⟨rb, ro, none⟩) ps) := h
    clear hc h
    go_enter Try.func11, Try.ntmps11
    go_wp2_with (go_at_call 44; refine hk.mono ?_; clear hk; rintro e w2 ⟨rfl, q⟩; replace q0 := q0.trans (q.mono q0.size); replace o0 := o0.below q; clear q)
    have S0 : Hid (RowSt w rb ro len cap ps w2) := ⟨o0, hcell.out.below q0, q0⟩
    clear o0 q0 hcell
    go_loopg [5, 6] len (fun gq nv iv wr => ∃ i : Nat, i + gq = len ∧ iv = .int .i64 i ∧ nv = .int .i64 ((ps.take i).foldl unS 1) ∧ ((ps.take i).foldl unS 1 < 1000000000) ∧ Hid (RowSt w rb ro len cap ps wr))
    case atStart => exact ⟨0, by omega, rfl, rfl, by simp, S0⟩
    case round =>
      clear S0
      obtain ⟨i, hi, rfl, rfl, hF, S⟩ := hrel
      have b0 := S.out.1.cell 0 _ rfl
      have hF1 := (un_fold (v := 1) (ps.take i) (by omega) (by omega)).1
      by_cases hlast : i < len
      · have hp : ∃ p, ps[i]? = some p := ⟨ps[i]'(by omega), List.getElem?_eq_getElem (by omega)⟩
        obtain ⟨⟨lo, hi'⟩, hp⟩ := hp
        have wf := S.out.2.1.1 (lo, hi') (List.mem_of_getElem? hp)
        have cc := S.out.2.1.at (by intro e; rw [e] at hp; simp at hp) i (lo, hi') hp
        have c0 := cc.1
        have c1 := cc.2
        have hg := fun W => l3gap W lo hi' wf.1 wf.2
        have hgb := gap_bounds wf.1 wf.2
        have hil : (i : Int) < len := by omega
        have hst := take_succ_fold unS hp 1
        have hend := @un_end ps i
        have hun : unS ((ps.take i).foldl unS 1) (lo, hi') = min ((ps.take i).foldl unS 1 * ufI (gapI lo hi')) 1000000000 := rfl
        rw [hun] at hst
        clear hun
        rw [hst] at hend
        generalize (ps.take i).foldl unS 1 = v at *
        generalize gapI lo hi' = g at *
        clear cc hp wf
        by_cases g0 : g = 0
        · subst g0
          have hu : ufI 0 = 1 := by decide
          rw [hu, Int.mul_one] at hst
          go_wp2_with (go_at_call 45; refine (hg _).mono ?_; clear hg; rintro e w2 ⟨rfl, q⟩)
          go_roundg (len - (i + 1))
          case measure => omega
          case rel => exact ⟨i + 1, by omega, by go_num, by rw [hst]; congr 1; omega, by rw [hst]; omega, S.out.below q⟩
        · by_cases g1 : 1000000000 < g
          · have hu : ufI g = 3999999999 := by unfold ufI; rw [if_neg g0]; omega
            rw [hu] at hend
            have he := hend (by omega)
            go_wp2_with (go_at_call 45; refine (hg _).mono ?_; clear hg; rintro e w2 ⟨rfl, q⟩)
            go_ret
            exact ⟨by rw [he]; rfl, (S.out.below q).2.2⟩
          · have hu : ufI g = 4 * g - 1 := by unfold ufI; rw [if_neg g0]; omega
            rw [hu] at hend hst
            have hmt := mul_top (v := v) (u := 4 * g - 1) (by omega) (by omega) (by omega) (by omega)
            by_cases g2 : 1000000000 ≤ v * (4 * g - 1)
            · have he := hend (by omega)
              go_wp2_with (go_at_call 45; refine (hg _).mono ?_; clear hg; rintro e w2 ⟨rfl, q⟩)
              go_ret
              exact ⟨by rw [he]; rfl, (S.out.below q).2.2⟩
            · go_wp2_with (go_at_call 45; refine (hg _).mono ?_; clear hg; rintro e w2 ⟨rfl, q⟩)
              go_roundg (len - (i + 1))
              case measure => omega
              case rel => exact ⟨i + 1, by omega, by go_num, by rw [hst]; congr 1; omega, by rw [hst]; omega, S.out.below q⟩
      · have hil : ¬ (i : Int) < len := by omega
        have hE : (ps.take i).foldl unS 1 = unL ps := by rw [List.take_of_length_le (by omega)]; rfl
        generalize (ps.take i).foldl unS 1 = v at *
        go_wp2
        go_ret
        exact ⟨by rw [← hE]; rfl, S.out.2.2⟩

theorem specBoxPath (w : World) (n : Int) (a : Option Addr) (ps : List (Int × Int)) (cap : Nat) (h : PairsAt w a ps) (hl : ps.length ≤ cap) (hm : ps.length ≤ 1048576) :
    Calls Try.prog 12 #[.int .i64 n, .agg #[.slice a ps.length cap]] w fun e w' => e = .returned (.int .i64 (pathI n ps)) ∧ Below w.heap.size w w' := by
  have q0 : Below w.heap.size w (w.alloc (.cells #[.slice a ps.length cap] 25)) := (Below.refl _ w).alloc (Nat.le_refl _) _
  have o0 := Own.new w #[.slice a ps.length cap] 25
  have hk := specBoxOk (w.alloc (.cells #[.slice a ps.length cap] 25)) n a ps cap (h.below q0) hl hm
  unfold pathI
  cases hbk : bokI n ps
  · rw [hbk] at hk
    rw [if_neg (by decide)]
    generalize ps.length = len at *
    go_enter Try.func12, Try.ntmps12
    go_wp2_with (go_at_call 44; refine hk.mono ?_; clear hk; rintro e w2 ⟨rfl, q⟩)
    go_ret
    exact ⟨rfl, q0.trans (q.mono q0.size)⟩
  · rw [hbk] at hk
    rw [if_pos rfl]
    have hlen' := bok_len hbk
    obtain ⟨rb, ro, ha, hlt, hc⟩ := h.2.resolve_left (by intro e; rw [e] at hlen'; simp at hlen')
    subst ha
    obtain ⟨len, hlen⟩ : ∃ len, ps.length = len := ⟨_, rfl⟩
    rw [hlen] at hk hlen' hl hm o0 q0 ⊢
    have hcell : Hid (PairsAt w (some ⟨rb, ro, none⟩) ps) := h
    clear hc h
    go_enter Try.func12, Try.ntmps12
    go_wp2_with (go_at_call 44; refine hk.mono ?_; clear hk; rintro e w2 ⟨rfl, q⟩; replace q0 := q0.trans (q.mono q0.size); replace o0 := o0.below q; clear q)
    have S0 : Hid (RowSt w rb ro len cap ps w2) := ⟨o0, hcell.out.below q0, q0⟩
    clear o0 q0 hcell
    go_loopg [5, 6] len (fun gq nv iv wr => ∃ i : Nat, i + gq = len ∧ iv = .int .i64 i ∧ nv = .int .i64 ((ps.take i).foldl paS 1) ∧ Hid (RowSt w rb ro len cap ps wr))
    case atStart => exact ⟨0, by omega, rfl, rfl, S0⟩
    case round =>
      clear S0
      obtain ⟨i, hi, rfl, rfl, S⟩ := hrel
      have b0 := S.out.1.cell 0 _ rfl
      have hF1 := pa_fold (ps := ps.take i) (fun p hp => S.out.2.1.1 p (List.mem_of_mem_take hp)) 1
      have hF2 : (ps.take i).length ≤ 6 := by rw [List.length_take]; omega
      by_cases hlast : i < len
      · have hp : ∃ p, ps[i]? = some p := ⟨ps[i]'(by omega), List.getElem?_eq_getElem (by omega)⟩
        obtain ⟨⟨lo, hi'⟩, hp⟩ := hp
        have wf := S.out.2.1.1 (lo, hi') (List.mem_of_getElem? hp)
        have cc := S.out.2.1.at (by intro e; rw [e] at hp; simp at hp) i (lo, hi') hp
        have c0 := cc.1
        have c1 := cc.2
        have hg := fun W => l3gap W lo hi' wf.1 wf.2
        have hgb := gap_bounds wf.1 wf.2
        have hh := fun W => l4halv W (gapI lo hi') hgb.1 hgb.2
        have hhb := halv_bounds hgb.1 hgb.2
        have hil : (i : Int) < len := by omega
        have hst := take_succ_fold paS hp 1
        have hun : paS ((ps.take i).foldl paS 1) (lo, hi') = (ps.take i).foldl paS 1 + halvI (gapI lo hi') := rfl
        rw [hun] at hst
        clear hun
        generalize (ps.take i).foldl paS 1 = v at *
        generalize gapI lo hi' = g at *
        generalize halvI g = u at *
        clear cc hp wf
        have hv : 1 ≤ v ∧ v ≤ 1000 := by omega
        go_wp2_with first
          | (go_at_call 45; refine (hg _).mono ?_; clear hg; rintro e w2 ⟨rfl, q⟩)
          | (go_at_call 46; refine (hh _).mono ?_; clear hh; rintro e w3 ⟨rfl, rfl⟩)
        go_roundg (len - (i + 1))
        case measure => omega
        case rel => exact ⟨i + 1, by omega, by go_num, by rw [hst], S.out.below q⟩
      · have hil : ¬ (i : Int) < len := by omega
        have hE : (ps.take i).foldl paS 1 = paL ps := by rw [List.take_of_length_le (by omega)]; rfl
        generalize (ps.take i).foldl paS 1 = v at *
        go_wp2
        go_ret
        exact ⟨by rw [← hE]; rfl, S.out.2.2⟩

end Go.Proofs.Yteohgmmenlinbaa
