/- The contract of the reader's 'few': a box of few steps. -/
import Derived.Test.YteohgmmenlinbacDoorJA
namespace Go.Proofs.YteohgmmenlinbacDoor
open Go.ChangeShapes Go.WideShapes Go.ChangeAt Go.RowKit
set_option linter.unusedVariables false

theorem pokI_of {n lo hi : Int} (hn : n = 32 ∨ n = 64) (h1 : -(topI n) ≤ lo) (h2 : lo < topI n) (h3 : lo ≤ hi) (h4 : hi ≤ topI n) (h5 : -(topI n) < hi) : pokI n lo hi = true := by
  have hw : (n == 32 || n == 64) = true := by rcases hn with rfl | rfl <;> rfl
  have l1 : lo ≤ topI n := by omega
  have l2 : -(topI n) ≤ hi := by omega
  simp [pokI, okI, hw, h1, h2, h3, h4, h5, l1, l2]

/-- The state in 'few': its result's cell at k, its box's at k + 1, the pairs behind. -/
structure FewSt (w : World) (b : Nat) (n : Int) (ps : List (Int × Int)) (v : Value) (lim : Int) (W : World) : Prop where
  rd : Rd W b lim
  keep : Keep b w W
  res : Own W w.heap.size [.slice none 0 0]
  box : Own W (w.heap.size + 1) [v]
  row : W.ownsRow (w.heap.size + 2) 40 2 v ps.length (flat ps)
  good : ∀ p ∈ ps, pokI n p.1 p.2 = true ∧ p.2 - p.1 ≤ 8

theorem FewSt.next {w W W' : World} {b : Nat} {n : Int} {ps : List (Int × Int)} {v : Value} {lim lim' : Int} (hb : b < w.heap.size) (h : FewSt w b n ps v lim W) (hr : Rd W' b lim') (q : Keep b W W') : FewSt w b n ps v lim' W' :=
  ⟨hr, h.keep.trans q, h.res.keep q (by omega), h.box.keep q (by omega), ownsRow_keep h.row q (by omega), h.good⟩

theorem FewSt.mono {w W : World} {b : Nat} {n : Int} {ps : List (Int × Int)} {v : Value} {lim lim' : Int} (h : FewSt w b n ps v lim W) (hl : lim ≤ lim') : FewSt w b n ps v lim' W :=
  ⟨h.rd.mono hl, h.keep, h.res, h.box, h.row, h.good⟩

def FewOut (w : World) (b : Nat) (n lim : Int) (e : Ending) (w' : World) : Prop :=
  ∃ v ps, e = .returned (.agg #[v]) ∧ 1 ≤ ps.length ∧ ps.length ≤ 3 ∧ w'.ownsRow (w.heap.size + 2) 40 2 v ps.length (flat ps) ∧ (∀ p ∈ ps, pokI n p.1 p.2 = true ∧ p.2 - p.1 ≤ 8) ∧ Rd w' b lim ∧ Keep b w w'

/-- Behind the append, and the store of what it gave. -/
theorem FewSt.append {w W W' : World} {b : Nat} {n : Int} {ps : List (Int × Int)} {v v' : Value} {lim x y : Int} (hb : b < w.heap.size) (h : FewSt w b n ps v lim W) (hg : W.grownBy W' v.ownBlock)
    (hr : W'.ownsRow (w.heap.size + 2) 40 2 v' (ps.length + 1) (flat ps ++ [.int .i64 x, .int .i64 y])) (hp : pokI n x y = true ∧ y - x ≤ 8) :
    FewSt w b n (ps ++ [(x, y)]) v' lim (W'.setCell ⟨w.heap.size + 1, 0, none⟩ v') := by
  have hs := h.box.lt
  obtain ⟨c, hc, hk⟩ := Keep.of_grown hg h.row (by omega)
  refine ⟨(h.rd.keep hk (by omega)).own _ (by omega), (h.keep.trans_new hk (by omega)).new (p := ⟨w.heap.size + 1, 0, none⟩) (Nat.le_succ _) _, (h.res.keep hk (by omega)).other _ (by omega), (h.box.keep hk (by omega)).set (i := 0) v' (by simp), ?_, ?_⟩
  · rw [flat_snoc] at hr
    have := ownsRow_setCell_below hr (a := ⟨w.heap.size + 1, 0, none⟩) (by simp) v'
    simpa using this
  · intro p hp'
    rcases List.mem_append.1 hp' with q | q
    · exact h.good p q
    · simp at q; subst q; exact hp

theorem few_end {w W : World} {b : Nat} {n : Int} {ps : List (Int × Int)} {v : Value} {lim l : Int} {T : Array Value} (hb : b < w.heap.size) (h : FewSt w b n ps v l W) (hl : l ≤ lim) (h1 : 1 ≤ ps.length) (h3 : ps.length ≤ 3)
    (ht : T.getD 4 undef = .pointer (some ⟨w.heap.size, 0, none⟩)) :
    bodyPost Tryd.prog Tryd.f35 (FewOut w b n lim) Exit.ret { tmps := T, defers := [] } (W.setCell ⟨w.heap.size, 0, none⟩ v) := by
  have o := h.res.set (i := 0) v (by simp)
  have d0 := o.cell 0 v rfl
  refine bodyPost_ret (v := .agg #[v]) ?_ rfl ⟨v, ps, rfl, h1, h3, ownsRow_setCell_below h.row (a := ⟨w.heap.size, 0, none⟩) (by simp) v, h.good, (h.rd.mono hl).own _ hb, h.keep.new (p := ⟨w.heap.size, 0, none⟩) (Nat.le_refl _) _⟩
  generalize W.setCell ⟨w.heap.size, 0, none⟩ v = V at d0
  rw [run_results_cell rfl, ht]
  simp [go_sem, d0]

set_option maxRecDepth 100000 in
set_option maxHeartbeats 4000000 in
theorem few (w : World) (b : Nat) (lim n : Int) (hn : n = 32 ∨ n = 64) (h : Rd w b lim) (hl : lim ≤ 999000) :
    Calls Tryd.prog 35 #[.pointer (some ⟨b, 0, none⟩), .int .i64 n] w (FewOut w b n (lim + 200)) := by
  have hb := h.1
  have ht := fun W => bitTop W n
  have t0 : 2139095040 ≤ topI n := by rcases hn with rfl | rfl <;> decide
  have t1 := (topI_bounds n).2
  have HN : Hid (n = 32 ∨ n = 64) := hn
  have f0 : FewSt w b n [] (.slice none 0 0) lim ((w.alloc (.cells #[.slice none 0 0] 25)).alloc (.cells #[.slice none 0 0] 25)) := by
    refine ⟨(h.alloc _).alloc _, ((Keep.refl b w).alloc _).alloc _, (Own.new w #[.slice none 0 0] 25).alloc _, ?_, ?_, by simp⟩
    · have := Own.new (w.alloc (.cells #[.slice none 0 0] 25)) #[.slice none 0 0] 25
      simpa using this
    · exact World.ownsRow_nil _ _ _ _
  clear hn h
  obtain ⟨i0, hi, hz0, hz1, hz2⟩ := info_parts infoPair
  go_enter Tryd.func35, Tryd.ntmps35
  go_wp2_with (go_at_call 27; refine (pick _ _ _ _ f0.rd (by omega)).mono ?_; rintro e w1 ⟨r, rfl, r0, r1, -, hr, hk⟩; replace r1 := r1 (by omega); replace f0 := FewSt.next hb f0 hr hk; clear hr hk)
  go_loopg [7] (1 + r).toNat (fun g iv wr => ∃ (i : Nat) (v : Value) (ps : List (Int × Int)), ps.length = i ∧ (i : Int) + g = 1 + r ∧ iv = .int .i64 i ∧ Hid (FewSt w b n ps v (lim + 1 + 60 * i) wr))
  case atStart => exact ⟨0, _, [], rfl, by omega, rfl, f0.mono (by omega)⟩
  case round =>
    clear f0
    obtain ⟨i, v, ps, hlen, hg, rfl, F⟩ := hrel
    by_cases c : (i : Int) < 1 + r
    · have ho := ordSt (n := n) (St.start F.out.rd) (by omega)
      obtain ⟨t, ht0⟩ : ∃ t, topI n = t := ⟨_, rfl⟩
      have HT : Hid (topI n = t) := ht0
      simp only [ht0] at ht t0 t1
      clear ht0
      go_wp2_with first
        | (go_at_call 51; refine ho.mono ?_; clear ho; rintro e w2 ⟨x, rfl, x0, x1, hs⟩; replace F : Hid (FewSt w b n ps v (lim + 1 + 60 * i + 20) w2) := FewSt.next hb F.out hs.1 hs.2; clear hs)
        | (go_at_call 44; go_must (refine (ht _).mono ?_); rintro e w3 ⟨rfl, rfl⟩)
      · have hwL : (Lit.int .i64 (t - 20)).wf = true := Nr.wf ⟨by omega, by omega⟩
        go_wp2_with (go_at_call 27; refine (pick _ _ _ _ F.out.rd (by omega)).mono ?_; rintro e w4 ⟨y, rfl, y0, y1, -, hr, hk⟩; replace y1 := y1 (by omega); replace F : Hid (FewSt w b n ps v (lim + 1 + 60 * i + 21) w4) := (FewSt.next hb F.out hr hk).mono (by omega); clear hr hk)
        have hok := specPairOk (w4.alloc (.cells #[.int .i64 (t - 20), .int .i64 (t - 20 + y)] 40)) n (t - 20) (t - 20 + y) hwL (Nr.wf ⟨by omega, by omega⟩)
        cases hk : pokI n (t - 20) (t - 20 + y)
        ·
          rw [hk] at hok
          go_wp2_with first
            | (go_at_call 19; refine hok.mono ?_; clear hok; rintro e w5 ⟨rfl, q⟩; have o5 := (Own.new w4 #[.int .i64 (t - 20), .int .i64 (t - 20 + y)] 40).below q; have d0 := o5.cell 0 _ rfl; have d1 := o5.cell 1 _ rfl; have z1 := o5.frz 1 _ rfl; have q5 : Below w4.heap.size w4 w5 := ((Below.refl _ _).alloc (Nat.le_refl _) _).trans (q.mono (by simp)); have F6 : FewSt w b n ps v (lim + 1 + 60 * i + 21) (((w5.setCell ⟨w4.heap.size, 1, none⟩ (.int .i64 (t - 20 + 1)))).alloc (.cells #[.int .i64 (t - 20), .int .i64 (t - 20 + 1)] 40)) := FewSt.next hb F.out ((F.out.rd.below (q5.setCell (p := ⟨w4.heap.size, 1, none⟩) (Nat.le_refl _) (.int .i64 (t - 20 + 1)))).alloc _) ((Keep.of_below b (q5.setCell (p := ⟨w4.heap.size, 1, none⟩) (Nat.le_refl _) (.int .i64 (t - 20 + 1)))).alloc _); have F5 : FewSt w b n ps v (lim + 1 + 60 * i + 21) ((w5.setCell ⟨w4.heap.size, 1, none⟩ (.int .i64 (t - 20 + 1)))) := FewSt.next hb F.out (F.out.rd.below (q5.setCell (p := ⟨w4.heap.size, 1, none⟩) (Nat.le_refl _) (.int .i64 (t - 20 + 1)))) (Keep.of_below b (q5.setCell (p := ⟨w4.heap.size, 1, none⟩) (Nat.le_refl _) (.int .i64 (t - 20 + 1)))); have e0 := F5.box.cell 0 v rfl; have F6 : Hid _ := F6; clear F5 q q5 o5)
            | (at_builtin; (refine wpList_append_own _ rfl _ _ 23 rfl (w.heap.size + 2) 40 i0 (.agg #[.int .i64 0, .int .i64 0]) 2 16 Tryd.underlying23 hi hz0 hz1 hz2 rfl (by decide) _ _ _ rfl F6.out.row ⟨_, 0, none⟩ 1 1 [_, _] rfl rfl (cell_two_at (by first | rfl | simp [World.setCell])) (fun u hu => by simp at hu; rcases hu with rfl | rfl <;> rfl) (by unfold maxLen; omega) (by omega) (by have := F6.out.box.lt; omega) ?_); intro v' w7 hown' hgrow hnil; obtain ⟨c7, hc7, hk7⟩ := Keep.of_grown hgrow F6.out.row (by have := F6.out.box.lt; omega); have g0 := (F6.out.box.keep hk7 (by omega)).cell 0 v rfl; have g1 := (F6.out.box.keep hk7 (by omega)).frz 0 v rfl; have FA : Hid _ := FewSt.append hb F6.out hgrow hown' ⟨pokI_of HN.out (by rw [HT.out]; omega) (by rw [HT.out]; omega) (by omega) (by rw [HT.out]; omega) (by rw [HT.out]; omega), by omega⟩; have hex : ∃ g cap, v' = .slice (some ⟨g, 0, none⟩) (ps.length + 1) cap := (by rcases hown'.2 with ⟨_, q⟩ | ⟨g, cap, _, q, _⟩ <;> first | omega | exact ⟨_, _, q⟩); obtain ⟨g7, cap7, hv7⟩ := hex; rw [hv7]; rw [hv7] at FA; clear hown' hgrow hnil hk7 F6)
          go_roundg (1 + r - (i + 1)).toNat
          case measure => omega
          case rel => exact ⟨i + 1, _, ps ++ [(t - 20, t - 20 + 1)], by simp; omega, by omega, by go_num, (by have f := FA.out; rw [hlen] at f; exact f.mono (by omega))⟩
        ·
          rw [hk] at hok
          go_wp2_with first
            | (go_at_call 19; refine hok.mono ?_; clear hok; rintro e w5 ⟨rfl, q⟩; have o5 := (Own.new w4 #[.int .i64 (t - 20), .int .i64 (t - 20 + y)] 40).below q; have d0 := o5.cell 0 _ rfl; have d1 := o5.cell 1 _ rfl; have z1 := o5.frz 1 _ rfl; have q5 : Below w4.heap.size w4 w5 := ((Below.refl _ _).alloc (Nat.le_refl _) _).trans (q.mono (by simp)); have F6 : FewSt w b n ps v (lim + 1 + 60 * i + 21) ((w5).alloc (.cells #[.int .i64 (t - 20), .int .i64 (t - 20 + y)] 40)) := FewSt.next hb F.out ((F.out.rd.below q5).alloc _) ((Keep.of_below b q5).alloc _); have F5 : FewSt w b n ps v (lim + 1 + 60 * i + 21) (w5) := FewSt.next hb F.out (F.out.rd.below q5) (Keep.of_below b q5); have e0 := F5.box.cell 0 v rfl; have F6 : Hid _ := F6; clear F5 q q5 o5)
            | (at_builtin; (refine wpList_append_own _ rfl _ _ 23 rfl (w.heap.size + 2) 40 i0 (.agg #[.int .i64 0, .int .i64 0]) 2 16 Tryd.underlying23 hi hz0 hz1 hz2 rfl (by decide) _ _ _ rfl F6.out.row ⟨_, 0, none⟩ 1 1 [_, _] rfl rfl (cell_two_at (by first | rfl | simp [World.setCell])) (fun u hu => by simp at hu; rcases hu with rfl | rfl <;> rfl) (by unfold maxLen; omega) (by omega) (by have := F6.out.box.lt; omega) ?_); intro v' w7 hown' hgrow hnil; obtain ⟨c7, hc7, hk7⟩ := Keep.of_grown hgrow F6.out.row (by have := F6.out.box.lt; omega); have g0 := (F6.out.box.keep hk7 (by omega)).cell 0 v rfl; have g1 := (F6.out.box.keep hk7 (by omega)).frz 0 v rfl; have FA : Hid _ := FewSt.append hb F6.out hgrow hown' ⟨hk, by omega⟩; have hex : ∃ g cap, v' = .slice (some ⟨g, 0, none⟩) (ps.length + 1) cap := (by rcases hown'.2 with ⟨_, q⟩ | ⟨g, cap, _, q, _⟩ <;> first | omega | exact ⟨_, _, q⟩); obtain ⟨g7, cap7, hv7⟩ := hex; rw [hv7]; rw [hv7] at FA; clear hown' hgrow hnil hk7 F6)
          go_roundg (1 + r - (i + 1)).toNat
          case measure => omega
          case rel => exact ⟨i + 1, _, ps ++ [(t - 20, t - 20 + y)], by simp; omega, by omega, by go_num, (by have f := FA.out; rw [hlen] at f; exact f.mono (by omega))⟩
      · have hwL : (Lit.int .i64 (-t)).wf = true := Nr.wf ⟨by omega, by omega⟩
        go_wp2_with (go_at_call 27; refine (pick _ _ _ _ F.out.rd (by omega)).mono ?_; rintro e w4 ⟨y, rfl, y0, y1, -, hr, hk⟩; replace y1 := y1 (by omega); replace F : Hid (FewSt w b n ps v (lim + 1 + 60 * i + 21) w4) := (FewSt.next hb F.out hr hk).mono (by omega); clear hr hk)
        have hok := specPairOk (w4.alloc (.cells #[.int .i64 (-t), .int .i64 (-t + y)] 40)) n (-t) (-t + y) hwL (Nr.wf ⟨by omega, by omega⟩)
        cases hk : pokI n (-t) (-t + y)
        ·
          rw [hk] at hok
          go_wp2_with first
            | (go_at_call 19; refine hok.mono ?_; clear hok; rintro e w5 ⟨rfl, q⟩; have o5 := (Own.new w4 #[.int .i64 (-t), .int .i64 (-t + y)] 40).below q; have d0 := o5.cell 0 _ rfl; have d1 := o5.cell 1 _ rfl; have z1 := o5.frz 1 _ rfl; have q5 : Below w4.heap.size w4 w5 := ((Below.refl _ _).alloc (Nat.le_refl _) _).trans (q.mono (by simp)); have F6 : FewSt w b n ps v (lim + 1 + 60 * i + 21) (((w5.setCell ⟨w4.heap.size, 1, none⟩ (.int .i64 (-t + 1)))).alloc (.cells #[.int .i64 (-t), .int .i64 (-t + 1)] 40)) := FewSt.next hb F.out ((F.out.rd.below (q5.setCell (p := ⟨w4.heap.size, 1, none⟩) (Nat.le_refl _) (.int .i64 (-t + 1)))).alloc _) ((Keep.of_below b (q5.setCell (p := ⟨w4.heap.size, 1, none⟩) (Nat.le_refl _) (.int .i64 (-t + 1)))).alloc _); have F5 : FewSt w b n ps v (lim + 1 + 60 * i + 21) ((w5.setCell ⟨w4.heap.size, 1, none⟩ (.int .i64 (-t + 1)))) := FewSt.next hb F.out (F.out.rd.below (q5.setCell (p := ⟨w4.heap.size, 1, none⟩) (Nat.le_refl _) (.int .i64 (-t + 1)))) (Keep.of_below b (q5.setCell (p := ⟨w4.heap.size, 1, none⟩) (Nat.le_refl _) (.int .i64 (-t + 1)))); have e0 := F5.box.cell 0 v rfl; have F6 : Hid _ := F6; clear F5 q q5 o5)
            | (at_builtin; (refine wpList_append_own _ rfl _ _ 23 rfl (w.heap.size + 2) 40 i0 (.agg #[.int .i64 0, .int .i64 0]) 2 16 Tryd.underlying23 hi hz0 hz1 hz2 rfl (by decide) _ _ _ rfl F6.out.row ⟨_, 0, none⟩ 1 1 [_, _] rfl rfl (cell_two_at (by first | rfl | simp [World.setCell])) (fun u hu => by simp at hu; rcases hu with rfl | rfl <;> rfl) (by unfold maxLen; omega) (by omega) (by have := F6.out.box.lt; omega) ?_); intro v' w7 hown' hgrow hnil; obtain ⟨c7, hc7, hk7⟩ := Keep.of_grown hgrow F6.out.row (by have := F6.out.box.lt; omega); have g0 := (F6.out.box.keep hk7 (by omega)).cell 0 v rfl; have g1 := (F6.out.box.keep hk7 (by omega)).frz 0 v rfl; have FA : Hid _ := FewSt.append hb F6.out hgrow hown' ⟨pokI_of HN.out (by rw [HT.out]; omega) (by rw [HT.out]; omega) (by omega) (by rw [HT.out]; omega) (by rw [HT.out]; omega), by omega⟩; have hex : ∃ g cap, v' = .slice (some ⟨g, 0, none⟩) (ps.length + 1) cap := (by rcases hown'.2 with ⟨_, q⟩ | ⟨g, cap, _, q, _⟩ <;> first | omega | exact ⟨_, _, q⟩); obtain ⟨g7, cap7, hv7⟩ := hex; rw [hv7]; rw [hv7] at FA; clear hown' hgrow hnil hk7 F6)
          go_roundg (1 + r - (i + 1)).toNat
          case measure => omega
          case rel => exact ⟨i + 1, _, ps ++ [(-t, -t + 1)], by simp; omega, by omega, by go_num, (by have f := FA.out; rw [hlen] at f; exact f.mono (by omega))⟩
        ·
          rw [hk] at hok
          go_wp2_with first
            | (go_at_call 19; refine hok.mono ?_; clear hok; rintro e w5 ⟨rfl, q⟩; have o5 := (Own.new w4 #[.int .i64 (-t), .int .i64 (-t + y)] 40).below q; have d0 := o5.cell 0 _ rfl; have d1 := o5.cell 1 _ rfl; have z1 := o5.frz 1 _ rfl; have q5 : Below w4.heap.size w4 w5 := ((Below.refl _ _).alloc (Nat.le_refl _) _).trans (q.mono (by simp)); have F6 : FewSt w b n ps v (lim + 1 + 60 * i + 21) ((w5).alloc (.cells #[.int .i64 (-t), .int .i64 (-t + y)] 40)) := FewSt.next hb F.out ((F.out.rd.below q5).alloc _) ((Keep.of_below b q5).alloc _); have F5 : FewSt w b n ps v (lim + 1 + 60 * i + 21) (w5) := FewSt.next hb F.out (F.out.rd.below q5) (Keep.of_below b q5); have e0 := F5.box.cell 0 v rfl; have F6 : Hid _ := F6; clear F5 q q5 o5)
            | (at_builtin; (refine wpList_append_own _ rfl _ _ 23 rfl (w.heap.size + 2) 40 i0 (.agg #[.int .i64 0, .int .i64 0]) 2 16 Tryd.underlying23 hi hz0 hz1 hz2 rfl (by decide) _ _ _ rfl F6.out.row ⟨_, 0, none⟩ 1 1 [_, _] rfl rfl (cell_two_at (by first | rfl | simp [World.setCell])) (fun u hu => by simp at hu; rcases hu with rfl | rfl <;> rfl) (by unfold maxLen; omega) (by omega) (by have := F6.out.box.lt; omega) ?_); intro v' w7 hown' hgrow hnil; obtain ⟨c7, hc7, hk7⟩ := Keep.of_grown hgrow F6.out.row (by have := F6.out.box.lt; omega); have g0 := (F6.out.box.keep hk7 (by omega)).cell 0 v rfl; have g1 := (F6.out.box.keep hk7 (by omega)).frz 0 v rfl; have FA : Hid _ := FewSt.append hb F6.out hgrow hown' ⟨hk, by omega⟩; have hex : ∃ g cap, v' = .slice (some ⟨g, 0, none⟩) (ps.length + 1) cap := (by rcases hown'.2 with ⟨_, q⟩ | ⟨g, cap, _, q, _⟩ <;> first | omega | exact ⟨_, _, q⟩); obtain ⟨g7, cap7, hv7⟩ := hex; rw [hv7]; rw [hv7] at FA; clear hown' hgrow hnil hk7 F6)
          go_roundg (1 + r - (i + 1)).toNat
          case measure => omega
          case rel => exact ⟨i + 1, _, ps ++ [(-t, -t + y)], by simp; omega, by omega, by go_num, (by have f := FA.out; rw [hlen] at f; exact f.mono (by omega))⟩
      · have hwL : (Lit.int .i64 (x)).wf = true := Nr.wf ⟨by omega, by omega⟩
        go_wp2_with (go_at_call 27; refine (pick _ _ _ _ F.out.rd (by omega)).mono ?_; rintro e w4 ⟨y, rfl, y0, y1, -, hr, hk⟩; replace y1 := y1 (by omega); replace F : Hid (FewSt w b n ps v (lim + 1 + 60 * i + 21) w4) := (FewSt.next hb F.out hr hk).mono (by omega); clear hr hk)
        have hok := specPairOk (w4.alloc (.cells #[.int .i64 (x), .int .i64 (x + y)] 40)) n (x) (x + y) hwL (Nr.wf ⟨by omega, by omega⟩)
        cases hk : pokI n (x) (x + y)
        ·
          rw [hk] at hok
          go_wp2_with first
            | (go_at_call 19; refine hok.mono ?_; clear hok; rintro e w5 ⟨rfl, q⟩; have o5 := (Own.new w4 #[.int .i64 (x), .int .i64 (x + y)] 40).below q; have d0 := o5.cell 0 _ rfl; have d1 := o5.cell 1 _ rfl; have z1 := o5.frz 1 _ rfl; have q5 : Below w4.heap.size w4 w5 := ((Below.refl _ _).alloc (Nat.le_refl _) _).trans (q.mono (by simp)); have F6 : FewSt w b n ps v (lim + 1 + 60 * i + 21) (((w5.setCell ⟨w4.heap.size, 1, none⟩ (.int .i64 (x + 1)))).alloc (.cells #[.int .i64 (x), .int .i64 (x + 1)] 40)) := FewSt.next hb F.out ((F.out.rd.below (q5.setCell (p := ⟨w4.heap.size, 1, none⟩) (Nat.le_refl _) (.int .i64 (x + 1)))).alloc _) ((Keep.of_below b (q5.setCell (p := ⟨w4.heap.size, 1, none⟩) (Nat.le_refl _) (.int .i64 (x + 1)))).alloc _); have F5 : FewSt w b n ps v (lim + 1 + 60 * i + 21) ((w5.setCell ⟨w4.heap.size, 1, none⟩ (.int .i64 (x + 1)))) := FewSt.next hb F.out (F.out.rd.below (q5.setCell (p := ⟨w4.heap.size, 1, none⟩) (Nat.le_refl _) (.int .i64 (x + 1)))) (Keep.of_below b (q5.setCell (p := ⟨w4.heap.size, 1, none⟩) (Nat.le_refl _) (.int .i64 (x + 1)))); have e0 := F5.box.cell 0 v rfl; have F6 : Hid _ := F6; clear F5 q q5 o5)
            | (at_builtin; (refine wpList_append_own _ rfl _ _ 23 rfl (w.heap.size + 2) 40 i0 (.agg #[.int .i64 0, .int .i64 0]) 2 16 Tryd.underlying23 hi hz0 hz1 hz2 rfl (by decide) _ _ _ rfl F6.out.row ⟨_, 0, none⟩ 1 1 [_, _] rfl rfl (cell_two_at (by first | rfl | simp [World.setCell])) (fun u hu => by simp at hu; rcases hu with rfl | rfl <;> rfl) (by unfold maxLen; omega) (by omega) (by have := F6.out.box.lt; omega) ?_); intro v' w7 hown' hgrow hnil; obtain ⟨c7, hc7, hk7⟩ := Keep.of_grown hgrow F6.out.row (by have := F6.out.box.lt; omega); have g0 := (F6.out.box.keep hk7 (by omega)).cell 0 v rfl; have g1 := (F6.out.box.keep hk7 (by omega)).frz 0 v rfl; have FA : Hid _ := FewSt.append hb F6.out hgrow hown' ⟨pokI_of HN.out (by rw [HT.out]; omega) (by rw [HT.out]; omega) (by omega) (by rw [HT.out]; omega) (by rw [HT.out]; omega), by omega⟩; have hex : ∃ g cap, v' = .slice (some ⟨g, 0, none⟩) (ps.length + 1) cap := (by rcases hown'.2 with ⟨_, q⟩ | ⟨g, cap, _, q, _⟩ <;> first | omega | exact ⟨_, _, q⟩); obtain ⟨g7, cap7, hv7⟩ := hex; rw [hv7]; rw [hv7] at FA; clear hown' hgrow hnil hk7 F6)
          go_roundg (1 + r - (i + 1)).toNat
          case measure => omega
          case rel => exact ⟨i + 1, _, ps ++ [(x, x + 1)], by simp; omega, by omega, by go_num, (by have f := FA.out; rw [hlen] at f; exact f.mono (by omega))⟩
        ·
          rw [hk] at hok
          go_wp2_with first
            | (go_at_call 19; refine hok.mono ?_; clear hok; rintro e w5 ⟨rfl, q⟩; have o5 := (Own.new w4 #[.int .i64 (x), .int .i64 (x + y)] 40).below q; have d0 := o5.cell 0 _ rfl; have d1 := o5.cell 1 _ rfl; have z1 := o5.frz 1 _ rfl; have q5 : Below w4.heap.size w4 w5 := ((Below.refl _ _).alloc (Nat.le_refl _) _).trans (q.mono (by simp)); have F6 : FewSt w b n ps v (lim + 1 + 60 * i + 21) ((w5).alloc (.cells #[.int .i64 (x), .int .i64 (x + y)] 40)) := FewSt.next hb F.out ((F.out.rd.below q5).alloc _) ((Keep.of_below b q5).alloc _); have F5 : FewSt w b n ps v (lim + 1 + 60 * i + 21) (w5) := FewSt.next hb F.out (F.out.rd.below q5) (Keep.of_below b q5); have e0 := F5.box.cell 0 v rfl; have F6 : Hid _ := F6; clear F5 q q5 o5)
            | (at_builtin; (refine wpList_append_own _ rfl _ _ 23 rfl (w.heap.size + 2) 40 i0 (.agg #[.int .i64 0, .int .i64 0]) 2 16 Tryd.underlying23 hi hz0 hz1 hz2 rfl (by decide) _ _ _ rfl F6.out.row ⟨_, 0, none⟩ 1 1 [_, _] rfl rfl (cell_two_at (by first | rfl | simp [World.setCell])) (fun u hu => by simp at hu; rcases hu with rfl | rfl <;> rfl) (by unfold maxLen; omega) (by omega) (by have := F6.out.box.lt; omega) ?_); intro v' w7 hown' hgrow hnil; obtain ⟨c7, hc7, hk7⟩ := Keep.of_grown hgrow F6.out.row (by have := F6.out.box.lt; omega); have g0 := (F6.out.box.keep hk7 (by omega)).cell 0 v rfl; have g1 := (F6.out.box.keep hk7 (by omega)).frz 0 v rfl; have FA : Hid _ := FewSt.append hb F6.out hgrow hown' ⟨hk, by omega⟩; have hex : ∃ g cap, v' = .slice (some ⟨g, 0, none⟩) (ps.length + 1) cap := (by rcases hown'.2 with ⟨_, q⟩ | ⟨g, cap, _, q, _⟩ <;> first | omega | exact ⟨_, _, q⟩); obtain ⟨g7, cap7, hv7⟩ := hex; rw [hv7]; rw [hv7] at FA; clear hown' hgrow hnil hk7 F6)
          go_roundg (1 + r - (i + 1)).toNat
          case measure => omega
          case rel => exact ⟨i + 1, _, ps ++ [(x, x + y)], by simp; omega, by omega, by go_num, (by have f := FA.out; rw [hlen] at f; exact f.mono (by omega))⟩
    · have e0 := F.out.box.cell 0 v rfl
      have e1 := F.out.res.cell 0 _ rfl
      have e2 := F.out.res.frz 0 _ rfl
      rcases F.out.row.2 with ⟨hv, hz⟩ | ⟨g, cap, cur, hv, _⟩
      · exfalso; omega
      · rw [hv] at e0 F
        go_wp2
        exact few_end (ps := ps) (l := lim + 1 + 60 * i) (lim := lim + 200) hb (by have f := F.out; rw [hlen] at f; exact f) (by omega) (by omega) (by omega) rfl

end Go.Proofs.YteohgmmenlinbacDoor
