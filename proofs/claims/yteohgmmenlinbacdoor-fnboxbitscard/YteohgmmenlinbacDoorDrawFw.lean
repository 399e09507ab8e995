/- The contract of the reader's 'few' at a width that is none; at any width. -/
import Derived.Test.YteohgmmenlinbacDoorDrawL
import Derived.Test.YteohgmmenlinbacDoorDrawV
namespace Go.Proofs.YteohgmmenlinbacDoor
open Go.ChangeShapes Go.WideShapes Go.ChangeAt Go.RowKit
set_option linter.unusedVariables false

theorem fewNoEnd {w W : World} {b : Nat} {ps : List (Int × Int)} {v : Value} {lim l : Int} {T : Array Value} (hb : b < w.heap.size) (h : BxSt w b ps v l W) (hl : l ≤ lim) (h3 : ps.length ≤ 8)
    (ht : T.getD 4 undef = .pointer (some ⟨w.heap.size, 0, none⟩)) :
    bodyPost Tryd.prog Tryd.f35 (BxOut w b lim) Exit.ret { tmps := T, defers := [] } (W.setCell ⟨w.heap.size, 0, none⟩ v) :=
  boxAlone rfl h.res ht ⟨v, ps, rfl, h3, ownsRow_setCell_below h.row (a := ⟨w.heap.size, 0, none⟩) (by simp) v, h.good, (h.rd.mono hl).own _ hb, h.keep.new (p := ⟨w.heap.size, 0, none⟩) (Nat.le_refl _) _⟩

set_option maxRecDepth 100000 in
set_option maxHeartbeats 4000000 in
theorem fewNo (w : World) (b : Nat) (lim n : Int) (h0 : topI n = 0) (hno : ∀ x y, pokI n x y = false) (h : Rd w b lim) (hl : lim ≤ 999000) :
    Calls Tryd.prog 35 #[.pointer (some ⟨b, 0, none⟩), .int .i64 n] w (BxOut w b (lim + 200)) := by
  have hb := h.1
  have ht := fun W => bitTop W n
  simp only [h0] at ht
  have f0 : BxSt w b [] (.slice none 0 0) lim ((w.alloc (.cells #[.slice none 0 0] 25)).alloc (.cells #[.slice none 0 0] 25)) := by
    refine ⟨(h.alloc _).alloc _, ((Keep.refl b w).alloc _).alloc _, (Own.new w #[.slice none 0 0] 25).alloc _, ?_, ?_, by simp⟩
    · have := Own.new (w.alloc (.cells #[.slice none 0 0] 25)) #[.slice none 0 0] 25
      simpa using this
    · exact World.ownsRow_nil _ _ _ _
  clear h
  obtain ⟨i0, hi, hz0, hz1, hz2⟩ := info_parts infoPair
  go_enter Tryd.func35, Tryd.ntmps35
  go_wp2_with (go_at_call 27; refine (pick _ _ _ _ f0.rd (by omega)).mono ?_; rintro e w1 ⟨r, rfl, r0, r1, -, hr, hk⟩; replace r1 := r1 (by omega); replace f0 := BxSt.next hb f0 hr hk; clear hr hk)
  go_loopg [7] (1 + r).toNat (fun g iv wr => ∃ (i : Nat) (v : Value) (ps : List (Int × Int)), ps.length = i ∧ (i : Int) + g = 1 + r ∧ iv = .int .i64 i ∧ Hid (BxSt w b ps v (lim + 1 + 60 * i) wr))
  case atStart => exact ⟨0, _, [], rfl, by omega, rfl, f0.mono (by omega)⟩
  case round =>
    clear f0
    obtain ⟨i, v, ps, hlen, hg, rfl, F⟩ := hrel
    by_cases c : (i : Int) < 1 + r
    · have ho := ordSt (n := n) (St.start F.out.rd) (by omega)
      have hok := fun W y (h1 : 0 ≤ y) (h2 : y < 9) => specPairOk W n 0 y rfl (Nr.wf ⟨by omega, by omega⟩)
      simp only [hno] at hok
      go_wp2_with first
        | (go_at_call 51; refine ho.mono ?_; clear ho; rintro e w2 ⟨x, rfl, x0, x1, hs⟩; replace F : Hid (BxSt w b ps v (lim + 1 + 60 * i + 20) w2) := BxSt.next hb F.out hs.1 hs.2; clear hs)
        | (go_at_call 44; go_must (refine (ht _).mono ?_); rintro e w3 ⟨rfl, rfl⟩)
        | (go_at_call 27; refine (pick _ _ _ _ F.out.rd (by omega)).mono ?_; rintro e w4 ⟨y, rfl, y0, y1, -, hr, hk⟩; replace y1 := y1 (by omega); replace F : Hid (BxSt w b ps v (lim + 1 + 60 * i + 21) w4) := (BxSt.next hb F.out hr hk).mono (by omega); clear hr hk)
        | (go_at_call 19; refine (hok _ y y0 y1).mono ?_; clear hok; rintro e w5 ⟨rfl, q⟩; have o5 := (Own.new w4 #[.int .i64 0, .int .i64 y] 40).below q; have d0 := o5.cell 0 _ rfl; have d1 := o5.cell 1 _ rfl; have z1 := o5.frz 1 _ rfl; have q5 : Below w4.heap.size w4 w5 := ((Below.refl _ _).alloc (Nat.le_refl _) _).trans (q.mono (by simp)); have F6 : BxSt w b ps v (lim + 1 + 60 * i + 21) ((w5.setCell ⟨w4.heap.size, 1, none⟩ (.int .i64 1)).alloc (.cells #[.int .i64 0, .int .i64 1] 40)) := BxSt.next hb F.out ((F.out.rd.below (q5.setCell (p := ⟨w4.heap.size, 1, none⟩) (Nat.le_refl _) (.int .i64 1))).alloc _) ((Keep.of_below b (q5.setCell (p := ⟨w4.heap.size, 1, none⟩) (Nat.le_refl _) (.int .i64 1))).alloc _); have F5 : BxSt w b ps v (lim + 1 + 60 * i + 21) (w5.setCell ⟨w4.heap.size, 1, none⟩ (.int .i64 1)) := BxSt.next hb F.out (F.out.rd.below (q5.setCell (p := ⟨w4.heap.size, 1, none⟩) (Nat.le_refl _) (.int .i64 1))) (Keep.of_below b (q5.setCell (p := ⟨w4.heap.size, 1, none⟩) (Nat.le_refl _) (.int .i64 1))); have e0 := F5.box.cell 0 v rfl; have F6 : Hid _ := F6; clear F5 q q5 o5)
        | (at_builtin; (refine wpList_append_own _ rfl _ _ 23 rfl (w.heap.size + 2) 40 i0 (.agg #[.int .i64 0, .int .i64 0]) 2 16 Tryd.underlying23 hi hz0 hz1 hz2 rfl (by decide) _ _ _ rfl F6.out.row ⟨_, 0, none⟩ 1 1 [_, _] rfl rfl (cell_two_at (by first | rfl | simp [World.setCell])) (fun u hu => by simp at hu; rcases hu with rfl | rfl <;> rfl) (by unfold maxLen; omega) (by omega) (by have := F6.out.box.lt; omega) ?_); intro v' w7 hown' hgrow hnil; obtain ⟨c7, hc7, hk7⟩ := Keep.of_grown hgrow F6.out.row (by have := F6.out.box.lt; omega); have g0 := (F6.out.box.keep hk7 (by omega)).cell 0 v rfl; have g1 := (F6.out.box.keep hk7 (by omega)).frz 0 v rfl; have FA : Hid _ := BxSt.append (x := 0) (y := 1) hb F6.out hgrow hown' ⟨⟨by omega, by omega⟩, ⟨by omega, by omega⟩⟩; have hex : ∃ g cap, v' = .slice (some ⟨g, 0, none⟩) (ps.length + 1) cap := (by rcases hown'.2 with ⟨_, q⟩ | ⟨g, cap, _, q, _⟩ <;> first | omega | exact ⟨_, _, q⟩); obtain ⟨g7, cap7, hv7⟩ := hex; rw [hv7]; rw [hv7] at FA; clear hown' hgrow hnil hk7 F6)
      all_goals (go_roundg (1 + r - (i + 1)).toNat)
      case measure => omega
      case rel => exact ⟨i + 1, _, ps ++ [(0, 1)], by simp; omega, by omega, by go_num, (by have f := FA.out; rw [hlen] at f; exact f.mono (by omega))⟩
      case measure => omega
      case rel => exact ⟨i + 1, _, ps ++ [(0, 1)], by simp; omega, by omega, by go_num, (by have f := FA.out; rw [hlen] at f; exact f.mono (by omega))⟩
    · have e0 := F.out.box.cell 0 v rfl
      have e1 := F.out.res.cell 0 _ rfl
      have e2 := F.out.res.frz 0 _ rfl
      rcases F.out.row.2 with ⟨hv, hz⟩ | ⟨g, cap, cur, hv, _⟩
      · exfalso; omega
      · rw [hv] at e0 F
        go_wp2
        exact fewNoEnd (ps := ps) (l := lim + 1 + 60 * i) (lim := lim + 200) hb (by have f := F.out; rw [hlen] at f; exact f) (by omega) (by omega) rfl

theorem pokI_none {n : Int} (h : ¬ (n = 32 ∨ n = 64)) (x y : Int) : pokI n x y = false := by
  have hw : (n == 32 || n == 64) = false := by simpa using h
  simp [pokI, okI, hw]

theorem topI_none {n : Int} (h : ¬ (n = 32 ∨ n = 64)) : topI n = 0 := by
  unfold topI
  simp only [not_or] at h
  simp [h.1, h.2]

/-- 'few' at any width. -/
theorem fewR (w : World) (b : Nat) (lim n : Int) (h : Rd w b lim) (hl : lim ≤ 990000) :
    Calls Tryd.prog 35 #[.pointer (some ⟨b, 0, none⟩), .int .i64 n] w (DBoxR w b 8 (lim + 4000)) := by
  have key : Calls Tryd.prog 35 #[.pointer (some ⟨b, 0, none⟩), .int .i64 n] w (BxOut w b (lim + 200)) := by
    by_cases hn : n = 32 ∨ n = 64
    · refine (few w b lim n hn h (by omega)).mono ?_
      rintro e w' ⟨v, ps, rfl, l1, l3, hrow, hg, hr, hk⟩
      refine ⟨v, ps, rfl, by omega, hrow, fun p hp => ?_, hr, hk⟩
      obtain ⟨hpk, -⟩ := hg p hp
      have ht := topI_bounds n
      unfold pokI okI at hpk
      simp only [Bool.and_eq_true, decide_eq_true_eq] at hpk
      exact ⟨⟨by omega, by omega⟩, ⟨by omega, by omega⟩⟩
    · exact fewNo w b lim n (topI_none hn) (pokI_none hn) h (by omega)
  refine key.mono ?_
  rintro e w' ⟨v, ps, rfl, h8, hrow, hg, hr, hk⟩
  obtain ⟨a, cap, o, rfl, hc, hh, ho⟩ := ownsRow_has hrow (fun p hp => ⟨(hg p hp).1.wf, (hg p hp).2.wf⟩)
  exact ⟨a, cap, ps, o, rfl, h8, hc, hh, fun G hG => by have := ho G hG; omega, hg, hr.mono (by omega), hk⟩

end Go.Proofs.YteohgmmenlinbacDoor
