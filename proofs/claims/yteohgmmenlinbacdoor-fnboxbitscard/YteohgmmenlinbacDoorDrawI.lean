/- The contract of the reader's 'good'. -/
import Derived.Test.YteohgmmenlinbacDoorJA
namespace Go.Proofs.YteohgmmenlinbacDoor
open Go.ChangeShapes Go.WideShapes Go.ChangeAt Go.RowKit
set_option linter.unusedVariables false

/-- The state in 'good': its result's cells at k0, its pair's at k1. -/
structure GoodSt (w : World) (b k1 : Nat) (x y : Int) (lim : Int) (W : World) : Prop where
  rd : Rd W b lim
  keep : Keep b w W
  res : Own W w.heap.size [.int .i64 0, .int .i64 0]
  own : Own W k1 [.int .i64 x, .int .i64 y]
  lt : w.heap.size < k1
  wx : Nr x
  wy : Nr y

theorem GoodSt.below {w W W' : World} {b k1 : Nat} {x y lim : Int} (h : GoodSt w b k1 x y lim W) (q : Below W.heap.size W W') : GoodSt w b k1 x y lim W' :=
  ⟨h.rd.below q, h.keep.trans (Keep.of_below b q), h.res.below q, h.own.below q, h.lt, h.wx, h.wy⟩

theorem GoodSt.next {w W W' : World} {b k1 : Nat} {x y lim lim' x' y' : Int} (hb : b < w.heap.size) (h : GoodSt w b k1 x y lim W) (hr : Rd W' b lim') (q : Keep b W W') (wx : Nr x') (wy : Nr y') :
    GoodSt w b k1 x' y' lim' ((W'.setCell ⟨k1, 0, none⟩ (.int .i64 x')).setCell ⟨k1, 1, none⟩ (.int .i64 y')) := by
  have h1 := h.lt
  have o1 := h.own.keep q (by omega)
  have o2 := h.res.keep q (by omega)
  exact ⟨(hr.own _ (by omega)).own _ (by omega), ((h.keep.trans q).new (p := ⟨k1, 0, none⟩) (Nat.le_of_lt h1) _).new (p := ⟨k1, 1, none⟩) (Nat.le_of_lt h1) _,
    (o2.other _ (by omega)).other _ (by omega), o1.set2 _ _, h1, wx, wy⟩

theorem GoodSt.mono {w W : World} {b k1 : Nat} {x y l l' : Int} (h : GoodSt w b k1 x y l W) (hl : l ≤ l') : GoodSt w b k1 x y l' W := ⟨h.rd.mono hl, h.keep, h.res, h.own, h.lt, h.wx, h.wy⟩

theorem good_end {w W : World} {b k1 : Nat} {lim l x y : Int} {T : Array Value} (hb : b < w.heap.size) (h : GoodSt w b k1 x y l W) (hl : l ≤ lim) (ht : T.getD 4 undef = .pointer (some ⟨w.heap.size, 0, none⟩)) :
    bodyPost Tryd.prog Tryd.f49 (DPairOut w b lim) Exit.ret { tmps := T, defers := [] } ((W.setCell ⟨w.heap.size, 0, none⟩ (.int .i64 x)).setCell ⟨w.heap.size, 1, none⟩ (.int .i64 y)) := by
  have o := h.res.set2 (.int .i64 x) (.int .i64 y)
  have d0 := o.cell 0 _ rfl
  have d1 := o.cell 1 _ rfl
  have rr : Rd ((W.setCell ⟨w.heap.size, 0, none⟩ (.int .i64 x)).setCell ⟨w.heap.size, 1, none⟩ (.int .i64 y)) b lim := ((h.rd.mono hl).own _ hb).own _ hb
  have k2 : Keep b w ((W.setCell ⟨w.heap.size, 0, none⟩ (.int .i64 x)).setCell ⟨w.heap.size, 1, none⟩ (.int .i64 y)) := (h.keep.new (p := ⟨w.heap.size, 0, none⟩) (Nat.le_refl _) _).new (p := ⟨w.heap.size, 1, none⟩) (Nat.le_refl _) _
  refine bodyPost_ret (v := .agg #[.int .i64 x, .int .i64 y]) ?_ rfl ⟨x, y, rfl, h.wx, h.wy, rr, k2⟩
  generalize ((W.setCell ⟨w.heap.size, 0, none⟩ (.int .i64 x)).setCell ⟨w.heap.size, 1, none⟩ (.int .i64 y)) = V at d0 d1
  rw [run_results_cell rfl, ht]
  simp [go_sem, d0, d1]

theorem good (w : World) (b : Nat) (lim n : Int) (h : Rd w b lim) (hl : lim ≤ 999000) :
    Calls Tryd.prog 49 #[.pointer (some ⟨b, 0, none⟩), .int .i64 n] w (DPairOut w b (lim + 300)) := by
  have hb := h.1
  have hp := pair (w.alloc (.cells #[.int .i64 0, .int .i64 0] 40)) b lim n (h.alloc _) (by omega)
  clear h
  go_enter Tryd.func49, Tryd.ntmps49
  go_wp2_with (go_at_call 48; refine hp.mono ?_; clear hp; rintro e w1 ⟨x, y, rfl, wx, wy, hr, hk⟩)
  have hs1 : w.heap.size < w1.heap.size := by have := hk.size; simp at this; omega
  have g0 : GoodSt w b w1.heap.size x y (lim + 50) (w1.alloc (.cells #[.int .i64 x, .int .i64 y] 40)) :=
    ⟨hr.alloc _, (((Keep.refl b w).alloc _).trans hk).alloc _, (((Own.new w #[.int .i64 0, .int .i64 0] 40)).keep hk (by omega)).alloc _, Own.new w1 #[.int .i64 x, .int .i64 y] 40, hs1, wx, wy⟩
  generalize w1.alloc (.cells #[.int .i64 x, .int .i64 y] 40) = W0 at g0 ⊢
  generalize w1.heap.size = k1 at *
  clear hr hk hs1
  go_loopg [6] 5 (fun g iv wr => ∃ (i : Nat) (x y : Int), i + g = 5 ∧ iv = .int .i64 i ∧ Hid (GoodSt w b k1 x y (lim + 50 + 50 * i) wr))
  case atStart => exact ⟨0, x, y, rfl, rfl, g0.mono (by omega)⟩
  case round =>
    clear g0 wx wy
    obtain ⟨i, x, y, hi, rfl, G⟩ := hrel
    have c0 := G.out.own.cell 0 _ rfl
    have c1 := G.out.own.cell 1 _ rfl
    have hok := specPairOk wr n x y G.out.wx.wf G.out.wy.wf
    have KB : Hid (k1 ≠ b) := by have := G.out.lt; show k1 ≠ b; omega
    by_cases c : (i : Int) < 5
    · cases hk : pokI n x y
      · rw [hk] at hok
        go_wp2_with first
          | (go_at_call 19; refine hok.mono ?_; clear hok c0 c1; rintro e w2 ⟨rfl, q⟩; replace G : Hid (GoodSt w b k1 x y (lim + 50 + 50 * i) w2) := GoodSt.below G.out q; clear q; have hp := pair w2 b (lim + 50 + 50 * i) n G.out.rd (by omega))
          | (go_at_call 48; refine hp.mono ?_; clear hp; rintro e w3 ⟨x', y', rfl, wx', wy', hr, hk3⟩; have o := G.out.own.keep hk3 KB.out; have d0 := o.cell 0 _ rfl; have d1 := o.cell 1 _ rfl; have f0 := o.frz 0 _ rfl; have f1 := o.frz 1 _ rfl)
        go_roundg (5 - (i + 1))
        case measure => omega
        case rel =>
          refine ⟨i + 1, x', y', by omega, by go_num, ?_⟩
          have g := GoodSt.next hb G.out hr hk3 wx' wy'
          exact g.mono (by omega)
      · rw [hk] at hok
        go_wp2_with (go_at_call 19; refine hok.mono ?_; clear hok c0 c1; rintro e w2 ⟨rfl, q⟩; replace G : Hid (GoodSt w b k1 x y (lim + 50 + 50 * i) w2) := GoodSt.below G.out q; clear q; have c0 := G.out.own.cell 0 _ rfl; have c1 := G.out.own.cell 1 _ rfl; have e0 := G.out.res.cell 0 _ rfl; have e1 := G.out.res.cell 1 _ rfl; have f0 := G.out.res.frz 0 _ rfl; have f1 := G.out.res.frz 1 _ rfl)
        exact good_end hb G.out (by omega) rfl
    · have e0 := G.out.res.cell 0 _ rfl
      have e1 := G.out.res.cell 1 _ rfl
      have f0 := G.out.res.frz 0 _ rfl
      have f1 := G.out.res.frz 1 _ rfl
      clear hok
      go_wp2
      exact good_end hb G.out (by omega) rfl

end Go.Proofs.YteohgmmenlinbacDoor
