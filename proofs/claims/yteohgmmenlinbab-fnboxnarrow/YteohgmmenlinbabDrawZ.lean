/- The contracts of the reader's 'wide' (with the reader behind it) and 'widePair', and of the model's 'DrawBoxMore'. -/
import Derived.Test.YteohgmmenlinbabDrawW
import Derived.Test.YteohgmmenlinbabDrawX
import Derived.Test.YteohgmmenlinbabApp
namespace Go.Proofs.Yteohgmmenlinbab
open Go.ChangeShapes Go.WideShapes Go.ChangeAt Go.RowKit
set_option linter.unusedVariables false

def WideR (w : World) (b : Nat) (lim : Int) (e : Ending) (w' : World) : Prop := ∃ y, e = .returned (.int .i64 y) ∧ Nr y ∧ Rd w' b lim ∧ Keep b w w'

theorem wideR (w : World) (b : Nat) (lim : Int) (h : Rd w b lim) (hl : lim ≤ 900000) :
    Calls Try.prog 94 #[.pointer (some ⟨b, 0, none⟩)] w (WideR w b (lim + 50)) := by
  have hs := St.start h
  go_enter Try.func94, Try.ntmps94
  go_wp2_with first
    | (go_at_call 42; refine (pickSt hs (by omega)).mono ?_; clear hs h; rintro e w1 ⟨r, rfl, r0, r1, h⟩; replace r1 := r1 (by omega))
    | (go_at_call 98; refine (ordSt h (by omega)).mono ?_; clear h; rintro e w2 ⟨y, rfl, y0, y1, h2⟩)
    | (go_at_call 102; refine (widenB _ y (wf64 (by omega) (by omega))).mono ?_; rintro e w3 ⟨v, k, rfl, v0, v1, q⟩; have h3 : St w b (lim + 1 + 20) w3 := ⟨h2.1.below q, h2.2.trans (Keep.of_below b q)⟩; clear q h2)
    | (go_at_call 42; refine (pickSt h3 (by omega)).mono ?_; clear h3; rintro e w4 ⟨z, rfl, z0, z1, h4⟩; replace z1 := z1 (by omega))
  · go_ret
    exact ⟨_, rfl, ⟨by omega, by omega⟩, h4.1.mono (by omega), h4.2⟩
  · go_ret
    exact ⟨_, rfl, ⟨by omega, by omega⟩, h2.1.mono (by omega), h2.2⟩

theorem goodEndR {fn : Func} {p : Tmp} (hres : fn.results = #[.cell p 24]) {w W : World} {b k1 : Nat} {lim l x y : Int} {T : Array Value} (hb : b < w.heap.size) (h : GoodSt w b k1 x y l W) (hl : l ≤ lim) (ht : T.getD p undef = .pointer (some ⟨w.heap.size, 0, none⟩)) :
    bodyPost Try.prog fn (DPairOut w b lim) Exit.ret { tmps := T, defers := [] } ((W.setCell ⟨w.heap.size, 0, none⟩ (.int .i64 x)).setCell ⟨w.heap.size, 1, none⟩ (.int .i64 y)) := by
  have o := h.res.set2 (.int .i64 x) (.int .i64 y)
  have d0 := o.cell 0 _ rfl
  have d1 := o.cell 1 _ rfl
  have rr : Rd ((W.setCell ⟨w.heap.size, 0, none⟩ (.int .i64 x)).setCell ⟨w.heap.size, 1, none⟩ (.int .i64 y)) b lim := ((h.rd.mono hl).own _ hb).own _ hb
  have k2 : Keep b w ((W.setCell ⟨w.heap.size, 0, none⟩ (.int .i64 x)).setCell ⟨w.heap.size, 1, none⟩ (.int .i64 y)) := (h.keep.new (p := ⟨w.heap.size, 0, none⟩) (Nat.le_refl _) _).new (p := ⟨w.heap.size, 1, none⟩) (Nat.le_refl _) _
  refine bodyPost_ret (v := .agg #[.int .i64 x, .int .i64 y]) ?_ rfl ⟨x, y, rfl, h.wx, h.wy, rr, k2⟩
  generalize ((W.setCell ⟨w.heap.size, 0, none⟩ (.int .i64 x)).setCell ⟨w.heap.size, 1, none⟩ (.int .i64 y)) = V at d0 d1
  rw [run_results_cell hres, ht]
  simp [go_sem, d0, d1]

theorem widePair (w : World) (b : Nat) (lim : Int) (h : Rd w b lim) (hl : lim ≤ 890000) :
    Calls Try.prog 73 #[.pointer (some ⟨b, 0, none⟩)] w (DPairOut w b (lim + 200)) := by
  have hb := h.1
  have h0 := h.alloc (.cells #[.int .i64 0, .int .i64 0] 24)
  have k0 : Keep b w (w.alloc (.cells #[.int .i64 0, .int .i64 0] 24)) := (Keep.refl b w).alloc _
  have o0 := Own.new w #[.int .i64 0, .int .i64 0] 24
  clear h
  have p1 := fun W (h : Rd W b lim) => wideR W b lim h (by omega)
  have p2 := fun W (h : Rd W b (lim + 50)) => wideR W b (lim + 50) h (by omega)
  have p3 := fun W (h : Rd W b (lim + 100)) => pick W b (lim + 100) 12 h (by omega)
  go_enter Try.func73, Try.ntmps73
  go_wp2_with first
    | (go_at_call 94; refine (p1 _ h0).mono ?_; clear p1; rintro e w1 ⟨x, rfl, nx, hr, hk⟩; replace h0 := hr; replace k0 := k0.trans hk; replace o0 := o0.keep hk (by omega); clear hr hk)
    | (go_at_call 94; refine (p2 _ h0).mono ?_; clear p2; rintro e w2 ⟨y, rfl, ny, hr, hk⟩; have hr : Rd w2 b (lim + 100) := hr.mono (by omega); replace k0 := k0.trans hk; replace o0 := o0.keep hk (by omega); clear hk h0; have G : Hid (GoodSt w b w2.heap.size x y (lim + 100) (w2.alloc (.cells #[.int .i64 x, .int .i64 y] 24))) := ⟨hr.alloc _, k0.alloc _, o0.alloc _, Own.new w2 #[.int .i64 x, .int .i64 y] 24, o0.lt, nx, ny⟩; have a0 := G.out.res.cell 0 _ rfl; have a1 := G.out.res.cell 1 _ rfl; have z0 := G.out.res.frz 0 _ rfl; have z1 := G.out.res.frz 1 _ rfl; have q0 := G.out.own.cell 0 _ rfl; have q1 := G.out.own.cell 1 _ rfl; clear hr k0 o0)
    | (go_at_call 42; refine (p3 _ G.out.rd).mono ?_; clear p3; rintro e w3 ⟨r, rfl, r0, r1, -, hr, hk⟩; have l0 := G.out.lt; replace G : Hid (GoodSt w b w2.heap.size x y (lim + 101) w3) := ⟨hr.mono (by omega), G.out.keep.trans hk, G.out.res.keep hk (by omega), G.out.own.keep hk (by omega), l0, G.out.wx, G.out.wy⟩; clear hr hk; have a0 := G.out.res.cell 0 _ rfl; have a1 := G.out.res.cell 1 _ rfl; have z0 := G.out.res.frz 0 _ rfl; have z1 := G.out.res.frz 1 _ rfl; have q0 := G.out.own.cell 0 _ rfl; have q1 := G.out.own.cell 1 _ rfl; have q2 := G.out.own.frz 0 _ rfl; have q3 := G.out.own.frz 1 _ rfl)
  all_goals first
    | exact goodEndR rfl hb G.out (by omega) rfl
    | exact goodEndR rfl hb (GoodSt.next hb G.out G.out.rd (Keep.refl _ _) G.out.wy G.out.wx) (by omega) rfl

end Go.Proofs.Yteohgmmenlinbab
