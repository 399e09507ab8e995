/- The contract of the model's 'GoodPair': a pair that is ok, of a width. -/
import Derived.Test.YteohgmmenlinbabDrawI
import Derived.Test.YteohgmmenlinbabDrawF
import Derived.RegionTactic
namespace Go.Proofs.Yteohgmmenlinbab
open Go.ChangeShapes Go.WideShapes Go.ChangeAt Go.RowKit
set_option linter.unusedVariables false

def GoodOut (w : World) (e : Ending) (w' : World) : Prop :=
  ∃ n lo hi, e = .returned (.tuple #[.int .i64 n, .agg #[.int .i64 lo, .int .i64 hi]]) ∧ (n = 32 ∨ n = 64) ∧ pokI n lo hi = true ∧ Nr lo ∧ Nr hi ∧ Below w.heap.size w w'

theorem width_at {w w2 : World} {b : Nat} {l r : Int} (hb : b < w.heap.size) (h : St (w.alloc (.cells #[.int .i64 32, .int .i64 64] 3)) b l w2) (h0 : 0 ≤ r) (h1 : r < 2) :
    ∃ v : Int, w2.cell? ⟨w.heap.size, r.toNat, none⟩ = some (.int .i64 v) ∧ (v = 32 ∨ v = 64) := by
  have e : r = 0 ∨ r = 1 := by omega
  rcases e with rfl | rfl
  · exact ⟨32, (h.laid hb 0 _ rfl).1, .inl rfl⟩
  · exact ⟨64, (h.laid hb 1 _ rfl).1, .inr rfl⟩

theorem goodPair_end {w W : World} {b : Nat} {n x y : Int} {T : Array Value} (h : Own W w.heap.size [.int .i64 0, .int .i64 0]) (hk : Keep b w W) (hb : w.heap.size ≤ b) (hn : n = 32 ∨ n = 64) (hp : pokI n x y = true) (wx : Nr x) (wy : Nr y)
    (h2 : T.getD 2 undef = .int .i64 n) (h3 : T.getD 3 undef = .pointer (some ⟨w.heap.size, 0, none⟩)) :
    bodyPost Try.prog Try.f9 (GoodOut w) Exit.ret { tmps := T, defers := [] } ((W.setCell ⟨w.heap.size, 0, none⟩ (.int .i64 x)).setCell ⟨w.heap.size, 1, none⟩ (.int .i64 y)).drew := by
  have o := (h.set2 (.int .i64 x) (.int .i64 y)).drew
  have d0 := o.cell 0 _ rfl
  have d1 := o.cell 1 _ rfl
  have bel : Below w.heap.size w ((W.setCell ⟨w.heap.size, 0, none⟩ (.int .i64 x)).setCell ⟨w.heap.size, 1, none⟩ (.int .i64 y)).drew :=
    (((hk.below hb (Nat.le_refl _)).setCell (p := ⟨w.heap.size, 0, none⟩) (Nat.le_refl _) _).setCell (p := ⟨w.heap.size, 1, none⟩) (Nat.le_refl _) _).drew
  refine bodyPost_ret (v := .tuple #[.int .i64 n, .agg #[.int .i64 x, .int .i64 y]]) ?_ rfl ⟨n, x, y, rfl, hn, hp, wx, wy, bel⟩
  generalize ((W.setCell ⟨w.heap.size, 0, none⟩ (.int .i64 x)).setCell ⟨w.heap.size, 1, none⟩ (.int .i64 y)).drew = V at d0 d1
  have h2' : T[2]?.getD undef = .int .i64 n := by simpa using h2
  have h3' : T[3]?.getD undef = .pointer (some ⟨w.heap.size, 0, none⟩) := by simpa using h3
  simp [results, Try.f9, go_sem, h2', h3', d0, d1]

theorem goodPair (w : World) (a : Option Addr) (len cap : Nat) (hc : Code8 w a len) (hl : len ≤ cap) (hm : len ≤ 1048576) :
    Calls Try.prog 9 #[.slice a len cap] w (GoodOut w) := by
  have hc1 : Code8 (w.alloc (.cells #[.int .i64 0, .int .i64 0] 24)) a len := by
    rcases hc with hc | ⟨rb, ro, ha, hlt, hcell⟩
    · exact .inl hc
    · refine .inr ⟨rb, ro, ha, by simp; omega, fun j hj => ?_⟩
      obtain ⟨z, z0, z1, hz⟩ := hcell j hj
      exact ⟨z, z0, z1, (World.cell?_alloc_lt _ _ _ hlt).trans hz⟩
  have ho := opened (w.alloc (.cells #[.int .i64 0, .int .i64 0] 24)) a len cap hc1 hl hm
  have own0 := Own.new w #[.int .i64 0, .int .i64 0] 24
  clear hc hc1
  go_enter Try.func9, Try.ntmps9
  go_wp2_with (go_at_call 41; go_must (refine ho.mono ?_); clear ho; rintro e w1 ⟨rfl, hr, hk⟩)
  have hsz : (w.alloc (.cells #[.int .i64 0, .int .i64 0] 24)).heap.size = w.heap.size + 1 := by simp
  rw [hsz] at hr hk
  have hb1 := hr.1
  have hr0 := hr.alloc (.cells #[.int .i64 32, .int .i64 64] 3)
  replace own0 := own0.keep hk (by omega)
  have hkw : Keep (w.heap.size + 1) w w1 := ((Keep.refl _ w).alloc _).trans hk
  go_wp2_with first
    | (go_at_call 42; refine (pickSt (St.start hr0) (by omega)).mono ?_; clear hr0 hr; rintro e w2 ⟨r, rfl, r0, r1, h⟩; replace r1 := r1 (by omega); obtain ⟨n, hv, hn⟩ := width_at hb1 h r0 r1; have HN : Hid (n = 32 ∨ n = 64) := hn; clear hn; replace own0 := (own0.alloc _).keep h.2 (by omega); replace hkw := (hkw.alloc _).trans h.2; have hr2 := h.1; clear h)
    | (go_at_call 43; refine (good _ _ _ _ hr2 (by omega)).mono ?_; rintro e w3 ⟨x, y, rfl, wx, wy, hr3, hk3⟩; replace own0 := own0.keep hk3 (by omega); replace hkw := hkw.trans hk3; clear hk3 hr2; have hok := specPairOk (w3.alloc (.cells #[.int .i64 x, .int .i64 y] 24)) n x y wx.wf wy.wf)
  have ks3 : w.heap.size + 1 < w3.heap.size := hr3.1
  have hlt3 : w.heap.size < w3.heap.size := by omega
  have own1 := own0.alloc (.cells #[.int .i64 x, .int .i64 y] 24)
  have ownp := Own.new w3 #[.int .i64 x, .int .i64 y] 24
  have hkw4 := hkw.alloc (.cells #[.int .i64 x, .int .i64 y] 24)
  clear hkw own0 hr3 hk
  cases hk : pokI n x y
  · rw [hk] at hok
    go_wp2_with (go_at_call 21; refine hok.mono ?_; clear hok; rintro e w4 ⟨rfl, q⟩; replace own1 := own1.below q; replace ownp := ownp.below q; replace hkw4 := hkw4.trans (Keep.of_below _ q); have p0 := ownp.cell 0 _ rfl; have p1 := ownp.cell 1 _ rfl; have z0 := ownp.frz 0 _ rfl; have z1 := ownp.frz 1 _ rfl; have e0 := own1.cell 0 _ rfl; have e1 := own1.cell 1 _ rfl; have f0 := own1.frz 0 _ rfl; have f1 := own1.frz 1 _ rfl)
    have ownp2 := ownp.set2 (.int .i64 (-5)) (.int .i64 9)
    have own2 := (own1.other (j := w3.heap.size) (i := 0) (.int .i64 (-5)) (by omega)).other (j := w3.heap.size) (i := 1) (.int .i64 9) (by omega)
    have hk5 := (hkw4.new (p := ⟨w3.heap.size, 0, none⟩) (Nat.le_of_lt hlt3) (.int .i64 (-5))).new (p := ⟨w3.heap.size, 1, none⟩) (Nat.le_of_lt hlt3) (.int .i64 9)
    clear p0 p1 z0 z1 e0 e1 f0 f1 ownp own1 hkw4 q
    generalize ((w4.setCell ⟨w3.heap.size, 0, none⟩ (.int .i64 (-5))).setCell ⟨w3.heap.size, 1, none⟩ (.int .i64 9)) = W at *
    have p0 := ownp2.cell 0 _ rfl
    have p1 := ownp2.cell 1 _ rfl
    have e0 := own2.cell 0 _ rfl
    have e1 := own2.cell 1 _ rfl
    have f0 := own2.frz 0 _ rfl
    have f1 := own2.frz 1 _ rfl
    go_region
    go_wp2
    refine goodPair_end own2 hk5 (by omega) HN.out ?_ ⟨by omega, by omega⟩ ⟨by omega, by omega⟩ rfl rfl
    rcases HN.out with rfl | rfl <;> decide
  · rw [hk] at hok
    go_wp2_with (go_at_call 21; refine hok.mono ?_; clear hok; rintro e w4 ⟨rfl, q⟩; replace own1 := own1.below q; replace ownp := ownp.below q; replace hkw4 := hkw4.trans (Keep.of_below _ q); have p0 := ownp.cell 0 _ rfl; have p1 := ownp.cell 1 _ rfl; have e0 := own1.cell 0 _ rfl; have e1 := own1.cell 1 _ rfl; have f0 := own1.frz 0 _ rfl; have f1 := own1.frz 1 _ rfl)
    go_region
    go_wp2
    exact goodPair_end own1 hkw4 (by omega) HN.out hk wx wy rfl rfl

end Go.Proofs.Yteohgmmenlinbab
