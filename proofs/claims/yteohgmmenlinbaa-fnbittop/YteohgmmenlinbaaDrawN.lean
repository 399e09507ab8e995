/- The contract of the model's 'FewBox': a box of few steps, of a width. -/
import Derived.Test.YteohgmmenlinbaaDrawL
import Derived.Test.YteohgmmenlinbaaDrawM
namespace Go.Proofs.Yteohgmmenlinbaa
open Go.ChangeShapes Go.WideShapes Go.ChangeAt Go.RowKit
set_option linter.unusedVariables false

def FewBoxOut (w : World) (e : Ending) (w' : World) : Prop :=
  ∃ n v ps, e = .returned (.tuple #[.int .i64 n, .agg #[v]]) ∧ (n = 32 ∨ n = 64) ∧ 1 ≤ ps.length ∧ ps.length ≤ 3 ∧ w'.ownsRow (w.heap.size + 1) 33 2 v ps.length (flat ps) ∧
    (∀ p ∈ ps, pokI n p.1 p.2 = true ∧ p.2 - p.1 ≤ 8) ∧ Below w.heap.size w w'

theorem ownsRow_low {w : World} {base base' : Nat} {e : TypeId} {size : Nat} {v : Value} {n : Nat} {xs : List Value} (h : w.ownsRow base e size v n xs) (hb : base' ≤ base) : w.ownsRow base' e size v n xs := by
  obtain ⟨h1, h2⟩ := h
  refine ⟨h1, ?_⟩
  rcases h2 with h2 | ⟨g, cap, cur, a1, a2, a3⟩
  · exact .inl h2
  · exact .inr ⟨g, cap, cur, a1, Nat.le_trans hb a2, a3⟩

theorem fewBox_end {w W : World} {b base : Nat} {n : Int} {v : Value} {ps : List (Int × Int)} {T : Array Value} (h : Own W w.heap.size [.slice none 0 0]) (hk : Keep b w W) (hb : w.heap.size ≤ b) (hn : n = 32 ∨ n = 64)
    (l1 : 1 ≤ ps.length) (l3 : ps.length ≤ 3) (hr : W.ownsRow base 33 2 v ps.length (flat ps)) (hbase : w.heap.size + 1 ≤ base) (hg : ∀ p ∈ ps, pokI n p.1 p.2 = true ∧ p.2 - p.1 ≤ 8)
    (h2 : T.getD 2 undef = .int .i64 n) (h3 : T.getD 3 undef = .pointer (some ⟨w.heap.size, 0, none⟩)) :
    bodyPost Try.prog Try.f8 (FewBoxOut w) Exit.ret { tmps := T, defers := [] } (W.setCell ⟨w.heap.size, 0, none⟩ v) := by
  have o := h.set (i := 0) v (by simp)
  have d0 := o.cell 0 v rfl
  have bel : Below w.heap.size w (W.setCell ⟨w.heap.size, 0, none⟩ v) := (hk.below hb (Nat.le_refl _)).setCell (p := ⟨w.heap.size, 0, none⟩) (Nat.le_refl _) _
  have rr := ownsRow_low (ownsRow_setCell_below hr (a := ⟨w.heap.size, 0, none⟩) (by show w.heap.size < base; omega) v) hbase
  refine bodyPost_ret (v := .tuple #[.int .i64 n, .agg #[v]]) ?_ rfl ⟨n, v, ps, rfl, hn, l1, l3, rr, hg, bel⟩
  generalize W.setCell ⟨w.heap.size, 0, none⟩ v = V at d0
  have h2' : T[2]?.getD undef = .int .i64 n := by simpa using h2
  have h3' : T[3]?.getD undef = .pointer (some ⟨w.heap.size, 0, none⟩) := by simpa using h3
  simp [results, Try.f8, go_sem, h2', h3', d0]

theorem fewBox (w : World) (a : Option Addr) (len cap : Nat) (hc : Code8 w a len) (hl : len ≤ cap) (hm : len ≤ 1048576) :
    Calls Try.prog 8 #[.slice a len cap] w (FewBoxOut w) := by
  have hc1 : Code8 (w.alloc (.cells #[.slice none 0 0] 25)) a len := by
    rcases hc with hc | ⟨rb, ro, ha, hlt, hcell⟩
    · exact .inl hc
    · refine .inr ⟨rb, ro, ha, by simp; omega, fun j hj => ?_⟩
      obtain ⟨z, z0, z1, hz⟩ := hcell j hj
      exact ⟨z, z0, z1, (World.cell?_alloc_lt _ _ _ hlt).trans hz⟩
  have ho := opened (w.alloc (.cells #[.slice none 0 0] 25)) a len cap hc1 hl hm
  have own0 := Own.new w #[.slice none 0 0] 25
  clear hc hc1
  go_enter Try.func8, Try.ntmps8
  go_wp2_with (go_at_call 35; go_must (refine ho.mono ?_); clear ho; rintro e w1 ⟨rfl, hr, hk⟩)
  have hsz : (w.alloc (.cells #[.slice none 0 0] 25)).heap.size = w.heap.size + 1 := by simp
  rw [hsz] at hr hk
  have hb1 := hr.1
  have hr0 := hr.alloc (.cells #[.int .i64 32, .int .i64 64] 3)
  replace own0 := own0.keep hk (by omega)
  have hkw : Keep (w.heap.size + 1) w w1 := ((Keep.refl _ w).alloc _).trans hk
  clear hk
  go_wp2_with first
    | (go_at_call 36; refine (pickSt (St.start hr0) (by omega)).mono ?_; clear hr0 hr; rintro e w2 ⟨r, rfl, r0, r1, h⟩; replace r1 := r1 (by omega); obtain ⟨n, hv, hn⟩ := width_at hb1 h r0 r1; have HN : Hid (n = 32 ∨ n = 64) := hn; clear hn; replace own0 := (own0.alloc _).keep h.2 (by omega); replace hkw := (hkw.alloc _).trans h.2; have hr2 := h.1; clear h)
    | (go_at_call 37; refine (few _ _ _ _ HN.out hr2 (by omega)).mono ?_; rintro e w3 ⟨v, ps, rfl, l1, l3, hrow, hgood, hr3, hk3⟩; have hsz3 := hr2.1; replace own0 := own0.keep hk3 (by omega); replace hkw := hkw.trans hk3; clear hk3 hr2; have e0 := own0.cell 0 _ rfl; have f0 := own0.frz 0 _ rfl; have hex : ∃ g cap, v = .slice (some ⟨g, 0, none⟩) ps.length cap := (by rcases hrow.2 with ⟨_, q⟩ | ⟨g, cap, _, q, _⟩ <;> first | omega | exact ⟨_, _, q⟩); obtain ⟨g7, cap7, hv7⟩ := hex; rw [hv7]; rw [hv7] at hrow)
  exact fewBox_end own0 hkw (by omega) HN.out l1 l3 hrow (by omega) hgood rfl rfl

end Go.Proofs.Yteohgmmenlinbaa
