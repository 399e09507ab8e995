/- The contracts of the model's 'l5Box', 'DrawBoxSplit' and 'DrawBoxCut'. -/
import Derived.Test.YteohgmmenlinbacDoorDrawFw
import Derived.Test.YteohgmmenlinbacDoorDrawH
import Derived.Test.YteohgmmenlinbacDoorJB
import Derived.Test.YteohgmmenlinbacDoorOwns
import Derived.Test.YteohgmmenlinbacDoorRegM
import Derived.Test.YteohgmmenlinbacDoorJA
namespace Go.Proofs.YteohgmmenlinbacDoor
open Go.ChangeShapes Go.WideShapes Go.ChangeAt Go.RowKit
set_option linter.unusedVariables false

/-- A number and a new box. -/
def BoxNOut (w : World) (e : Ending) (w' : World) : Prop :=
  ∃ (n : Int) (a1 : Option Addr) (c1 : Nat) (ps : List (Int × Int)) (o1 : Option Nat), e = .returned (.tuple #[.int .i64 n, .agg #[.slice a1 ps.length c1]]) ∧
    ps.length ≤ 8 ∧ ps.length ≤ c1 ∧ HasO w' a1 ps o1 ∧ (∀ G, o1 = some G → w.heap.size + 1 ≤ G) ∧ (∀ p ∈ ps, Nr p.1 ∧ Nr p.2) ∧ Below w.heap.size w w'

theorem boxNEnd {w W : World} {T : Array Value} {n : Int} {a1 : Option Addr} {l1 c1 : Nat} {ps : List (Int × Int)} {o1 : Option Nat} (rs : Own W w.heap.size [.slice none 0 0]) (e1 : ps.length = l1) (h1 : l1 ≤ 8) (h2 : l1 ≤ c1) (hh : HasO W a1 ps o1) (g1 : ∀ G, o1 = some G → w.heap.size + 1 ≤ G)
    (hg : ∀ p ∈ ps, Nr p.1 ∧ Nr p.2) (hb : Below w.heap.size w W) (t2 : T.getD 2 undef = .int .i64 n) (t3 : T.getD 3 undef = .pointer (some ⟨w.heap.size, 0, none⟩)) :
    bodyPost Tryd.prog Tryd.f12 (BoxNOut w) Exit.ret { tmps := T, defers := [] } (W.setCell ⟨w.heap.size, 0, none⟩ (.slice a1 l1 c1)) := by
  subst e1
  have o := rs.set (i := 0) (.slice a1 ps.length c1) (by simp)
  have c0 := o.cell 0 _ rfl
  have hh' : HasO (W.setCell ⟨w.heap.size, 0, none⟩ (.slice a1 ps.length c1)) a1 ps o1 := hh.keepO ((KeepO.of_below (some w.heap.size) (Below.refl _ W)).setCell _) (fun G hG e => by have := g1 G hG; have := Option.some.inj e; omega)
  have hb' := hb.setCell (p := ⟨w.heap.size, 0, none⟩) (Nat.le_refl _) (.slice a1 ps.length c1)
  generalize W.setCell ⟨w.heap.size, 0, none⟩ (.slice a1 ps.length c1) = V at *
  refine bodyPost_ret (v := .tuple #[.int .i64 n, .agg #[.slice a1 ps.length c1]]) ?_ rfl ⟨n, a1, c1, ps, o1, rfl, h1, h2, hh', g1, hg, hb'⟩
  simp at t2 t3
  simp [results, Tryd.f12, go_sem, t2, t3, c0]

set_option maxHeartbeats 1000000 in
theorem boxN (w : World) (a : Option Addr) (len cap : Nat) (hc : Code8 w a len) (hl : len ≤ cap) (hm : len ≤ 1048576) :
    Calls Tryd.prog 12 #[.slice a len cap] w (BoxNOut w) := by
  have ho := opened (w.alloc (.cells #[.slice none 0 0] 25)) a len cap (hc.alloc _) hl hm
  have own0 := Own.new w #[.slice none 0 0] 25
  clear hc
  go_enter Tryd.func12, Tryd.ntmps12
  go_wp2_with (go_at_call 23; go_must (refine ho.mono ?_); clear ho; rintro e w1 ⟨rfl, hr, hk⟩)
  have hsz : (w.alloc (.cells #[.slice none 0 0] 25)).heap.size = w.heap.size + 1 := by simp
  rw [hsz] at hr hk
  replace own0 := own0.keep hk (by omega)
  have hkw : Keep (w.heap.size + 1) w w1 := ((Keep.refl _ w).alloc _).trans hk
  clear hk hsz
  go_wp2_with first
    | (go_at_call 24; refine (width _ _ _ hr (by omega)).mono ?_; clear hr; rintro e w2 ⟨n, rfl, n0, n1, hr, hk2⟩; replace hkw := hkw.trans hk2; replace own0 := own0.keep hk2 (by omega); clear hk2 n0 n1)
    | (go_at_call 27; refine (pickSt (St.start hr) (by omega)).mono ?_; clear hr; rintro e w3 ⟨r, rfl, r0, r1, h4⟩; have hr : Rd w3 (w.heap.size + 1) 10 := h4.1.mono (by omega); have hb3 : w.heap.size + 1 < w3.heap.size := hr.1; replace hkw := hkw.trans h4.2; replace own0 := own0.keep h4.2 (by omega); clear h4)
    | (go_at_call 35; refine (fewR _ _ _ _ hr (by omega)).mono ?_; rintro e w4 ⟨a3, c3, ps, o3, rfl, h8, hc3, hh, ho3, hg, hr3, hk3⟩; replace own0 := own0.keep hk3 (by omega); replace hkw := hkw.trans hk3; clear hk3 hr; have e0 := own0.cell 0 _ rfl; have f0 := own0.frz 0 _ rfl)
    | (go_at_call 26; refine (boxR _ _ _ _ hr (by omega)).mono ?_; rintro e w4 ⟨a3, c3, ps, o3, rfl, h8, hc3, hh, ho3, hg, hr3, hk3⟩; replace own0 := own0.keep hk3 (by omega); replace hkw := hkw.trans hk3; clear hk3 hr; have e0 := own0.cell 0 _ rfl; have f0 := own0.frz 0 _ rfl)
  all_goals exact boxNEnd own0 rfl h8 hc3 hh (fun G hG => by have := ho3 G hG; omega) hg (hkw.below (by omega) (Nat.le_refl _)) rfl rfl

theorem Code8.belowD {w w' : World} {a : Option Addr} {len : Nat} (h : Code8 w a len) (q : Below w.heap.size w w') : Code8 w' a len := by
  rcases h with h | ⟨rb, ro, ha, hlt, hcell⟩
  · exact .inl h
  · refine .inr ⟨rb, ro, ha, Nat.lt_of_lt_of_le hlt q.size, fun j hj => ?_⟩
    obtain ⟨z, z0, z1, hz⟩ := hcell j hj
    exact ⟨z, z0, z1, (q.cell (p := ⟨rb, ro + j, none⟩) hlt).trans hz⟩

theorem wrapWf (y : Int) : (Lit.int .i64 (IntKind.i64.wrap y)).wf = true := by
  simp [Lit.wf, IntKind.wrap, IntKind.min, IntKind.max, IntKind.signed, IntKind.bits] <;> (try split) <;> omega

/-- A number, a new box and a number. -/
def BoxAtOut (w : World) (e : Ending) (w' : World) : Prop :=
  ∃ (n : Int) (a1 : Option Addr) (c1 : Nat) (ps : List (Int × Int)) (o1 : Option Nat) (k : Int), e = .returned (.tuple #[.int .i64 n, .agg #[.slice a1 ps.length c1], .int .i64 k]) ∧
    ps.length ≤ 8 ∧ ps.length ≤ c1 ∧ HasO w' a1 ps o1 ∧ (Lit.int .i64 k).wf = true ∧ Below w.heap.size w w'

end Go.Proofs.YteohgmmenlinbacDoor
