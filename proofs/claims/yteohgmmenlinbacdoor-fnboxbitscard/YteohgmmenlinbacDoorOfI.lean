/- The program's BoxOf: its contract. -/
import Derived.Test.YteohgmmenlinbacDoorRd
import Derived.Deep.RegionWith
namespace Go.Proofs.YteohgmmenlinbacDoor
open Go.ChangeShapes Go.WideShapes Go.ChangeAt Go.RowKit
set_option linter.unusedVariables false

theorem codeOf_all (W : World) (c : Int) (h : ErrT W) : Calls Tryd.prog 18 #[errV c] W fun e w' => e = .returned (.int .i64 c) ∧ Below W.heap.size W w' := by
  unfold errV
  by_cases e : c = 0
  · subst e
    rw [if_pos rfl]
    exact codeOf_nil W
  · rw [if_neg e]
    exact codeOf_hit W c h

set_option maxRecDepth 100000 in
set_option maxHeartbeats 4000000 in
theorem implBoxOf (w : World) (n : Int) (a : Option Addr) (zs : List Int) (len cap : Nat) (hlen : zs.length = len) (h : UAt w a zs) (hz : ∀ z ∈ zs, 0 ≤ z ∧ z ≤ 18446744073709551615) (hl : len ≤ cap) (hm : len ≤ 1048576) (hE : ErrT w) :
    Calls Tryd.prog 6 #[.int .i64 n, .slice a len cap] w (BoxOutV w (boxU n zs) (.int .i64 (codeU n zs))) := by
  have q0 : Below w.heap.size w (w.alloc (.cells #[.slice none 0 0] 25)) := (Below.refl _ w).alloc (Nat.le_refl _) _
  have oR := Own.new w #[.slice none 0 0] 25
  have hR := boxRead (w.alloc (.cells #[.slice none 0 0] 25)) n a zs len cap hlen (h.below q0) hz hl hm
  have hC := fun W (hW : ErrT W) => codeOf_all W (codeU n zs) hW
  have hp := hE.pos
  have HE : Hid (ErrT w) := hE
  have hs : w.heap.size + 1 ≤ (w.alloc (.cells #[.slice none 0 0] 25)).heap.size := by simp
  clear h hz hlen hE
  generalize errV (codeU n zs) = ev at *
  generalize codeU n zs = c at *
  unfold BoxOutV at hR
  obtain ⟨m, hm2⟩ : ∃ m, (boxU n zs).length = m := ⟨_, rfl⟩
  rw [hm2] at hR
  have HM : Hid ((boxU n zs).length = m) := hm2
  clear hm2
  generalize boxU n zs = P at *
  go_enter Tryd.func6, Tryd.ntmps6
  go_wp2_with (go_at_call 17; refine hR.mono ?_; clear hR; rintro e w2 ⟨a5, c5, o5, rfl, hc5, hh5, hg5, q⟩; have HG : Hid (∀ G, o5 = some G → w.heap.size + 1 ≤ G) := (fun G hG => Nat.le_trans hs (hg5 G hG)); replace oR := oR.below q; replace q0 := q0.trans (q.mono q0.size); have o6 := Own.new w2 #[.slice a5 m c5] 25; have qa : Below w2.heap.size w2 (w2.alloc (.cells #[.slice a5 m c5] 25)).drew := ((Below.refl _ _).alloc (Nat.le_refl _) _).drew; replace oR := oR.below qa; replace q0 := q0.trans (qa.mono q0.size); replace hh5 := hh5.below qa; replace o6 := o6.drew; clear q qa hg5 hs; have hE2 : Hid (ErrT (w2.alloc (.cells #[.slice a5 m c5] 25)).drew) := HE.out.below hp q0)
  go_region_with (go_at_call 18; refine (hC _ hE2.out).mono ?_; clear hC; rintro e w4 ⟨rfl, q⟩; replace oR := oR.below q; replace q0 := q0.trans (q.mono q0.size); replace hh5 := hh5.below q; replace o6 := o6.below q; clear q; have r6 := o6.cell 0 _ rfl; have r0 := oR.cell 0 _ rfl; have r1 := oR.frz 0 _ rfl)
  all_goals go_wp2
  all_goals exact boxEndV (ps := P) (o := o5) rfl HM.out oR q0 (Nat.le_refl _) hc5 hh5 (fun G hG => by have := HG.out G hG; omega) (fun e => by have := HG.out _ e; omega) rfl rfl

end Go.Proofs.YteohgmmenlinbacDoor
