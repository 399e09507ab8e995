/- The contract of the model's 'DrawBoxBits'. -/
import Derived.Test.YteohgmmenlinbacDoorDrawBS
namespace Go.Proofs.YteohgmmenlinbacDoor
open Go.ChangeShapes Go.WideShapes Go.ChangeAt Go.RowKit
set_option linter.unusedVariables false

set_option maxHeartbeats 400000 in
theorem drawBoxBits (w : World) (a : Option Addr) (len cap : Nat) (hc : Code8 w a len) (hl : len ≤ cap) (hm : len ≤ 1048576) :
    Calls Tryd.prog 4 #[.slice a len cap] w (BoxNOut w) := by
  have q0 : Below w.heap.size w (w.alloc (.cells #[.slice none 0 0] 25)) := (Below.refl _ w).alloc (Nat.le_refl _) _
  have oR := Own.new w #[.slice none 0 0] 25
  have hB := boxN (w.alloc (.cells #[.slice none 0 0] 25)) a len cap (hc.belowD q0) hl hm
  unfold BoxNOut at hB
  clear hc
  go_enter Tryd.func4, Tryd.ntmps4
  go_wp2_with (go_at_call 12; refine hB.mono ?_; clear hB; rintro e w2 ⟨n, a1, c1, ps, o1, rfl, h8, hc1, hh, ho, hg, q⟩; have HO : Hid (∀ G, o1 = some G → w.heap.size + 1 ≤ G) := (fun G hG => by have := ho G hG; simp only [World.size_alloc] at this; omega); obtain ⟨m, hm2⟩ : ∃ m, ps.length = m := ⟨_, rfl⟩; rw [hm2] at h8 hc1 ⊢; have HM : Hid (ps.length = m) := hm2; clear hm2 ho; have qa : Below w2.heap.size w2 (w2.alloc (.cells #[.slice a1 m c1] 25)).drew := ((Below.refl _ _).alloc (Nat.le_refl _) _).drew; replace oR := (oR.below q).below qa; replace q0 := q0.trans (q.mono q0.size); replace q0 := q0.trans (qa.mono q0.size); replace hh := hh.below qa; have r0 := oR.cell 0 _ rfl; have r1 := oR.frz 0 _ rfl; have l2 := oR.lt; clear q qa)
  go_region
  all_goals go_wp2
  all_goals
    have o1' := oR.set (i := 0) (.slice a1 m c1) (by simp)
    have c0 := o1'.cell 0 _ rfl
    have hh' := hh.keepO ((KeepO.of_below (some w.heap.size) (Below.refl _ _)).setCell (i := 0) (.slice a1 m c1)) (fun G hG e => by have := HO.out G hG; have := Option.some.inj e; omega)
    have hb' := q0.setCell (p := ⟨w.heap.size, 0, none⟩) (Nat.le_refl _) (.slice a1 m c1)
    refine bodyPost_ret (v := .tuple #[.int .i64 n, .agg #[.slice a1 m c1]]) ?_ rfl ⟨n, a1, c1, ps, o1, by rw [HM.out], by rw [HM.out]; exact h8, by rw [HM.out]; exact hc1, hh', HO.out, hg, hb'⟩
    have c2 : ((w2.alloc (.cells #[.slice a1 m c1] 25)).setCell ⟨w.heap.size, 0, none⟩ (.slice a1 m c1)).cell? ⟨w.heap.size, 0, none⟩ = some (.slice a1 m c1) := c0
    simp [results, Tryd.f4, go_sem, c2]

end Go.Proofs.YteohgmmenlinbacDoor
