/- BoxSplit of the program: its contract. -/
import Derived.Test.YteohgmmenlinbaaSplitI
namespace Go.Proofs.Yteohgmmenlinbaa
open Go.ChangeShapes Go.WideShapes Go.ChangeAt Go.RowKit
set_option linter.unusedVariables false

set_option maxHeartbeats 1000000 in
theorem Split.part (w : World) (n x y : Int) (C : Nat) (wx : (Lit.int .i64 x).wf = true) (wy : (Lit.int .i64 y).wf = true) (hC : C < w.heap.size) (hc : w.cell? ⟨C, 0, none⟩ = some (.int .i64 n)) :
    Calls Try.prog 52 (#[.agg #[.int .i64 x, .int .i64 y]] ++ #[.pointer (some ⟨C, 0, none⟩)]) w (TwoOut2 w (splitF n (x, y)).1.1 (splitF n (x, y)).1.2 (splitF n (x, y)).2.1.1 (splitF n (x, y)).2.1.2 (splitF n (x, y)).2.2) := by
  have q0 : Below w.heap.size w (((w.alloc (.cells #[.int .i64 x, .int .i64 y] 33)).alloc (.cells #[.int .i64 0, .int .i64 0] 33)).alloc (.cells #[.int .i64 0, .int .i64 0] 33)) := (((Below.refl _ w).alloc (Nat.le_refl _) _).alloc (by simp) _).alloc (by simp; omega) _
  have o1 := (Own.new (w.alloc (.cells #[.int .i64 x, .int .i64 y] 33)) #[.int .i64 0, .int .i64 0] 33).alloc (.cells #[.int .i64 0, .int .i64 0] 33)
  have o2 := Own.new ((w.alloc (.cells #[.int .i64 x, .int .i64 y] 33)).alloc (.cells #[.int .i64 0, .int .i64 0] 33)) #[.int .i64 0, .int .i64 0] 33
  simp only [World.size_alloc] at o1 o2
  have k0 := (q0.cell (p := ⟨C, 0, none⟩) hC).trans hc
  have hk := fun W => implSplitF W n x y wx wy
  clear hc
  generalize splitF n (x, y) = r at *
  obtain ⟨⟨r0, r1⟩, ⟨r2, r3⟩, rk⟩ := r
  show Calls Try.prog 52 #[.agg #[.int .i64 x, .int .i64 y], .pointer (some ⟨C, 0, none⟩)] w _
  go_enter Try.func52, Try.ntmps52
  go_wp2_with (go_at_call 53; refine (hk _).mono ?_; clear hk; rintro e w2 ⟨rfl, q⟩; replace o1 := o1.below q; replace o2 := o2.below q; replace q0 := q0.trans (q.mono q0.size); clear q; have c0 := o1.cell 0 _ rfl; have c1 := o1.cell 1 _ rfl; have f0 := o1.frz 0 _ rfl; have f1 := o1.frz 1 _ rfl; have d0 := o2.cell 0 _ rfl; have d1 := o2.cell 1 _ rfl; have g0 := o2.frz 0 _ rfl; have g1 := o2.frz 1 _ rfl)
  exact twoEndS rfl o1 o2 q0 (by omega) (by omega) (by omega) rfl rfl rfl

set_option maxHeartbeats 1000000 in
theorem implBoxSplit (w : World) (n : Int) (a : Option Addr) (ps : List (Int × Int)) (cap : Nat) (k : Int) (wk : (Lit.int .i64 k).wf = true) (h : PairsAt w a ps) (hl : ps.length ≤ cap) (hm : ps.length ≤ 1048576) :
    Calls Try.prog 16 #[.int .i64 n, .agg #[.slice a ps.length cap], .int .i64 k] w (TwoBox w (partA n (splitF n) ps k) (partB n (splitF n) ps k) (partK n (splitF n) ps k)) := by
  have q0 : Below w.heap.size w (((((w.alloc (.cells #[.int .i64 n] 3)).alloc (.cells #[.slice a ps.length cap] 25)).alloc (.cells #[.slice none 0 0] 25)).alloc (.cells #[.slice none 0 0] 25))) := (((((Below.refl _ w).alloc (Nat.le_refl _) _).alloc (by simp) _).alloc (by simp; omega) _).alloc (by simp; omega) _)
  have oN := ((((Own.new w #[.int .i64 n] 3).alloc (.cells #[.slice a ps.length cap] 25)).alloc (.cells #[.slice none 0 0] 25)).alloc (.cells #[.slice none 0 0] 25))
  have oB := (((Own.new (w.alloc (.cells #[.int .i64 n] 3)) #[.slice a ps.length cap] 25).alloc (.cells #[.slice none 0 0] 25)).alloc (.cells #[.slice none 0 0] 25))
  have oR := ((Own.new ((w.alloc (.cells #[.int .i64 n] 3)).alloc (.cells #[.slice a ps.length cap] 25)) #[.slice none 0 0] 25).alloc (.cells #[.slice none 0 0] 25))
  have oS := (Own.new (((w.alloc (.cells #[.int .i64 n] 3)).alloc (.cells #[.slice a ps.length cap] 25)).alloc (.cells #[.slice none 0 0] 25)) #[.slice none 0 0] 25)
  simp only [World.size_alloc] at oB oR oS
  have hP := fun W (q : Below w.heap.size w W) (oW : Own W w.heap.size [.int .i64 n]) => boxParted W n a ps cap k wk (h.below q) hl hm 52 #[.pointer (some ⟨w.heap.size, 0, none⟩)] (splitF n) (enters_of Try.func52 (by kernel_rfl) rfl) (split_wf n)
    (fun p V wp hV => Split.part V n p.1 p.2 w.heap.size wp.1 wp.2 (Nat.lt_of_lt_of_le oW.lt hV.size) ((hV.cell (p := ⟨w.heap.size, 0, none⟩) oW.lt).trans (oW.cell 0 _ rfl)))
  generalize partA n (splitF n) ps k = A at *
  generalize partB n (splitF n) ps k = B at *
  generalize partK n (splitF n) ps k = K at *
  clear h
  obtain ⟨len, hlen⟩ : ∃ len, ps.length = len := ⟨_, rfl⟩
  rw [hlen] at q0 oN oB oR oS hP ⊢
  have c0 := oN.cell 0 _ rfl
  have c1 := oB.cell 0 _ rfl
  go_enter Try.func16, Try.ntmps16
  go_wp2_with first
    | (go_at_call 51; refine (hP _ q0 oN ).mono ?_; clear hP; rintro e w2 ⟨a1, p1, o1, a2, p2, o2, rfl, ⟨hc1, hp1, ho1⟩, ⟨hc2, hp2, ho2⟩, hoo, q⟩
       simp only [World.size_alloc] at ho1 ho2
       replace oR := oR.below q; replace oS := oS.below q; replace q0 := q0.trans (q.mono q0.size); clear q; have d0 := oR.cell 0 _ rfl; have d1 := oR.frz 0 _ rfl; have d2 := oS.cell 0 _ rfl; have d3 := oS.frz 0 _ rfl)
  have kR : KeepO (some (w.heap.size + 1 + 1)) w2 (w2.setCell ⟨w.heap.size + 1 + 1, 0, none⟩ (.slice a1 A.length p1)) := (KeepO.of_below _ (Below.refl _ _)).setCell _
  have kS : KeepO (some (w.heap.size + 1 + 1 + 1)) (w2.setCell ⟨w.heap.size + 1 + 1, 0, none⟩ (.slice a1 A.length p1)) ((w2.setCell ⟨w.heap.size + 1 + 1, 0, none⟩ (.slice a1 A.length p1)).setCell ⟨w.heap.size + 1 + 1 + 1, 0, none⟩ (.slice a2 B.length p2)) := (KeepO.of_below _ (Below.refl _ _)).setCell _
  exact twoBoxEnd rfl rfl rfl ((oR.set (i := 0) (.slice a1 A.length p1) (by simp)).other (j := w.heap.size + 1 + 1 + 1) (i := 0) _ (by omega)) ((oS.other (j := w.heap.size + 1 + 1) (i := 0) _ (by omega)).set (i := 0) (.slice a2 B.length p2) (by simp)) ((q0.setCell (p := ⟨w.heap.size + 1 + 1, 0, none⟩) (by simp; omega) _).setCell (p := ⟨w.heap.size + 1 + 1 + 1, 0, none⟩) (by simp; omega) _) hc1 hc2
    ((hp1.keepO kR (fun G hG e => by have := Option.some.inj e; have := ho1 G hG; omega)).keepO kS (fun G hG e => by have := Option.some.inj e; have := ho1 G hG; omega)) ((hp2.keepO kR (fun G hG e => by have := Option.some.inj e; have := ho2 G hG; omega)).keepO kS (fun G hG e => by have := Option.some.inj e; have := ho2 G hG; omega))
    (fun G hG => by have := ho1 G hG; omega) (fun G hG => by have := ho2 G hG; omega) hoo rfl rfl rfl

end Go.Proofs.Yteohgmmenlinbaa
