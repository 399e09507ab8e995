/- BoxCut of the program: its contract. -/
import Derived.Test.YteohgmmenlinbabCutI
namespace Go.Proofs.Yteohgmmenlinbab
open Go.ChangeShapes Go.WideShapes Go.ChangeAt Go.RowKit
set_option linter.unusedVariables false

set_option maxHeartbeats 1000000 in
theorem Cut.part (w : World) (n x y : Int) (g gh : Int) (C D : Nat) (wx : (Lit.int .i64 x).wf = true) (wy : (Lit.int .i64 y).wf = true) (wg : (Lit.int .i64 g).wf = true) (wgh : (Lit.int .i64 gh).wf = true) (hC : C < w.heap.size) (hc : w.cell? ⟨C, 0, none⟩ = some (.int .i64 n)) (hD : D < w.heap.size) (hd0 : w.cell? ⟨D, 0, none⟩ = some (.int .i64 g)) (hd1 : w.cell? ⟨D, 1, none⟩ = some (.int .i64 gh)) :
    Calls Try.prog 64 (#[.agg #[.int .i64 x, .int .i64 y]] ++ #[.pointer (some ⟨C, 0, none⟩), .pointer (some ⟨D, 0, none⟩)]) w (TwoOut2 w (cutF n g gh (x, y)).1.1 (cutF n g gh (x, y)).1.2 (cutF n g gh (x, y)).2.1.1 (cutF n g gh (x, y)).2.1.2 (cutF n g gh (x, y)).2.2) := by
  have q0 : Below w.heap.size w (((w.alloc (.cells #[.int .i64 x, .int .i64 y] 24)).alloc (.cells #[.int .i64 0, .int .i64 0] 24)).alloc (.cells #[.int .i64 0, .int .i64 0] 24)) := (((Below.refl _ w).alloc (Nat.le_refl _) _).alloc (by simp) _).alloc (by simp; omega) _
  have o1 := (Own.new (w.alloc (.cells #[.int .i64 x, .int .i64 y] 24)) #[.int .i64 0, .int .i64 0] 24).alloc (.cells #[.int .i64 0, .int .i64 0] 24)
  have o2 := Own.new ((w.alloc (.cells #[.int .i64 x, .int .i64 y] 24)).alloc (.cells #[.int .i64 0, .int .i64 0] 24)) #[.int .i64 0, .int .i64 0] 24
  simp only [World.size_alloc] at o1 o2
  have k0 := (q0.cell (p := ⟨C, 0, none⟩) hC).trans hc
  have k1 := (q0.cell (p := ⟨D, 0, none⟩) hD).trans hd0
  have k2 := (q0.cell (p := ⟨D, 1, none⟩) hD).trans hd1
  clear hd0 hd1
  have hk := fun W => (cutBoth2 W n x y g gh wx wy wg wgh).2
  clear hc
  generalize cutF n g gh (x, y) = r at *
  obtain ⟨⟨r0, r1⟩, ⟨r2, r3⟩, rk⟩ := r
  show Calls Try.prog 64 #[.agg #[.int .i64 x, .int .i64 y], .pointer (some ⟨C, 0, none⟩), .pointer (some ⟨D, 0, none⟩)] w _
  go_enter Try.func64, Try.ntmps64
  go_wp2_with (go_at_call 16; refine (hk _).mono ?_; clear hk; rintro e w2 ⟨rfl, q⟩; replace o1 := o1.below q; replace o2 := o2.below q; replace q0 := q0.trans (q.mono q0.size); clear q; have c0 := o1.cell 0 _ rfl; have c1 := o1.cell 1 _ rfl; have f0 := o1.frz 0 _ rfl; have f1 := o1.frz 1 _ rfl; have d0 := o2.cell 0 _ rfl; have d1 := o2.cell 1 _ rfl; have g0 := o2.frz 0 _ rfl; have g1 := o2.frz 1 _ rfl)
  exact twoEndS rfl o1 o2 q0 (by omega) (by omega) (by omega) rfl rfl rfl

set_option maxHeartbeats 1000000 in
theorem implBoxCut (w : World) (n : Int) (a : Option Addr) (ps : List (Int × Int)) (cap : Nat) (k : Int) (wk : (Lit.int .i64 k).wf = true) (g gh : Int) (wg : (Lit.int .i64 g).wf = true) (wgh : (Lit.int .i64 gh).wf = true) (h : PairsAt w a ps) (hl : ps.length ≤ cap) (hm : ps.length ≤ 1048576) :
    Calls Try.prog 29 #[.int .i64 n, .agg #[.slice a ps.length cap], .int .i64 k, .agg #[.int .i64 g, .int .i64 gh]] w (TwoBox w (partA n (cutF n g gh) ps k) (partB n (cutF n g gh) ps k) (partK n (cutF n g gh) ps k)) := by
  have q0 : Below w.heap.size w ((((((w.alloc (.cells #[.int .i64 n] 3)).alloc (.cells #[.slice a ps.length cap] 41)).alloc (.cells #[.int .i64 g, .int .i64 gh] 24)).alloc (.cells #[.slice none 0 0] 41)).alloc (.cells #[.slice none 0 0] 41))) := ((((((Below.refl _ w).alloc (Nat.le_refl _) _).alloc (by simp) _).alloc (by simp; omega) _).alloc (by simp; omega) _).alloc (by simp; omega) _)
  have oN := (((((Own.new w #[.int .i64 n] 3).alloc (.cells #[.slice a ps.length cap] 41)).alloc (.cells #[.int .i64 g, .int .i64 gh] 24)).alloc (.cells #[.slice none 0 0] 41)).alloc (.cells #[.slice none 0 0] 41))
  have oB := ((((Own.new (w.alloc (.cells #[.int .i64 n] 3)) #[.slice a ps.length cap] 41).alloc (.cells #[.int .i64 g, .int .i64 gh] 24)).alloc (.cells #[.slice none 0 0] 41)).alloc (.cells #[.slice none 0 0] 41))
  have oG := (((Own.new ((w.alloc (.cells #[.int .i64 n] 3)).alloc (.cells #[.slice a ps.length cap] 41)) #[.int .i64 g, .int .i64 gh] 24).alloc (.cells #[.slice none 0 0] 41)).alloc (.cells #[.slice none 0 0] 41))
  have oR := ((Own.new (((w.alloc (.cells #[.int .i64 n] 3)).alloc (.cells #[.slice a ps.length cap] 41)).alloc (.cells #[.int .i64 g, .int .i64 gh] 24)) #[.slice none 0 0] 41).alloc (.cells #[.slice none 0 0] 41))
  have oS := (Own.new ((((w.alloc (.cells #[.int .i64 n] 3)).alloc (.cells #[.slice a ps.length cap] 41)).alloc (.cells #[.int .i64 g, .int .i64 gh] 24)).alloc (.cells #[.slice none 0 0] 41)) #[.slice none 0 0] 41)
  simp only [World.size_alloc] at oB oG oR oS
  have hP := fun W (q : Below w.heap.size w W) (oW : Own W w.heap.size [.int .i64 n]) (oV : Own W (w.heap.size + 1 + 1) [.int .i64 g, .int .i64 gh]) => boxParted W n a ps cap k wk (h.below q) hl hm 64 #[.pointer (some ⟨w.heap.size, 0, none⟩), .pointer (some ⟨w.heap.size + 1 + 1, 0, none⟩)] (cutF n g gh) (enters_of Try.func64 (by kernel_rfl) rfl) (cut_wf n g gh wg wgh)
    (fun p V wp hV => Cut.part V n p.1 p.2 g gh w.heap.size (w.heap.size + 1 + 1) wp.1 wp.2 wg wgh (Nat.lt_of_lt_of_le oW.lt hV.size) ((hV.cell (p := ⟨w.heap.size, 0, none⟩) oW.lt).trans (oW.cell 0 _ rfl)) (Nat.lt_of_lt_of_le oV.lt hV.size) ((hV.cell (p := ⟨w.heap.size + 1 + 1, 0, none⟩) oV.lt).trans (oV.cell 0 _ rfl)) ((hV.cell (p := ⟨w.heap.size + 1 + 1, 1, none⟩) oV.lt).trans (oV.cell 1 _ rfl)))
  generalize partA n (cutF n g gh) ps k = A at *
  generalize partB n (cutF n g gh) ps k = B at *
  generalize partK n (cutF n g gh) ps k = K at *
  clear h
  obtain ⟨len, hlen⟩ : ∃ len, ps.length = len := ⟨_, rfl⟩
  rw [hlen] at q0 oN oB oG oR oS hP ⊢
  have c0 := oN.cell 0 _ rfl
  have c1 := oB.cell 0 _ rfl
  go_enter Try.func29, Try.ntmps29
  go_wp2_with first
    | (go_at_call 59; refine (hP _ q0 oN oG ).mono ?_; clear hP; rintro e w2 ⟨a1, p1, o1, a2, p2, o2, rfl, ⟨hc1, hp1, ho1⟩, ⟨hc2, hp2, ho2⟩, hoo, q⟩
       simp only [World.size_alloc] at ho1 ho2
       replace oR := oR.below q; replace oS := oS.below q; replace q0 := q0.trans (q.mono q0.size); clear q; have d0 := oR.cell 0 _ rfl; have d1 := oR.frz 0 _ rfl; have d2 := oS.cell 0 _ rfl; have d3 := oS.frz 0 _ rfl)
  have kR : KeepO (some (w.heap.size + 1 + 1 + 1)) w2 (w2.setCell ⟨w.heap.size + 1 + 1 + 1, 0, none⟩ (.slice a1 A.length p1)) := (KeepO.of_below _ (Below.refl _ _)).setCell _
  have kS : KeepO (some (w.heap.size + 1 + 1 + 1 + 1)) (w2.setCell ⟨w.heap.size + 1 + 1 + 1, 0, none⟩ (.slice a1 A.length p1)) ((w2.setCell ⟨w.heap.size + 1 + 1 + 1, 0, none⟩ (.slice a1 A.length p1)).setCell ⟨w.heap.size + 1 + 1 + 1 + 1, 0, none⟩ (.slice a2 B.length p2)) := (KeepO.of_below _ (Below.refl _ _)).setCell _
  exact twoBoxEnd rfl rfl rfl ((oR.set (i := 0) (.slice a1 A.length p1) (by simp)).other (j := w.heap.size + 1 + 1 + 1 + 1) (i := 0) _ (by omega)) ((oS.other (j := w.heap.size + 1 + 1 + 1) (i := 0) _ (by omega)).set (i := 0) (.slice a2 B.length p2) (by simp)) ((q0.setCell (p := ⟨w.heap.size + 1 + 1 + 1, 0, none⟩) (by simp; omega) _).setCell (p := ⟨w.heap.size + 1 + 1 + 1 + 1, 0, none⟩) (by simp; omega) _) hc1 hc2
    ((hp1.keepO kR (fun G hG e => by have := Option.some.inj e; have := ho1 G hG; omega)).keepO kS (fun G hG e => by have := Option.some.inj e; have := ho1 G hG; omega)) ((hp2.keepO kR (fun G hG e => by have := Option.some.inj e; have := ho2 G hG; omega)).keepO kS (fun G hG e => by have := Option.some.inj e; have := ho2 G hG; omega))
    (fun G hG => by have := ho1 G hG; omega) (fun G hG => by have := ho2 G hG; omega) hoo rfl rfl rfl

end Go.Proofs.Yteohgmmenlinbab
