/- BoxLess of the program and of the model: contracts. -/
import Derived.Test.YteohgmmenlinbabLessI
import Derived.Test.YteohgmmenlinbabJB
import Derived.Test.YteohgmmenlinbabApp
namespace Go.Proofs.Yteohgmmenlinbab
open Go.ChangeShapes Go.WideShapes Go.ChangeAt Go.RowKit
set_option linter.unusedVariables false

/-- What BoxLess makes of a box. -/
def boxLessL (bel : Int → Int) (ps : List (Int × Int)) : List (Int × Int) := if bokI 64 ps = true then ps.map fun p => (lessI bel p).1 else []

theorem Less.madeL (bel : Int → Int) (ps : List (Int × Int)) : madeL (fun i => lessI bel (at2 ps i)) ps.length = ps.map fun p => (lessI bel p).1 := by
  apply List.ext_getElem?
  intro i
  by_cases hi : i < ps.length
  · rw [madeL_get hi, List.getElem?_map, at2_get hi]
    rfl
  · rw [List.getElem?_eq_none (by rw [madeL_length]; omega), List.getElem?_eq_none (by simp; omega)]

theorem Less.at_ok (bel : Int → Int) {ps : List (Int × Int)} (h : bokI 64 ps = true) {i : Nat} (hi : i < ps.length) : (lessI bel (at2 ps i)).2 = true := bok_at h hi

set_option maxHeartbeats 1000000 in
theorem Less.fits (bel : Int → Int) (hBel : BelF bel) (w : World) (i : Nat) (x y : Int) (C sb so len cap : Nat) (hil : i < len) (hlc : len ≤ cap) (hm : len ≤ 1048576) (wx : (Lit.int .i64 x).wf = true) (wy : (Lit.int .i64 y).wf = true) (hc : w.cell? ⟨C, 0, none⟩ = some (.slice (some ⟨sb, so, none⟩) len cap)) (hC : C < w.heap.size) (hs : sb < w.heap.size)
    (h0 : w.cell? ⟨sb, so + i * 2, none⟩ = some (.int .i64 x)) (h1 : w.cell? ⟨sb, so + i * 2 + 1, none⟩ = some (.int .i64 y)) :
    Calls Try.prog 74 (#[.int .i64 (i : Int)] ++ #[.pointer (some ⟨C, 0, none⟩)]) w (PairOut w (lessI bel (x, y)).1.1 (lessI bel (x, y)).1.2 (lessI bel (x, y)).2) := by
  have hil' : (i : Int) < len := by omega
  have q0 : Below w.heap.size w (w.alloc (.cells #[.int .i64 0, .int .i64 0] 24)) := (Below.refl _ w).alloc (Nat.le_refl _) _
  have o0 := Own.new w #[.int .i64 0, .int .i64 0] 24
  have k0 := (q0.cell (p := ⟨C, 0, none⟩) hC).trans hc
  have k1 := (q0.cell (p := ⟨sb, so + i * 2, none⟩) hs).trans h0
  have k2 := (q0.cell (p := ⟨sb, so + i * 2 + 1, none⟩) hs).trans h1
  have hk := fun W => implLessI hBel W x y wx wy
  clear hc h0 h1
  generalize lessI bel (x, y) = r at *
  obtain ⟨⟨r0, r1⟩, rk⟩ := r
  show Calls Try.prog 74 #[.int .i64 (i : Int), .pointer (some ⟨C, 0, none⟩)] w _
  go_enter Try.func74, Try.ntmps74
  go_wp2_with (go_at_call 75; refine (hk _).mono ?_; clear hk; rintro e w2 ⟨rfl, q⟩; replace o0 := o0.below q; replace q0 := q0.trans (q.mono q0.size); clear q; have c0 := o0.cell 0 _ rfl; have c1 := o0.cell 1 _ rfl; have f0 := o0.frz 0 _ rfl; have f1 := o0.frz 1 _ rfl)
  exact pairEnd rfl o0 q0 (Nat.le_refl _) rfl rfl

set_option maxHeartbeats 1000000 in
theorem implBoxLess (bel : Int → Int) (hBel : BelF bel) (w : World) (a : Option Addr) (ps : List (Int × Int)) (cap : Nat) (h : PairsAt w a ps) (hl : ps.length ≤ cap) (hm : ps.length ≤ 1048576) :
    Calls Try.prog 38 #[.agg #[.slice a ps.length cap]] w (BoxOut w (boxLessL bel ps) (bokI 64 ps)) := by
  have q0 : Below w.heap.size w ((w.alloc (.cells #[.slice a ps.length cap] 41)).alloc (.cells #[.slice none 0 0] 41)) := ((Below.refl _ w).alloc (Nat.le_refl _) _).alloc (by simp) _
  have oA := (Own.new w #[.slice a ps.length cap] 41).alloc (.cells #[.slice none 0 0] 41)
  have oR := Own.new (w.alloc (.cells #[.slice a ps.length cap] 41)) #[.slice none 0 0] 41
  simp only [World.size_alloc] at oR
  have hk := fun W (q : Below w.heap.size w W) => implBoxOk W 64 a ps cap (h.below q) hl hm
  have hM := fun W (q : Below w.heap.size w W) (oW : Own W w.heap.size [.slice a ps.length cap]) => boxMade W ps.length hm 74 #[.pointer (some ⟨w.heap.size, 0, none⟩)] (fun i => lessI bel (at2 ps i)) (enters_of Try.func74 (by kernel_rfl) rfl)
    (fun i hi => less_wf hBel _ _) (fun i V hi hV => by
      have hB := (h.below q).below hV
      have wq := hB.wfD hi
      obtain ⟨sb, so, hb, hlt, c0, c1⟩ := hB.atD hi
      subst hb
      exact Less.fits bel hBel V i _ _ w.heap.size sb so ps.length cap hi hl hm wq.1 wq.2 ((hV.cell (p := ⟨w.heap.size, 0, none⟩) oW.lt).trans (oW.cell 0 _ rfl)) (Nat.lt_of_lt_of_le oW.lt hV.size) hlt c0 c1)
  cases hbk : bokI 64 ps
  · have e : boxLessL bel ps = [] := by unfold boxLessL; rw [hbk]; rfl
    rw [hbk] at hk
    clear hM
    have eH : Hid (boxLessL bel ps = []) := e
    clear e
    obtain ⟨len, hlen⟩ : ∃ len, ps.length = len := ⟨_, rfl⟩
    rw [hlen] at q0 oA oR hk ⊢
    go_enter Try.func38, Try.ntmps38
    go_wp2_with (go_at_call 34; refine (hk _ q0).mono ?_; clear hk; rintro e w2 ⟨rfl, q⟩; replace oR := oR.below q; replace q0 := q0.trans (q.mono q0.size); clear q; have c0 := oR.cell 0 _ rfl; have f0 := oR.frz 0 _ rfl)
    refine boxEnd (ps := boxLessL bel ps) (o := none) rfl (by rw [eH.out]; rfl) oR q0 (by omega) (Nat.le_refl _) ?_ (fun G hG => by cases hG) (fun e => by cases e) rfl rfl
    rw [eH.out]
    exact ⟨fun p hp => by simp at hp, .inl ⟨rfl, rfl⟩⟩
  · have eB : madeB (fun i => lessI bel (at2 ps i)) ps.length = true := madeB_true fun i hi => Less.at_ok bel hbk hi
    have e : madeR (fun i => lessI bel (at2 ps i)) ps.length = boxLessL bel ps := by unfold madeR boxLessL; rw [if_pos eB, if_pos hbk, Less.madeL bel ]
    rw [hbk] at hk
    rw [e, eB] at hM
    clear e eB
    have hL : Hid ((boxLessL bel ps).length = ps.length) := by show (boxLessL bel ps).length = ps.length; unfold boxLessL; rw [if_pos hbk]; simp
    clear hbk
    obtain ⟨len, hlen⟩ : ∃ len, ps.length = len := ⟨_, rfl⟩
    rw [hlen] at q0 oA oR hk hL ⊢
    simp only [hlen] at hM
    generalize boxLessL bel ps = L at *
    clear h hlen
    go_enter Try.func38, Try.ntmps38
    go_wp2_with first
      | (go_at_call 34; refine (hk _ q0).mono ?_; clear hk; rintro e w2 ⟨rfl, q⟩; replace oA := oA.below q; replace oR := oR.below q; replace q0 := q0.trans (q.mono q0.size); clear q; have c0 := oA.cell 0 _ rfl)
      | (go_at_call 66; refine (hM _ q0 oA).mono ?_; clear hM; rintro e w3 ⟨a3, cap3, o3, rfl, hc3, hp3, ho3, q⟩; have lR : Hid (w.heap.size + 1 < w2.heap.size) := oR.lt; replace oR := oR.below q; have q1 := q0.trans (q.mono q0.size); have d0 := oR.cell 0 _ rfl; have f0 := oR.frz 0 _ rfl; rw [hL.out] at hc3)
    have hs := q0.size
    exact boxEnd rfl rfl oR q1 (by omega) (by rw [hL.out]; exact hc3) hp3 (fun G hG => by have := ho3 G hG; omega) (fun e => by have := ho3 _ e; have := lR.out; omega) rfl rfl

end Go.Proofs.Yteohgmmenlinbab
