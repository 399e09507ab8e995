/- PairSplit of the model and of the program: contracts. -/
import Derived.Test.YteohgmmenlinbaaSpanS
import Derived.Test.YteohgmmenlinbaaJB
import Derived.Test.YteohgmmenlinbaaMid
import Derived.Test.YteohgmmenlinbaaSMid
namespace Go.Proofs.Yteohgmmenlinbaa
open Go.ChangeShapes Go.WideShapes Go.ChangeAt Go.RowKit
set_option linter.unusedVariables false

theorem mid_split {n x y : Int} (h1 : (Lit.int .i64 x).wf = true) (h2 : (Lit.int .i64 y).wf = true) : (Lit.int .i64 (midI x y)).wf = true := (mid_bounds h1 h2).2.2

def splitB (n x y : Int) : Bool := pokI n x y && decide (2 ≤ gapI x y)

/-- The end of a function that returns two pairs and a bool. -/
theorem twoEnd {fn : Func} {p p' u : Tmp} (hres : fn.results = #[.cell p 33, .cell p' 33, .tmp u]) {w W : World} {T : Array Value} {R R' : Nat} {x y x' y' : Int} {ok : Bool} (rs : Own W R [.int .i64 x, .int .i64 y]) (rs' : Own W R' [.int .i64 x', .int .i64 y']) (hb : Below w.heap.size w W)
    (ht : T.getD p undef = .pointer (some ⟨R, 0, none⟩)) (ht' : T.getD p' undef = .pointer (some ⟨R', 0, none⟩)) (hk : T.getD u undef = .bool ok) :
    bodyPost Try.prog fn (TwoOut2 w x y x' y' ok) Exit.ret { tmps := T, defers := [] } W := by
  have c0 := rs.cell 0 _ rfl
  have c1 := rs.cell 1 _ rfl
  have d0 := rs'.cell 0 _ rfl
  have d1 := rs'.cell 1 _ rfl
  refine bodyPost_ret (v := .tuple #[.agg #[.int .i64 x, .int .i64 y], .agg #[.int .i64 x', .int .i64 y'], .bool ok]) ?_ rfl ⟨rfl, hb⟩
  simp at ht ht' hk
  simp [results, hres, go_sem, ht, ht', hk, c0, c1, d0, d1]

theorem twoEndS {fn : Func} {p p' u : Tmp} (hres : fn.results = #[.cell p 33, .cell p' 33, .tmp u]) {w W : World} {T : Array Value} {R R' : Nat} {a b a' b' : Value} {x y x' y' : Int} {ok : Bool} (rs : Own W R [a, b]) (rs' : Own W R' [a', b']) (hb : Below w.heap.size w W)
    (hR : w.heap.size ≤ R) (hR' : w.heap.size ≤ R') (hne : R ≠ R')
    (ht : T.getD p undef = .pointer (some ⟨R, 0, none⟩)) (ht' : T.getD p' undef = .pointer (some ⟨R', 0, none⟩)) (hk : T.getD u undef = .bool ok) :
    bodyPost Try.prog fn (TwoOut2 w x y x' y' ok) Exit.ret { tmps := T, defers := [] } ((((W.setCell ⟨R, 0, none⟩ (.int .i64 x)).setCell ⟨R, 1, none⟩ (.int .i64 y)).setCell ⟨R', 0, none⟩ (.int .i64 x')).setCell ⟨R', 1, none⟩ (.int .i64 y')) :=
  twoEnd hres ((((rs.set (i := 0) (.int .i64 x) (by simp)).set (i := 1) (.int .i64 y) (by simp)).other (j := R') (i := 0) _ (Ne.symm hne)).other (j := R') (i := 1) _ (Ne.symm hne))
    ((((rs'.other (j := R) (i := 0) _ hne).other (j := R) (i := 1) _ hne).set (i := 0) (.int .i64 x') (by simp)).set (i := 1) (.int .i64 y') (by simp))
    ((((hb.setCell (p := ⟨R, 0, none⟩) hR _).setCell (p := ⟨R, 1, none⟩) hR _).setCell (p := ⟨R', 0, none⟩) hR' _).setCell (p := ⟨R', 1, none⟩) hR' _) ht ht' hk

theorem twoEndD {fn : Func} {p p' u : Tmp} (hres : fn.results = #[.cell p 33, .cell p' 33, .tmp u]) {w W : World} {T : Array Value} {R R' : Nat} {a b a' b' : Value} {x y x' y' : Int} {ok : Bool} (rs : Own W R [a, b]) (rs' : Own W R' [a', b']) (hb : Below w.heap.size w W)
    (hR : w.heap.size ≤ R) (hR' : w.heap.size ≤ R') (hne : R ≠ R')
    (ht : T.getD p undef = .pointer (some ⟨R, 0, none⟩)) (ht' : T.getD p' undef = .pointer (some ⟨R', 0, none⟩)) (hk : T.getD u undef = .bool ok) :
    bodyPost Try.prog fn (TwoOut2 w x y x' y' ok) Exit.ret { tmps := T, defers := [] } ((((W.setCell ⟨R, 0, none⟩ (.int .i64 x)).setCell ⟨R, 1, none⟩ (.int .i64 y)).setCell ⟨R', 0, none⟩ (.int .i64 x')).setCell ⟨R', 1, none⟩ (.int .i64 y')).drew :=
  twoEnd hres ((((rs.set (i := 0) (.int .i64 x) (by simp)).set (i := 1) (.int .i64 y) (by simp)).other (j := R') (i := 0) _ (Ne.symm hne)).other (j := R') (i := 1) _ (Ne.symm hne)).drew
    ((((rs'.other (j := R) (i := 0) _ hne).other (j := R) (i := 1) _ hne).set (i := 0) (.int .i64 x') (by simp)).set (i := 1) (.int .i64 y') (by simp)).drew
    ((((hb.setCell (p := ⟨R, 0, none⟩) hR _).setCell (p := ⟨R, 1, none⟩) hR _).setCell (p := ⟨R', 0, none⟩) hR' _).setCell (p := ⟨R', 1, none⟩) hR' _).drew ht ht' hk

set_option maxHeartbeats 2000000 in
theorem implSplit (w : World) (n x y : Int) (h1 : (Lit.int .i64 x).wf = true) (h2 : (Lit.int .i64 y).wf = true) (hk : pokI n x y = true) (hg2 : 2 ≤ gapI x y) :
    Calls Try.prog 53 #[.int .i64 n, .agg #[.int .i64 x, .int .i64 y]] w (TwoOut2 w x (midI x y) (midI x y) y true) := by
  have hp := fun W => implPairOk W n x y h1 h2
  have hg := fun W => spanOf W x y h1 h2
  have hm := fun W => implMid W x y h1 h2
  rw [hk] at hp
  have hf1 := field1
  generalize gapI x y = g at *
  generalize midI x y = m at *
  have o0 := ((Own.new w #[.int .i64 x, .int .i64 y] 33).alloc (.cells #[.int .i64 0, .int .i64 0] 33)).alloc (.cells #[.int .i64 0, .int .i64 0] 33)
  have o1 := (Own.new (w.alloc (.cells #[.int .i64 x, .int .i64 y] 33)) #[.int .i64 0, .int .i64 0] 33).alloc (.cells #[.int .i64 0, .int .i64 0] 33)
  have o2 := Own.new ((w.alloc (.cells #[.int .i64 x, .int .i64 y] 33)).alloc (.cells #[.int .i64 0, .int .i64 0] 33)) #[.int .i64 0, .int .i64 0] 33
  rw [World.size_alloc] at o1
  rw [World.size_alloc, World.size_alloc] at o2
  have hb := (((Below.refl _ w).alloc (Nat.le_refl _) (.cells #[.int .i64 x, .int .i64 y] 33)).alloc (by simp) (.cells #[.int .i64 0, .int .i64 0] 33)).alloc (by simp; omega) (.cells #[.int .i64 0, .int .i64 0] 33)
  have c0 := o0.cell 0 _ rfl
  have c1 := o0.cell 1 _ rfl
  go_enter Try.func53, Try.ntmps53
  go_wp2_with first
    | (go_at_call 79; refine (hp _).mono ?_; clear hp; rintro e w2 ⟨rfl, q⟩; replace o0 := o0.below q; replace o1 := o1.below q; replace o2 := o2.below q; replace hb := hb.trans (q.mono hb.size); clear q; have c0 := o0.cell 0 _ rfl; have c1 := o0.cell 1 _ rfl)
    | (go_at_call 83; refine (hg _).mono ?_; clear hg; rintro e w3 ⟨rfl, q⟩; replace o0 := o0.below q; replace o1 := o1.below q; replace o2 := o2.below q; replace hb := hb.trans (q.mono hb.size); clear q; have c0 := o0.cell 0 _ rfl; have c1 := o0.cell 1 _ rfl; have r0 := o1.cell 0 _ rfl; have r1 := o1.cell 1 _ rfl; have f0 := o1.frz 0 _ rfl; have f1 := o1.frz 1 _ rfl; have s0 := o2.cell 0 _ rfl; have s1 := o2.cell 1 _ rfl; have t0 := o2.frz 0 _ rfl; have t1 := o2.frz 1 _ rfl)
    | (go_at_call 33; refine (hm _).mono ?_; clear hm; rintro e w4 ⟨rfl, rfl⟩)
  go_region
  go_wp2
  exact twoEndD rfl o1 o2 hb (by omega) (by omega) (by omega) rfl rfl rfl

set_option maxHeartbeats 2000000 in
theorem implSplitNo (w : World) (n x y : Int) (h1 : (Lit.int .i64 x).wf = true) (h2 : (Lit.int .i64 y).wf = true) (hk : splitB n x y = false) :
    Calls Try.prog 53 #[.int .i64 n, .agg #[.int .i64 x, .int .i64 y]] w (TwoOut2 w 0 0 0 0 false) := by
  have hp := fun W => implPairOk W n x y h1 h2
  have hg := fun W => spanOf W x y h1 h2
  have hf1 := field1
  unfold splitB at hk
  generalize gapI x y = g at *
  generalize pokI n x y = k at *
  have o0 := ((Own.new w #[.int .i64 x, .int .i64 y] 33).alloc (.cells #[.int .i64 0, .int .i64 0] 33)).alloc (.cells #[.int .i64 0, .int .i64 0] 33)
  have o1 := (Own.new (w.alloc (.cells #[.int .i64 x, .int .i64 y] 33)) #[.int .i64 0, .int .i64 0] 33).alloc (.cells #[.int .i64 0, .int .i64 0] 33)
  have o2 := Own.new ((w.alloc (.cells #[.int .i64 x, .int .i64 y] 33)).alloc (.cells #[.int .i64 0, .int .i64 0] 33)) #[.int .i64 0, .int .i64 0] 33
  rw [World.size_alloc] at o1
  rw [World.size_alloc, World.size_alloc] at o2
  have hb := (((Below.refl _ w).alloc (Nat.le_refl _) (.cells #[.int .i64 x, .int .i64 y] 33)).alloc (by simp) (.cells #[.int .i64 0, .int .i64 0] 33)).alloc (by simp; omega) (.cells #[.int .i64 0, .int .i64 0] 33)
  have c0 := o0.cell 0 _ rfl
  have c1 := o0.cell 1 _ rfl
  cases k
  · go_enter Try.func53, Try.ntmps53
    go_wp2_with first
      | (go_at_call 79; refine (hp _).mono ?_; clear hp; rintro e w2 ⟨rfl, q⟩; replace o0 := o0.below q; replace o1 := o1.below q; replace o2 := o2.below q; replace hb := hb.trans (q.mono hb.size); clear q; have c0 := o0.cell 0 _ rfl; have c1 := o0.cell 1 _ rfl; have r0 := o1.cell 0 _ rfl; have r1 := o1.cell 1 _ rfl; have f0 := o1.frz 0 _ rfl; have f1 := o1.frz 1 _ rfl; have s0 := o2.cell 0 _ rfl; have s1 := o2.cell 1 _ rfl; have t0 := o2.frz 0 _ rfl; have t1 := o2.frz 1 _ rfl)
      | (go_at_call 83; refine (hg _).mono ?_; clear hg; rintro e w3 ⟨rfl, q⟩; replace o0 := o0.below q; replace o1 := o1.below q; replace o2 := o2.below q; replace hb := hb.trans (q.mono hb.size); clear q; have c0 := o0.cell 0 _ rfl; have c1 := o0.cell 1 _ rfl; have r0 := o1.cell 0 _ rfl; have r1 := o1.cell 1 _ rfl; have f0 := o1.frz 0 _ rfl; have f1 := o1.frz 1 _ rfl; have s0 := o2.cell 0 _ rfl; have s1 := o2.cell 1 _ rfl; have t0 := o2.frz 0 _ rfl; have t1 := o2.frz 1 _ rfl)
    exact twoEndS rfl o1 o2 hb (by omega) (by omega) (by omega) rfl rfl rfl
  · have hg2 : g < 2 := by simpa using hk
    go_enter Try.func53, Try.ntmps53
    go_wp2_with first
      | (go_at_call 79; refine (hp _).mono ?_; clear hp; rintro e w2 ⟨rfl, q⟩; replace o0 := o0.below q; replace o1 := o1.below q; replace o2 := o2.below q; replace hb := hb.trans (q.mono hb.size); clear q; have c0 := o0.cell 0 _ rfl; have c1 := o0.cell 1 _ rfl; have r0 := o1.cell 0 _ rfl; have r1 := o1.cell 1 _ rfl; have f0 := o1.frz 0 _ rfl; have f1 := o1.frz 1 _ rfl; have s0 := o2.cell 0 _ rfl; have s1 := o2.cell 1 _ rfl; have t0 := o2.frz 0 _ rfl; have t1 := o2.frz 1 _ rfl)
      | (go_at_call 83; refine (hg _).mono ?_; clear hg; rintro e w3 ⟨rfl, q⟩; replace o0 := o0.below q; replace o1 := o1.below q; replace o2 := o2.below q; replace hb := hb.trans (q.mono hb.size); clear q; have c0 := o0.cell 0 _ rfl; have c1 := o0.cell 1 _ rfl; have r0 := o1.cell 0 _ rfl; have r1 := o1.cell 1 _ rfl; have f0 := o1.frz 0 _ rfl; have f1 := o1.frz 1 _ rfl; have s0 := o2.cell 0 _ rfl; have s1 := o2.cell 1 _ rfl; have t0 := o2.frz 0 _ rfl; have t1 := o2.frz 1 _ rfl)
    exact twoEndS rfl o1 o2 hb (by omega) (by omega) (by omega) rfl rfl rfl

theorem implSplitA (w : World) (n x y : Int) (h1 : (Lit.int .i64 x).wf = true) (h2 : (Lit.int .i64 y).wf = true) :
    Calls Try.prog 53 #[.int .i64 n, .agg #[.int .i64 x, .int .i64 y]] w (TwoOut2 w (if splitB n x y = true then x else 0) (if splitB n x y = true then midI x y else 0) (if splitB n x y = true then midI x y else 0) (if splitB n x y = true then y else 0) (splitB n x y)) := by
  by_cases h : splitB n x y = true
  · have h' := h
    unfold splitB at h'
    rw [Bool.and_eq_true, decide_eq_true_eq] at h'
    rw [if_pos h, if_pos h, if_pos h, h]
    exact implSplit w n x y h1 h2 h'.1 h'.2
  · rw [if_neg h, if_neg h, if_neg h]
    rw [Bool.not_eq_true] at h
    rw [h]
    exact implSplitNo w n x y h1 h2 h

end Go.Proofs.Yteohgmmenlinbaa
