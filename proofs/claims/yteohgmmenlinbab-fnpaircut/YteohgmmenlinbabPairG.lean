/- The program's spans, and PairSplit of the model and of the program: contracts. -/
import Derived.Test.YteohgmmenlinbabPairA
import Derived.Test.YteohgmmenlinbabRegInv
import Derived.Test.YteohgmmenlinbabPairE
import Derived.Test.YteohgmmenlinbabMid
import Derived.Test.YteohgmmenlinbabSMid
namespace Go.Proofs.Yteohgmmenlinbab
open Go.ChangeShapes Go.WideShapes Go.ChangeAt Go.RowKit
set_option linter.unusedVariables false

def SpanOut (w : World) (x y g : Int) (e : Ending) (w' : World) : Prop := e = .returned (.agg #[.int .i64 x, .int .i64 y, .int .u64 g]) ∧ Below w.heap.size w w'

set_option maxHeartbeats 2000000 in
theorem spanOf (w : World) (x y : Int) (h1 : (Lit.int .i64 x).wf = true) (h2 : (Lit.int .i64 y).wf = true) :
    Calls Try.prog 44 #[.agg #[.int .i64 x, .int .i64 y]] w (SpanOut w x y (gapI x y)) := by
  have hg := fun W => implGap W x y h1 h2
  generalize gapI x y = g at *
  have o0 := (Own.new w #[.int .i64 x, .int .i64 y] 24).alloc (.cells #[.int .i64 0, .int .i64 0, .int .u64 0] 67)
  have o2 := Own.new (w.alloc (.cells #[.int .i64 x, .int .i64 y] 24)) #[.int .i64 0, .int .i64 0, .int .u64 0] 67
  rw [World.size_alloc] at o2
  have hb := ((Below.refl _ w).alloc (Nat.le_refl _) (.cells #[.int .i64 x, .int .i64 y] 24)).alloc (by simp) (.cells #[.int .i64 0, .int .i64 0, .int .u64 0] 67)
  go_enter Try.func44, Try.ntmps44
  go_wp2
  generalize (w.alloc (.cells #[.int .i64 x, .int .i64 y] 24)).alloc (.cells #[.int .i64 0, .int .i64 0, .int .u64 0] 67) = WA at *
  have c0 := o0.cell 0 _ rfl
  have c1 := o0.cell 1 _ rfl
  have l0 := o0.lt
  have l2 := o2.lt
  refine region_steps (by kernel_rfl) (by kernel_rfl) (by kernel_rfl) (fun A0 f a W => ∃ (x3 : Value) (x4 : Value) (x5 : Value) (x6 : Value) (x7 : Value) (x8 : Value) (x9 : Value), a = { tmps := #[.agg #[.int .i64 x, .int .i64 y], .pointer (some ⟨w.heap.size, 0, none⟩), .pointer (some ⟨w.heap.size + 1, 0, none⟩), x3, x4, x5, x6, x7, x8, x9], defers := [] } ∧ (f 0 = true → x3 = .agg #[.int .i64 x, .int .i64 y]) ∧ (f 1 = true → x4 = .pointer (some ⟨w.heap.size, 0, none⟩)) ∧ (f 2 = true → x5 = .int .i64 x) ∧ (f 3 = true → x6 = .pointer (some ⟨w.heap.size, 1, none⟩)) ∧ (f 4 = true → x7 = .int .i64 y) ∧ (f 5 = true → x8 = .int .u64 g) ∧ (f 6 = true → x9 = .agg #[.int .i64 x, .int .i64 y, .int .u64 g]) ∧ ((f 7 = false → Own W (w.heap.size + 1) [.int .i64 0, .int .i64 0, .int .u64 0]) ∧ (f 7 = true → Own W (w.heap.size + 1) [.int .i64 x, .int .i64 y, .int .u64 g])) ∧ Keep (w.heap.size + 1) WA W) ?_ ⟨?_, ?_, ?_, ?_, ?_, ?_, ?_, ?_, trivial⟩ ?_
  · exact ⟨undef, undef, undef, undef, undef, undef, undef, rfl, (fun h => (by cases h)), (fun h => (by cases h)), (fun h => (by cases h)), (fun h => (by cases h)), (fun h => (by cases h)), (fun h => (by cases h)), (fun h => (by cases h)), ⟨fun _ => o2.drew, (fun h => (by cases h))⟩, (Keep.refl _ _).drew⟩
  · rintro f a W ⟨x3, x4, x5, x6, x7, x8, x9, rfl, h0, h1, h2, h3, h4, h5, h6, rz, hB⟩ hf hd K hK
    have r0 := (hB.cell (p := ⟨w.heap.size, 0, none⟩) l0 (show (w.heap.size : Nat) ≠ w.heap.size + 1 by omega)).trans c0
    have r1 := (hB.cell (p := ⟨w.heap.size, 1, none⟩) l0 (show (w.heap.size : Nat) ≠ w.heap.size + 1 by omega)).trans c1
    go_simp
    refine hK _ _ ?_
    exact ⟨_, x4, x5, x6, x7, x8, x9, rfl, fun _ => rfl, fun h => h1 (upd_ne (by decide) h), fun h => h2 (upd_ne (by decide) h), fun h => h3 (upd_ne (by decide) h), fun h => h4 (upd_ne (by decide) h), fun h => h5 (upd_ne (by decide) h), fun h => h6 (upd_ne (by decide) h), (by obtain ⟨p4, p5⟩ := rz; exact ⟨fun h' => p4 (by rw [upd_same (by decide)] at h'; exact h'), fun h' => p5 (upd_ne (by decide) h')⟩), hB⟩
  · rintro f a W ⟨x3, x4, x5, x6, x7, x8, x9, rfl, h0, h1, h2, h3, h4, h5, h6, rz, hB⟩ hf hd K hK
    go_simp
    refine hK _ _ ?_
    exact ⟨x3, _, x5, x6, x7, x8, x9, rfl, fun h => h0 (upd_ne (by decide) h), fun _ => rfl, fun h => h2 (upd_ne (by decide) h), fun h => h3 (upd_ne (by decide) h), fun h => h4 (upd_ne (by decide) h), fun h => h5 (upd_ne (by decide) h), fun h => h6 (upd_ne (by decide) h), (by obtain ⟨p4, p5⟩ := rz; exact ⟨fun h' => p4 (by rw [upd_same (by decide)] at h'; exact h'), fun h' => p5 (upd_ne (by decide) h')⟩), hB⟩
  · rintro f a W ⟨x3, x4, x5, x6, x7, x8, x9, rfl, h0, h1, h2, h3, h4, h5, h6, rz, hB⟩ hf hd K hK
    have e1 := h1 (dep_of hd (e := ⟨1, .data⟩) (by simp) rfl)
    subst e1
    have r0 := (hB.cell (p := ⟨w.heap.size, 0, none⟩) l0 (show (w.heap.size : Nat) ≠ w.heap.size + 1 by omega)).trans c0
    go_simp
    refine hK _ _ ?_
    exact ⟨x3, _, _, x6, x7, x8, x9, rfl, fun h => h0 (upd_ne (by decide) h), fun _ => rfl, fun _ => rfl, fun h => h3 (upd_ne (by decide) h), fun h => h4 (upd_ne (by decide) h), fun h => h5 (upd_ne (by decide) h), fun h => h6 (upd_ne (by decide) h), (by obtain ⟨p4, p5⟩ := rz; exact ⟨fun h' => p4 (by rw [upd_same (by decide)] at h'; exact h'), fun h' => p5 (upd_ne (by decide) h')⟩), hB⟩
  · rintro f a W ⟨x3, x4, x5, x6, x7, x8, x9, rfl, h0, h1, h2, h3, h4, h5, h6, rz, hB⟩ hf hd K hK
    go_simp
    refine hK _ _ ?_
    exact ⟨x3, x4, x5, _, x7, x8, x9, rfl, fun h => h0 (upd_ne (by decide) h), fun h => h1 (upd_ne (by decide) h), fun h => h2 (upd_ne (by decide) h), fun _ => rfl, fun h => h4 (upd_ne (by decide) h), fun h => h5 (upd_ne (by decide) h), fun h => h6 (upd_ne (by decide) h), (by obtain ⟨p4, p5⟩ := rz; exact ⟨fun h' => p4 (by rw [upd_same (by decide)] at h'; exact h'), fun h' => p5 (upd_ne (by decide) h')⟩), hB⟩
  · rintro f a W ⟨x3, x4, x5, x6, x7, x8, x9, rfl, h0, h1, h2, h3, h4, h5, h6, rz, hB⟩ hf hd K hK
    have e3 := h3 (dep_of hd (e := ⟨3, .data⟩) (by simp) rfl)
    subst e3
    have r0 := (hB.cell (p := ⟨w.heap.size, 1, none⟩) l0 (show (w.heap.size : Nat) ≠ w.heap.size + 1 by omega)).trans c1
    go_simp
    refine hK _ _ ?_
    exact ⟨x3, x4, x5, _, _, x8, x9, rfl, fun h => h0 (upd_ne (by decide) h), fun h => h1 (upd_ne (by decide) h), fun h => h2 (upd_ne (by decide) h), fun _ => rfl, fun _ => rfl, fun h => h5 (upd_ne (by decide) h), fun h => h6 (upd_ne (by decide) h), (by obtain ⟨p4, p5⟩ := rz; exact ⟨fun h' => p4 (by rw [upd_same (by decide)] at h'; exact h'), fun h' => p5 (upd_ne (by decide) h')⟩), hB⟩
  · rintro f a W ⟨x3, x4, x5, x6, x7, x8, x9, rfl, h0, h1, h2, h3, h4, h5, h6, rz, hB⟩ hf hd K hK
    have e2 := h2 (dep_of hd (e := ⟨2, .data⟩) (by simp) rfl)
    subst e2
    have e4 := h4 (dep_of hd (e := ⟨4, .data⟩) (by simp) rfl)
    subst e4
    go_simp
    refine (hg _).mono ?_
    rintro e W2 ⟨rfl, rfl⟩
    refine hK _ _ ?_
    exact ⟨x3, x4, _, x6, _, _, x9, rfl, fun h => h0 (upd_ne (by decide) h), fun h => h1 (upd_ne (by decide) h), fun _ => rfl, fun h => h3 (upd_ne (by decide) h), fun _ => rfl, fun _ => rfl, fun h => h6 (upd_ne (by decide) h), (by obtain ⟨p4, p5⟩ := rz; exact ⟨fun h' => p4 (by rw [upd_same (by decide)] at h'; exact h'), fun h' => p5 (upd_ne (by decide) h')⟩), hB⟩
  · rintro f a W ⟨x3, x4, x5, x6, x7, x8, x9, rfl, h0, h1, h2, h3, h4, h5, h6, rz, hB⟩ hf hd K hK
    have e0 := h0 (dep_of hd (e := ⟨0, .data⟩) (by simp) rfl)
    subst e0
    have e5 := h5 (dep_of hd (e := ⟨5, .data⟩) (by simp) rfl)
    subst e5
    go_simp
    refine hK _ _ ?_
    exact ⟨_, x4, x5, x6, x7, _, _, rfl, fun _ => rfl, fun h => h1 (upd_ne (by decide) h), fun h => h2 (upd_ne (by decide) h), fun h => h3 (upd_ne (by decide) h), fun h => h4 (upd_ne (by decide) h), fun _ => rfl, fun _ => rfl, (by obtain ⟨p4, p5⟩ := rz; exact ⟨fun h' => p4 (by rw [upd_same (by decide)] at h'; exact h'), fun h' => p5 (upd_ne (by decide) h')⟩), hB⟩
  · rintro f a W ⟨x3, x4, x5, x6, x7, x8, x9, rfl, h0, h1, h2, h3, h4, h5, h6, rz, hB⟩ hf hd K hK
    have e6 := h6 (dep_of hd (e := ⟨6, .data⟩) (by simp) rfl)
    subst e6
    have oz := rz.1 hf
    have r0 := oz.cell 0 _ rfl
    have o0 := oz.frz 0 _ rfl
    have r1 := oz.cell 1 _ rfl
    have o1 := oz.frz 1 _ rfl
    have r2 := oz.cell 2 _ rfl
    have o2 := oz.frz 2 _ rfl
    go_simp
    refine hK _ _ ?_
    exact ⟨x3, x4, x5, x6, x7, x8, _, rfl, fun h => h0 (upd_ne (by decide) h), fun h => h1 (upd_ne (by decide) h), fun h => h2 (upd_ne (by decide) h), fun h => h3 (upd_ne (by decide) h), fun h => h4 (upd_ne (by decide) h), fun h => h5 (upd_ne (by decide) h), fun _ => rfl, ⟨fun h' => (by rw [upd_self] at h'; cases h'), fun _ => Own.set (i := 2) (Own.set (i := 1) (Own.set (i := 0) (oz) _ (by simp)) _ (by simp)) _ (by simp)⟩, (((hB.setCell (p := ⟨w.heap.size + 1, 0, none⟩) rfl _).setCell (p := ⟨w.heap.size + 1, 1, none⟩) rfl _).setCell (p := ⟨w.heap.size + 1, 2, none⟩) rfl _)⟩
  rintro f a WC ⟨x3, x4, x5, x6, x7, x8, x9, rfl, h0, h1, h2, h3, h4, h5, h6, rz, qB⟩ hall
  have e0 := h0 (hall 0 (by decide))
  subst e0
  have e1 := h1 (hall 1 (by decide))
  subst e1
  have e2 := h2 (hall 2 (by decide))
  subst e2
  have e3 := h3 (hall 3 (by decide))
  subst e3
  have e4 := h4 (hall 4 (by decide))
  subst e4
  have e5 := h5 (hall 5 (by decide))
  subst e5
  have e6 := h6 (hall 6 (by decide))
  subst e6
  replace rz := rz.2 (hall 7 (by decide))
  clear hall h0 h1 h2 h3 h4 h5 h6
  try dsimp only
  go_wp2
  have s0 := rz.cell 0 _ rfl
  have s1 := rz.cell 1 _ rfl
  have s2 := rz.cell 2 _ rfl
  refine bodyPost_ret (v := .agg #[.int .i64 x, .int .i64 y, .int .u64 g]) ?_ rfl ⟨rfl, hb.trans (qB.below (by omega) hb.size)⟩
  simp [results, Try.f44, go_sem, s0, s1, s2]

theorem field1 (a b c : Value) (w : World) : Sem.run Try.prog (Instr.field 67 (.agg #[a, b, c]) 1) w = .ok c w := by kernel_rfl
theorem field0 (a b c : Value) (w : World) : Sem.run Try.prog (Instr.field 67 (.agg #[a, b, c]) 0) w = .ok (.agg #[a, b]) w := by kernel_rfl

theorem l3gap (w : World) (x y : Int) (h1 : (Lit.int .i64 x).wf = true) (h2 : (Lit.int .i64 y).wf = true) :
    Calls Try.prog 50 #[.agg #[.int .i64 x, .int .i64 y]] w fun e w' => e = .returned (.int .u64 (gapI x y)) ∧ Below w.heap.size w w' := by
  have hg := fun W => specGap W x y h1 h2
  generalize gapI x y = g at *
  go_enter Try.func50, Try.ntmps50
  go_wp2_with (go_at_call 11; refine (hg _).mono ?_; clear hg; rintro e w1 ⟨rfl, rfl⟩)
  go_ret
  exact ⟨rfl, by repeat (first | exact Below.refl _ _ | refine Below.drew ?_ | refine Below.alloc ?_ (by simp; try omega) _)⟩

theorem mid_split {n x y : Int} (h1 : (Lit.int .i64 x).wf = true) (h2 : (Lit.int .i64 y).wf = true) : (Lit.int .i64 (midI x y)).wf = true := (mid_bounds h1 h2).2.2

def splitB (n x y : Int) : Bool := pokI n x y && decide (2 ≤ gapI x y)

/-- The end of a function that returns two pairs and a bool. -/
theorem twoEnd {fn : Func} {p p' u : Tmp} (hres : fn.results = #[.cell p 24, .cell p' 24, .tmp u]) {w W : World} {T : Array Value} {R R' : Nat} {x y x' y' : Int} {ok : Bool} (rs : Own W R [.int .i64 x, .int .i64 y]) (rs' : Own W R' [.int .i64 x', .int .i64 y']) (hb : Below w.heap.size w W)
    (ht : T.getD p undef = .pointer (some ⟨R, 0, none⟩)) (ht' : T.getD p' undef = .pointer (some ⟨R', 0, none⟩)) (hk : T.getD u undef = .bool ok) :
    bodyPost Try.prog fn (TwoOut2 w x y x' y' ok) Exit.ret { tmps := T, defers := [] } W := by
  have c0 := rs.cell 0 _ rfl
  have c1 := rs.cell 1 _ rfl
  have d0 := rs'.cell 0 _ rfl
  have d1 := rs'.cell 1 _ rfl
  refine bodyPost_ret (v := .tuple #[.agg #[.int .i64 x, .int .i64 y], .agg #[.int .i64 x', .int .i64 y'], .bool ok]) ?_ rfl ⟨rfl, hb⟩
  simp at ht ht' hk
  simp [results, hres, go_sem, ht, ht', hk, c0, c1, d0, d1]

theorem twoEndS {fn : Func} {p p' u : Tmp} (hres : fn.results = #[.cell p 24, .cell p' 24, .tmp u]) {w W : World} {T : Array Value} {R R' : Nat} {a b a' b' : Value} {x y x' y' : Int} {ok : Bool} (rs : Own W R [a, b]) (rs' : Own W R' [a', b']) (hb : Below w.heap.size w W)
    (hR : w.heap.size ≤ R) (hR' : w.heap.size ≤ R') (hne : R ≠ R')
    (ht : T.getD p undef = .pointer (some ⟨R, 0, none⟩)) (ht' : T.getD p' undef = .pointer (some ⟨R', 0, none⟩)) (hk : T.getD u undef = .bool ok) :
    bodyPost Try.prog fn (TwoOut2 w x y x' y' ok) Exit.ret { tmps := T, defers := [] } ((((W.setCell ⟨R, 0, none⟩ (.int .i64 x)).setCell ⟨R, 1, none⟩ (.int .i64 y)).setCell ⟨R', 0, none⟩ (.int .i64 x')).setCell ⟨R', 1, none⟩ (.int .i64 y')) :=
  twoEnd hres ((((rs.set (i := 0) (.int .i64 x) (by simp)).set (i := 1) (.int .i64 y) (by simp)).other (j := R') (i := 0) _ (Ne.symm hne)).other (j := R') (i := 1) _ (Ne.symm hne))
    ((((rs'.other (j := R) (i := 0) _ hne).other (j := R) (i := 1) _ hne).set (i := 0) (.int .i64 x') (by simp)).set (i := 1) (.int .i64 y') (by simp))
    ((((hb.setCell (p := ⟨R, 0, none⟩) hR _).setCell (p := ⟨R, 1, none⟩) hR _).setCell (p := ⟨R', 0, none⟩) hR' _).setCell (p := ⟨R', 1, none⟩) hR' _) ht ht' hk

theorem twoEndD {fn : Func} {p p' u : Tmp} (hres : fn.results = #[.cell p 24, .cell p' 24, .tmp u]) {w W : World} {T : Array Value} {R R' : Nat} {a b a' b' : Value} {x y x' y' : Int} {ok : Bool} (rs : Own W R [a, b]) (rs' : Own W R' [a', b']) (hb : Below w.heap.size w W)
    (hR : w.heap.size ≤ R) (hR' : w.heap.size ≤ R') (hne : R ≠ R')
    (ht : T.getD p undef = .pointer (some ⟨R, 0, none⟩)) (ht' : T.getD p' undef = .pointer (some ⟨R', 0, none⟩)) (hk : T.getD u undef = .bool ok) :
    bodyPost Try.prog fn (TwoOut2 w x y x' y' ok) Exit.ret { tmps := T, defers := [] } ((((W.setCell ⟨R, 0, none⟩ (.int .i64 x)).setCell ⟨R, 1, none⟩ (.int .i64 y)).setCell ⟨R', 0, none⟩ (.int .i64 x')).setCell ⟨R', 1, none⟩ (.int .i64 y')).drew :=
  twoEnd hres ((((rs.set (i := 0) (.int .i64 x) (by simp)).set (i := 1) (.int .i64 y) (by simp)).other (j := R') (i := 0) _ (Ne.symm hne)).other (j := R') (i := 1) _ (Ne.symm hne)).drew
    ((((rs'.other (j := R) (i := 0) _ hne).other (j := R) (i := 1) _ hne).set (i := 0) (.int .i64 x') (by simp)).set (i := 1) (.int .i64 y') (by simp)).drew
    ((((hb.setCell (p := ⟨R, 0, none⟩) hR _).setCell (p := ⟨R, 1, none⟩) hR _).setCell (p := ⟨R', 0, none⟩) hR' _).setCell (p := ⟨R', 1, none⟩) hR' _).drew ht ht' hk

set_option maxHeartbeats 2000000 in
theorem specSplit (w : World) (n x y : Int) (h1 : (Lit.int .i64 x).wf = true) (h2 : (Lit.int .i64 y).wf = true) (hk : pokI n x y = true) (hg2 : 2 ≤ gapI x y) :
    Calls Try.prog 61 #[.int .i64 n, .agg #[.int .i64 x, .int .i64 y]] w (TwoOut2 w x (midI x y) (midI x y) y true) := by
  have hp := fun W => specPairOk W n x y h1 h2
  have hg := fun W => l3gap W x y h1 h2
  have hm := fun W => specMid W x y h1 h2
  rw [hk] at hp
  generalize gapI x y = g at *
  generalize midI x y = m at *
  have o0 := ((Own.new w #[.int .i64 x, .int .i64 y] 24).alloc (.cells #[.int .i64 0, .int .i64 0] 24)).alloc (.cells #[.int .i64 0, .int .i64 0] 24)
  have o1 := (Own.new (w.alloc (.cells #[.int .i64 x, .int .i64 y] 24)) #[.int .i64 0, .int .i64 0] 24).alloc (.cells #[.int .i64 0, .int .i64 0] 24)
  have o2 := Own.new ((w.alloc (.cells #[.int .i64 x, .int .i64 y] 24)).alloc (.cells #[.int .i64 0, .int .i64 0] 24)) #[.int .i64 0, .int .i64 0] 24
  rw [World.size_alloc] at o1
  rw [World.size_alloc, World.size_alloc] at o2
  have hb := (((Below.refl _ w).alloc (Nat.le_refl _) (.cells #[.int .i64 x, .int .i64 y] 24)).alloc (by simp) (.cells #[.int .i64 0, .int .i64 0] 24)).alloc (by simp; omega) (.cells #[.int .i64 0, .int .i64 0] 24)
  have c0 := o0.cell 0 _ rfl
  have c1 := o0.cell 1 _ rfl
  go_enter Try.func61, Try.ntmps61
  go_wp2_with first
    | (go_at_call 21; refine (hp _).mono ?_; clear hp; rintro e w2 ⟨rfl, q⟩; replace o0 := o0.below q; replace o1 := o1.below q; replace o2 := o2.below q; replace hb := hb.trans (q.mono hb.size); clear q; have c0 := o0.cell 0 _ rfl; have c1 := o0.cell 1 _ rfl)
    | (go_at_call 50; refine (hg _).mono ?_; clear hg; rintro e w3 ⟨rfl, q⟩; replace o0 := o0.below q; replace o1 := o1.below q; replace o2 := o2.below q; replace hb := hb.trans (q.mono hb.size); clear q; have c0 := o0.cell 0 _ rfl; have c1 := o0.cell 1 _ rfl; have r0 := o1.cell 0 _ rfl; have r1 := o1.cell 1 _ rfl; have f0 := o1.frz 0 _ rfl; have f1 := o1.frz 1 _ rfl; have s0 := o2.cell 0 _ rfl; have s1 := o2.cell 1 _ rfl; have t0 := o2.frz 0 _ rfl; have t1 := o2.frz 1 _ rfl)
    | (go_at_call 89; refine (hm _).mono ?_; clear hm; rintro e w4 ⟨rfl, rfl⟩)
  go_region
  go_wp2
  exact twoEndD rfl o1 o2 hb (by omega) (by omega) (by omega) rfl rfl rfl

set_option maxHeartbeats 2000000 in
theorem implSplit (w : World) (n x y : Int) (h1 : (Lit.int .i64 x).wf = true) (h2 : (Lit.int .i64 y).wf = true) (hk : pokI n x y = true) (hg2 : 2 ≤ gapI x y) :
    Calls Try.prog 10 #[.int .i64 n, .agg #[.int .i64 x, .int .i64 y]] w (TwoOut2 w x (midI x y) (midI x y) y true) := by
  have hp := fun W => implPairOk W n x y h1 h2
  have hg := fun W => spanOf W x y h1 h2
  have hm := fun W => implMid W x y h1 h2
  rw [hk] at hp
  have hf1 := field1
  generalize gapI x y = g at *
  generalize midI x y = m at *
  have o0 := ((Own.new w #[.int .i64 x, .int .i64 y] 24).alloc (.cells #[.int .i64 0, .int .i64 0] 24)).alloc (.cells #[.int .i64 0, .int .i64 0] 24)
  have o1 := (Own.new (w.alloc (.cells #[.int .i64 x, .int .i64 y] 24)) #[.int .i64 0, .int .i64 0] 24).alloc (.cells #[.int .i64 0, .int .i64 0] 24)
  have o2 := Own.new ((w.alloc (.cells #[.int .i64 x, .int .i64 y] 24)).alloc (.cells #[.int .i64 0, .int .i64 0] 24)) #[.int .i64 0, .int .i64 0] 24
  rw [World.size_alloc] at o1
  rw [World.size_alloc, World.size_alloc] at o2
  have hb := (((Below.refl _ w).alloc (Nat.le_refl _) (.cells #[.int .i64 x, .int .i64 y] 24)).alloc (by simp) (.cells #[.int .i64 0, .int .i64 0] 24)).alloc (by simp; omega) (.cells #[.int .i64 0, .int .i64 0] 24)
  have c0 := o0.cell 0 _ rfl
  have c1 := o0.cell 1 _ rfl
  go_enter Try.func10, Try.ntmps10
  go_wp2_with first
    | (go_at_call 13; refine (hp _).mono ?_; clear hp; rintro e w2 ⟨rfl, q⟩; replace o0 := o0.below q; replace o1 := o1.below q; replace o2 := o2.below q; replace hb := hb.trans (q.mono hb.size); clear q; have c0 := o0.cell 0 _ rfl; have c1 := o0.cell 1 _ rfl)
    | (go_at_call 44; refine (hg _).mono ?_; clear hg; rintro e w3 ⟨rfl, q⟩; replace o0 := o0.below q; replace o1 := o1.below q; replace o2 := o2.below q; replace hb := hb.trans (q.mono hb.size); clear q; have c0 := o0.cell 0 _ rfl; have c1 := o0.cell 1 _ rfl; have r0 := o1.cell 0 _ rfl; have r1 := o1.cell 1 _ rfl; have f0 := o1.frz 0 _ rfl; have f1 := o1.frz 1 _ rfl; have s0 := o2.cell 0 _ rfl; have s1 := o2.cell 1 _ rfl; have t0 := o2.frz 0 _ rfl; have t1 := o2.frz 1 _ rfl)
    | (go_at_call 45; refine (hm _).mono ?_; clear hm; rintro e w4 ⟨rfl, rfl⟩)
  go_region
  go_wp2
  exact twoEndD rfl o1 o2 hb (by omega) (by omega) (by omega) rfl rfl rfl

set_option maxHeartbeats 2000000 in
theorem specSplitNo (w : World) (n x y : Int) (h1 : (Lit.int .i64 x).wf = true) (h2 : (Lit.int .i64 y).wf = true) (hk : splitB n x y = false) :
    Calls Try.prog 61 #[.int .i64 n, .agg #[.int .i64 x, .int .i64 y]] w (TwoOut2 w 0 0 0 0 false) := by
  have hp := fun W => specPairOk W n x y h1 h2
  have hg := fun W => l3gap W x y h1 h2
  have hf1 := field1
  unfold splitB at hk
  generalize gapI x y = g at *
  generalize pokI n x y = k at *
  have o0 := ((Own.new w #[.int .i64 x, .int .i64 y] 24).alloc (.cells #[.int .i64 0, .int .i64 0] 24)).alloc (.cells #[.int .i64 0, .int .i64 0] 24)
  have o1 := (Own.new (w.alloc (.cells #[.int .i64 x, .int .i64 y] 24)) #[.int .i64 0, .int .i64 0] 24).alloc (.cells #[.int .i64 0, .int .i64 0] 24)
  have o2 := Own.new ((w.alloc (.cells #[.int .i64 x, .int .i64 y] 24)).alloc (.cells #[.int .i64 0, .int .i64 0] 24)) #[.int .i64 0, .int .i64 0] 24
  rw [World.size_alloc] at o1
  rw [World.size_alloc, World.size_alloc] at o2
  have hb := (((Below.refl _ w).alloc (Nat.le_refl _) (.cells #[.int .i64 x, .int .i64 y] 24)).alloc (by simp) (.cells #[.int .i64 0, .int .i64 0] 24)).alloc (by simp; omega) (.cells #[.int .i64 0, .int .i64 0] 24)
  have c0 := o0.cell 0 _ rfl
  have c1 := o0.cell 1 _ rfl
  cases k
  · go_enter Try.func61, Try.ntmps61
    go_wp2_with first
      | (go_at_call 21; refine (hp _).mono ?_; clear hp; rintro e w2 ⟨rfl, q⟩; replace o0 := o0.below q; replace o1 := o1.below q; replace o2 := o2.below q; replace hb := hb.trans (q.mono hb.size); clear q; have c0 := o0.cell 0 _ rfl; have c1 := o0.cell 1 _ rfl; have r0 := o1.cell 0 _ rfl; have r1 := o1.cell 1 _ rfl; have f0 := o1.frz 0 _ rfl; have f1 := o1.frz 1 _ rfl; have s0 := o2.cell 0 _ rfl; have s1 := o2.cell 1 _ rfl; have t0 := o2.frz 0 _ rfl; have t1 := o2.frz 1 _ rfl)
      | (go_at_call 50; refine (hg _).mono ?_; clear hg; rintro e w3 ⟨rfl, q⟩; replace o0 := o0.below q; replace o1 := o1.below q; replace o2 := o2.below q; replace hb := hb.trans (q.mono hb.size); clear q; have c0 := o0.cell 0 _ rfl; have c1 := o0.cell 1 _ rfl; have r0 := o1.cell 0 _ rfl; have r1 := o1.cell 1 _ rfl; have f0 := o1.frz 0 _ rfl; have f1 := o1.frz 1 _ rfl; have s0 := o2.cell 0 _ rfl; have s1 := o2.cell 1 _ rfl; have t0 := o2.frz 0 _ rfl; have t1 := o2.frz 1 _ rfl)
    exact twoEndS rfl o1 o2 hb (by omega) (by omega) (by omega) rfl rfl rfl
  · have hg2 : g < 2 := by simpa using hk
    go_enter Try.func61, Try.ntmps61
    go_wp2_with first
      | (go_at_call 21; refine (hp _).mono ?_; clear hp; rintro e w2 ⟨rfl, q⟩; replace o0 := o0.below q; replace o1 := o1.below q; replace o2 := o2.below q; replace hb := hb.trans (q.mono hb.size); clear q; have c0 := o0.cell 0 _ rfl; have c1 := o0.cell 1 _ rfl; have r0 := o1.cell 0 _ rfl; have r1 := o1.cell 1 _ rfl; have f0 := o1.frz 0 _ rfl; have f1 := o1.frz 1 _ rfl; have s0 := o2.cell 0 _ rfl; have s1 := o2.cell 1 _ rfl; have t0 := o2.frz 0 _ rfl; have t1 := o2.frz 1 _ rfl)
      | (go_at_call 50; refine (hg _).mono ?_; clear hg; rintro e w3 ⟨rfl, q⟩; replace o0 := o0.below q; replace o1 := o1.below q; replace o2 := o2.below q; replace hb := hb.trans (q.mono hb.size); clear q; have c0 := o0.cell 0 _ rfl; have c1 := o0.cell 1 _ rfl; have r0 := o1.cell 0 _ rfl; have r1 := o1.cell 1 _ rfl; have f0 := o1.frz 0 _ rfl; have f1 := o1.frz 1 _ rfl; have s0 := o2.cell 0 _ rfl; have s1 := o2.cell 1 _ rfl; have t0 := o2.frz 0 _ rfl; have t1 := o2.frz 1 _ rfl)
    exact twoEndS rfl o1 o2 hb (by omega) (by omega) (by omega) rfl rfl rfl

set_option maxHeartbeats 2000000 in
theorem implSplitNo (w : World) (n x y : Int) (h1 : (Lit.int .i64 x).wf = true) (h2 : (Lit.int .i64 y).wf = true) (hk : splitB n x y = false) :
    Calls Try.prog 10 #[.int .i64 n, .agg #[.int .i64 x, .int .i64 y]] w (TwoOut2 w 0 0 0 0 false) := by
  have hp := fun W => implPairOk W n x y h1 h2
  have hg := fun W => spanOf W x y h1 h2
  have hf1 := field1
  unfold splitB at hk
  generalize gapI x y = g at *
  generalize pokI n x y = k at *
  have o0 := ((Own.new w #[.int .i64 x, .int .i64 y] 24).alloc (.cells #[.int .i64 0, .int .i64 0] 24)).alloc (.cells #[.int .i64 0, .int .i64 0] 24)
  have o1 := (Own.new (w.alloc (.cells #[.int .i64 x, .int .i64 y] 24)) #[.int .i64 0, .int .i64 0] 24).alloc (.cells #[.int .i64 0, .int .i64 0] 24)
  have o2 := Own.new ((w.alloc (.cells #[.int .i64 x, .int .i64 y] 24)).alloc (.cells #[.int .i64 0, .int .i64 0] 24)) #[.int .i64 0, .int .i64 0] 24
  rw [World.size_alloc] at o1
  rw [World.size_alloc, World.size_alloc] at o2
  have hb := (((Below.refl _ w).alloc (Nat.le_refl _) (.cells #[.int .i64 x, .int .i64 y] 24)).alloc (by simp) (.cells #[.int .i64 0, .int .i64 0] 24)).alloc (by simp; omega) (.cells #[.int .i64 0, .int .i64 0] 24)
  have c0 := o0.cell 0 _ rfl
  have c1 := o0.cell 1 _ rfl
  cases k
  · go_enter Try.func10, Try.ntmps10
    go_wp2_with first
      | (go_at_call 13; refine (hp _).mono ?_; clear hp; rintro e w2 ⟨rfl, q⟩; replace o0 := o0.below q; replace o1 := o1.below q; replace o2 := o2.below q; replace hb := hb.trans (q.mono hb.size); clear q; have c0 := o0.cell 0 _ rfl; have c1 := o0.cell 1 _ rfl; have r0 := o1.cell 0 _ rfl; have r1 := o1.cell 1 _ rfl; have f0 := o1.frz 0 _ rfl; have f1 := o1.frz 1 _ rfl; have s0 := o2.cell 0 _ rfl; have s1 := o2.cell 1 _ rfl; have t0 := o2.frz 0 _ rfl; have t1 := o2.frz 1 _ rfl)
      | (go_at_call 44; refine (hg _).mono ?_; clear hg; rintro e w3 ⟨rfl, q⟩; replace o0 := o0.below q; replace o1 := o1.below q; replace o2 := o2.below q; replace hb := hb.trans (q.mono hb.size); clear q; have c0 := o0.cell 0 _ rfl; have c1 := o0.cell 1 _ rfl; have r0 := o1.cell 0 _ rfl; have r1 := o1.cell 1 _ rfl; have f0 := o1.frz 0 _ rfl; have f1 := o1.frz 1 _ rfl; have s0 := o2.cell 0 _ rfl; have s1 := o2.cell 1 _ rfl; have t0 := o2.frz 0 _ rfl; have t1 := o2.frz 1 _ rfl)
    exact twoEndS rfl o1 o2 hb (by omega) (by omega) (by omega) rfl rfl rfl
  · have hg2 : g < 2 := by simpa using hk
    go_enter Try.func10, Try.ntmps10
    go_wp2_with first
      | (go_at_call 13; refine (hp _).mono ?_; clear hp; rintro e w2 ⟨rfl, q⟩; replace o0 := o0.below q; replace o1 := o1.below q; replace o2 := o2.below q; replace hb := hb.trans (q.mono hb.size); clear q; have c0 := o0.cell 0 _ rfl; have c1 := o0.cell 1 _ rfl; have r0 := o1.cell 0 _ rfl; have r1 := o1.cell 1 _ rfl; have f0 := o1.frz 0 _ rfl; have f1 := o1.frz 1 _ rfl; have s0 := o2.cell 0 _ rfl; have s1 := o2.cell 1 _ rfl; have t0 := o2.frz 0 _ rfl; have t1 := o2.frz 1 _ rfl)
      | (go_at_call 44; refine (hg _).mono ?_; clear hg; rintro e w3 ⟨rfl, q⟩; replace o0 := o0.below q; replace o1 := o1.below q; replace o2 := o2.below q; replace hb := hb.trans (q.mono hb.size); clear q; have c0 := o0.cell 0 _ rfl; have c1 := o0.cell 1 _ rfl; have r0 := o1.cell 0 _ rfl; have r1 := o1.cell 1 _ rfl; have f0 := o1.frz 0 _ rfl; have f1 := o1.frz 1 _ rfl; have s0 := o2.cell 0 _ rfl; have s1 := o2.cell 1 _ rfl; have t0 := o2.frz 0 _ rfl; have t1 := o2.frz 1 _ rfl)
    exact twoEndS rfl o1 o2 hb (by omega) (by omega) (by omega) rfl rfl rfl

theorem specSplitA (w : World) (n x y : Int) (h1 : (Lit.int .i64 x).wf = true) (h2 : (Lit.int .i64 y).wf = true) :
    Calls Try.prog 61 #[.int .i64 n, .agg #[.int .i64 x, .int .i64 y]] w (TwoOut2 w (if splitB n x y = true then x else 0) (if splitB n x y = true then midI x y else 0) (if splitB n x y = true then midI x y else 0) (if splitB n x y = true then y else 0) (splitB n x y)) := by
  by_cases h : splitB n x y = true
  · have h' := h
    unfold splitB at h'
    rw [Bool.and_eq_true, decide_eq_true_eq] at h'
    rw [if_pos h, if_pos h, if_pos h, h]
    exact specSplit w n x y h1 h2 h'.1 h'.2
  · rw [if_neg h, if_neg h, if_neg h]
    rw [Bool.not_eq_true] at h
    rw [h]
    exact specSplitNo w n x y h1 h2 h

theorem implSplitA (w : World) (n x y : Int) (h1 : (Lit.int .i64 x).wf = true) (h2 : (Lit.int .i64 y).wf = true) :
    Calls Try.prog 10 #[.int .i64 n, .agg #[.int .i64 x, .int .i64 y]] w (TwoOut2 w (if splitB n x y = true then x else 0) (if splitB n x y = true then midI x y else 0) (if splitB n x y = true then midI x y else 0) (if splitB n x y = true then y else 0) (splitB n x y)) := by
  by_cases h : splitB n x y = true
  · have h' := h
    unfold splitB at h'
    rw [Bool.and_eq_true, decide_eq_true_eq] at h'
    rw [if_pos h, if_pos h, if_pos h, h]
    exact implSplit w n x y h1 h2 h'.1 h'.2
  · rw [if_neg h, if_neg h, if_neg h]
    rw [Bool.not_eq_true] at h
    rw [h]
    exact implSplitNo w n x y h1 h2 h

end Go.Proofs.Yteohgmmenlinbab
