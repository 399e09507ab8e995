/- The program's spans; the model's steps of a pair: contracts. -/
import Derived.Test.YteohgmmenlinbagDoorPairA
import Derived.Test.YteohgmmenlinbagDoorRegInv
import Derived.Test.YteohgmmenlinbagDoorPairE
import Derived.Test.YteohgmmenlinbagDoorGapI
namespace Go.Proofs.YteohgmmenlinbagDoor
open Go.ChangeShapes Go.WideShapes Go.ChangeAt Go.RowKit
set_option linter.unusedVariables false

def SpanOut (w : World) (x y g : Int) (e : Ending) (w' : World) : Prop := e = .returned (.agg #[.int .i64 x, .int .i64 y, .int .u64 g]) ∧ Below w.heap.size w w'

set_option maxHeartbeats 2000000 in
theorem spanOf (w : World) (x y : Int) (h1 : (Lit.int .i64 x).wf = true) (h2 : (Lit.int .i64 y).wf = true) :
    Calls Tryd.prog 49 #[.agg #[.int .i64 x, .int .i64 y]] w (SpanOut w x y (gapI x y)) := by
  have hg := fun W => implGap W x y h1 h2
  generalize gapI x y = g at *
  have o0 := (Own.new w #[.int .i64 x, .int .i64 y] 39).alloc (.cells #[.int .i64 0, .int .i64 0, .int .u64 0] 73)
  have o2 := Own.new (w.alloc (.cells #[.int .i64 x, .int .i64 y] 39)) #[.int .i64 0, .int .i64 0, .int .u64 0] 73
  rw [World.size_alloc] at o2
  have hb := ((Below.refl _ w).alloc (Nat.le_refl _) (.cells #[.int .i64 x, .int .i64 y] 39)).alloc (by simp) (.cells #[.int .i64 0, .int .i64 0, .int .u64 0] 73)
  go_enter Tryd.func49, Tryd.ntmps49
  go_wp2
  generalize (w.alloc (.cells #[.int .i64 x, .int .i64 y] 39)).alloc (.cells #[.int .i64 0, .int .i64 0, .int .u64 0] 73) = WA at *
  have c0 := o0.cell 0 _ rfl
  have c1 := o0.cell 1 _ rfl
  have l0 := o0.lt
  have l2 := o2.lt
  refine region_steps (by kernel_rfl) (by kernel_rfl) (by kernel_rfl) (fun A0 f a W => ∃ (x3 : Value) (x4 : Value) (x5 : Value) (x6 : Value) (x7 : Value) (x8 : Value) (x9 : Value), a = { tmps := #[.agg #[.int .i64 x, .int .i64 y], .pointer (some ⟨w.heap.size, 0, none⟩), .pointer (some ⟨w.heap.size + 1, 0, none⟩), x3, x4, x5, x6, x7, x8, x9], defers := [] } ∧ (f 0 = true → x3 = .agg #[.int .i64 x, .int .i64 y]) ∧ (f 1 = true → x4 = .pointer (some ⟨w.heap.size, 0, none⟩)) ∧ (f 2 = true → x5 = .int .i64 x) ∧ (f 3 = true → x6 = .pointer (some ⟨w.heap.size, 1, none⟩)) ∧ (f 4 = true → x7 = .int .i64 y) ∧ (f 5 = true → x8 = .int .u64 g) ∧ (f 6 = true → x9 = .agg #[.int .i64 x, .int .i64 y, .int .u64 g]) ∧ ((f 7 = false → Own W (w.heap.size + 1) [.int .i64 0, .int .i64 0, .int .u64 0]) ∧ (f 7 = true → Own W (w.heap.size + 1) [.int .i64 x, .int .i64 y, .int .u64 g])) ∧ Keep (w.heap.size + 1) WA W) ?_ ⟨?_, ?_, ?_, ?_, ?_, ?_, ?_, ?_, trivial⟩ ?_
  · exact ⟨undef, undef, undef, undef, undef, undef, undef, rfl, (fun h => (by cases h)), (fun h => (by cases h)), (fun h => (by cases h)), (fun h => (by cases h)), (fun h => (by cases h)), (fun h => (by cases h)), (fun h => (by cases h)), ⟨fun _ => o2.drew, (fun h => (by cases h))⟩, (Keep.refl _ _).drew⟩
  · rintro f a W ⟨x3, x4, x5, x6, x7, x8, x9, rfl, h0, h1, h2, h3, h4, h5, h6, rz, hB⟩ hf hd K hK
    have r0 := (hB.cell (p := ⟨w.heap.size, 0, none⟩) l0 (show (w.heap.size : Nat) ≠ w.heap.size + 1 by omega)).trans c0
    have r1 := (hB.cell (p := ⟨w.heap.size, 1, none⟩) l0 (show (w.heap.size : Nat) ≠ w.heap.size + 1 by omega)).trans c1
    go_simp
    refine hK _ _ ?_
    exact ⟨_, x4, x5, x6, x7, x8, x9, rfl, fun _ => rfl, fun h => h1 (upd_ne (by decide) h), fun h => h2 (upd_ne (by decide) h), fun h => h3 (upd_ne (by decide) h), fun h => h4 (upd_ne (by decide) h), fun h => h5 (upd_ne (by decide) h), fun h => h6 (upd_ne (by decide) h), (by obtain ⟨p4, p5⟩ := rz; exact ⟨fun h' => p4 (by rw [upd_same (by decide)] at h'; exact h'), fun h' => p5 (upd_ne (by decide) h')⟩), hB⟩
  · rintro f a W ⟨x3, x4, x5, x6, x7, x8, x9, rfl, h0, h1, h2, h3, h4, h5, h6, rz, hB⟩ hf hd K hK
    go_simp
    refine hK _ _ ?_
    exact ⟨x3, _, x5, x6, x7, x8, x9, rfl, fun h => h0 (upd_ne (by decide) h), fun _ => rfl, fun h => h2 (upd_ne (by decide) h), fun h => h3 (upd_ne (by decide) h), fun h => h4 (upd_ne (by decide) h), fun h => h5 (upd_ne (by decide) h), fun h => h6 (upd_ne (by decide) h), (by obtain ⟨p4, p5⟩ := rz; exact ⟨fun h' => p4 (by rw [upd_same (by decide)] at h'; exact h'), fun h' => p5 (upd_ne (by decide) h')⟩), hB⟩
  · rintro f a W ⟨x3, x4, x5, x6, x7, x8, x9, rfl, h0, h1, h2, h3, h4, h5, h6, rz, hB⟩ hf hd K hK
    have e1 := h1 (dep_of hd (e := ⟨1, .data⟩) (by simp) rfl)
    subst e1
    have r0 := (hB.cell (p := ⟨w.heap.size, 0, none⟩) l0 (show (w.heap.size : Nat) ≠ w.heap.size + 1 by omega)).trans c0
    go_simp
    refine hK _ _ ?_
    exact ⟨x3, _, _, x6, x7, x8, x9, rfl, fun h => h0 (upd_ne (by decide) h), fun _ => rfl, fun _ => rfl, fun h => h3 (upd_ne (by decide) h), fun h => h4 (upd_ne (by decide) h), fun h => h5 (upd_ne (by decide) h), fun h => h6 (upd_ne (by decide) h), (by obtain ⟨p4, p5⟩ := rz; exact ⟨fun h' => p4 (by rw [upd_same (by decide)] at h'; exact h'), fun h' => p5 (upd_ne (by decide) h')⟩), hB⟩
  · rintro f a W ⟨x3, x4, x5, x6, x7, x8, x9, rfl, h0, h1, h2, h3, h4, h5, h6, rz, hB⟩ hf hd K hK
    go_simp
    refine hK _ _ ?_
    exact ⟨x3, x4, x5, _, x7, x8, x9, rfl, fun h => h0 (upd_ne (by decide) h), fun h => h1 (upd_ne (by decide) h), fun h => h2 (upd_ne (by decide) h), fun _ => rfl, fun h => h4 (upd_ne (by decide) h), fun h => h5 (upd_ne (by decide) h), fun h => h6 (upd_ne (by decide) h), (by obtain ⟨p4, p5⟩ := rz; exact ⟨fun h' => p4 (by rw [upd_same (by decide)] at h'; exact h'), fun h' => p5 (upd_ne (by decide) h')⟩), hB⟩
  · rintro f a W ⟨x3, x4, x5, x6, x7, x8, x9, rfl, h0, h1, h2, h3, h4, h5, h6, rz, hB⟩ hf hd K hK
    have e3 := h3 (dep_of hd (e := ⟨3, .data⟩) (by simp) rfl)
    subst e3
    have r0 := (hB.cell (p := ⟨w.heap.size, 1, none⟩) l0 (show (w.heap.size : Nat) ≠ w.heap.size + 1 by omega)).trans c1
    go_simp
    refine hK _ _ ?_
    exact ⟨x3, x4, x5, _, _, x8, x9, rfl, fun h => h0 (upd_ne (by decide) h), fun h => h1 (upd_ne (by decide) h), fun h => h2 (upd_ne (by decide) h), fun _ => rfl, fun _ => rfl, fun h => h5 (upd_ne (by decide) h), fun h => h6 (upd_ne (by decide) h), (by obtain ⟨p4, p5⟩ := rz; exact ⟨fun h' => p4 (by rw [upd_same (by decide)] at h'; exact h'), fun h' => p5 (upd_ne (by decide) h')⟩), hB⟩
  · rintro f a W ⟨x3, x4, x5, x6, x7, x8, x9, rfl, h0, h1, h2, h3, h4, h5, h6, rz, hB⟩ hf hd K hK
    have e2 := h2 (dep_of hd (e := ⟨2, .data⟩) (by simp) rfl)
    subst e2
    have e4 := h4 (dep_of hd (e := ⟨4, .data⟩) (by simp) rfl)
    subst e4
    go_simp
    refine (hg _).mono ?_
    rintro e W2 ⟨rfl, rfl⟩
    refine hK _ _ ?_
    exact ⟨x3, x4, _, x6, _, _, x9, rfl, fun h => h0 (upd_ne (by decide) h), fun h => h1 (upd_ne (by decide) h), fun _ => rfl, fun h => h3 (upd_ne (by decide) h), fun _ => rfl, fun _ => rfl, fun h => h6 (upd_ne (by decide) h), (by obtain ⟨p4, p5⟩ := rz; exact ⟨fun h' => p4 (by rw [upd_same (by decide)] at h'; exact h'), fun h' => p5 (upd_ne (by decide) h')⟩), hB⟩
  · rintro f a W ⟨x3, x4, x5, x6, x7, x8, x9, rfl, h0, h1, h2, h3, h4, h5, h6, rz, hB⟩ hf hd K hK
    have e0 := h0 (dep_of hd (e := ⟨0, .data⟩) (by simp) rfl)
    subst e0
    have e5 := h5 (dep_of hd (e := ⟨5, .data⟩) (by simp) rfl)
    subst e5
    go_simp
    refine hK _ _ ?_
    exact ⟨_, x4, x5, x6, x7, _, _, rfl, fun _ => rfl, fun h => h1 (upd_ne (by decide) h), fun h => h2 (upd_ne (by decide) h), fun h => h3 (upd_ne (by decide) h), fun h => h4 (upd_ne (by decide) h), fun _ => rfl, fun _ => rfl, (by obtain ⟨p4, p5⟩ := rz; exact ⟨fun h' => p4 (by rw [upd_same (by decide)] at h'; exact h'), fun h' => p5 (upd_ne (by decide) h')⟩), hB⟩
  · rintro f a W ⟨x3, x4, x5, x6, x7, x8, x9, rfl, h0, h1, h2, h3, h4, h5, h6, rz, hB⟩ hf hd K hK
    have e6 := h6 (dep_of hd (e := ⟨6, .data⟩) (by simp) rfl)
    subst e6
    have oz := rz.1 hf
    have r0 := oz.cell 0 _ rfl
    have o0 := oz.frz 0 _ rfl
    have r1 := oz.cell 1 _ rfl
    have o1 := oz.frz 1 _ rfl
    have r2 := oz.cell 2 _ rfl
    have o2 := oz.frz 2 _ rfl
    go_simp
    refine hK _ _ ?_
    exact ⟨x3, x4, x5, x6, x7, x8, _, rfl, fun h => h0 (upd_ne (by decide) h), fun h => h1 (upd_ne (by decide) h), fun h => h2 (upd_ne (by decide) h), fun h => h3 (upd_ne (by decide) h), fun h => h4 (upd_ne (by decide) h), fun h => h5 (upd_ne (by decide) h), fun _ => rfl, ⟨fun h' => (by rw [upd_self] at h'; cases h'), fun _ => Own.set (i := 2) (Own.set (i := 1) (Own.set (i := 0) (oz) _ (by simp)) _ (by simp)) _ (by simp)⟩, (((hB.setCell (p := ⟨w.heap.size + 1, 0, none⟩) rfl _).setCell (p := ⟨w.heap.size + 1, 1, none⟩) rfl _).setCell (p := ⟨w.heap.size + 1, 2, none⟩) rfl _)⟩
  rintro f a WC ⟨x3, x4, x5, x6, x7, x8, x9, rfl, h0, h1, h2, h3, h4, h5, h6, rz, qB⟩ hall
  have e0 := h0 (hall 0 (by decide))
  subst e0
  have e1 := h1 (hall 1 (by decide))
  subst e1
  have e2 := h2 (hall 2 (by decide))
  subst e2
  have e3 := h3 (hall 3 (by decide))
  subst e3
  have e4 := h4 (hall 4 (by decide))
  subst e4
  have e5 := h5 (hall 5 (by decide))
  subst e5
  have e6 := h6 (hall 6 (by decide))
  subst e6
  replace rz := rz.2 (hall 7 (by decide))
  clear hall h0 h1 h2 h3 h4 h5 h6
  try dsimp only
  go_wp2
  have s0 := rz.cell 0 _ rfl
  have s1 := rz.cell 1 _ rfl
  have s2 := rz.cell 2 _ rfl
  refine bodyPost_ret (v := .agg #[.int .i64 x, .int .i64 y, .int .u64 g]) ?_ rfl ⟨rfl, hb.trans (qB.below (by omega) hb.size)⟩
  simp [results, Tryd.f49, go_sem, s0, s1, s2]

theorem field1 (a b c : Value) (w : World) : Sem.run Tryd.prog (Instr.field 73 (.agg #[a, b, c]) 1) w = .ok c w := by kernel_rfl
theorem field0 (a b c : Value) (w : World) : Sem.run Tryd.prog (Instr.field 73 (.agg #[a, b, c]) 0) w = .ok (.agg #[a, b]) w := by kernel_rfl

end Go.Proofs.YteohgmmenlinbagDoor
