/- BoxMeet of the program: its contract. -/
import Derived.Test.YteohgmmenlinbabMeetI
import Derived.Test.YteohgmmenlinbabJB
import Derived.Test.YteohgmmenlinbabApp
import Derived.Test.YteohgmmenlinbabRegM
namespace Go.Proofs.Yteohgmmenlinbab
open Go.ChangeShapes Go.WideShapes Go.ChangeAt Go.RowKit
set_option linter.unusedVariables false

set_option maxHeartbeats 1000000 in
theorem meetFits (w : World) (n : Int) (i : Nat) (x y x' y' : Int) (N C D sb so tb to' len cap cap' : Nat) (hil : i < len) (hlc : len ≤ cap) (hlc' : len ≤ cap') (hm : len ≤ 1048576) (wx : (Lit.int .i64 x).wf = true) (wy : (Lit.int .i64 y).wf = true) (wx' : (Lit.int .i64 x').wf = true) (wy' : (Lit.int .i64 y').wf = true)
    (hN : N < w.heap.size) (hn : w.cell? ⟨N, 0, none⟩ = some (.int .i64 n)) (hC : C < w.heap.size) (hc : w.cell? ⟨C, 0, none⟩ = some (.slice (some ⟨sb, so, none⟩) len cap)) (hD : D < w.heap.size) (hd : w.cell? ⟨D, 0, none⟩ = some (.slice (some ⟨tb, to', none⟩) len cap')) (hs : sb < w.heap.size) (ht : tb < w.heap.size)
    (h0 : w.cell? ⟨sb, so + i * 2, none⟩ = some (.int .i64 x)) (h1 : w.cell? ⟨sb, so + i * 2 + 1, none⟩ = some (.int .i64 y)) (h2 : w.cell? ⟨tb, to' + i * 2, none⟩ = some (.int .i64 x')) (h3 : w.cell? ⟨tb, to' + i * 2 + 1, none⟩ = some (.int .i64 y')) :
    Calls Try.prog 67 (#[.int .i64 (i : Int)] ++ #[.pointer (some ⟨N, 0, none⟩), .pointer (some ⟨C, 0, none⟩), .pointer (some ⟨D, 0, none⟩)]) w (PairOut w (meetI n (x, y) (x', y')).1.1 (meetI n (x, y) (x', y')).1.2 (meetI n (x, y) (x', y')).2) := by
  have hil' : (i : Int) < len := by omega
  have q0 : Below w.heap.size w (w.alloc (.cells #[.int .i64 0, .int .i64 0] 24)) := (Below.refl _ w).alloc (Nat.le_refl _) _
  have o0 := Own.new w #[.int .i64 0, .int .i64 0] 24
  have kn := (q0.cell (p := ⟨N, 0, none⟩) hN).trans hn
  have k0 := (q0.cell (p := ⟨C, 0, none⟩) hC).trans hc
  have k1 := (q0.cell (p := ⟨D, 0, none⟩) hD).trans hd
  have k2 := (q0.cell (p := ⟨sb, so + i * 2, none⟩) hs).trans h0
  have k3 := (q0.cell (p := ⟨sb, so + i * 2 + 1, none⟩) hs).trans h1
  have k4 := (q0.cell (p := ⟨tb, to' + i * 2, none⟩) ht).trans h2
  have k5 := (q0.cell (p := ⟨tb, to' + i * 2 + 1, none⟩) ht).trans h3
  have hk := fun W => implMeet W n x y x' y' wx wy wx' wy'
  clear hc h0 h1 h2 h3 hn hd
  show Calls Try.prog 67 #[.int .i64 (i : Int), .pointer (some ⟨N, 0, none⟩), .pointer (some ⟨C, 0, none⟩), .pointer (some ⟨D, 0, none⟩)] w (PairOut w (if meetB n x y x' y' = true then max x x' else 0) (if meetB n x y x' y' = true then min y y' else 0) (meetB n x y x' y'))
  generalize (if meetB n x y x' y' = true then max x x' else 0) = r0 at *
  generalize (if meetB n x y x' y' = true then min y y' else 0) = r1 at *
  generalize meetB n x y x' y' = rk at *
  go_enter Try.func67, Try.ntmps67
  go_wp2
  have lw : w.heap.size < (w.alloc (.cells #[.int .i64 0, .int .i64 0] 24)).heap.size := by simp
  have lR := o0.lt
  have lN : N < (w.alloc (.cells #[.int .i64 0, .int .i64 0] 24)).heap.size := by omega
  have lC : C < (w.alloc (.cells #[.int .i64 0, .int .i64 0] 24)).heap.size := by omega
  have lD : D < (w.alloc (.cells #[.int .i64 0, .int .i64 0] 24)).heap.size := by omega
  have ls : sb < (w.alloc (.cells #[.int .i64 0, .int .i64 0] 24)).heap.size := by omega
  have lt : tb < (w.alloc (.cells #[.int .i64 0, .int .i64 0] 24)).heap.size := by omega
  generalize w.alloc (.cells #[.int .i64 0, .int .i64 0] 24) = WA at *
  refine region_steps (by kernel_rfl) (by kernel_rfl) (by kernel_rfl) (fun A0 f a W => ∃ (x7 : Value) (x8 : Value) (x9 : Value) (x10 : Value) (x11 : Value) (x12 : Value) (x13 : Value) (x14 : Value) (x15 : Value) (x16 : Value) (x17 : Value) (x18 : Value) (x19 : Value) (x20 : Value) (x6 : Value), a = { tmps := #[.int .i64 (i : Int), .pointer (some ⟨N, 0, none⟩), .pointer (some ⟨C, 0, none⟩), .pointer (some ⟨D, 0, none⟩), undef, .pointer (some ⟨w.heap.size, 0, none⟩), x6, x7, x8, x9, x10, x11, x12, x13, x14, x15, x16, x17, x18, x19, x20], defers := [] } ∧ (f 0 = true → x7 = .int .i64 n) ∧ (f 1 = true → x8 = .pointer (some ⟨C, 0, none⟩)) ∧ (f 2 = true → x9 = .slice (some ⟨sb, so, none⟩) len cap) ∧ (f 3 = true → x10 = .int .i64 (i : Int)) ∧ (f 4 = true → x11 = .pointer (some ⟨sb, so + i * 2, none⟩)) ∧ (f 5 = true → x12 = .agg #[.int .i64 x, .int .i64 y]) ∧ (f 6 = true → x13 = .pointer (some ⟨D, 0, none⟩)) ∧ (f 7 = true → x14 = .slice (some ⟨tb, to', none⟩) len cap') ∧ (f 8 = true → x15 = .int .i64 (i : Int)) ∧ (f 9 = true → x16 = .pointer (some ⟨tb, to' + i * 2, none⟩)) ∧ (f 10 = true → x17 = .agg #[.int .i64 x', .int .i64 y']) ∧ (f 11 = true → x18 = .tuple #[.agg #[.int .i64 r0, .int .i64 r1], .bool rk]) ∧ (f 12 = true → x19 = .agg #[.int .i64 r0, .int .i64 r1]) ∧ (f 13 = true → x20 = .bool rk) ∧ (f 15 = true → x6 = .bool rk) ∧ ((f 14 = false → Own W (w.heap.size) [.int .i64 0, .int .i64 0]) ∧ (f 14 = true → Own W (w.heap.size) [.int .i64 r0, .int .i64 r1])) ∧ KeepL [w.heap.size] WA W) ?_ ⟨?_, ?_, ?_, ?_, ?_, ?_, ?_, ?_, ?_, ?_, ?_, ?_, ?_, ?_, ?_, ?_, trivial⟩ ?_
  · exact ⟨undef, undef, undef, undef, undef, undef, undef, undef, undef, undef, undef, undef, undef, undef, .bool false, rfl, (fun h => (by cases h)), (fun h => (by cases h)), (fun h => (by cases h)), (fun h => (by cases h)), (fun h => (by cases h)), (fun h => (by cases h)), (fun h => (by cases h)), (fun h => (by cases h)), (fun h => (by cases h)), (fun h => (by cases h)), (fun h => (by cases h)), (fun h => (by cases h)), (fun h => (by cases h)), (fun h => (by cases h)), (fun h => (by cases h)), ⟨fun _ => o0.drew, (fun h => (by cases h))⟩, (KeepL.refl _ _).drew⟩
  · rintro f a W ⟨x7, x8, x9, x10, x11, x12, x13, x14, x15, x16, x17, x18, x19, x20, x6, rfl, H⟩ hf hd K hK
    have h0 := H.1
    replace H := H.2
    have h1 := H.1
    replace H := H.2
    have h2 := H.1
    replace H := H.2
    have h3 := H.1
    replace H := H.2
    have h4 := H.1
    replace H := H.2
    have h5 := H.1
    replace H := H.2
    have h6 := H.1
    replace H := H.2
    have h7 := H.1
    replace H := H.2
    have h8 := H.1
    replace H := H.2
    have h9 := H.1
    replace H := H.2
    have h10 := H.1
    replace H := H.2
    have h11 := H.1
    replace H := H.2
    have h12 := H.1
    replace H := H.2
    have h13 := H.1
    replace H := H.2
    have h15 := H.1
    replace H := H.2
    have rz0 := H.1
    replace H := H.2
    have hB := H
    clear H
    have r0 := (hB.cell (p := ⟨N, 0, none⟩) lN (by simp only [List.mem_cons, List.not_mem_nil, or_false]; omega)).trans kn
    go_simp
    refine hK _ _ ?_
    exact ⟨_, x8, x9, x10, x11, x12, x13, x14, x15, x16, x17, x18, x19, x20, x6, rfl, fun _ => rfl, fun h => h1 (upd_ne (by decide) h), fun h => h2 (upd_ne (by decide) h), fun h => h3 (upd_ne (by decide) h), fun h => h4 (upd_ne (by decide) h), fun h => h5 (upd_ne (by decide) h), fun h => h6 (upd_ne (by decide) h), fun h => h7 (upd_ne (by decide) h), fun h => h8 (upd_ne (by decide) h), fun h => h9 (upd_ne (by decide) h), fun h => h10 (upd_ne (by decide) h), fun h => h11 (upd_ne (by decide) h), fun h => h12 (upd_ne (by decide) h), fun h => h13 (upd_ne (by decide) h), fun h => h15 (upd_ne (by decide) h), (by obtain ⟨p4, p5⟩ := rz0; exact ⟨fun h' => p4 (by rw [upd_same (by decide)] at h'; exact h'), fun h' => p5 (upd_ne (by decide) h')⟩), hB⟩
  · rintro f a W ⟨x7, x8, x9, x10, x11, x12, x13, x14, x15, x16, x17, x18, x19, x20, x6, rfl, H⟩ hf hd K hK
    have h0 := H.1
    replace H := H.2
    have h1 := H.1
    replace H := H.2
    have h2 := H.1
    replace H := H.2
    have h3 := H.1
    replace H := H.2
    have h4 := H.1
    replace H := H.2
    have h5 := H.1
    replace H := H.2
    have h6 := H.1
    replace H := H.2
    have h7 := H.1
    replace H := H.2
    have h8 := H.1
    replace H := H.2
    have h9 := H.1
    replace H := H.2
    have h10 := H.1
    replace H := H.2
    have h11 := H.1
    replace H := H.2
    have h12 := H.1
    replace H := H.2
    have h13 := H.1
    replace H := H.2
    have h15 := H.1
    replace H := H.2
    have rz0 := H.1
    replace H := H.2
    have hB := H
    clear H
    go_simp
    refine hK _ _ ?_
    exact ⟨x7, _, x9, x10, x11, x12, x13, x14, x15, x16, x17, x18, x19, x20, x6, rfl, fun h => h0 (upd_ne (by decide) h), fun _ => rfl, fun h => h2 (upd_ne (by decide) h), fun h => h3 (upd_ne (by decide) h), fun h => h4 (upd_ne (by decide) h), fun h => h5 (upd_ne (by decide) h), fun h => h6 (upd_ne (by decide) h), fun h => h7 (upd_ne (by decide) h), fun h => h8 (upd_ne (by decide) h), fun h => h9 (upd_ne (by decide) h), fun h => h10 (upd_ne (by decide) h), fun h => h11 (upd_ne (by decide) h), fun h => h12 (upd_ne (by decide) h), fun h => h13 (upd_ne (by decide) h), fun h => h15 (upd_ne (by decide) h), (by obtain ⟨p4, p5⟩ := rz0; exact ⟨fun h' => p4 (by rw [upd_same (by decide)] at h'; exact h'), fun h' => p5 (upd_ne (by decide) h')⟩), hB⟩
  · rintro f a W ⟨x7, x8, x9, x10, x11, x12, x13, x14, x15, x16, x17, x18, x19, x20, x6, rfl, H⟩ hf hd K hK
    have h0 := H.1
    replace H := H.2
    have h1 := H.1
    replace H := H.2
    have h2 := H.1
    replace H := H.2
    have h3 := H.1
    replace H := H.2
    have h4 := H.1
    replace H := H.2
    have h5 := H.1
    replace H := H.2
    have h6 := H.1
    replace H := H.2
    have h7 := H.1
    replace H := H.2
    have h8 := H.1
    replace H := H.2
    have h9 := H.1
    replace H := H.2
    have h10 := H.1
    replace H := H.2
    have h11 := H.1
    replace H := H.2
    have h12 := H.1
    replace H := H.2
    have h13 := H.1
    replace H := H.2
    have h15 := H.1
    replace H := H.2
    have rz0 := H.1
    replace H := H.2
    have hB := H
    clear H
    have e1 := h1 (dep_of hd (e := ⟨1, .data⟩) (by simp) rfl)
    subst e1
    have r0 := (hB.cell (p := ⟨C, 0, none⟩) lC (by simp only [List.mem_cons, List.not_mem_nil, or_false]; omega)).trans k0
    go_simp
    refine hK _ _ ?_
    exact ⟨x7, _, _, x10, x11, x12, x13, x14, x15, x16, x17, x18, x19, x20, x6, rfl, fun h => h0 (upd_ne (by decide) h), fun _ => rfl, fun _ => rfl, fun h => h3 (upd_ne (by decide) h), fun h => h4 (upd_ne (by decide) h), fun h => h5 (upd_ne (by decide) h), fun h => h6 (upd_ne (by decide) h), fun h => h7 (upd_ne (by decide) h), fun h => h8 (upd_ne (by decide) h), fun h => h9 (upd_ne (by decide) h), fun h => h10 (upd_ne (by decide) h), fun h => h11 (upd_ne (by decide) h), fun h => h12 (upd_ne (by decide) h), fun h => h13 (upd_ne (by decide) h), fun h => h15 (upd_ne (by decide) h), (by obtain ⟨p4, p5⟩ := rz0; exact ⟨fun h' => p4 (by rw [upd_same (by decide)] at h'; exact h'), fun h' => p5 (upd_ne (by decide) h')⟩), hB⟩
  · rintro f a W ⟨x7, x8, x9, x10, x11, x12, x13, x14, x15, x16, x17, x18, x19, x20, x6, rfl, H⟩ hf hd K hK
    have h0 := H.1
    replace H := H.2
    have h1 := H.1
    replace H := H.2
    have h2 := H.1
    replace H := H.2
    have h3 := H.1
    replace H := H.2
    have h4 := H.1
    replace H := H.2
    have h5 := H.1
    replace H := H.2
    have h6 := H.1
    replace H := H.2
    have h7 := H.1
    replace H := H.2
    have h8 := H.1
    replace H := H.2
    have h9 := H.1
    replace H := H.2
    have h10 := H.1
    replace H := H.2
    have h11 := H.1
    replace H := H.2
    have h12 := H.1
    replace H := H.2
    have h13 := H.1
    replace H := H.2
    have h15 := H.1
    replace H := H.2
    have rz0 := H.1
    replace H := H.2
    have hB := H
    clear H
    go_simp
    refine hK _ _ ?_
    exact ⟨x7, x8, x9, _, x11, x12, x13, x14, x15, x16, x17, x18, x19, x20, x6, rfl, fun h => h0 (upd_ne (by decide) h), fun h => h1 (upd_ne (by decide) h), fun h => h2 (upd_ne (by decide) h), fun _ => rfl, fun h => h4 (upd_ne (by decide) h), fun h => h5 (upd_ne (by decide) h), fun h => h6 (upd_ne (by decide) h), fun h => h7 (upd_ne (by decide) h), fun h => h8 (upd_ne (by decide) h), fun h => h9 (upd_ne (by decide) h), fun h => h10 (upd_ne (by decide) h), fun h => h11 (upd_ne (by decide) h), fun h => h12 (upd_ne (by decide) h), fun h => h13 (upd_ne (by decide) h), fun h => h15 (upd_ne (by decide) h), (by obtain ⟨p4, p5⟩ := rz0; exact ⟨fun h' => p4 (by rw [upd_same (by decide)] at h'; exact h'), fun h' => p5 (upd_ne (by decide) h')⟩), hB⟩
  · rintro f a W ⟨x7, x8, x9, x10, x11, x12, x13, x14, x15, x16, x17, x18, x19, x20, x6, rfl, H⟩ hf hd K hK
    have h0 := H.1
    replace H := H.2
    have h1 := H.1
    replace H := H.2
    have h2 := H.1
    replace H := H.2
    have h3 := H.1
    replace H := H.2
    have h4 := H.1
    replace H := H.2
    have h5 := H.1
    replace H := H.2
    have h6 := H.1
    replace H := H.2
    have h7 := H.1
    replace H := H.2
    have h8 := H.1
    replace H := H.2
    have h9 := H.1
    replace H := H.2
    have h10 := H.1
    replace H := H.2
    have h11 := H.1
    replace H := H.2
    have h12 := H.1
    replace H := H.2
    have h13 := H.1
    replace H := H.2
    have h15 := H.1
    replace H := H.2
    have rz0 := H.1
    replace H := H.2
    have hB := H
    clear H
    have e2 := h2 (dep_of hd (e := ⟨2, .data⟩) (by simp) rfl)
    subst e2
    have e3 := h3 (dep_of hd (e := ⟨3, .data⟩) (by simp) rfl)
    subst e3
    go_simp
    refine hK _ _ ?_
    exact ⟨x7, x8, _, _, _, x12, x13, x14, x15, x16, x17, x18, x19, x20, x6, rfl, fun h => h0 (upd_ne (by decide) h), fun h => h1 (upd_ne (by decide) h), fun _ => rfl, fun _ => rfl, fun _ => rfl, fun h => h5 (upd_ne (by decide) h), fun h => h6 (upd_ne (by decide) h), fun h => h7 (upd_ne (by decide) h), fun h => h8 (upd_ne (by decide) h), fun h => h9 (upd_ne (by decide) h), fun h => h10 (upd_ne (by decide) h), fun h => h11 (upd_ne (by decide) h), fun h => h12 (upd_ne (by decide) h), fun h => h13 (upd_ne (by decide) h), fun h => h15 (upd_ne (by decide) h), (by obtain ⟨p4, p5⟩ := rz0; exact ⟨fun h' => p4 (by rw [upd_same (by decide)] at h'; exact h'), fun h' => p5 (upd_ne (by decide) h')⟩), hB⟩
  · rintro f a W ⟨x7, x8, x9, x10, x11, x12, x13, x14, x15, x16, x17, x18, x19, x20, x6, rfl, H⟩ hf hd K hK
    have h0 := H.1
    replace H := H.2
    have h1 := H.1
    replace H := H.2
    have h2 := H.1
    replace H := H.2
    have h3 := H.1
    replace H := H.2
    have h4 := H.1
    replace H := H.2
    have h5 := H.1
    replace H := H.2
    have h6 := H.1
    replace H := H.2
    have h7 := H.1
    replace H := H.2
    have h8 := H.1
    replace H := H.2
    have h9 := H.1
    replace H := H.2
    have h10 := H.1
    replace H := H.2
    have h11 := H.1
    replace H := H.2
    have h12 := H.1
    replace H := H.2
    have h13 := H.1
    replace H := H.2
    have h15 := H.1
    replace H := H.2
    have rz0 := H.1
    replace H := H.2
    have hB := H
    clear H
    have e4 := h4 (dep_of hd (e := ⟨4, .data⟩) (by simp) rfl)
    subst e4
    have r0 := (hB.cell (p := ⟨sb, so + i * 2, none⟩) ls (by simp only [List.mem_cons, List.not_mem_nil, or_false]; omega)).trans k2
    have r1 := (hB.cell (p := ⟨sb, so + i * 2 + 1, none⟩) ls (by simp only [List.mem_cons, List.not_mem_nil, or_false]; omega)).trans k3
    go_simp
    refine hK _ _ ?_
    exact ⟨x7, x8, x9, x10, _, _, x13, x14, x15, x16, x17, x18, x19, x20, x6, rfl, fun h => h0 (upd_ne (by decide) h), fun h => h1 (upd_ne (by decide) h), fun h => h2 (upd_ne (by decide) h), fun h => h3 (upd_ne (by decide) h), fun _ => rfl, fun _ => rfl, fun h => h6 (upd_ne (by decide) h), fun h => h7 (upd_ne (by decide) h), fun h => h8 (upd_ne (by decide) h), fun h => h9 (upd_ne (by decide) h), fun h => h10 (upd_ne (by decide) h), fun h => h11 (upd_ne (by decide) h), fun h => h12 (upd_ne (by decide) h), fun h => h13 (upd_ne (by decide) h), fun h => h15 (upd_ne (by decide) h), (by obtain ⟨p4, p5⟩ := rz0; exact ⟨fun h' => p4 (by rw [upd_same (by decide)] at h'; exact h'), fun h' => p5 (upd_ne (by decide) h')⟩), hB⟩
  · rintro f a W ⟨x7, x8, x9, x10, x11, x12, x13, x14, x15, x16, x17, x18, x19, x20, x6, rfl, H⟩ hf hd K hK
    have h0 := H.1
    replace H := H.2
    have h1 := H.1
    replace H := H.2
    have h2 := H.1
    replace H := H.2
    have h3 := H.1
    replace H := H.2
    have h4 := H.1
    replace H := H.2
    have h5 := H.1
    replace H := H.2
    have h6 := H.1
    replace H := H.2
    have h7 := H.1
    replace H := H.2
    have h8 := H.1
    replace H := H.2
    have h9 := H.1
    replace H := H.2
    have h10 := H.1
    replace H := H.2
    have h11 := H.1
    replace H := H.2
    have h12 := H.1
    replace H := H.2
    have h13 := H.1
    replace H := H.2
    have h15 := H.1
    replace H := H.2
    have rz0 := H.1
    replace H := H.2
    have hB := H
    clear H
    go_simp
    refine hK _ _ ?_
    exact ⟨x7, x8, x9, x10, x11, x12, _, x14, x15, x16, x17, x18, x19, x20, x6, rfl, fun h => h0 (upd_ne (by decide) h), fun h => h1 (upd_ne (by decide) h), fun h => h2 (upd_ne (by decide) h), fun h => h3 (upd_ne (by decide) h), fun h => h4 (upd_ne (by decide) h), fun h => h5 (upd_ne (by decide) h), fun _ => rfl, fun h => h7 (upd_ne (by decide) h), fun h => h8 (upd_ne (by decide) h), fun h => h9 (upd_ne (by decide) h), fun h => h10 (upd_ne (by decide) h), fun h => h11 (upd_ne (by decide) h), fun h => h12 (upd_ne (by decide) h), fun h => h13 (upd_ne (by decide) h), fun h => h15 (upd_ne (by decide) h), (by obtain ⟨p4, p5⟩ := rz0; exact ⟨fun h' => p4 (by rw [upd_same (by decide)] at h'; exact h'), fun h' => p5 (upd_ne (by decide) h')⟩), hB⟩
  · rintro f a W ⟨x7, x8, x9, x10, x11, x12, x13, x14, x15, x16, x17, x18, x19, x20, x6, rfl, H⟩ hf hd K hK
    have h0 := H.1
    replace H := H.2
    have h1 := H.1
    replace H := H.2
    have h2 := H.1
    replace H := H.2
    have h3 := H.1
    replace H := H.2
    have h4 := H.1
    replace H := H.2
    have h5 := H.1
    replace H := H.2
    have h6 := H.1
    replace H := H.2
    have h7 := H.1
    replace H := H.2
    have h8 := H.1
    replace H := H.2
    have h9 := H.1
    replace H := H.2
    have h10 := H.1
    replace H := H.2
    have h11 := H.1
    replace H := H.2
    have h12 := H.1
    replace H := H.2
    have h13 := H.1
    replace H := H.2
    have h15 := H.1
    replace H := H.2
    have rz0 := H.1
    replace H := H.2
    have hB := H
    clear H
    have e6 := h6 (dep_of hd (e := ⟨6, .data⟩) (by simp) rfl)
    subst e6
    have r0 := (hB.cell (p := ⟨D, 0, none⟩) lD (by simp only [List.mem_cons, List.not_mem_nil, or_false]; omega)).trans k1
    go_simp
    refine hK _ _ ?_
    exact ⟨x7, x8, x9, x10, x11, x12, _, _, x15, x16, x17, x18, x19, x20, x6, rfl, fun h => h0 (upd_ne (by decide) h), fun h => h1 (upd_ne (by decide) h), fun h => h2 (upd_ne (by decide) h), fun h => h3 (upd_ne (by decide) h), fun h => h4 (upd_ne (by decide) h), fun h => h5 (upd_ne (by decide) h), fun _ => rfl, fun _ => rfl, fun h => h8 (upd_ne (by decide) h), fun h => h9 (upd_ne (by decide) h), fun h => h10 (upd_ne (by decide) h), fun h => h11 (upd_ne (by decide) h), fun h => h12 (upd_ne (by decide) h), fun h => h13 (upd_ne (by decide) h), fun h => h15 (upd_ne (by decide) h), (by obtain ⟨p4, p5⟩ := rz0; exact ⟨fun h' => p4 (by rw [upd_same (by decide)] at h'; exact h'), fun h' => p5 (upd_ne (by decide) h')⟩), hB⟩
  · rintro f a W ⟨x7, x8, x9, x10, x11, x12, x13, x14, x15, x16, x17, x18, x19, x20, x6, rfl, H⟩ hf hd K hK
    have h0 := H.1
    replace H := H.2
    have h1 := H.1
    replace H := H.2
    have h2 := H.1
    replace H := H.2
    have h3 := H.1
    replace H := H.2
    have h4 := H.1
    replace H := H.2
    have h5 := H.1
    replace H := H.2
    have h6 := H.1
    replace H := H.2
    have h7 := H.1
    replace H := H.2
    have h8 := H.1
    replace H := H.2
    have h9 := H.1
    replace H := H.2
    have h10 := H.1
    replace H := H.2
    have h11 := H.1
    replace H := H.2
    have h12 := H.1
    replace H := H.2
    have h13 := H.1
    replace H := H.2
    have h15 := H.1
    replace H := H.2
    have rz0 := H.1
    replace H := H.2
    have hB := H
    clear H
    go_simp
    refine hK _ _ ?_
    exact ⟨x7, x8, x9, x10, x11, x12, x13, x14, _, x16, x17, x18, x19, x20, x6, rfl, fun h => h0 (upd_ne (by decide) h), fun h => h1 (upd_ne (by decide) h), fun h => h2 (upd_ne (by decide) h), fun h => h3 (upd_ne (by decide) h), fun h => h4 (upd_ne (by decide) h), fun h => h5 (upd_ne (by decide) h), fun h => h6 (upd_ne (by decide) h), fun h => h7 (upd_ne (by decide) h), fun _ => rfl, fun h => h9 (upd_ne (by decide) h), fun h => h10 (upd_ne (by decide) h), fun h => h11 (upd_ne (by decide) h), fun h => h12 (upd_ne (by decide) h), fun h => h13 (upd_ne (by decide) h), fun h => h15 (upd_ne (by decide) h), (by obtain ⟨p4, p5⟩ := rz0; exact ⟨fun h' => p4 (by rw [upd_same (by decide)] at h'; exact h'), fun h' => p5 (upd_ne (by decide) h')⟩), hB⟩
  · rintro f a W ⟨x7, x8, x9, x10, x11, x12, x13, x14, x15, x16, x17, x18, x19, x20, x6, rfl, H⟩ hf hd K hK
    have h0 := H.1
    replace H := H.2
    have h1 := H.1
    replace H := H.2
    have h2 := H.1
    replace H := H.2
    have h3 := H.1
    replace H := H.2
    have h4 := H.1
    replace H := H.2
    have h5 := H.1
    replace H := H.2
    have h6 := H.1
    replace H := H.2
    have h7 := H.1
    replace H := H.2
    have h8 := H.1
    replace H := H.2
    have h9 := H.1
    replace H := H.2
    have h10 := H.1
    replace H := H.2
    have h11 := H.1
    replace H := H.2
    have h12 := H.1
    replace H := H.2
    have h13 := H.1
    replace H := H.2
    have h15 := H.1
    replace H := H.2
    have rz0 := H.1
    replace H := H.2
    have hB := H
    clear H
    have e7 := h7 (dep_of hd (e := ⟨7, .data⟩) (by simp) rfl)
    subst e7
    have e8 := h8 (dep_of hd (e := ⟨8, .data⟩) (by simp) rfl)
    subst e8
    go_simp
    refine hK _ _ ?_
    exact ⟨x7, x8, x9, x10, x11, x12, x13, _, _, _, x17, x18, x19, x20, x6, rfl, fun h => h0 (upd_ne (by decide) h), fun h => h1 (upd_ne (by decide) h), fun h => h2 (upd_ne (by decide) h), fun h => h3 (upd_ne (by decide) h), fun h => h4 (upd_ne (by decide) h), fun h => h5 (upd_ne (by decide) h), fun h => h6 (upd_ne (by decide) h), fun _ => rfl, fun _ => rfl, fun _ => rfl, fun h => h10 (upd_ne (by decide) h), fun h => h11 (upd_ne (by decide) h), fun h => h12 (upd_ne (by decide) h), fun h => h13 (upd_ne (by decide) h), fun h => h15 (upd_ne (by decide) h), (by obtain ⟨p4, p5⟩ := rz0; exact ⟨fun h' => p4 (by rw [upd_same (by decide)] at h'; exact h'), fun h' => p5 (upd_ne (by decide) h')⟩), hB⟩
  · rintro f a W ⟨x7, x8, x9, x10, x11, x12, x13, x14, x15, x16, x17, x18, x19, x20, x6, rfl, H⟩ hf hd K hK
    have h0 := H.1
    replace H := H.2
    have h1 := H.1
    replace H := H.2
    have h2 := H.1
    replace H := H.2
    have h3 := H.1
    replace H := H.2
    have h4 := H.1
    replace H := H.2
    have h5 := H.1
    replace H := H.2
    have h6 := H.1
    replace H := H.2
    have h7 := H.1
    replace H := H.2
    have h8 := H.1
    replace H := H.2
    have h9 := H.1
    replace H := H.2
    have h10 := H.1
    replace H := H.2
    have h11 := H.1
    replace H := H.2
    have h12 := H.1
    replace H := H.2
    have h13 := H.1
    replace H := H.2
    have h15 := H.1
    replace H := H.2
    have rz0 := H.1
    replace H := H.2
    have hB := H
    clear H
    have e9 := h9 (dep_of hd (e := ⟨9, .data⟩) (by simp) rfl)
    subst e9
    have r0 := (hB.cell (p := ⟨tb, to' + i * 2, none⟩) lt (by simp only [List.mem_cons, List.not_mem_nil, or_false]; omega)).trans k4
    have r1 := (hB.cell (p := ⟨tb, to' + i * 2 + 1, none⟩) lt (by simp only [List.mem_cons, List.not_mem_nil, or_false]; omega)).trans k5
    go_simp
    refine hK _ _ ?_
    exact ⟨x7, x8, x9, x10, x11, x12, x13, x14, x15, _, _, x18, x19, x20, x6, rfl, fun h => h0 (upd_ne (by decide) h), fun h => h1 (upd_ne (by decide) h), fun h => h2 (upd_ne (by decide) h), fun h => h3 (upd_ne (by decide) h), fun h => h4 (upd_ne (by decide) h), fun h => h5 (upd_ne (by decide) h), fun h => h6 (upd_ne (by decide) h), fun h => h7 (upd_ne (by decide) h), fun h => h8 (upd_ne (by decide) h), fun _ => rfl, fun _ => rfl, fun h => h11 (upd_ne (by decide) h), fun h => h12 (upd_ne (by decide) h), fun h => h13 (upd_ne (by decide) h), fun h => h15 (upd_ne (by decide) h), (by obtain ⟨p4, p5⟩ := rz0; exact ⟨fun h' => p4 (by rw [upd_same (by decide)] at h'; exact h'), fun h' => p5 (upd_ne (by decide) h')⟩), hB⟩
  · rintro f a W ⟨x7, x8, x9, x10, x11, x12, x13, x14, x15, x16, x17, x18, x19, x20, x6, rfl, H⟩ hf hd K hK
    have h0 := H.1
    replace H := H.2
    have h1 := H.1
    replace H := H.2
    have h2 := H.1
    replace H := H.2
    have h3 := H.1
    replace H := H.2
    have h4 := H.1
    replace H := H.2
    have h5 := H.1
    replace H := H.2
    have h6 := H.1
    replace H := H.2
    have h7 := H.1
    replace H := H.2
    have h8 := H.1
    replace H := H.2
    have h9 := H.1
    replace H := H.2
    have h10 := H.1
    replace H := H.2
    have h11 := H.1
    replace H := H.2
    have h12 := H.1
    replace H := H.2
    have h13 := H.1
    replace H := H.2
    have h15 := H.1
    replace H := H.2
    have rz0 := H.1
    replace H := H.2
    have hB := H
    clear H
    have e0 := h0 (dep_of hd (e := ⟨0, .data⟩) (by simp) rfl)
    subst e0
    have e5 := h5 (dep_of hd (e := ⟨5, .data⟩) (by simp) rfl)
    subst e5
    have e10 := h10 (dep_of hd (e := ⟨10, .data⟩) (by simp) rfl)
    subst e10
    go_simp
    refine (hk _).mono ?_
    rintro e W2 ⟨rfl, q⟩
    refine hK _ _ ?_
    exact ⟨_, x8, x9, x10, x11, _, x13, x14, x15, x16, _, _, x19, x20, x6, rfl, fun _ => rfl, fun h => h1 (upd_ne (by decide) h), fun h => h2 (upd_ne (by decide) h), fun h => h3 (upd_ne (by decide) h), fun h => h4 (upd_ne (by decide) h), fun _ => rfl, fun h => h6 (upd_ne (by decide) h), fun h => h7 (upd_ne (by decide) h), fun h => h8 (upd_ne (by decide) h), fun h => h9 (upd_ne (by decide) h), fun _ => rfl, fun _ => rfl, fun h => h12 (upd_ne (by decide) h), fun h => h13 (upd_ne (by decide) h), fun h => h15 (upd_ne (by decide) h), (by obtain ⟨p4, p5⟩ := rz0; exact ⟨fun h' => (p4 (by rw [upd_same (by decide)] at h'; exact h')).below q, fun h' => (p5 (upd_ne (by decide) h')).below q⟩), hB.bel q⟩
  · rintro f a W ⟨x7, x8, x9, x10, x11, x12, x13, x14, x15, x16, x17, x18, x19, x20, x6, rfl, H⟩ hf hd K hK
    have h0 := H.1
    replace H := H.2
    have h1 := H.1
    replace H := H.2
    have h2 := H.1
    replace H := H.2
    have h3 := H.1
    replace H := H.2
    have h4 := H.1
    replace H := H.2
    have h5 := H.1
    replace H := H.2
    have h6 := H.1
    replace H := H.2
    have h7 := H.1
    replace H := H.2
    have h8 := H.1
    replace H := H.2
    have h9 := H.1
    replace H := H.2
    have h10 := H.1
    replace H := H.2
    have h11 := H.1
    replace H := H.2
    have h12 := H.1
    replace H := H.2
    have h13 := H.1
    replace H := H.2
    have h15 := H.1
    replace H := H.2
    have rz0 := H.1
    replace H := H.2
    have hB := H
    clear H
    have e11 := h11 (dep_of hd (e := ⟨11, .data⟩) (by simp) rfl)
    subst e11
    go_simp
    refine hK _ _ ?_
    exact ⟨x7, x8, x9, x10, x11, x12, x13, x14, x15, x16, x17, _, _, x20, x6, rfl, fun h => h0 (upd_ne (by decide) h), fun h => h1 (upd_ne (by decide) h), fun h => h2 (upd_ne (by decide) h), fun h => h3 (upd_ne (by decide) h), fun h => h4 (upd_ne (by decide) h), fun h => h5 (upd_ne (by decide) h), fun h => h6 (upd_ne (by decide) h), fun h => h7 (upd_ne (by decide) h), fun h => h8 (upd_ne (by decide) h), fun h => h9 (upd_ne (by decide) h), fun h => h10 (upd_ne (by decide) h), fun _ => rfl, fun _ => rfl, fun h => h13 (upd_ne (by decide) h), fun h => h15 (upd_ne (by decide) h), (by obtain ⟨p4, p5⟩ := rz0; exact ⟨fun h' => p4 (by rw [upd_same (by decide)] at h'; exact h'), fun h' => p5 (upd_ne (by decide) h')⟩), hB⟩
  · rintro f a W ⟨x7, x8, x9, x10, x11, x12, x13, x14, x15, x16, x17, x18, x19, x20, x6, rfl, H⟩ hf hd K hK
    have h0 := H.1
    replace H := H.2
    have h1 := H.1
    replace H := H.2
    have h2 := H.1
    replace H := H.2
    have h3 := H.1
    replace H := H.2
    have h4 := H.1
    replace H := H.2
    have h5 := H.1
    replace H := H.2
    have h6 := H.1
    replace H := H.2
    have h7 := H.1
    replace H := H.2
    have h8 := H.1
    replace H := H.2
    have h9 := H.1
    replace H := H.2
    have h10 := H.1
    replace H := H.2
    have h11 := H.1
    replace H := H.2
    have h12 := H.1
    replace H := H.2
    have h13 := H.1
    replace H := H.2
    have h15 := H.1
    replace H := H.2
    have rz0 := H.1
    replace H := H.2
    have hB := H
    clear H
    have e11 := h11 (dep_of hd (e := ⟨11, .data⟩) (by simp) rfl)
    subst e11
    go_simp
    refine hK _ _ ?_
    exact ⟨x7, x8, x9, x10, x11, x12, x13, x14, x15, x16, x17, _, x19, _, x6, rfl, fun h => h0 (upd_ne (by decide) h), fun h => h1 (upd_ne (by decide) h), fun h => h2 (upd_ne (by decide) h), fun h => h3 (upd_ne (by decide) h), fun h => h4 (upd_ne (by decide) h), fun h => h5 (upd_ne (by decide) h), fun h => h6 (upd_ne (by decide) h), fun h => h7 (upd_ne (by decide) h), fun h => h8 (upd_ne (by decide) h), fun h => h9 (upd_ne (by decide) h), fun h => h10 (upd_ne (by decide) h), fun _ => rfl, fun h => h12 (upd_ne (by decide) h), fun _ => rfl, fun h => h15 (upd_ne (by decide) h), (by obtain ⟨p4, p5⟩ := rz0; exact ⟨fun h' => p4 (by rw [upd_same (by decide)] at h'; exact h'), fun h' => p5 (upd_ne (by decide) h')⟩), hB⟩
  · rintro f a W ⟨x7, x8, x9, x10, x11, x12, x13, x14, x15, x16, x17, x18, x19, x20, x6, rfl, H⟩ hf hd K hK
    have h0 := H.1
    replace H := H.2
    have h1 := H.1
    replace H := H.2
    have h2 := H.1
    replace H := H.2
    have h3 := H.1
    replace H := H.2
    have h4 := H.1
    replace H := H.2
    have h5 := H.1
    replace H := H.2
    have h6 := H.1
    replace H := H.2
    have h7 := H.1
    replace H := H.2
    have h8 := H.1
    replace H := H.2
    have h9 := H.1
    replace H := H.2
    have h10 := H.1
    replace H := H.2
    have h11 := H.1
    replace H := H.2
    have h12 := H.1
    replace H := H.2
    have h13 := H.1
    replace H := H.2
    have h15 := H.1
    replace H := H.2
    have rz0 := H.1
    replace H := H.2
    have hB := H
    clear H
    have e12 := h12 (dep_of hd (e := ⟨12, .data⟩) (by simp) rfl)
    subst e12
    have oz := rz0.1 hf
    have r0 := oz.cell 0 _ rfl
    have o0_ := oz.frz 0 _ rfl
    have r1 := oz.cell 1 _ rfl
    have o1_ := oz.frz 1 _ rfl
    go_simp
    refine hK _ _ ?_
    exact ⟨x7, x8, x9, x10, x11, x12, x13, x14, x15, x16, x17, x18, _, x20, x6, rfl, fun h => h0 (upd_ne (by decide) h), fun h => h1 (upd_ne (by decide) h), fun h => h2 (upd_ne (by decide) h), fun h => h3 (upd_ne (by decide) h), fun h => h4 (upd_ne (by decide) h), fun h => h5 (upd_ne (by decide) h), fun h => h6 (upd_ne (by decide) h), fun h => h7 (upd_ne (by decide) h), fun h => h8 (upd_ne (by decide) h), fun h => h9 (upd_ne (by decide) h), fun h => h10 (upd_ne (by decide) h), fun h => h11 (upd_ne (by decide) h), fun _ => rfl, fun h => h13 (upd_ne (by decide) h), fun h => h15 (upd_ne (by decide) h), ⟨fun h' => (by rw [upd_self] at h'; cases h'), fun _ => Own.set (i := 1) (Own.set (i := 0) (oz) _ (by simp)) _ (by simp)⟩, ((hB.set (p := ⟨w.heap.size, 0, none⟩) (by simp) _).set (p := ⟨w.heap.size, 1, none⟩) (by simp) _)⟩
  · rintro f a W ⟨x7, x8, x9, x10, x11, x12, x13, x14, x15, x16, x17, x18, x19, x20, x6, rfl, H⟩ hf hd K hK
    have h0 := H.1
    replace H := H.2
    have h1 := H.1
    replace H := H.2
    have h2 := H.1
    replace H := H.2
    have h3 := H.1
    replace H := H.2
    have h4 := H.1
    replace H := H.2
    have h5 := H.1
    replace H := H.2
    have h6 := H.1
    replace H := H.2
    have h7 := H.1
    replace H := H.2
    have h8 := H.1
    replace H := H.2
    have h9 := H.1
    replace H := H.2
    have h10 := H.1
    replace H := H.2
    have h11 := H.1
    replace H := H.2
    have h12 := H.1
    replace H := H.2
    have h13 := H.1
    replace H := H.2
    have h15 := H.1
    replace H := H.2
    have rz0 := H.1
    replace H := H.2
    have hB := H
    clear H
    have e13 := h13 (dep_of hd (e := ⟨13, .data⟩) (by simp) rfl)
    subst e13
    go_simp
    refine hK _ _ ?_
    exact ⟨x7, x8, x9, x10, x11, x12, x13, x14, x15, x16, x17, x18, x19, _, _, rfl, fun h => h0 (upd_ne (by decide) h), fun h => h1 (upd_ne (by decide) h), fun h => h2 (upd_ne (by decide) h), fun h => h3 (upd_ne (by decide) h), fun h => h4 (upd_ne (by decide) h), fun h => h5 (upd_ne (by decide) h), fun h => h6 (upd_ne (by decide) h), fun h => h7 (upd_ne (by decide) h), fun h => h8 (upd_ne (by decide) h), fun h => h9 (upd_ne (by decide) h), fun h => h10 (upd_ne (by decide) h), fun h => h11 (upd_ne (by decide) h), fun h => h12 (upd_ne (by decide) h), fun _ => rfl, fun _ => rfl, (by obtain ⟨p4, p5⟩ := rz0; exact ⟨fun h' => p4 (by rw [upd_same (by decide)] at h'; exact h'), fun h' => p5 (upd_ne (by decide) h')⟩), hB⟩
  rintro f a w2 ⟨x7, x8, x9, x10, x11, x12, x13, x14, x15, x16, x17, x18, x19, x20, x6, rfl, H⟩ hall
  have h0 := H.1
  replace H := H.2
  have h1 := H.1
  replace H := H.2
  have h2 := H.1
  replace H := H.2
  have h3 := H.1
  replace H := H.2
  have h4 := H.1
  replace H := H.2
  have h5 := H.1
  replace H := H.2
  have h6 := H.1
  replace H := H.2
  have h7 := H.1
  replace H := H.2
  have h8 := H.1
  replace H := H.2
  have h9 := H.1
  replace H := H.2
  have h10 := H.1
  replace H := H.2
  have h11 := H.1
  replace H := H.2
  have h12 := H.1
  replace H := H.2
  have h13 := H.1
  replace H := H.2
  have h15 := H.1
  replace H := H.2
  have rz0 := H.1
  replace H := H.2
  have qB := H
  clear H
  have e0 := h0 (hall 0 (by decide))
  subst e0
  have e1 := h1 (hall 1 (by decide))
  subst e1
  have e2 := h2 (hall 2 (by decide))
  subst e2
  have e3 := h3 (hall 3 (by decide))
  subst e3
  have e4 := h4 (hall 4 (by decide))
  subst e4
  have e5 := h5 (hall 5 (by decide))
  subst e5
  have e6 := h6 (hall 6 (by decide))
  subst e6
  have e7 := h7 (hall 7 (by decide))
  subst e7
  have e8 := h8 (hall 8 (by decide))
  subst e8
  have e9 := h9 (hall 9 (by decide))
  subst e9
  have e10 := h10 (hall 10 (by decide))
  subst e10
  have e11 := h11 (hall 11 (by decide))
  subst e11
  have e12 := h12 (hall 12 (by decide))
  subst e12
  have e13 := h13 (hall 13 (by decide))
  subst e13
  have e15 := h15 (hall 15 (by decide))
  subst e15
  replace rz0 := rz0.2 (hall 14 (by decide))
  clear hall h0 h1 h2 h3 h4 h5 h6 h7 h8 h9 h10 h11 h12 h13 h15
  try dsimp only
  go_wp2
  exact pairEndO rfl rz0 (q0.trans (qB.below (by simp) (by omega))) rfl rfl

set_option maxHeartbeats 1000000 in
theorem implBoxMeet (w : World) (n : Int) (a b : Option Addr) (ps qs : List (Int × Int)) (cap cap' : Nat) (h : PairsAt w a ps) (h' : PairsAt w b qs) (hl : ps.length ≤ cap) (hl' : qs.length ≤ cap') (hm : ps.length ≤ 1048576) (hm' : qs.length ≤ 1048576) :
    Calls Try.prog 32 #[.int .i64 n, .agg #[.slice a ps.length cap], .agg #[.slice b qs.length cap']] w (BoxOut w (meetL n ps qs) (meetK n ps qs)) := by
  have q0 : Below w.heap.size w ((((w.alloc (.cells #[.int .i64 n] 3)).alloc (.cells #[.slice a ps.length cap] 41)).alloc (.cells #[.slice b qs.length cap'] 41)).alloc (.cells #[.slice none 0 0] 41)) := ((((Below.refl _ w).alloc (Nat.le_refl _) _).alloc (by simp) _).alloc (by simp; omega) _).alloc (by simp; omega) _
  have oN := (((Own.new w #[.int .i64 n] 3).alloc (.cells #[.slice a ps.length cap] 41)).alloc (.cells #[.slice b qs.length cap'] 41)).alloc (.cells #[.slice none 0 0] 41)
  have oA := ((Own.new (w.alloc (.cells #[.int .i64 n] 3)) #[.slice a ps.length cap] 41).alloc (.cells #[.slice b qs.length cap'] 41)).alloc (.cells #[.slice none 0 0] 41)
  have oB := (Own.new ((w.alloc (.cells #[.int .i64 n] 3)).alloc (.cells #[.slice a ps.length cap] 41)) #[.slice b qs.length cap'] 41).alloc (.cells #[.slice none 0 0] 41)
  have oR := Own.new (((w.alloc (.cells #[.int .i64 n] 3)).alloc (.cells #[.slice a ps.length cap] 41)).alloc (.cells #[.slice b qs.length cap'] 41)) #[.slice none 0 0] 41
  simp only [World.size_alloc] at oA oB oR
  have k1 := fun W (q : Below w.heap.size w W) => implBoxOk W n a ps cap (h.below q) hl hm
  have k2 := fun W (q : Below w.heap.size w W) => implBoxOk W n b qs cap' (h'.below q) hl' hm'
  have hM := fun W (q : Below w.heap.size w W) (oV : Own W w.heap.size [.int .i64 n]) (oW : Own W (w.heap.size + 1) [.slice a ps.length cap]) (oX : Own W (w.heap.size + 1 + 1) [.slice b qs.length cap']) (hlen : ps.length = qs.length) => boxMade W ps.length hm 67 #[.pointer (some ⟨w.heap.size, 0, none⟩), .pointer (some ⟨w.heap.size + 1, 0, none⟩), .pointer (some ⟨w.heap.size + 1 + 1, 0, none⟩)] (meetF n ps qs) (enters_of Try.func67 (by kernel_rfl) rfl)
    (fun i hi => meet_wf n (h.wfD hi) (h'.wfD (by omega))) (fun i V hi hV => by
      have hA := (h.below q).below hV
      have hB := (h'.below q).below hV
      have hi' : i < qs.length := by omega
      have wa := hA.wfD hi
      have wb := hB.wfD hi'
      obtain ⟨sb, so, ha, hlt, c0, c1⟩ := hA.atD hi
      obtain ⟨tb, to', hb, hlt', d0, d1⟩ := hB.atD hi'
      subst ha hb
      have oX' := oX
      rw [← hlen] at oX'
      exact meetFits V n i _ _ _ _ w.heap.size (w.heap.size + 1) (w.heap.size + 1 + 1) sb so tb to' ps.length cap cap' hi hl (by omega) hm wa.1 wa.2 wb.1 wb.2 (Nat.lt_of_lt_of_le oV.lt hV.size) ((hV.cell (p := ⟨w.heap.size, 0, none⟩) oV.lt).trans (oV.cell 0 _ rfl)) (Nat.lt_of_lt_of_le oW.lt hV.size) ((hV.cell (p := ⟨w.heap.size + 1, 0, none⟩) oW.lt).trans (oW.cell 0 _ rfl)) (Nat.lt_of_lt_of_le oX'.lt hV.size) ((hV.cell (p := ⟨w.heap.size + 1 + 1, 0, none⟩) oX'.lt).trans (oX'.cell 0 _ rfl)) hlt hlt' c0 c1 d0 d1)
  have no : meetG n ps qs = false → Hid (meetK n ps qs = false ∧ meetL n ps qs = []) := fun e => ⟨meet_noG e, meet_no (meet_noG e)⟩
  cases h1 : bokI n ps
  · have E := no (by unfold meetG; rw [h1]; rfl)
    rw [h1] at k1
    clear hM k2 no
    generalize ps.length = len at *
    generalize qs.length = len' at *
    have c0 := oN.cell 0 _ rfl
    have c1 := oA.cell 0 _ rfl
    go_enter Try.func32, Try.ntmps32
    go_wp2_with (go_at_call 34; refine (k1 _ q0).mono ?_; clear k1; rintro e w2 ⟨rfl, q⟩; replace oR := oR.below q; replace q0 := q0.trans (q.mono q0.size); clear q; have d0 := oR.cell 0 _ rfl; have d1 := oR.frz 0 _ rfl)
    refine boxEnd (ps := meetL n ps qs) (o := none) rfl (by rw [E.out.2]; rfl) oR q0 (by omega) (Nat.le_refl _) ?_ (fun G hG => by cases hG) (fun e => by cases e) rfl (by rw [E.out.1]; rfl)
    rw [E.out.2]
    exact ⟨fun p hp => by simp at hp, .inl ⟨rfl, rfl⟩⟩
  cases h2 : bokI n qs
  · have E := no (by unfold meetG; rw [h1, h2]; rfl)
    rw [h1] at k1
    rw [h2] at k2
    clear hM no
    generalize ps.length = len at *
    generalize qs.length = len' at *
    have c0 := oN.cell 0 _ rfl
    have c1 := oA.cell 0 _ rfl
    go_enter Try.func32, Try.ntmps32
    go_wp2_with first
      | (go_at_call 34; refine (k1 _ q0).mono ?_; clear k1 c0 c1; rintro e w2 ⟨rfl, q⟩; replace oN := oN.below q; replace oB := oB.below q; replace oR := oR.below q; replace q0 := q0.trans (q.mono q0.size); clear q; have c0 := oN.cell 0 _ rfl; have c1 := oB.cell 0 _ rfl)
      | (go_at_call 34; refine (k2 _ q0).mono ?_; clear k2 c0 c1; rintro e w3 ⟨rfl, q⟩; replace oR := oR.below q; replace q0 := q0.trans (q.mono q0.size); clear q; have d0 := oR.cell 0 _ rfl; have d1 := oR.frz 0 _ rfl)
    refine boxEnd (ps := meetL n ps qs) (o := none) rfl (by rw [E.out.2]; rfl) oR q0 (by omega) (Nat.le_refl _) ?_ (fun G hG => by cases hG) (fun e => by cases e) rfl (by rw [E.out.1]; rfl)
    rw [E.out.2]
    exact ⟨fun p hp => by simp at hp, .inl ⟨rfl, rfl⟩⟩
  by_cases hlen : ps.length = qs.length
  · have G := meet_yes (n := n) (ps := ps) (qs := qs) (by unfold meetG; rw [h1, h2, decide_eq_true hlen]; rfl)
    rw [h1] at k1
    rw [h2] at k2
    replace hM := fun W q oV oW oX => hM W q oV oW oX hlen
    rw [← G.1, ← G.2] at hM
    clear G no h1 h2
    generalize meetL n ps qs = L at *
    generalize meetK n ps qs = K at *
    rw [← hlen] at q0 oN oA oB oR k2 hM hl' hm' ⊢
    clear h h' hlen
    obtain ⟨len, hlen⟩ : ∃ len, ps.length = len := ⟨_, rfl⟩
    rw [hlen] at q0 oN oA oB oR k1 k2 hM ⊢
    clear hlen hl hl' hm hm'
    have c0 := oN.cell 0 _ rfl
    have c1 := oA.cell 0 _ rfl
    go_enter Try.func32, Try.ntmps32
    go_wp2_with first
      | (go_at_call 34; refine (k1 _ q0).mono ?_; clear k1 c0 c1; rintro e w2 ⟨rfl, q⟩; replace oN := oN.below q; replace oA := oA.below q; replace oB := oB.below q; replace oR := oR.below q; replace q0 := q0.trans (q.mono q0.size); clear q; have c0 := oN.cell 0 _ rfl; have c1 := oB.cell 0 _ rfl)
      | (go_at_call 34; refine (k2 _ q0).mono ?_; clear k2 c0 c1; rintro e w3 ⟨rfl, q⟩; replace oN := oN.below q; replace oA := oA.below q; replace oB := oB.below q; replace oR := oR.below q; replace q0 := q0.trans (q.mono q0.size); clear q; have c0 := oA.cell 0 _ rfl; have c1 := oB.cell 0 _ rfl)
      | (go_at_call 66; refine (hM _ q0 oN oA oB).mono ?_; clear hM; rintro e w4 ⟨a4, cap4, o4, rfl, hc4, hp4, ho4, q⟩; have lR : Hid (w.heap.size + 1 + 1 + 1 < w3.heap.size) := oR.lt; replace oR := oR.below q; have q1 := q0.trans (q.mono q0.size); have d0 := oR.cell 0 _ rfl; have d1 := oR.frz 0 _ rfl)
    have hs := q0.size
    exact boxEnd rfl rfl oR q1 (by omega) hc4 hp4 (fun G hG => by have := ho4 G hG; omega) (fun e => by have := ho4 _ e; have := lR.out; omega) rfl rfl
  · have E := no (by unfold meetG; rw [h1, h2, decide_eq_false hlen]; rfl)
    rw [h1] at k1
    rw [h2] at k2
    clear hM no
    have hne : ¬ (ps.length : Int) = qs.length := by omega
    generalize ps.length = len at *
    generalize qs.length = len' at *
    have c0 := oN.cell 0 _ rfl
    have c1 := oA.cell 0 _ rfl
    go_enter Try.func32, Try.ntmps32
    go_wp2_with first
      | (go_at_call 34; refine (k1 _ q0).mono ?_; clear k1 c0 c1; rintro e w2 ⟨rfl, q⟩; replace oN := oN.below q; replace oA := oA.below q; replace oB := oB.below q; replace oR := oR.below q; replace q0 := q0.trans (q.mono q0.size); clear q; have c0 := oN.cell 0 _ rfl; have c1 := oB.cell 0 _ rfl)
      | (go_at_call 34; refine (k2 _ q0).mono ?_; clear k2 c0 c1; rintro e w3 ⟨rfl, q⟩; replace oA := oA.below q; replace oB := oB.below q; replace oR := oR.below q; replace q0 := q0.trans (q.mono q0.size); clear q; have c0 := oA.cell 0 _ rfl; have c1 := oB.cell 0 _ rfl; have d0 := oR.cell 0 _ rfl; have d1 := oR.frz 0 _ rfl)
    refine boxEnd (ps := meetL n ps qs) (o := none) rfl (by rw [E.out.2]; rfl) oR q0 (by omega) (Nat.le_refl _) ?_ (fun G hG => by cases hG) (fun e => by cases e) rfl (by rw [E.out.1]; rfl)
    rw [E.out.2]
    exact ⟨fun p hp => by simp at hp, .inl ⟨rfl, rfl⟩⟩

end Go.Proofs.Yteohgmmenlinbab
