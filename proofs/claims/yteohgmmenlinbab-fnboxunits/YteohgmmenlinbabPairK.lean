/- PairCut of the model: its contract. -/
import Derived.Test.YteohgmmenlinbabSpanS
import Derived.Test.YteohgmmenlinbabPairG
import Derived.Test.YteohgmmenlinbabOwns
namespace Go.Proofs.Yteohgmmenlinbab
open Go.ChangeShapes Go.WideShapes Go.ChangeAt Go.RowKit
set_option linter.unusedVariables false

def cutB (n x y g h : Int) : Bool := pokI n x y && (decide (g < h) && (pokI n x g && pokI n h y))

set_option maxHeartbeats 4000000 in
theorem specCutNo (w : World) (n x y g h : Int) (a1 : (Lit.int .i64 x).wf = true) (a2 : (Lit.int .i64 y).wf = true) (a3 : (Lit.int .i64 g).wf = true) (a4 : (Lit.int .i64 h).wf = true) (hk : cutB n x y g h = false) :
    Calls Try.prog 17 #[.int .i64 n, .agg #[.int .i64 x, .int .i64 y], .agg #[.int .i64 g, .int .i64 h]] w (TwoOut2 w 0 0 0 0 false) := by
  have p1 := fun W => specPairOk W n x y a1 a2
  have p2 := fun W => specPairOk W n x g a1 a3
  have p3 := fun W => specPairOk W n h y a4 a2
  have q1 := fun W => l3gap W x g a1 a3
  have q2 := fun W => l3gap W h y a4 a2
  have O := owns6 w #[.int .i64 x, .int .i64 y] #[.int .i64 g, .int .i64 h] #[.int .i64 0, .int .i64 0] #[.int .i64 0, .int .i64 0] #[.int .i64 x, .int .i64 g] #[.int .i64 h, .int .i64 y] 24
  have hb := (((((((Below.refl _ w).alloc (Nat.le_refl _) (.cells #[.int .i64 x, .int .i64 y] 24)).alloc (by simp) (.cells #[.int .i64 g, .int .i64 h] 24)).alloc (by simp; omega) (.cells #[.int .i64 0, .int .i64 0] 24)).alloc (by simp; omega) (.cells #[.int .i64 0, .int .i64 0] 24)).alloc (by simp; omega) (.cells #[.int .i64 x, .int .i64 g] 24)).alloc (by simp; omega) (.cells #[.int .i64 h, .int .i64 y] 24))
  have b0 : Own _ (w.heap.size) _ := O.get 0 _ rfl
  have x00 := b0.cell 0 _ rfl
  have x01 := b0.cell 1 _ rfl
  unfold cutB at hk
  generalize pokI n x y = k1 at *
  generalize pokI n x g = k3 at *
  generalize pokI n h y = k4 at *
  cases k1
  · clear hk
    go_enter Try.func17, Try.ntmps17
    go_wp2_with first
      | (go_at_call 21; refine (p1 _).mono ?_; clear p1; rintro e w2 ⟨rfl, q⟩; replace O := O.below q; replace hb := hb.trans (q.mono hb.size); clear q; have b0 : Own w2 (w.heap.size) _ := O.get 0 _ rfl; have x00 := b0.cell 0 _ rfl; have x01 := b0.cell 1 _ rfl; have b1 : Own w2 (w.heap.size + 1) _ := O.get 1 _ rfl; have x10 := b1.cell 0 _ rfl; have x11 := b1.cell 1 _ rfl; have b2 : Own w2 (w.heap.size + 1 + 1) _ := O.get 2 _ rfl; have x20 := b2.cell 0 _ rfl; have x21 := b2.cell 1 _ rfl; have b3 : Own w2 (w.heap.size + 1 + 1 + 1) _ := O.get 3 _ rfl; have x30 := b3.cell 0 _ rfl; have x31 := b3.cell 1 _ rfl; have b4 : Own w2 (w.heap.size + 1 + 1 + 1 + 1) _ := O.get 4 _ rfl; have x40 := b4.cell 0 _ rfl; have x41 := b4.cell 1 _ rfl; have b5 : Own w2 (w.heap.size + 1 + 1 + 1 + 1 + 1) _ := O.get 5 _ rfl; have x50 := b5.cell 0 _ rfl; have x51 := b5.cell 1 _ rfl; have y20 := b2.frz 0 _ rfl; have y21 := b2.frz 1 _ rfl; have y30 := b3.frz 0 _ rfl; have y31 := b3.frz 1 _ rfl)
      | (go_at_call 21; refine (p2 _).mono ?_; clear p2; rintro e w3 ⟨rfl, q⟩; replace O := O.below q; replace hb := hb.trans (q.mono hb.size); clear q; have b0 : Own w3 (w.heap.size) _ := O.get 0 _ rfl; have x00 := b0.cell 0 _ rfl; have x01 := b0.cell 1 _ rfl; have b1 : Own w3 (w.heap.size + 1) _ := O.get 1 _ rfl; have x10 := b1.cell 0 _ rfl; have x11 := b1.cell 1 _ rfl; have b2 : Own w3 (w.heap.size + 1 + 1) _ := O.get 2 _ rfl; have x20 := b2.cell 0 _ rfl; have x21 := b2.cell 1 _ rfl; have b3 : Own w3 (w.heap.size + 1 + 1 + 1) _ := O.get 3 _ rfl; have x30 := b3.cell 0 _ rfl; have x31 := b3.cell 1 _ rfl; have b4 : Own w3 (w.heap.size + 1 + 1 + 1 + 1) _ := O.get 4 _ rfl; have x40 := b4.cell 0 _ rfl; have x41 := b4.cell 1 _ rfl; have b5 : Own w3 (w.heap.size + 1 + 1 + 1 + 1 + 1) _ := O.get 5 _ rfl; have x50 := b5.cell 0 _ rfl; have x51 := b5.cell 1 _ rfl; have y20 := b2.frz 0 _ rfl; have y21 := b2.frz 1 _ rfl; have y30 := b3.frz 0 _ rfl; have y31 := b3.frz 1 _ rfl)
      | (go_at_call 21; refine (p3 _).mono ?_; clear p3; rintro e w4 ⟨rfl, q⟩; replace O := O.below q; replace hb := hb.trans (q.mono hb.size); clear q; have b0 : Own w4 (w.heap.size) _ := O.get 0 _ rfl; have x00 := b0.cell 0 _ rfl; have x01 := b0.cell 1 _ rfl; have b1 : Own w4 (w.heap.size + 1) _ := O.get 1 _ rfl; have x10 := b1.cell 0 _ rfl; have x11 := b1.cell 1 _ rfl; have b2 : Own w4 (w.heap.size + 1 + 1) _ := O.get 2 _ rfl; have x20 := b2.cell 0 _ rfl; have x21 := b2.cell 1 _ rfl; have b3 : Own w4 (w.heap.size + 1 + 1 + 1) _ := O.get 3 _ rfl; have x30 := b3.cell 0 _ rfl; have x31 := b3.cell 1 _ rfl; have b4 : Own w4 (w.heap.size + 1 + 1 + 1 + 1) _ := O.get 4 _ rfl; have x40 := b4.cell 0 _ rfl; have x41 := b4.cell 1 _ rfl; have b5 : Own w4 (w.heap.size + 1 + 1 + 1 + 1 + 1) _ := O.get 5 _ rfl; have x50 := b5.cell 0 _ rfl; have x51 := b5.cell 1 _ rfl; have y20 := b2.frz 0 _ rfl; have y21 := b2.frz 1 _ rfl; have y30 := b3.frz 0 _ rfl; have y31 := b3.frz 1 _ rfl)
    exact twoEndS rfl (O.get 2 _ rfl : Own _ (w.heap.size + 1 + 1) _) (O.get 3 _ rfl : Own _ (w.heap.size + 1 + 1 + 1) _) hb (by omega) (by omega) (by omega) rfl rfl rfl
  · by_cases k2 : g < h
    · cases k3
      · clear hk
        go_enter Try.func17, Try.ntmps17
        go_wp2_with first
          | (go_at_call 21; refine (p1 _).mono ?_; clear p1; rintro e w2 ⟨rfl, q⟩; replace O := O.below q; replace hb := hb.trans (q.mono hb.size); clear q; have b0 : Own w2 (w.heap.size) _ := O.get 0 _ rfl; have x00 := b0.cell 0 _ rfl; have x01 := b0.cell 1 _ rfl; have b1 : Own w2 (w.heap.size + 1) _ := O.get 1 _ rfl; have x10 := b1.cell 0 _ rfl; have x11 := b1.cell 1 _ rfl; have b2 : Own w2 (w.heap.size + 1 + 1) _ := O.get 2 _ rfl; have x20 := b2.cell 0 _ rfl; have x21 := b2.cell 1 _ rfl; have b3 : Own w2 (w.heap.size + 1 + 1 + 1) _ := O.get 3 _ rfl; have x30 := b3.cell 0 _ rfl; have x31 := b3.cell 1 _ rfl; have b4 : Own w2 (w.heap.size + 1 + 1 + 1 + 1) _ := O.get 4 _ rfl; have x40 := b4.cell 0 _ rfl; have x41 := b4.cell 1 _ rfl; have b5 : Own w2 (w.heap.size + 1 + 1 + 1 + 1 + 1) _ := O.get 5 _ rfl; have x50 := b5.cell 0 _ rfl; have x51 := b5.cell 1 _ rfl; have y20 := b2.frz 0 _ rfl; have y21 := b2.frz 1 _ rfl; have y30 := b3.frz 0 _ rfl; have y31 := b3.frz 1 _ rfl)
          | (go_at_call 21; refine (p2 _).mono ?_; clear p2; rintro e w3 ⟨rfl, q⟩; replace O := O.below q; replace hb := hb.trans (q.mono hb.size); clear q; have b0 : Own w3 (w.heap.size) _ := O.get 0 _ rfl; have x00 := b0.cell 0 _ rfl; have x01 := b0.cell 1 _ rfl; have b1 : Own w3 (w.heap.size + 1) _ := O.get 1 _ rfl; have x10 := b1.cell 0 _ rfl; have x11 := b1.cell 1 _ rfl; have b2 : Own w3 (w.heap.size + 1 + 1) _ := O.get 2 _ rfl; have x20 := b2.cell 0 _ rfl; have x21 := b2.cell 1 _ rfl; have b3 : Own w3 (w.heap.size + 1 + 1 + 1) _ := O.get 3 _ rfl; have x30 := b3.cell 0 _ rfl; have x31 := b3.cell 1 _ rfl; have b4 : Own w3 (w.heap.size + 1 + 1 + 1 + 1) _ := O.get 4 _ rfl; have x40 := b4.cell 0 _ rfl; have x41 := b4.cell 1 _ rfl; have b5 : Own w3 (w.heap.size + 1 + 1 + 1 + 1 + 1) _ := O.get 5 _ rfl; have x50 := b5.cell 0 _ rfl; have x51 := b5.cell 1 _ rfl; have y20 := b2.frz 0 _ rfl; have y21 := b2.frz 1 _ rfl; have y30 := b3.frz 0 _ rfl; have y31 := b3.frz 1 _ rfl)
          | (go_at_call 21; refine (p3 _).mono ?_; clear p3; rintro e w4 ⟨rfl, q⟩; replace O := O.below q; replace hb := hb.trans (q.mono hb.size); clear q; have b0 : Own w4 (w.heap.size) _ := O.get 0 _ rfl; have x00 := b0.cell 0 _ rfl; have x01 := b0.cell 1 _ rfl; have b1 : Own w4 (w.heap.size + 1) _ := O.get 1 _ rfl; have x10 := b1.cell 0 _ rfl; have x11 := b1.cell 1 _ rfl; have b2 : Own w4 (w.heap.size + 1 + 1) _ := O.get 2 _ rfl; have x20 := b2.cell 0 _ rfl; have x21 := b2.cell 1 _ rfl; have b3 : Own w4 (w.heap.size + 1 + 1 + 1) _ := O.get 3 _ rfl; have x30 := b3.cell 0 _ rfl; have x31 := b3.cell 1 _ rfl; have b4 : Own w4 (w.heap.size + 1 + 1 + 1 + 1) _ := O.get 4 _ rfl; have x40 := b4.cell 0 _ rfl; have x41 := b4.cell 1 _ rfl; have b5 : Own w4 (w.heap.size + 1 + 1 + 1 + 1 + 1) _ := O.get 5 _ rfl; have x50 := b5.cell 0 _ rfl; have x51 := b5.cell 1 _ rfl; have y20 := b2.frz 0 _ rfl; have y21 := b2.frz 1 _ rfl; have y30 := b3.frz 0 _ rfl; have y31 := b3.frz 1 _ rfl)
        exact twoEndS rfl (O.get 2 _ rfl : Own _ (w.heap.size + 1 + 1) _) (O.get 3 _ rfl : Own _ (w.heap.size + 1 + 1 + 1) _) hb (by omega) (by omega) (by omega) rfl rfl rfl
      · cases k4
        · clear hk
          go_enter Try.func17, Try.ntmps17
          go_wp2_with first
            | (go_at_call 21; refine (p1 _).mono ?_; clear p1; rintro e w2 ⟨rfl, q⟩; replace O := O.below q; replace hb := hb.trans (q.mono hb.size); clear q; have b0 : Own w2 (w.heap.size) _ := O.get 0 _ rfl; have x00 := b0.cell 0 _ rfl; have x01 := b0.cell 1 _ rfl; have b1 : Own w2 (w.heap.size + 1) _ := O.get 1 _ rfl; have x10 := b1.cell 0 _ rfl; have x11 := b1.cell 1 _ rfl; have b2 : Own w2 (w.heap.size + 1 + 1) _ := O.get 2 _ rfl; have x20 := b2.cell 0 _ rfl; have x21 := b2.cell 1 _ rfl; have b3 : Own w2 (w.heap.size + 1 + 1 + 1) _ := O.get 3 _ rfl; have x30 := b3.cell 0 _ rfl; have x31 := b3.cell 1 _ rfl; have b4 : Own w2 (w.heap.size + 1 + 1 + 1 + 1) _ := O.get 4 _ rfl; have x40 := b4.cell 0 _ rfl; have x41 := b4.cell 1 _ rfl; have b5 : Own w2 (w.heap.size + 1 + 1 + 1 + 1 + 1) _ := O.get 5 _ rfl; have x50 := b5.cell 0 _ rfl; have x51 := b5.cell 1 _ rfl; have y20 := b2.frz 0 _ rfl; have y21 := b2.frz 1 _ rfl; have y30 := b3.frz 0 _ rfl; have y31 := b3.frz 1 _ rfl)
            | (go_at_call 21; refine (p2 _).mono ?_; clear p2; rintro e w3 ⟨rfl, q⟩; replace O := O.below q; replace hb := hb.trans (q.mono hb.size); clear q; have b0 : Own w3 (w.heap.size) _ := O.get 0 _ rfl; have x00 := b0.cell 0 _ rfl; have x01 := b0.cell 1 _ rfl; have b1 : Own w3 (w.heap.size + 1) _ := O.get 1 _ rfl; have x10 := b1.cell 0 _ rfl; have x11 := b1.cell 1 _ rfl; have b2 : Own w3 (w.heap.size + 1 + 1) _ := O.get 2 _ rfl; have x20 := b2.cell 0 _ rfl; have x21 := b2.cell 1 _ rfl; have b3 : Own w3 (w.heap.size + 1 + 1 + 1) _ := O.get 3 _ rfl; have x30 := b3.cell 0 _ rfl; have x31 := b3.cell 1 _ rfl; have b4 : Own w3 (w.heap.size + 1 + 1 + 1 + 1) _ := O.get 4 _ rfl; have x40 := b4.cell 0 _ rfl; have x41 := b4.cell 1 _ rfl; have b5 : Own w3 (w.heap.size + 1 + 1 + 1 + 1 + 1) _ := O.get 5 _ rfl; have x50 := b5.cell 0 _ rfl; have x51 := b5.cell 1 _ rfl; have y20 := b2.frz 0 _ rfl; have y21 := b2.frz 1 _ rfl; have y30 := b3.frz 0 _ rfl; have y31 := b3.frz 1 _ rfl)
            | (go_at_call 21; refine (p3 _).mono ?_; clear p3; rintro e w4 ⟨rfl, q⟩; replace O := O.below q; replace hb := hb.trans (q.mono hb.size); clear q; have b0 : Own w4 (w.heap.size) _ := O.get 0 _ rfl; have x00 := b0.cell 0 _ rfl; have x01 := b0.cell 1 _ rfl; have b1 : Own w4 (w.heap.size + 1) _ := O.get 1 _ rfl; have x10 := b1.cell 0 _ rfl; have x11 := b1.cell 1 _ rfl; have b2 : Own w4 (w.heap.size + 1 + 1) _ := O.get 2 _ rfl; have x20 := b2.cell 0 _ rfl; have x21 := b2.cell 1 _ rfl; have b3 : Own w4 (w.heap.size + 1 + 1 + 1) _ := O.get 3 _ rfl; have x30 := b3.cell 0 _ rfl; have x31 := b3.cell 1 _ rfl; have b4 : Own w4 (w.heap.size + 1 + 1 + 1 + 1) _ := O.get 4 _ rfl; have x40 := b4.cell 0 _ rfl; have x41 := b4.cell 1 _ rfl; have b5 : Own w4 (w.heap.size + 1 + 1 + 1 + 1 + 1) _ := O.get 5 _ rfl; have x50 := b5.cell 0 _ rfl; have x51 := b5.cell 1 _ rfl; have y20 := b2.frz 0 _ rfl; have y21 := b2.frz 1 _ rfl; have y30 := b3.frz 0 _ rfl; have y31 := b3.frz 1 _ rfl)
          exact twoEndS rfl (O.get 2 _ rfl : Own _ (w.heap.size + 1 + 1) _) (O.get 3 _ rfl : Own _ (w.heap.size + 1 + 1 + 1) _) hb (by omega) (by omega) (by omega) rfl rfl rfl
        · simp [k2] at hk
    · clear hk
      go_enter Try.func17, Try.ntmps17
      go_wp2_with first
        | (go_at_call 21; refine (p1 _).mono ?_; clear p1; rintro e w2 ⟨rfl, q⟩; replace O := O.below q; replace hb := hb.trans (q.mono hb.size); clear q; have b0 : Own w2 (w.heap.size) _ := O.get 0 _ rfl; have x00 := b0.cell 0 _ rfl; have x01 := b0.cell 1 _ rfl; have b1 : Own w2 (w.heap.size + 1) _ := O.get 1 _ rfl; have x10 := b1.cell 0 _ rfl; have x11 := b1.cell 1 _ rfl; have b2 : Own w2 (w.heap.size + 1 + 1) _ := O.get 2 _ rfl; have x20 := b2.cell 0 _ rfl; have x21 := b2.cell 1 _ rfl; have b3 : Own w2 (w.heap.size + 1 + 1 + 1) _ := O.get 3 _ rfl; have x30 := b3.cell 0 _ rfl; have x31 := b3.cell 1 _ rfl; have b4 : Own w2 (w.heap.size + 1 + 1 + 1 + 1) _ := O.get 4 _ rfl; have x40 := b4.cell 0 _ rfl; have x41 := b4.cell 1 _ rfl; have b5 : Own w2 (w.heap.size + 1 + 1 + 1 + 1 + 1) _ := O.get 5 _ rfl; have x50 := b5.cell 0 _ rfl; have x51 := b5.cell 1 _ rfl; have y20 := b2.frz 0 _ rfl; have y21 := b2.frz 1 _ rfl; have y30 := b3.frz 0 _ rfl; have y31 := b3.frz 1 _ rfl)
        | (go_at_call 21; refine (p2 _).mono ?_; clear p2; rintro e w3 ⟨rfl, q⟩; replace O := O.below q; replace hb := hb.trans (q.mono hb.size); clear q; have b0 : Own w3 (w.heap.size) _ := O.get 0 _ rfl; have x00 := b0.cell 0 _ rfl; have x01 := b0.cell 1 _ rfl; have b1 : Own w3 (w.heap.size + 1) _ := O.get 1 _ rfl; have x10 := b1.cell 0 _ rfl; have x11 := b1.cell 1 _ rfl; have b2 : Own w3 (w.heap.size + 1 + 1) _ := O.get 2 _ rfl; have x20 := b2.cell 0 _ rfl; have x21 := b2.cell 1 _ rfl; have b3 : Own w3 (w.heap.size + 1 + 1 + 1) _ := O.get 3 _ rfl; have x30 := b3.cell 0 _ rfl; have x31 := b3.cell 1 _ rfl; have b4 : Own w3 (w.heap.size + 1 + 1 + 1 + 1) _ := O.get 4 _ rfl; have x40 := b4.cell 0 _ rfl; have x41 := b4.cell 1 _ rfl; have b5 : Own w3 (w.heap.size + 1 + 1 + 1 + 1 + 1) _ := O.get 5 _ rfl; have x50 := b5.cell 0 _ rfl; have x51 := b5.cell 1 _ rfl; have y20 := b2.frz 0 _ rfl; have y21 := b2.frz 1 _ rfl; have y30 := b3.frz 0 _ rfl; have y31 := b3.frz 1 _ rfl)
        | (go_at_call 21; refine (p3 _).mono ?_; clear p3; rintro e w4 ⟨rfl, q⟩; replace O := O.below q; replace hb := hb.trans (q.mono hb.size); clear q; have b0 : Own w4 (w.heap.size) _ := O.get 0 _ rfl; have x00 := b0.cell 0 _ rfl; have x01 := b0.cell 1 _ rfl; have b1 : Own w4 (w.heap.size + 1) _ := O.get 1 _ rfl; have x10 := b1.cell 0 _ rfl; have x11 := b1.cell 1 _ rfl; have b2 : Own w4 (w.heap.size + 1 + 1) _ := O.get 2 _ rfl; have x20 := b2.cell 0 _ rfl; have x21 := b2.cell 1 _ rfl; have b3 : Own w4 (w.heap.size + 1 + 1 + 1) _ := O.get 3 _ rfl; have x30 := b3.cell 0 _ rfl; have x31 := b3.cell 1 _ rfl; have b4 : Own w4 (w.heap.size + 1 + 1 + 1 + 1) _ := O.get 4 _ rfl; have x40 := b4.cell 0 _ rfl; have x41 := b4.cell 1 _ rfl; have b5 : Own w4 (w.heap.size + 1 + 1 + 1 + 1 + 1) _ := O.get 5 _ rfl; have x50 := b5.cell 0 _ rfl; have x51 := b5.cell 1 _ rfl; have y20 := b2.frz 0 _ rfl; have y21 := b2.frz 1 _ rfl; have y30 := b3.frz 0 _ rfl; have y31 := b3.frz 1 _ rfl)
      exact twoEndS rfl (O.get 2 _ rfl : Own _ (w.heap.size + 1 + 1) _) (O.get 3 _ rfl : Own _ (w.heap.size + 1 + 1 + 1) _) hb (by omega) (by omega) (by omega) rfl rfl rfl

set_option maxHeartbeats 4000000 in
theorem specCut (w : World) (n x y g h : Int) (a1 : (Lit.int .i64 x).wf = true) (a2 : (Lit.int .i64 y).wf = true) (a3 : (Lit.int .i64 g).wf = true) (a4 : (Lit.int .i64 h).wf = true) (k1 : pokI n x y = true) (k2 : g < h) (k3 : pokI n x g = true) (k4 : pokI n h y = true) :
    Calls Try.prog 17 #[.int .i64 n, .agg #[.int .i64 x, .int .i64 y], .agg #[.int .i64 g, .int .i64 h]] w
      (if gapI h y < gapI x g then TwoOut2 w h y x g true else TwoOut2 w x g h y true) := by
  have p1 := fun W => specPairOk W n x y a1 a2
  have p2 := fun W => specPairOk W n x g a1 a3
  have p3 := fun W => specPairOk W n h y a4 a2
  have q1 := fun W => l3gap W x g a1 a3
  have q2 := fun W => l3gap W h y a4 a2
  have O := owns6 w #[.int .i64 x, .int .i64 y] #[.int .i64 g, .int .i64 h] #[.int .i64 0, .int .i64 0] #[.int .i64 0, .int .i64 0] #[.int .i64 x, .int .i64 g] #[.int .i64 h, .int .i64 y] 24
  have hb := (((((((Below.refl _ w).alloc (Nat.le_refl _) (.cells #[.int .i64 x, .int .i64 y] 24)).alloc (by simp) (.cells #[.int .i64 g, .int .i64 h] 24)).alloc (by simp; omega) (.cells #[.int .i64 0, .int .i64 0] 24)).alloc (by simp; omega) (.cells #[.int .i64 0, .int .i64 0] 24)).alloc (by simp; omega) (.cells #[.int .i64 x, .int .i64 g] 24)).alloc (by simp; omega) (.cells #[.int .i64 h, .int .i64 y] 24))
  have b0 : Own _ (w.heap.size) _ := O.get 0 _ rfl
  have x00 := b0.cell 0 _ rfl
  have x01 := b0.cell 1 _ rfl
  rw [k1] at p1
  rw [k3] at p2
  rw [k4] at p3
  clear k1 k3 k4
  by_cases kk : gapI h y < gapI x g
  · rw [if_pos kk]
    go_enter Try.func17, Try.ntmps17
    go_wp2_with first
      | (go_at_call 21; refine (p1 _).mono ?_; clear p1; rintro e w2 ⟨rfl, q⟩; replace O := O.below q; replace hb := hb.trans (q.mono hb.size); clear q; have b0 : Own w2 (w.heap.size) _ := O.get 0 _ rfl; have x00 := b0.cell 0 _ rfl; have x01 := b0.cell 1 _ rfl; have b1 : Own w2 (w.heap.size + 1) _ := O.get 1 _ rfl; have x10 := b1.cell 0 _ rfl; have x11 := b1.cell 1 _ rfl; have b2 : Own w2 (w.heap.size + 1 + 1) _ := O.get 2 _ rfl; have x20 := b2.cell 0 _ rfl; have x21 := b2.cell 1 _ rfl; have b3 : Own w2 (w.heap.size + 1 + 1 + 1) _ := O.get 3 _ rfl; have x30 := b3.cell 0 _ rfl; have x31 := b3.cell 1 _ rfl; have b4 : Own w2 (w.heap.size + 1 + 1 + 1 + 1) _ := O.get 4 _ rfl; have x40 := b4.cell 0 _ rfl; have x41 := b4.cell 1 _ rfl; have b5 : Own w2 (w.heap.size + 1 + 1 + 1 + 1 + 1) _ := O.get 5 _ rfl; have x50 := b5.cell 0 _ rfl; have x51 := b5.cell 1 _ rfl; have y20 := b2.frz 0 _ rfl; have y21 := b2.frz 1 _ rfl; have y30 := b3.frz 0 _ rfl; have y31 := b3.frz 1 _ rfl)
      | (go_at_call 21; refine (p2 _).mono ?_; clear p2; rintro e w3 ⟨rfl, q⟩; replace O := O.below q; replace hb := hb.trans (q.mono hb.size); clear q; have b0 : Own w3 (w.heap.size) _ := O.get 0 _ rfl; have x00 := b0.cell 0 _ rfl; have x01 := b0.cell 1 _ rfl; have b1 : Own w3 (w.heap.size + 1) _ := O.get 1 _ rfl; have x10 := b1.cell 0 _ rfl; have x11 := b1.cell 1 _ rfl; have b2 : Own w3 (w.heap.size + 1 + 1) _ := O.get 2 _ rfl; have x20 := b2.cell 0 _ rfl; have x21 := b2.cell 1 _ rfl; have b3 : Own w3 (w.heap.size + 1 + 1 + 1) _ := O.get 3 _ rfl; have x30 := b3.cell 0 _ rfl; have x31 := b3.cell 1 _ rfl; have b4 : Own w3 (w.heap.size + 1 + 1 + 1 + 1) _ := O.get 4 _ rfl; have x40 := b4.cell 0 _ rfl; have x41 := b4.cell 1 _ rfl; have b5 : Own w3 (w.heap.size + 1 + 1 + 1 + 1 + 1) _ := O.get 5 _ rfl; have x50 := b5.cell 0 _ rfl; have x51 := b5.cell 1 _ rfl; have y20 := b2.frz 0 _ rfl; have y21 := b2.frz 1 _ rfl; have y30 := b3.frz 0 _ rfl; have y31 := b3.frz 1 _ rfl)
      | (go_at_call 21; refine (p3 _).mono ?_; clear p3; rintro e w4 ⟨rfl, q⟩; replace O := O.below q; replace hb := hb.trans (q.mono hb.size); clear q; have b0 : Own w4 (w.heap.size) _ := O.get 0 _ rfl; have x00 := b0.cell 0 _ rfl; have x01 := b0.cell 1 _ rfl; have b1 : Own w4 (w.heap.size + 1) _ := O.get 1 _ rfl; have x10 := b1.cell 0 _ rfl; have x11 := b1.cell 1 _ rfl; have b2 : Own w4 (w.heap.size + 1 + 1) _ := O.get 2 _ rfl; have x20 := b2.cell 0 _ rfl; have x21 := b2.cell 1 _ rfl; have b3 : Own w4 (w.heap.size + 1 + 1 + 1) _ := O.get 3 _ rfl; have x30 := b3.cell 0 _ rfl; have x31 := b3.cell 1 _ rfl; have b4 : Own w4 (w.heap.size + 1 + 1 + 1 + 1) _ := O.get 4 _ rfl; have x40 := b4.cell 0 _ rfl; have x41 := b4.cell 1 _ rfl; have b5 : Own w4 (w.heap.size + 1 + 1 + 1 + 1 + 1) _ := O.get 5 _ rfl; have x50 := b5.cell 0 _ rfl; have x51 := b5.cell 1 _ rfl; have y20 := b2.frz 0 _ rfl; have y21 := b2.frz 1 _ rfl; have y30 := b3.frz 0 _ rfl; have y31 := b3.frz 1 _ rfl)
    have l4 := b4.lt
    have l5 := b5.lt
    refine region_below (by kernel_rfl) (by kernel_rfl) ?_
    repeat (first
      | go_big_quiet_step (first
        | (intro _; rfl)
        | (intro hC; go_at_call 50; exact Calls.qb hC (l3gap _ _ _ (by assumption) (by assumption))))
      | (go_big_quiet_want
         go_big_quiet_op
         refine ⟨.agg #[.int .i64 h, .int .i64 y], ?_, ?_⟩
         · intro W hC
           have r0 := (hC.cell (p := ⟨w.heap.size + 1 + 1 + 1 + 1 + 1, 0, none⟩) l5).trans x50
           have r1 := (hC.cell (p := ⟨w.heap.size + 1 + 1 + 1 + 1 + 1, 1, none⟩) l5).trans x51
           go_simp
         go_big_quiet_on)
      | (go_big_quiet_want
         go_big_quiet_op
         refine ⟨.agg #[.int .i64 x, .int .i64 g], ?_, ?_⟩
         · intro W hC
           have r0 := (hC.cell (p := ⟨w.heap.size + 1 + 1 + 1 + 1, 0, none⟩) l4).trans x40
           have r1 := (hC.cell (p := ⟨w.heap.size + 1 + 1 + 1 + 1, 1, none⟩) l4).trans x41
           go_simp
         go_big_quiet_on))
    refine wpQuiet_nil ?_
    intro w5 q4
    replace hb := hb.trans (q4.mono hb.size)
    replace O := O.below q4
    clear q4
    go_wp2
    have b2 : Own w5 (w.heap.size + 1 + 1) _ := O.get 2 _ rfl
    have b3 : Own w5 (w.heap.size + 1 + 1 + 1) _ := O.get 3 _ rfl
    have b4 : Own w5 (w.heap.size + 1 + 1 + 1 + 1) _ := O.get 4 _ rfl
    have b5 : Own w5 (w.heap.size + 1 + 1 + 1 + 1 + 1) _ := O.get 5 _ rfl
    have z20 := b2.cell 0 _ rfl
    have z21 := b2.cell 1 _ rfl
    have z30 := b3.cell 0 _ rfl
    have z31 := b3.cell 1 _ rfl
    have z40 := b4.cell 0 _ rfl
    have z41 := b4.cell 1 _ rfl
    have z50 := b5.cell 0 _ rfl
    have z51 := b5.cell 1 _ rfl
    have v20 := b2.frz 0 _ rfl
    have v21 := b2.frz 1 _ rfl
    have v30 := b3.frz 0 _ rfl
    have v31 := b3.frz 1 _ rfl
    go_region
    go_wp2
    exact twoEndD rfl b2 b3 hb (by omega) (by omega) (by omega) rfl rfl rfl
  · rw [if_neg kk]
    go_enter Try.func17, Try.ntmps17
    go_wp2_with first
      | (go_at_call 21; refine (p1 _).mono ?_; clear p1; rintro e w2 ⟨rfl, q⟩; replace O := O.below q; replace hb := hb.trans (q.mono hb.size); clear q; have b0 : Own w2 (w.heap.size) _ := O.get 0 _ rfl; have x00 := b0.cell 0 _ rfl; have x01 := b0.cell 1 _ rfl; have b1 : Own w2 (w.heap.size + 1) _ := O.get 1 _ rfl; have x10 := b1.cell 0 _ rfl; have x11 := b1.cell 1 _ rfl; have b2 : Own w2 (w.heap.size + 1 + 1) _ := O.get 2 _ rfl; have x20 := b2.cell 0 _ rfl; have x21 := b2.cell 1 _ rfl; have b3 : Own w2 (w.heap.size + 1 + 1 + 1) _ := O.get 3 _ rfl; have x30 := b3.cell 0 _ rfl; have x31 := b3.cell 1 _ rfl; have b4 : Own w2 (w.heap.size + 1 + 1 + 1 + 1) _ := O.get 4 _ rfl; have x40 := b4.cell 0 _ rfl; have x41 := b4.cell 1 _ rfl; have b5 : Own w2 (w.heap.size + 1 + 1 + 1 + 1 + 1) _ := O.get 5 _ rfl; have x50 := b5.cell 0 _ rfl; have x51 := b5.cell 1 _ rfl; have y20 := b2.frz 0 _ rfl; have y21 := b2.frz 1 _ rfl; have y30 := b3.frz 0 _ rfl; have y31 := b3.frz 1 _ rfl)
      | (go_at_call 21; refine (p2 _).mono ?_; clear p2; rintro e w3 ⟨rfl, q⟩; replace O := O.below q; replace hb := hb.trans (q.mono hb.size); clear q; have b0 : Own w3 (w.heap.size) _ := O.get 0 _ rfl; have x00 := b0.cell 0 _ rfl; have x01 := b0.cell 1 _ rfl; have b1 : Own w3 (w.heap.size + 1) _ := O.get 1 _ rfl; have x10 := b1.cell 0 _ rfl; have x11 := b1.cell 1 _ rfl; have b2 : Own w3 (w.heap.size + 1 + 1) _ := O.get 2 _ rfl; have x20 := b2.cell 0 _ rfl; have x21 := b2.cell 1 _ rfl; have b3 : Own w3 (w.heap.size + 1 + 1 + 1) _ := O.get 3 _ rfl; have x30 := b3.cell 0 _ rfl; have x31 := b3.cell 1 _ rfl; have b4 : Own w3 (w.heap.size + 1 + 1 + 1 + 1) _ := O.get 4 _ rfl; have x40 := b4.cell 0 _ rfl; have x41 := b4.cell 1 _ rfl; have b5 : Own w3 (w.heap.size + 1 + 1 + 1 + 1 + 1) _ := O.get 5 _ rfl; have x50 := b5.cell 0 _ rfl; have x51 := b5.cell 1 _ rfl; have y20 := b2.frz 0 _ rfl; have y21 := b2.frz 1 _ rfl; have y30 := b3.frz 0 _ rfl; have y31 := b3.frz 1 _ rfl)
      | (go_at_call 21; refine (p3 _).mono ?_; clear p3; rintro e w4 ⟨rfl, q⟩; replace O := O.below q; replace hb := hb.trans (q.mono hb.size); clear q; have b0 : Own w4 (w.heap.size) _ := O.get 0 _ rfl; have x00 := b0.cell 0 _ rfl; have x01 := b0.cell 1 _ rfl; have b1 : Own w4 (w.heap.size + 1) _ := O.get 1 _ rfl; have x10 := b1.cell 0 _ rfl; have x11 := b1.cell 1 _ rfl; have b2 : Own w4 (w.heap.size + 1 + 1) _ := O.get 2 _ rfl; have x20 := b2.cell 0 _ rfl; have x21 := b2.cell 1 _ rfl; have b3 : Own w4 (w.heap.size + 1 + 1 + 1) _ := O.get 3 _ rfl; have x30 := b3.cell 0 _ rfl; have x31 := b3.cell 1 _ rfl; have b4 : Own w4 (w.heap.size + 1 + 1 + 1 + 1) _ := O.get 4 _ rfl; have x40 := b4.cell 0 _ rfl; have x41 := b4.cell 1 _ rfl; have b5 : Own w4 (w.heap.size + 1 + 1 + 1 + 1 + 1) _ := O.get 5 _ rfl; have x50 := b5.cell 0 _ rfl; have x51 := b5.cell 1 _ rfl; have y20 := b2.frz 0 _ rfl; have y21 := b2.frz 1 _ rfl; have y30 := b3.frz 0 _ rfl; have y31 := b3.frz 1 _ rfl)
    have l4 := b4.lt
    have l5 := b5.lt
    refine region_below (by kernel_rfl) (by kernel_rfl) ?_
    repeat (first
      | go_big_quiet_step (first
        | (intro _; rfl)
        | (intro hC; go_at_call 50; exact Calls.qb hC (l3gap _ _ _ (by assumption) (by assumption))))
      | (go_big_quiet_want
         go_big_quiet_op
         refine ⟨.agg #[.int .i64 h, .int .i64 y], ?_, ?_⟩
         · intro W hC
           have r0 := (hC.cell (p := ⟨w.heap.size + 1 + 1 + 1 + 1 + 1, 0, none⟩) l5).trans x50
           have r1 := (hC.cell (p := ⟨w.heap.size + 1 + 1 + 1 + 1 + 1, 1, none⟩) l5).trans x51
           go_simp
         go_big_quiet_on)
      | (go_big_quiet_want
         go_big_quiet_op
         refine ⟨.agg #[.int .i64 x, .int .i64 g], ?_, ?_⟩
         · intro W hC
           have r0 := (hC.cell (p := ⟨w.heap.size + 1 + 1 + 1 + 1, 0, none⟩) l4).trans x40
           have r1 := (hC.cell (p := ⟨w.heap.size + 1 + 1 + 1 + 1, 1, none⟩) l4).trans x41
           go_simp
         go_big_quiet_on))
    refine wpQuiet_nil ?_
    intro w5 q4
    replace hb := hb.trans (q4.mono hb.size)
    replace O := O.below q4
    clear q4
    go_wp2
    have b2 : Own w5 (w.heap.size + 1 + 1) _ := O.get 2 _ rfl
    have b3 : Own w5 (w.heap.size + 1 + 1 + 1) _ := O.get 3 _ rfl
    have b4 : Own w5 (w.heap.size + 1 + 1 + 1 + 1) _ := O.get 4 _ rfl
    have b5 : Own w5 (w.heap.size + 1 + 1 + 1 + 1 + 1) _ := O.get 5 _ rfl
    have z20 := b2.cell 0 _ rfl
    have z21 := b2.cell 1 _ rfl
    have z30 := b3.cell 0 _ rfl
    have z31 := b3.cell 1 _ rfl
    have z40 := b4.cell 0 _ rfl
    have z41 := b4.cell 1 _ rfl
    have z50 := b5.cell 0 _ rfl
    have z51 := b5.cell 1 _ rfl
    have v20 := b2.frz 0 _ rfl
    have v21 := b2.frz 1 _ rfl
    have v30 := b3.frz 0 _ rfl
    have v31 := b3.frz 1 _ rfl
    go_region
    go_wp2
    exact twoEndD rfl b2 b3 hb (by omega) (by omega) (by omega) rfl rfl rfl

end Go.Proofs.Yteohgmmenlinbab
