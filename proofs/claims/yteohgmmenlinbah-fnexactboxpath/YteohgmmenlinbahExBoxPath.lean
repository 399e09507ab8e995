/- The walk of the exact law of BoxPath: it returns true. -/
import Derived.Test.YteohgmmenlinbahBoxV
import Derived.Test.YteohgmmenlinbahBoxE
namespace Go.Proofs.Yteohgmmenlinbah
open Go.ChangeShapes Go.WideShapes Go.ChangeAt Go.RowKit
set_option linter.unusedVariables false

set_option maxHeartbeats 4000000 in
theorem walkExBoxPath (w : World) (n : Int) (wn : (Lit.int .i64 n).wf = true) (a : Option Addr) (ps : List (Int × Int)) (cap : Nat) (h : PairsAt w a ps) (hl : ps.length ≤ cap) (hx : ps.length ≤ maxLen) :
    Calls Try.prog 7 #[.int .i64 n, .agg #[.slice a ps.length cap]] w fun e w' => e = .returned (.bool true) ∧ Below w.heap.size w w' := by
  obtain ⟨len, hlen⟩ : ∃ len, ps.length = len := ⟨_, rfl⟩
  rw [hlen] at hl hx ⊢
  have hz := fun W => szBox W a len cap 1048576 (by omega) (by omega) hx
  have o0 := Own.new w #[.slice a len cap] 24
  have hb := (Below.refl _ w).alloc (Nat.le_refl _) (.cells #[.slice a len cap] 24)
  have hA := h.below ((Below.refl _ w).alloc (Nat.le_refl _) (.cells #[.slice a len cap] 24))
  clear h
  by_cases hm : len ≤ 1048576
  · rw [if_neg (by omega)] at hz
    have hpos : ¬ (1048576 : Int) - len < 0 := by omega
    go_enter Try.func7, Try.ntmps7
    have hs := fun W (b : Option Addr) (c : Nat) (h : PairsAt W b ps) (hc : len ≤ c) => specBoxPath W n b ps c h (by omega) (by omega)
    have hi := fun W (b : Option Addr) (c : Nat) (h : PairsAt W b ps) (hc : len ≤ c) => implBoxPath W n b ps c h (by omega) (by omega)
    rw [hlen] at hs hi
    generalize pathI n ps = B at *
    have t1 := fun W h => toBox W a ps len cap hlen h hl hm
    have t2 := fun W h => toBox W a ps len cap hlen h hl hm
    go_wp2_with first
      | (go_at_call 9; refine (hz _).mono ?_; clear hz; rintro e w1 ⟨rfl, q⟩; replace o0 := o0.below q; replace hA := hA.below q; replace hb := hb.trans (q.mono hb.size); clear q; have c1 := o0.cell 0 _ rfl)
      | (go_at_call 11; refine (t1 _ hA).mono ?_; clear t1; rintro e w2 ⟨G, hG, rfl, o2, q⟩; replace o0 := o0.below q; replace hA := hA.below q; replace hb := hb.trans (q.mono hb.size); clear q)
      | (go_at_call 23; refine (hs _ _ _ (o2.at hA.1) (Nat.le_refl _)).mono ?_; clear hs o2 hG; rintro e w3 ⟨rfl, q⟩; replace o0 := o0.below q; replace hA := hA.below q; replace hb := hb.trans (q.mono hb.size); clear q; have c3 := o0.cell 0 _ rfl)
      | (go_at_call 11; refine (t2 _ hA).mono ?_; clear t2; rintro e w4 ⟨Gx, hG, rfl, o2, q⟩; replace o0 := o0.below q; replace hA := hA.below q; replace hb := hb.trans (q.mono hb.size); clear q
         have bx := Own.new w4 #[.slice (some ⟨Gx, 0, none⟩) len len] 29
         have q : Below w4.heap.size w4 (w4.alloc (.cells #[.slice (some ⟨Gx, 0, none⟩) len len] 29)) := (Below.refl _ _).alloc (Nat.le_refl _) _
         replace o0 := o0.below q; replace o2 := o2.below q; replace hA := hA.below q; replace hb := hb.trans (q.mono hb.size); clear q)
      | (go_at_call 24; refine (hi _ _ _ (o2.at hA.1) (Nat.le_refl _)).mono ?_; clear hi; rintro e w5 ⟨rfl, q⟩; replace o0 := o0.below q; replace o2 := o2.below q; replace bx := bx.below q; replace hA := hA.below q; replace hb := hb.trans (q.mono hb.size); clear q)
    have b7 := bx.cell 0 _ rfl
    have b3 := o0.cell 0 _ rfl
    go_region_with first
      | (go_at_call 11; refine (toBox _ a ps len cap hlen (hA.below (Below.refl _ _).drew) hl hm).mono ?_; rintro e w6 ⟨Gy, hGy, rfl, o6, q6⟩; replace q6 : Below w5.heap.size w5 w6 := (Below.refl _ w5).drew.trans q6; have d7 := (bx.below q6).cell 0 _ rfl)
      | (go_at_call 13; refine (eqBox _ _ _ ps len len len hlen ((o2.below q6).at hA.1) (o6.at hA.1) (Nat.le_refl _) (Nat.le_refl _) hm).mono ?_; rintro e w7 ⟨rfl, q7⟩)
    all_goals go_wp2
    all_goals go_ret
    all_goals exact ⟨rfl, hb.trans (q6.trans (q7.mono q6.size) |>.mono hb.size)⟩
  · rw [if_pos (by omega)] at hz
    have hpos : (-1 : Int) < 0 := by omega
    go_enter Try.func7, Try.ntmps7
    go_wp2_with (go_at_call 9; refine (hz _).mono ?_; clear hz; rintro e w1 ⟨rfl, q⟩; replace hb := hb.trans (q.mono hb.size); clear q)
    go_ret
    exact ⟨rfl, hb⟩

end Go.Proofs.Yteohgmmenlinbah
