/- The contract of the reader's 'good'. -/
import Derived.Test.YteohgmmenlinbaaJA
namespace Go.Proofs.Yteohgmmenlinbaa
open Go.ChangeShapes Go.WideShapes Go.ChangeAt Go.RowKit
set_option linter.unusedVariables false

/-- The state in 'good': its result's cells at k0, its pair's at k1. -/
structure GoodSt (w : World) (b k1 : Nat) (x y : Int) (lim : Int) (W : World) : Prop where
  rd : Rd W b lim
  keep : Keep b w W
  res : Own W w.heap.size [.int .i64 0, .int .i64 0]
  own : Own W k1 [.int .i64 x, .int .i64 y]
  lt : w.heap.size < k1
  wx : Nr x
  wy : Nr y

theorem GoodSt.below {w W W' : World} {b k1 : Nat} {x y lim : Int} (h : GoodSt w b k1 x y lim W) (q : Below W.heap.size W W') : GoodSt w b k1 x y lim W' :=
  ⟨h.rd.below q, h.keep.trans (Keep.of_below b q), h.res.below q, h.own.below q, h.lt, h.wx, h.wy⟩

theorem GoodSt.next {w W W' : World} {b k1 : Nat} {x y lim lim' x' y' : Int} (hb : b < w.heap.size) (h : GoodSt w b k1 x y lim W) (hr : Rd W' b lim') (q : Keep b W W') (wx : Nr x') (wy : Nr y') :
    GoodSt w b k1 x' y' lim' ((W'.setCell ⟨k1, 0, none⟩ (.int .i64 x')).setCell ⟨k1, 1, none⟩ (.int .i64 y')) := by
  have h1 := h.lt
  have o1 := h.own.keep q (by omega)
  have o2 := h.res.keep q (by omega)
  exact ⟨(hr.own _ (by omega)).own _ (by omega), ((h.keep.trans q).new (p := ⟨k1, 0, none⟩) (Nat.le_of_lt h1) _).new (p := ⟨k1, 1, none⟩) (Nat.le_of_lt h1) _,
    (o2.other _ (by omega)).other _ (by omega), o1.set2 _ _, h1, wx, wy⟩

theorem GoodSt.mono {w W : World} {b k1 : Nat} {x y l l' : Int} (h : GoodSt w b k1 x y l W) (hl : l ≤ l') : GoodSt w b k1 x y l' W := ⟨h.rd.mono hl, h.keep, h.res, h.own, h.lt, h.wx, h.wy⟩

end Go.Proofs.Yteohgmmenlinbaa
