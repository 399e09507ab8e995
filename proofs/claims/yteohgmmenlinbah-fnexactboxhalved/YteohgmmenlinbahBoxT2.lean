/- Two boxes that a law was handed: what lies in memory while it runs. -/
import Derived.Test.YteohgmmenlinbahBoxE
import Derived.Test.YteohgmmenlinbahRegInv
namespace Go.Proofs.Yteohgmmenlinbah
open Go.ChangeShapes Go.WideShapes Go.ChangeAt Go.RowKit
set_option linter.unusedVariables false

structure TwoArgs (w : World) (a b : Option Addr) (len len' cap cap' : Nat) (ps qs : List (Int × Int)) (W : World) : Prop where
  oA : Own W w.heap.size [.slice a len cap]
  oB : Own W (w.heap.size + 1) [.slice b len' cap']
  pA : PairsAt W a ps
  pB : PairsAt W b qs
  bl : Below w.heap.size w W

theorem TwoArgs.below {w : World} {a b : Option Addr} {len len' cap cap' : Nat} {ps qs : List (Int × Int)} {W W' : World} (h : TwoArgs w a b len len' cap cap' ps qs W) (q : Below W.heap.size W W') : TwoArgs w a b len len' cap cap' ps qs W' :=
  ⟨h.oA.below q, h.oB.below q, h.pA.below q, h.pB.below q, h.bl.trans (q.mono h.bl.size)⟩

theorem TwoArgs.new {w : World} {a b : Option Addr} {ps qs : List (Int × Int)} (len len' cap cap' : Nat) (h : PairsAt w a ps) (h' : PairsAt w b qs) :
    TwoArgs w a b len len' cap cap' ps qs ((w.alloc (.cells #[.slice a len cap] 24)).alloc (.cells #[.slice b len' cap'] 24)) := by
  have q0 : Below w.heap.size w ((w.alloc (.cells #[.slice a len cap] 24)).alloc (.cells #[.slice b len' cap'] 24)) := ((Below.refl _ w).alloc (Nat.le_refl _) _).alloc (by simp) _
  have o1 := Own.new (w.alloc (.cells #[.slice a len cap] 24)) #[.slice b len' cap'] 24
  simp only [World.size_alloc] at o1
  exact ⟨(Own.new w _ _).alloc _, o1, h.below q0, h'.below q0, q0⟩

end Go.Proofs.Yteohgmmenlinbah
