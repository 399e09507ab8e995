/- What BoxOf answers: the pure function. -/
import Derived.Test.YteohgmmenlinbacDoorSpecO
import Derived.Test.YteohgmmenlinbacDoorJB
namespace Go.Proofs.YteohgmmenlinbacDoor
open Go.ChangeShapes Go.WideShapes Go.ChangeAt Go.RowKit
set_option linter.unusedVariables false

def atU (zs : List Int) (i : Nat) : Int := zs[i]?.getD 0
/-- The pair i of a list of patterns, and whether both are floats. -/
def pairU (n : Int) (zs : List Int) (i : Nat) : (Int × Int) × Bool := ((ordI n (atU zs (2 * i)), ordI n (atU zs (2 * i + 1))), isFloat n (atU zs (2 * i)) && isFloat n (atU zs (2 * i + 1)))
def pairsU (n : Int) (zs : List Int) : List (Int × Int) := madeL (pairU n zs) (zs.length / 2)
def countU (n : Int) (zs : List Int) : Bool := decide (n = 32 ∨ n = 64) && decide (2 ≤ zs.length) && decide (zs.length ≤ 12) && decide (zs.length % 2 = 0)
def codeU (n : Int) (zs : List Int) : Int := if countU n zs = true then (if madeB (pairU n zs) (zs.length / 2) = true then (if bokI n (pairsU n zs) = true then 0 else 3) else 2) else 1
def boxU (n : Int) (zs : List Int) : List (Int × Int) := if codeU n zs = 0 then pairsU n zs else []

/-- A new box and a value beside it. -/
def BoxOutV (w : World) (ps : List (Int × Int)) (x : Value) (e : Ending) (w' : World) : Prop :=
  ∃ (a : Option Addr) (cap : Nat) (o : Option Nat), e = .returned (.tuple #[.agg #[.slice a ps.length cap], x]) ∧ ps.length ≤ cap ∧ HasO w' a ps o ∧ (∀ G, o = some G → w.heap.size ≤ G) ∧ Below w.heap.size w w'

/-- The end of a function that returns a box and a value. -/
theorem boxEndV {fn : Func} {p u : Tmp} (hres : fn.results = #[.cell p 25, .tmp u]) {w W : World} {T : Array Value} {R : Nat} {ps : List (Int × Int)} {a : Option Addr} {len cap : Nat} {o : Option Nat} {x v : Value} (hlen : ps.length = len) (rs : Own W R [v]) (hb : Below w.heap.size w W) (hR : w.heap.size ≤ R)
    (hc : len ≤ cap) (hp : HasO W a ps o) (ho : ∀ G, o = some G → w.heap.size ≤ G) (hne : o ≠ some R)
    (ht : T.getD p undef = .pointer (some ⟨R, 0, none⟩)) (hk : T.getD u undef = x) :
    bodyPost Tryd.prog fn (BoxOutV w ps x) Exit.ret { tmps := T, defers := [] } (W.setCell ⟨R, 0, none⟩ (.slice a len cap)) := by
  have o1 := rs.set (i := 0) (.slice a len cap) (by simp)
  have c0 := o1.cell 0 _ rfl
  have bel := hb.setCell (p := ⟨R, 0, none⟩) hR (.slice a len cap)
  have hp' : HasO (W.setCell ⟨R, 0, none⟩ (.slice a len cap)) a ps o := hp.keepO ((KeepO.of_below (some R) (Below.refl _ W)).setCell _) (fun G hG e => hne (by rw [hG, e]))
  subst hlen
  generalize W.setCell ⟨R, 0, none⟩ (.slice a ps.length cap) = V at *
  refine bodyPost_ret (v := .tuple #[.agg #[.slice a ps.length cap], x]) ?_ rfl ⟨a, cap, o, rfl, hc, hp', ho, bel⟩
  rw [results_cell_tmp hres, ht, hk]
  simp [go_sem, c0]

end Go.Proofs.YteohgmmenlinbacDoor
