/- A region that draws its order, whose callees leave the blocks that lay there as they were: walked once. No program is named here. -/
import Derived.Test.YteohgmmenlinbagDoorRows
import Derived.WalkKit
import Derived.Below
import Derived.WalkSpells
import Derived.Outline
import Derived.Deep.RegionWith
import Derived.BigRegion
import Derived.Laws.ResultCell
import Derived.Deep.QuietTactic
import Derived.BigQuiet
namespace Go.Proofs.YteohgmmenlinbagDoor
open Go.RowKit

theorem region_below {P : Program} {id : Nat} {Q : Exit → Act → World → Prop} {a : Act} {w : World} {l : List Oper} (hm : P.follows .mixedOrders = true) (hB : Region.lexB .any l.toArray = true)
    (h : wpQuiet P l.toArray (fun W => Below w.heap.size w W) (fun a' => ∀ W, Below w.heap.size w W → Q .normal a' W) l a) : (Code.region id l.toArray true).wp P Q a w :=
  wp_region_quiet (C := fun W => Below w.heap.size w W) hm hB ((Below.refl _ w).drew) (by simpa using h)

theorem Calls.qb {P : Program} {f : FuncId} {args : Array Value} {w W : World} {v : Value} (hC : Below w.heap.size w W)
    (h : Calls P f args W fun e W' => e = .returned v ∧ Below W.heap.size W W') : Calls P f args W fun e W' => e = .returned v ∧ Below w.heap.size w W' :=
  h.mono fun _ _ ⟨he, q⟩ => ⟨he, hC.trans (q.mono hC.size)⟩

theorem Calls.qs {P : Program} {f : FuncId} {args : Array Value} {w W : World} {v : Value} (hC : Below w.heap.size w W)
    (h : Calls P f args W fun e W' => e = .returned v ∧ W = W') : Calls P f args W fun e W' => e = .returned v ∧ Below w.heap.size w W' :=
  h.mono fun _ _ ⟨he, q⟩ => ⟨he, q ▸ hC⟩

end Go.Proofs.YteohgmmenlinbagDoor
