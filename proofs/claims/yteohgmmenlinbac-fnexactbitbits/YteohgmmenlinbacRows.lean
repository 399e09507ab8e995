/-
  No cell of these rows narrows 'for every input' (looked for: loops, veiled, ifaces, maps, wideKeys, modest, calm, conditions, laid).
  DERIVED. THE GIVEN ROWS OF THIS SEAT. 4 by the template 'for every input the law returns true; each argument reads behind the call as it read before'; 0 by the template 'total and deterministic' (their statements: YteohgmmenlinbacTotals.lean).
  GIVEN WITH THE SEED: the statements are not yours to turn. If you find one false, say at which input.
  Laid BY PROGRAM, IN A SANDBOX (cutbox-rows.mjs): the forced cells as the released guide's own fill.sh prints them over the translation 737a49f2443e233a… (all of the seat's roots in one cut). By AI agents, Wed Nov 11 2026. No macro, syntax, notation, axiom, sorry.
-/
import Derived.Test.YteohgmmenlinbacChecked
import GoSem.Claim
import GoSem.ClaimJoined
import GoSem.ClaimMapViews
import Derived.JoinedTies
import Derived.KernelRfl
namespace Go.Proofs.Yteohgmmenlinbac
/- THE CELL 'sum', in the pinned program and in every row, IS THE sha256 OF THE DUMP (.gsa) THAT YteohgmmenlinbacProg.lean LOADS. Nothing in Lean hashes anything: it is a label: what it is worth is what the hold of that sum in a sandbox is worth. -/
noncomputable def Try.pinned : Pinned := { name := "yteohgmmenlinbac", sum := "737a49f2443e233a957b1515a6345ce96f707b404bacf6276b84f38e3aa617ce", checked := Try.checked }
namespace Rows
def none {H : Type} : Left H := { results := [], args := [] }

/-- 'laws.FnExactBitTop': WHATEVER THE INPUT: true; the input reads as it did. -/
def fnExactBitTopSpec : ChangeSpec := { name := "fnExactBitTop", fn := fun _ => fun
  | [d] => { results := [.lit (.bool true)], args := [d] }
  | _ => none }
def fnExactBitTopRow : OpenClaim := { program := "yteohgmmenlinbac", sum := "737a49f2443e233a957b1515a6345ce96f707b404bacf6276b84f38e3aa617ce", func := "loop.example/pinbits/laws.FnExactBitTop", spec := "fnExactBitTop", unfollowed := true, recurses := true, apart := false }
def FnExactBitTopSaid : Prop := fnExactBitTopRow.holds Try.pinned (OpenSpec.ofChange fnExactBitTopSpec)

/-- ITS FALSE NEIGHBOUR: 'it returns false'. Refute it at one input. -/
def fnExactBitTopWrong : ChangeSpec := { name := "fnExactBitTop", fn := fun _ => fun
  | [d] => { results := [.lit (.bool false)], args := [d] }
  | _ => none }
def FnExactBitTopWrongFalsely : Prop := fnExactBitTopRow.holds Try.pinned (OpenSpec.ofChange fnExactBitTopWrong)

/-- 'laws.FnExactBitOk': WHATEVER THE INPUT: true; the input reads as it did. -/
def fnExactBitOkSpec : ChangeSpec := { name := "fnExactBitOk", fn := fun _ => fun
  | [d1, d2] => { results := [.lit (.bool true)], args := [d1, d2] }
  | _ => none }
def fnExactBitOkRow : OpenClaim := { program := "yteohgmmenlinbac", sum := "737a49f2443e233a957b1515a6345ce96f707b404bacf6276b84f38e3aa617ce", func := "loop.example/pinbits/laws.FnExactBitOk", spec := "fnExactBitOk", unfollowed := true, recurses := true, apart := false }
def FnExactBitOkSaid : Prop := fnExactBitOkRow.holds Try.pinned (OpenSpec.ofChange fnExactBitOkSpec)

/-- ITS FALSE NEIGHBOUR: 'it returns false'. Refute it at one input. -/
def fnExactBitOkWrong : ChangeSpec := { name := "fnExactBitOk", fn := fun _ => fun
  | [d1, d2] => { results := [.lit (.bool false)], args := [d1, d2] }
  | _ => none }
def FnExactBitOkWrongFalsely : Prop := fnExactBitOkRow.holds Try.pinned (OpenSpec.ofChange fnExactBitOkWrong)

/-- 'laws.FnExactBitOrd': WHATEVER THE INPUT: true; the input reads as it did. -/
def fnExactBitOrdSpec : ChangeSpec := { name := "fnExactBitOrd", fn := fun _ => fun
  | [d1, d2] => { results := [.lit (.bool true)], args := [d1, d2] }
  | _ => none }
def fnExactBitOrdRow : OpenClaim := { program := "yteohgmmenlinbac", sum := "737a49f2443e233a957b1515a6345ce96f707b404bacf6276b84f38e3aa617ce", func := "loop.example/pinbits/laws.FnExactBitOrd", spec := "fnExactBitOrd", unfollowed := true, recurses := true, apart := false }
def FnExactBitOrdSaid : Prop := fnExactBitOrdRow.holds Try.pinned (OpenSpec.ofChange fnExactBitOrdSpec)

/-- ITS FALSE NEIGHBOUR: 'it returns false'. Refute it at one input. -/
def fnExactBitOrdWrong : ChangeSpec := { name := "fnExactBitOrd", fn := fun _ => fun
  | [d1, d2] => { results := [.lit (.bool false)], args := [d1, d2] }
  | _ => none }
def FnExactBitOrdWrongFalsely : Prop := fnExactBitOrdRow.holds Try.pinned (OpenSpec.ofChange fnExactBitOrdWrong)

/-- 'laws.FnExactBitBits': WHATEVER THE INPUT: true; the input reads as it did. -/
def fnExactBitBitsSpec : ChangeSpec := { name := "fnExactBitBits", fn := fun _ => fun
  | [d1, d2] => { results := [.lit (.bool true)], args := [d1, d2] }
  | _ => none }
def fnExactBitBitsRow : OpenClaim := { program := "yteohgmmenlinbac", sum := "737a49f2443e233a957b1515a6345ce96f707b404bacf6276b84f38e3aa617ce", func := "loop.example/pinbits/laws.FnExactBitBits", spec := "fnExactBitBits", unfollowed := true, recurses := true, apart := false }
def FnExactBitBitsSaid : Prop := fnExactBitBitsRow.holds Try.pinned (OpenSpec.ofChange fnExactBitBitsSpec)

/-- ITS FALSE NEIGHBOUR: 'it returns false'. Refute it at one input. -/
def fnExactBitBitsWrong : ChangeSpec := { name := "fnExactBitBits", fn := fun _ => fun
  | [d1, d2] => { results := [.lit (.bool false)], args := [d1, d2] }
  | _ => none }
def FnExactBitBitsWrongFalsely : Prop := fnExactBitBitsRow.holds Try.pinned (OpenSpec.ofChange fnExactBitBitsWrong)

/- THE SECOND FORM. 'bulk': how many values and letters a reading holds, each counted each time it is reached (what is shared counts as often as it is met; a slice's spare places count too). A statement '..UptoSaid' is the law's where the arguments, and the package variables that the reading takes, are together of bulk at most 1048576: NARROWER than '..Said'. Prove '..Said' where nothing that the law and all that it calls make is longer than what came in: it says more and counts as full. Else prove '..UptoSaid'. A law counts once. -/
mutual
def uptoBulk {H : Type} : DataW H → Nat
  | .lit (.string bytes) => bytes.length + 1
  | .lit _ => 1
  | .nil => 1
  | .ptr d => uptoBulk d + 1
  | .slice elems spare => uptoBulkAll elems + uptoBulkAll spare + 1
  | .agg parts => uptoBulkAll parts + 1
  | .iface _ d => uptoBulk d + 1
  | .map entries => uptoBulkEntries entries + 1
  | .held _ => 1
def uptoBulkAll {H : Type} : List (DataW H) → Nat
  | [] => 0
  | d :: r => uptoBulk d + uptoBulkAll r
def uptoBulkEntries {H : Type} : List (Lit × DataW H) → Nat
  | [] => 0
  | x :: r => uptoBulkEntry x + uptoBulkEntries r
def uptoBulkEntry {H : Type} : Lit × DataW H → Nat
  | (.string bytes, d) => bytes.length + uptoBulk d + 1
  | (_, d) => uptoBulk d + 1
 end
def uptoSmall : (H : Type) → List (DataW H) → Bool := fun _ ds => decide (uptoBulkAll ds ≤ 1048576)
def OpenSpec.upto (s : _root_.Go.ChangeSpec) : _root_.Go.OpenSpec := { _root_.Go.OpenSpec.ofChange s with cond := some uptoSmall }

/-- 'laws.FnExactBitTop', WHERE WHAT IT READS IS OF BULK AT MOST 1048576: true; the input reads as it did. -/
def fnExactBitTopUptoRow : OpenClaim := { program := "yteohgmmenlinbac", sum := "737a49f2443e233a957b1515a6345ce96f707b404bacf6276b84f38e3aa617ce", func := "loop.example/pinbits/laws.FnExactBitTop", spec := "fnExactBitTop", unfollowed := true, recurses := true, apart := false, narrowed := true }
def FnExactBitTopUptoSaid : Prop := fnExactBitTopUptoRow.holds Try.pinned (OpenSpec.upto fnExactBitTopSpec)

/-- 'laws.FnExactBitOk', WHERE WHAT IT READS IS OF BULK AT MOST 1048576: true; the input reads as it did. -/
def fnExactBitOkUptoRow : OpenClaim := { program := "yteohgmmenlinbac", sum := "737a49f2443e233a957b1515a6345ce96f707b404bacf6276b84f38e3aa617ce", func := "loop.example/pinbits/laws.FnExactBitOk", spec := "fnExactBitOk", unfollowed := true, recurses := true, apart := false, narrowed := true }
def FnExactBitOkUptoSaid : Prop := fnExactBitOkUptoRow.holds Try.pinned (OpenSpec.upto fnExactBitOkSpec)

/-- 'laws.FnExactBitOrd', WHERE WHAT IT READS IS OF BULK AT MOST 1048576: true; the input reads as it did. -/
def fnExactBitOrdUptoRow : OpenClaim := { program := "yteohgmmenlinbac", sum := "737a49f2443e233a957b1515a6345ce96f707b404bacf6276b84f38e3aa617ce", func := "loop.example/pinbits/laws.FnExactBitOrd", spec := "fnExactBitOrd", unfollowed := true, recurses := true, apart := false, narrowed := true }
def FnExactBitOrdUptoSaid : Prop := fnExactBitOrdUptoRow.holds Try.pinned (OpenSpec.upto fnExactBitOrdSpec)

/-- 'laws.FnExactBitBits', WHERE WHAT IT READS IS OF BULK AT MOST 1048576: true; the input reads as it did. -/
def fnExactBitBitsUptoRow : OpenClaim := { program := "yteohgmmenlinbac", sum := "737a49f2443e233a957b1515a6345ce96f707b404bacf6276b84f38e3aa617ce", func := "loop.example/pinbits/laws.FnExactBitBits", spec := "fnExactBitBits", unfollowed := true, recurses := true, apart := false, narrowed := true }
def FnExactBitBitsUptoSaid : Prop := fnExactBitBitsUptoRow.holds Try.pinned (OpenSpec.upto fnExactBitBitsSpec)

end Rows
end Go.Proofs.Yteohgmmenlinbac
