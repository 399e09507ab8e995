/-
  No cell of these rows narrows 'for every input' (looked for: loops, veiled, ifaces, maps, wideKeys, modest, calm, conditions, laid).
  DERIVED. THE GIVEN ROWS OF THIS SEAT. 5 by the template 'for every input the law returns true; each argument reads behind the call as it read before'; 0 by the template 'total and deterministic' (their statements: YteohgmmenlinbaaTotals.lean).
  GIVEN WITH THE SEED: the statements are not yours to turn. If you find one false, say at which input.
  Laid BY PROGRAM, IN A SANDBOX (cutbox-rows.mjs): the forced cells as the released guide's own fill.sh prints them over the translation 1f3ae1469e4624ff… (all of the seat's roots in one cut). By AI agents, Wed Nov 11 2026. No macro, syntax, notation, axiom, sorry.
-/
import Derived.Test.YteohgmmenlinbaaChecked
import GoSem.Claim
import GoSem.ClaimJoined
import GoSem.ClaimMapViews
import Derived.JoinedTies
import Derived.KernelRfl
namespace Go.Proofs.Yteohgmmenlinbaa
/- THE CELL 'sum', in the pinned program and in every row, IS THE sha256 OF THE DUMP (.gsa) THAT YteohgmmenlinbaaProg.lean LOADS. Nothing in Lean hashes anything: it is a label: what it is worth is what the hold of that sum in a sandbox is worth. -/
noncomputable def Try.pinned : Pinned := { name := "yteohgmmenlinbaa", sum := "1f3ae1469e4624ff0b448558afe4a63e8937b47580c358f832609e1ee4afecc5", checked := Try.checked }
namespace Rows
def none {H : Type} : Left H := { results := [], args := [] }

/-- 'laws.FnBitTop': WHATEVER THE INPUT: true; the input reads as it did. -/
def fnBitTopSpec : ChangeSpec := { name := "fnBitTop", fn := fun _ => fun
  | [d1, d2] => { results := [.lit (.bool true)], args := [d1, d2] }
  | _ => none }
def fnBitTopRow : OpenClaim := { program := "yteohgmmenlinbaa", sum := "1f3ae1469e4624ff0b448558afe4a63e8937b47580c358f832609e1ee4afecc5", func := "loop.example/pinbits/laws.FnBitTop", spec := "fnBitTop", unfollowed := true, recurses := true, apart := false }
def FnBitTopSaid : Prop := fnBitTopRow.holds Try.pinned (OpenSpec.ofChange fnBitTopSpec)

/-- ITS FALSE NEIGHBOUR: 'it returns false'. Refute it at one input. -/
def fnBitTopWrong : ChangeSpec := { name := "fnBitTop", fn := fun _ => fun
  | [d1, d2] => { results := [.lit (.bool false)], args := [d1, d2] }
  | _ => none }
def FnBitTopWrongFalsely : Prop := fnBitTopRow.holds Try.pinned (OpenSpec.ofChange fnBitTopWrong)

/-- 'laws.FnBitOrder': WHATEVER THE INPUT: true; the input reads as it did. -/
def fnBitOrderSpec : ChangeSpec := { name := "fnBitOrder", fn := fun _ => fun
  | [d1, d2] => { results := [.lit (.bool true)], args := [d1, d2] }
  | _ => none }
def fnBitOrderRow : OpenClaim := { program := "yteohgmmenlinbaa", sum := "1f3ae1469e4624ff0b448558afe4a63e8937b47580c358f832609e1ee4afecc5", func := "loop.example/pinbits/laws.FnBitOrder", spec := "fnBitOrder", unfollowed := true, recurses := true, apart := false }
def FnBitOrderSaid : Prop := fnBitOrderRow.holds Try.pinned (OpenSpec.ofChange fnBitOrderSpec)

/-- ITS FALSE NEIGHBOUR: 'it returns false'. Refute it at one input. -/
def fnBitOrderWrong : ChangeSpec := { name := "fnBitOrder", fn := fun _ => fun
  | [d1, d2] => { results := [.lit (.bool false)], args := [d1, d2] }
  | _ => none }
def FnBitOrderWrongFalsely : Prop := fnBitOrderRow.holds Try.pinned (OpenSpec.ofChange fnBitOrderWrong)

/-- 'laws.FnBitSteps': WHATEVER THE INPUT: true; the input reads as it did. -/
def fnBitStepsSpec : ChangeSpec := { name := "fnBitSteps", fn := fun _ => fun
  | [d] => { results := [.lit (.bool true)], args := [d] }
  | _ => none }
def fnBitStepsRow : OpenClaim := { program := "yteohgmmenlinbaa", sum := "1f3ae1469e4624ff0b448558afe4a63e8937b47580c358f832609e1ee4afecc5", func := "loop.example/pinbits/laws.FnBitSteps", spec := "fnBitSteps", unfollowed := true, recurses := true, apart := false }
def FnBitStepsSaid : Prop := fnBitStepsRow.holds Try.pinned (OpenSpec.ofChange fnBitStepsSpec)

/-- ITS FALSE NEIGHBOUR: 'it returns false'. Refute it at one input. -/
def fnBitStepsWrong : ChangeSpec := { name := "fnBitSteps", fn := fun _ => fun
  | [d] => { results := [.lit (.bool false)], args := [d] }
  | _ => none }
def FnBitStepsWrongFalsely : Prop := fnBitStepsRow.holds Try.pinned (OpenSpec.ofChange fnBitStepsWrong)

/-- 'laws.FnBitCross': WHATEVER THE INPUT: true; the input reads as it did. -/
def fnBitCrossSpec : ChangeSpec := { name := "fnBitCross", fn := fun _ => fun
  | [d1, d2] => { results := [.lit (.bool true)], args := [d1, d2] }
  | _ => none }
def fnBitCrossRow : OpenClaim := { program := "yteohgmmenlinbaa", sum := "1f3ae1469e4624ff0b448558afe4a63e8937b47580c358f832609e1ee4afecc5", func := "loop.example/pinbits/laws.FnBitCross", spec := "fnBitCross", inPlace := ["math.Float32frombits", "math.Float64bits", "math.Float64frombits", "math.Float32bits"], unfollowed := true, recurses := true, apart := false }
def FnBitCrossSaid : Prop := fnBitCrossRow.holds Try.pinned (OpenSpec.ofChange fnBitCrossSpec)

/-- ITS FALSE NEIGHBOUR: 'it returns false'. Refute it at one input. -/
def fnBitCrossWrong : ChangeSpec := { name := "fnBitCross", fn := fun _ => fun
  | [d1, d2] => { results := [.lit (.bool false)], args := [d1, d2] }
  | _ => none }
def FnBitCrossWrongFalsely : Prop := fnBitCrossRow.holds Try.pinned (OpenSpec.ofChange fnBitCrossWrong)

/-- 'laws.FnBitMiddle': WHATEVER THE INPUT: true; the input reads as it did. -/
def fnBitMiddleSpec : ChangeSpec := { name := "fnBitMiddle", fn := fun _ => fun
  | [d] => { results := [.lit (.bool true)], args := [d] }
  | _ => none }
def fnBitMiddleRow : OpenClaim := { program := "yteohgmmenlinbaa", sum := "1f3ae1469e4624ff0b448558afe4a63e8937b47580c358f832609e1ee4afecc5", func := "loop.example/pinbits/laws.FnBitMiddle", spec := "fnBitMiddle", apart := false }
def FnBitMiddleSaid : Prop := fnBitMiddleRow.holds Try.pinned (OpenSpec.ofChange fnBitMiddleSpec)

/-- ITS FALSE NEIGHBOUR: 'it returns false'. Refute it at one input. -/
def fnBitMiddleWrong : ChangeSpec := { name := "fnBitMiddle", fn := fun _ => fun
  | [d] => { results := [.lit (.bool false)], args := [d] }
  | _ => none }
def FnBitMiddleWrongFalsely : Prop := fnBitMiddleRow.holds Try.pinned (OpenSpec.ofChange fnBitMiddleWrong)

/- THE SECOND FORM. 'bulk': how many values and letters a reading holds, each counted each time it is reached (what is shared counts as often as it is met; a slice's spare places count too). A statement '..UptoSaid' is the law's where the arguments, and the package variables that the reading takes, are together of bulk at most 1048576: NARROWER than '..Said'. Prove '..Said' where nothing that the law and all that it calls make is longer than what came in: it says more and counts as full. Else prove '..UptoSaid'. A law counts once. -/
mutual
def uptoBulk {H : Type} : DataW H → Nat
  | .lit (.string bytes) => bytes.length + 1
  | .lit _ => 1
  | .nil => 1
  | .ptr d => uptoBulk d + 1
  | .slice elems spare => uptoBulkAll elems + uptoBulkAll spare + 1
  | .agg parts => uptoBulkAll parts + 1
  | .iface _ d => uptoBulk d + 1
  | .map entries => uptoBulkEntries entries + 1
  | .held _ => 1
def uptoBulkAll {H : Type} : List (DataW H) → Nat
  | [] => 0
  | d :: r => uptoBulk d + uptoBulkAll r
def uptoBulkEntries {H : Type} : List (Lit × DataW H) → Nat
  | [] => 0
  | x :: r => uptoBulkEntry x + uptoBulkEntries r
def uptoBulkEntry {H : Type} : Lit × DataW H → Nat
  | (.string bytes, d) => bytes.length + uptoBulk d + 1
  | (_, d) => uptoBulk d + 1
 end
def uptoSmall : (H : Type) → List (DataW H) → Bool := fun _ ds => decide (uptoBulkAll ds ≤ 1048576)
def OpenSpec.upto (s : _root_.Go.ChangeSpec) : _root_.Go.OpenSpec := { _root_.Go.OpenSpec.ofChange s with cond := some uptoSmall }

/-- 'laws.FnBitTop', WHERE WHAT IT READS IS OF BULK AT MOST 1048576: true; the input reads as it did. -/
def fnBitTopUptoRow : OpenClaim := { program := "yteohgmmenlinbaa", sum := "1f3ae1469e4624ff0b448558afe4a63e8937b47580c358f832609e1ee4afecc5", func := "loop.example/pinbits/laws.FnBitTop", spec := "fnBitTop", unfollowed := true, recurses := true, apart := false, narrowed := true }
def FnBitTopUptoSaid : Prop := fnBitTopUptoRow.holds Try.pinned (OpenSpec.upto fnBitTopSpec)

/-- 'laws.FnBitOrder', WHERE WHAT IT READS IS OF BULK AT MOST 1048576: true; the input reads as it did. -/
def fnBitOrderUptoRow : OpenClaim := { program := "yteohgmmenlinbaa", sum := "1f3ae1469e4624ff0b448558afe4a63e8937b47580c358f832609e1ee4afecc5", func := "loop.example/pinbits/laws.FnBitOrder", spec := "fnBitOrder", unfollowed := true, recurses := true, apart := false, narrowed := true }
def FnBitOrderUptoSaid : Prop := fnBitOrderUptoRow.holds Try.pinned (OpenSpec.upto fnBitOrderSpec)

/-- 'laws.FnBitSteps', WHERE WHAT IT READS IS OF BULK AT MOST 1048576: true; the input reads as it did. -/
def fnBitStepsUptoRow : OpenClaim := { program := "yteohgmmenlinbaa", sum := "1f3ae1469e4624ff0b448558afe4a63e8937b47580c358f832609e1ee4afecc5", func := "loop.example/pinbits/laws.FnBitSteps", spec := "fnBitSteps", unfollowed := true, recurses := true, apart := false, narrowed := true }
def FnBitStepsUptoSaid : Prop := fnBitStepsUptoRow.holds Try.pinned (OpenSpec.upto fnBitStepsSpec)

/-- 'laws.FnBitCross', WHERE WHAT IT READS IS OF BULK AT MOST 1048576: true; the input reads as it did. -/
def fnBitCrossUptoRow : OpenClaim := { program := "yteohgmmenlinbaa", sum := "1f3ae1469e4624ff0b448558afe4a63e8937b47580c358f832609e1ee4afecc5", func := "loop.example/pinbits/laws.FnBitCross", spec := "fnBitCross", inPlace := ["math.Float32frombits", "math.Float64bits", "math.Float64frombits", "math.Float32bits"], unfollowed := true, recurses := true, apart := false, narrowed := true }
def FnBitCrossUptoSaid : Prop := fnBitCrossUptoRow.holds Try.pinned (OpenSpec.upto fnBitCrossSpec)

/-- 'laws.FnBitMiddle', WHERE WHAT IT READS IS OF BULK AT MOST 1048576: true; the input reads as it did. -/
def fnBitMiddleUptoRow : OpenClaim := { program := "yteohgmmenlinbaa", sum := "1f3ae1469e4624ff0b448558afe4a63e8937b47580c358f832609e1ee4afecc5", func := "loop.example/pinbits/laws.FnBitMiddle", spec := "fnBitMiddle", apart := false, narrowed := true }
def FnBitMiddleUptoSaid : Prop := fnBitMiddleUptoRow.holds Try.pinned (OpenSpec.upto fnBitMiddleSpec)

end Rows
end Go.Proofs.Yteohgmmenlinbaa
