/-
  No cell of these rows narrows 'for every input' (looked for: loops, veiled, ifaces, maps, wideKeys, modest, calm, conditions, laid).
  DERIVED. THE GIVEN ROWS OF THIS SEAT. 6 by the template 'for every input the law returns true; each argument reads behind the call as it read before'; 0 by the template 'total and deterministic' (their statements: YteohgmmenlinbahTotals.lean).
  GIVEN WITH THE SEED: the statements are not yours to turn. If you find one false, say at which input.
  Laid BY PROGRAM, IN A SANDBOX (cutbox-rows.mjs): the forced cells as the released guide's own fill.sh prints them over the translation 4928289a40656998… (all of the seat's roots in one cut). By AI agents, Wed Nov 11 2026. No macro, syntax, notation, axiom, sorry.
-/
import Derived.Test.YteohgmmenlinbahChecked
import GoSem.Claim
import GoSem.ClaimJoined
import GoSem.ClaimMapViews
import Derived.JoinedTies
import Derived.KernelRfl
namespace Go.Proofs.Yteohgmmenlinbah
/- THE CELL 'sum', in the pinned program and in every row, IS THE sha256 OF THE DUMP (.gsa) THAT YteohgmmenlinbahProg.lean LOADS. Nothing in Lean hashes anything: it is a label: what it is worth is what the hold of that sum in a sandbox is worth. -/
noncomputable def Try.pinned : Pinned := { name := "yteohgmmenlinbah", sum := "4928289a406569984d7ea10696ec638ea3b03d2d3e2de8b79826a4a3140c3254", checked := Try.checked }
namespace Rows
def none {H : Type} : Left H := { results := [], args := [] }

/-- 'laws.FnExactBoxHalved': WHATEVER THE INPUT: true; the input reads as it did. -/
def fnExactBoxHalvedSpec : ChangeSpec := { name := "fnExactBoxHalved", fn := fun _ => fun
  | [d1, d2, d3] => { results := [.lit (.bool true)], args := [d1, d2, d3] }
  | _ => none }
def fnExactBoxHalvedRow : OpenClaim := { program := "yteohgmmenlinbah", sum := "4928289a406569984d7ea10696ec638ea3b03d2d3e2de8b79826a4a3140c3254", func := "loop.example/pinbits/laws.FnExactBoxHalved", spec := "fnExactBoxHalved", unfollowed := true, recurses := true, apart := false }
def FnExactBoxHalvedSaid : Prop := fnExactBoxHalvedRow.holds Try.pinned (OpenSpec.ofChange fnExactBoxHalvedSpec)

/-- ITS FALSE NEIGHBOUR: 'it returns false'. Refute it at one input. -/
def fnExactBoxHalvedWrong : ChangeSpec := { name := "fnExactBoxHalved", fn := fun _ => fun
  | [d1, d2, d3] => { results := [.lit (.bool false)], args := [d1, d2, d3] }
  | _ => none }
def FnExactBoxHalvedWrongFalsely : Prop := fnExactBoxHalvedRow.holds Try.pinned (OpenSpec.ofChange fnExactBoxHalvedWrong)

/-- 'laws.FnExactBoxSplit': WHATEVER THE INPUT: true; the input reads as it did. -/
def fnExactBoxSplitSpec : ChangeSpec := { name := "fnExactBoxSplit", fn := fun _ => fun
  | [d1, d2, d3] => { results := [.lit (.bool true)], args := [d1, d2, d3] }
  | _ => none }
def fnExactBoxSplitRow : OpenClaim := { program := "yteohgmmenlinbah", sum := "4928289a406569984d7ea10696ec638ea3b03d2d3e2de8b79826a4a3140c3254", func := "loop.example/pinbits/laws.FnExactBoxSplit", spec := "fnExactBoxSplit", unfollowed := true, recurses := true, apart := false }
def FnExactBoxSplitSaid : Prop := fnExactBoxSplitRow.holds Try.pinned (OpenSpec.ofChange fnExactBoxSplitSpec)

/-- ITS FALSE NEIGHBOUR: 'it returns false'. Refute it at one input. -/
def fnExactBoxSplitWrong : ChangeSpec := { name := "fnExactBoxSplit", fn := fun _ => fun
  | [d1, d2, d3] => { results := [.lit (.bool false)], args := [d1, d2, d3] }
  | _ => none }
def FnExactBoxSplitWrongFalsely : Prop := fnExactBoxSplitRow.holds Try.pinned (OpenSpec.ofChange fnExactBoxSplitWrong)

/-- 'laws.FnExactBoxCut': WHATEVER THE INPUT: true; the input reads as it did. -/
def fnExactBoxCutSpec : ChangeSpec := { name := "fnExactBoxCut", fn := fun _ => fun
  | [d1, d2, d3, d4] => { results := [.lit (.bool true)], args := [d1, d2, d3, d4] }
  | _ => none }
def fnExactBoxCutRow : OpenClaim := { program := "yteohgmmenlinbah", sum := "4928289a406569984d7ea10696ec638ea3b03d2d3e2de8b79826a4a3140c3254", func := "loop.example/pinbits/laws.FnExactBoxCut", spec := "fnExactBoxCut", unfollowed := true, recurses := true, apart := false }
def FnExactBoxCutSaid : Prop := fnExactBoxCutRow.holds Try.pinned (OpenSpec.ofChange fnExactBoxCutSpec)

/-- ITS FALSE NEIGHBOUR: 'it returns false'. Refute it at one input. -/
def fnExactBoxCutWrong : ChangeSpec := { name := "fnExactBoxCut", fn := fun _ => fun
  | [d1, d2, d3, d4] => { results := [.lit (.bool false)], args := [d1, d2, d3, d4] }
  | _ => none }
def FnExactBoxCutWrongFalsely : Prop := fnExactBoxCutRow.holds Try.pinned (OpenSpec.ofChange fnExactBoxCutWrong)

/-- 'laws.FnExactBoxUnits': WHATEVER THE INPUT: true; the input reads as it did. -/
def fnExactBoxUnitsSpec : ChangeSpec := { name := "fnExactBoxUnits", fn := fun _ => fun
  | [d1, d2] => { results := [.lit (.bool true)], args := [d1, d2] }
  | _ => none }
def fnExactBoxUnitsRow : OpenClaim := { program := "yteohgmmenlinbah", sum := "4928289a406569984d7ea10696ec638ea3b03d2d3e2de8b79826a4a3140c3254", func := "loop.example/pinbits/laws.FnExactBoxUnits", spec := "fnExactBoxUnits", unfollowed := true, recurses := true, apart := false }
def FnExactBoxUnitsSaid : Prop := fnExactBoxUnitsRow.holds Try.pinned (OpenSpec.ofChange fnExactBoxUnitsSpec)

/-- ITS FALSE NEIGHBOUR: 'it returns false'. Refute it at one input. -/
def fnExactBoxUnitsWrong : ChangeSpec := { name := "fnExactBoxUnits", fn := fun _ => fun
  | [d1, d2] => { results := [.lit (.bool false)], args := [d1, d2] }
  | _ => none }
def FnExactBoxUnitsWrongFalsely : Prop := fnExactBoxUnitsRow.holds Try.pinned (OpenSpec.ofChange fnExactBoxUnitsWrong)

/-- 'laws.FnExactBoxPath': WHATEVER THE INPUT: true; the input reads as it did. -/
def fnExactBoxPathSpec : ChangeSpec := { name := "fnExactBoxPath", fn := fun _ => fun
  | [d1, d2] => { results := [.lit (.bool true)], args := [d1, d2] }
  | _ => none }
def fnExactBoxPathRow : OpenClaim := { program := "yteohgmmenlinbah", sum := "4928289a406569984d7ea10696ec638ea3b03d2d3e2de8b79826a4a3140c3254", func := "loop.example/pinbits/laws.FnExactBoxPath", spec := "fnExactBoxPath", unfollowed := true, recurses := true, apart := false }
def FnExactBoxPathSaid : Prop := fnExactBoxPathRow.holds Try.pinned (OpenSpec.ofChange fnExactBoxPathSpec)

/-- ITS FALSE NEIGHBOUR: 'it returns false'. Refute it at one input. -/
def fnExactBoxPathWrong : ChangeSpec := { name := "fnExactBoxPath", fn := fun _ => fun
  | [d1, d2] => { results := [.lit (.bool false)], args := [d1, d2] }
  | _ => none }
def FnExactBoxPathWrongFalsely : Prop := fnExactBoxPathRow.holds Try.pinned (OpenSpec.ofChange fnExactBoxPathWrong)

/-- 'laws.FnExactBoxLess': WHATEVER THE INPUT: true; the input reads as it did. -/
def fnExactBoxLessSpec : ChangeSpec := { name := "fnExactBoxLess", fn := fun _ => fun
  | [d] => { results := [.lit (.bool true)], args := [d] }
  | _ => none }
def fnExactBoxLessRow : OpenClaim := { program := "yteohgmmenlinbah", sum := "4928289a406569984d7ea10696ec638ea3b03d2d3e2de8b79826a4a3140c3254", func := "loop.example/pinbits/laws.FnExactBoxLess", spec := "fnExactBoxLess", inPlace := ["math.Float32frombits", "math.Float64bits", "math.Float64frombits", "math.Float32bits"], unfollowed := true, recurses := true, apart := false }
def FnExactBoxLessSaid : Prop := fnExactBoxLessRow.holds Try.pinned (OpenSpec.ofChange fnExactBoxLessSpec)

/-- ITS FALSE NEIGHBOUR: 'it returns false'. Refute it at one input. -/
def fnExactBoxLessWrong : ChangeSpec := { name := "fnExactBoxLess", fn := fun _ => fun
  | [d] => { results := [.lit (.bool false)], args := [d] }
  | _ => none }
def FnExactBoxLessWrongFalsely : Prop := fnExactBoxLessRow.holds Try.pinned (OpenSpec.ofChange fnExactBoxLessWrong)

/- THE SECOND FORM. 'bulk': how many values and letters a reading holds, each counted each time it is reached (what is shared counts as often as it is met; a slice's spare places count too). A statement '..UptoSaid' is the law's where the arguments, and the package variables that the reading takes, are together of bulk at most 1048576: NARROWER than '..Said'. Prove '..Said' where nothing that the law and all that it calls make is longer than what came in: it says more and counts as full. Else prove '..UptoSaid'. A law counts once. -/
mutual
def uptoBulk {H : Type} : DataW H → Nat
  | .lit (.string bytes) => bytes.length + 1
  | .lit _ => 1
  | .nil => 1
  | .ptr d => uptoBulk d + 1
  | .slice elems spare => uptoBulkAll elems + uptoBulkAll spare + 1
  | .agg parts => uptoBulkAll parts + 1
  | .iface _ d => uptoBulk d + 1
  | .map entries => uptoBulkEntries entries + 1
  | .held _ => 1
def uptoBulkAll {H : Type} : List (DataW H) → Nat
  | [] => 0
  | d :: r => uptoBulk d + uptoBulkAll r
def uptoBulkEntries {H : Type} : List (Lit × DataW H) → Nat
  | [] => 0
  | x :: r => uptoBulkEntry x + uptoBulkEntries r
def uptoBulkEntry {H : Type} : Lit × DataW H → Nat
  | (.string bytes, d) => bytes.length + uptoBulk d + 1
  | (_, d) => uptoBulk d + 1
 end
def uptoSmall : (H : Type) → List (DataW H) → Bool := fun _ ds => decide (uptoBulkAll ds ≤ 1048576)
def OpenSpec.upto (s : _root_.Go.ChangeSpec) : _root_.Go.OpenSpec := { _root_.Go.OpenSpec.ofChange s with cond := some uptoSmall }

/-- 'laws.FnExactBoxHalved', WHERE WHAT IT READS IS OF BULK AT MOST 1048576: true; the input reads as it did. -/
def fnExactBoxHalvedUptoRow : OpenClaim := { program := "yteohgmmenlinbah", sum := "4928289a406569984d7ea10696ec638ea3b03d2d3e2de8b79826a4a3140c3254", func := "loop.example/pinbits/laws.FnExactBoxHalved", spec := "fnExactBoxHalved", unfollowed := true, recurses := true, apart := false, narrowed := true }
def FnExactBoxHalvedUptoSaid : Prop := fnExactBoxHalvedUptoRow.holds Try.pinned (OpenSpec.upto fnExactBoxHalvedSpec)

/-- 'laws.FnExactBoxSplit', WHERE WHAT IT READS IS OF BULK AT MOST 1048576: true; the input reads as it did. -/
def fnExactBoxSplitUptoRow : OpenClaim := { program := "yteohgmmenlinbah", sum := "4928289a406569984d7ea10696ec638ea3b03d2d3e2de8b79826a4a3140c3254", func := "loop.example/pinbits/laws.FnExactBoxSplit", spec := "fnExactBoxSplit", unfollowed := true, recurses := true, apart := false, narrowed := true }
def FnExactBoxSplitUptoSaid : Prop := fnExactBoxSplitUptoRow.holds Try.pinned (OpenSpec.upto fnExactBoxSplitSpec)

/-- 'laws.FnExactBoxCut', WHERE WHAT IT READS IS OF BULK AT MOST 1048576: true; the input reads as it did. -/
def fnExactBoxCutUptoRow : OpenClaim := { program := "yteohgmmenlinbah", sum := "4928289a406569984d7ea10696ec638ea3b03d2d3e2de8b79826a4a3140c3254", func := "loop.example/pinbits/laws.FnExactBoxCut", spec := "fnExactBoxCut", unfollowed := true, recurses := true, apart := false, narrowed := true }
def FnExactBoxCutUptoSaid : Prop := fnExactBoxCutUptoRow.holds Try.pinned (OpenSpec.upto fnExactBoxCutSpec)

/-- 'laws.FnExactBoxUnits', WHERE WHAT IT READS IS OF BULK AT MOST 1048576: true; the input reads as it did. -/
def fnExactBoxUnitsUptoRow : OpenClaim := { program := "yteohgmmenlinbah", sum := "4928289a406569984d7ea10696ec638ea3b03d2d3e2de8b79826a4a3140c3254", func := "loop.example/pinbits/laws.FnExactBoxUnits", spec := "fnExactBoxUnits", unfollowed := true, recurses := true, apart := false, narrowed := true }
def FnExactBoxUnitsUptoSaid : Prop := fnExactBoxUnitsUptoRow.holds Try.pinned (OpenSpec.upto fnExactBoxUnitsSpec)

/-- 'laws.FnExactBoxPath', WHERE WHAT IT READS IS OF BULK AT MOST 1048576: true; the input reads as it did. -/
def fnExactBoxPathUptoRow : OpenClaim := { program := "yteohgmmenlinbah", sum := "4928289a406569984d7ea10696ec638ea3b03d2d3e2de8b79826a4a3140c3254", func := "loop.example/pinbits/laws.FnExactBoxPath", spec := "fnExactBoxPath", unfollowed := true, recurses := true, apart := false, narrowed := true }
def FnExactBoxPathUptoSaid : Prop := fnExactBoxPathUptoRow.holds Try.pinned (OpenSpec.upto fnExactBoxPathSpec)

/-- 'laws.FnExactBoxLess', WHERE WHAT IT READS IS OF BULK AT MOST 1048576: true; the input reads as it did. -/
def fnExactBoxLessUptoRow : OpenClaim := { program := "yteohgmmenlinbah", sum := "4928289a406569984d7ea10696ec638ea3b03d2d3e2de8b79826a4a3140c3254", func := "loop.example/pinbits/laws.FnExactBoxLess", spec := "fnExactBoxLess", inPlace := ["math.Float32frombits", "math.Float64bits", "math.Float64frombits", "math.Float32bits"], unfollowed := true, recurses := true, apart := false, narrowed := true }
def FnExactBoxLessUptoSaid : Prop := fnExactBoxLessUptoRow.holds Try.pinned (OpenSpec.upto fnExactBoxLessSpec)

end Rows
end Go.Proofs.Yteohgmmenlinbah
