/-
  No cell of these rows narrows 'for every input' (looked for: loops, veiled, ifaces, maps, wideKeys, modest, calm, conditions, laid).
  DERIVED. THE GIVEN ROWS OF THIS SEAT. 6 by the template 'for every input the law returns true; each argument reads behind the call as it read before'; 0 by the template 'total and deterministic' (their statements: YteohgmmenlinbabTotals.lean).
  GIVEN WITH THE SEED: the statements are not yours to turn. If you find one false, say at which input.
  Laid BY PROGRAM, IN A SANDBOX (cutbox-rows.mjs): the forced cells as the released guide's own fill.sh prints them over the translation 824e01658f6a59a4… (all of the seat's roots in one cut). By AI agents, Wed Nov 11 2026. No macro, syntax, notation, axiom, sorry.
-/
import Derived.Test.YteohgmmenlinbabChecked
import GoSem.Claim
import GoSem.ClaimJoined
import GoSem.ClaimMapViews
import Derived.JoinedTies
import Derived.KernelRfl
namespace Go.Proofs.Yteohgmmenlinbab
/- THE CELL 'sum', in the pinned program and in every row, IS THE sha256 OF THE DUMP (.gsa) THAT YteohgmmenlinbabProg.lean LOADS. Nothing in Lean hashes anything: it is a label: what it is worth is what the hold of that sum in a sandbox is worth. -/
noncomputable def Try.pinned : Pinned := { name := "yteohgmmenlinbab", sum := "824e01658f6a59a4dfa63e8ca10abe3c1f0bf558d0440a78d34ae3a7df4ebb80", checked := Try.checked }
namespace Rows
def none {H : Type} : Left H := { results := [], args := [] }

/-- 'laws.FnPairSplit': WHATEVER THE INPUT: true; the input reads as it did. -/
def fnPairSplitSpec : ChangeSpec := { name := "fnPairSplit", fn := fun _ => fun
  | [d1, d2] => { results := [.lit (.bool true)], args := [d1, d2] }
  | _ => none }
def fnPairSplitRow : OpenClaim := { program := "yteohgmmenlinbab", sum := "824e01658f6a59a4dfa63e8ca10abe3c1f0bf558d0440a78d34ae3a7df4ebb80", func := "loop.example/pinbits/laws.FnPairSplit", spec := "fnPairSplit", unfollowed := true, recurses := true, apart := false }
def FnPairSplitSaid : Prop := fnPairSplitRow.holds Try.pinned (OpenSpec.ofChange fnPairSplitSpec)

/-- ITS FALSE NEIGHBOUR: 'it returns false'. Refute it at one input. -/
def fnPairSplitWrong : ChangeSpec := { name := "fnPairSplit", fn := fun _ => fun
  | [d1, d2] => { results := [.lit (.bool false)], args := [d1, d2] }
  | _ => none }
def FnPairSplitWrongFalsely : Prop := fnPairSplitRow.holds Try.pinned (OpenSpec.ofChange fnPairSplitWrong)

/-- 'laws.FnPairCut': WHATEVER THE INPUT: true; the input reads as it did. -/
def fnPairCutSpec : ChangeSpec := { name := "fnPairCut", fn := fun _ => fun
  | [d1, d2] => { results := [.lit (.bool true)], args := [d1, d2] }
  | _ => none }
def fnPairCutRow : OpenClaim := { program := "yteohgmmenlinbab", sum := "824e01658f6a59a4dfa63e8ca10abe3c1f0bf558d0440a78d34ae3a7df4ebb80", func := "loop.example/pinbits/laws.FnPairCut", spec := "fnPairCut", unfollowed := true, recurses := true, apart := false }
def FnPairCutSaid : Prop := fnPairCutRow.holds Try.pinned (OpenSpec.ofChange fnPairCutSpec)

/-- ITS FALSE NEIGHBOUR: 'it returns false'. Refute it at one input. -/
def fnPairCutWrong : ChangeSpec := { name := "fnPairCut", fn := fun _ => fun
  | [d1, d2] => { results := [.lit (.bool false)], args := [d1, d2] }
  | _ => none }
def FnPairCutWrongFalsely : Prop := fnPairCutRow.holds Try.pinned (OpenSpec.ofChange fnPairCutWrong)

/-- 'laws.FnPairMeet': WHATEVER THE INPUT: true; the input reads as it did. -/
def fnPairMeetSpec : ChangeSpec := { name := "fnPairMeet", fn := fun _ => fun
  | [d1, d2] => { results := [.lit (.bool true)], args := [d1, d2] }
  | _ => none }
def fnPairMeetRow : OpenClaim := { program := "yteohgmmenlinbab", sum := "824e01658f6a59a4dfa63e8ca10abe3c1f0bf558d0440a78d34ae3a7df4ebb80", func := "loop.example/pinbits/laws.FnPairMeet", spec := "fnPairMeet", unfollowed := true, recurses := true, apart := false }
def FnPairMeetSaid : Prop := fnPairMeetRow.holds Try.pinned (OpenSpec.ofChange fnPairMeetSpec)

/-- ITS FALSE NEIGHBOUR: 'it returns false'. Refute it at one input. -/
def fnPairMeetWrong : ChangeSpec := { name := "fnPairMeet", fn := fun _ => fun
  | [d1, d2] => { results := [.lit (.bool false)], args := [d1, d2] }
  | _ => none }
def FnPairMeetWrongFalsely : Prop := fnPairMeetRow.holds Try.pinned (OpenSpec.ofChange fnPairMeetWrong)

/-- 'laws.FnBoxUnits': WHATEVER THE INPUT: true; the input reads as it did. -/
def fnBoxUnitsSpec : ChangeSpec := { name := "fnBoxUnits", fn := fun _ => fun
  | [d1, d2] => { results := [.lit (.bool true)], args := [d1, d2] }
  | _ => none }
def fnBoxUnitsRow : OpenClaim := { program := "yteohgmmenlinbab", sum := "824e01658f6a59a4dfa63e8ca10abe3c1f0bf558d0440a78d34ae3a7df4ebb80", func := "loop.example/pinbits/laws.FnBoxUnits", spec := "fnBoxUnits", unfollowed := true, recurses := true, apart := false }
def FnBoxUnitsSaid : Prop := fnBoxUnitsRow.holds Try.pinned (OpenSpec.ofChange fnBoxUnitsSpec)

/-- ITS FALSE NEIGHBOUR: 'it returns false'. Refute it at one input. -/
def fnBoxUnitsWrong : ChangeSpec := { name := "fnBoxUnits", fn := fun _ => fun
  | [d1, d2] => { results := [.lit (.bool false)], args := [d1, d2] }
  | _ => none }
def FnBoxUnitsWrongFalsely : Prop := fnBoxUnitsRow.holds Try.pinned (OpenSpec.ofChange fnBoxUnitsWrong)

/-- 'laws.FnBoxWithin': WHATEVER THE INPUT: true; the input reads as it did. -/
def fnBoxWithinSpec : ChangeSpec := { name := "fnBoxWithin", fn := fun _ => fun
  | [d] => { results := [.lit (.bool true)], args := [d] }
  | _ => none }
def fnBoxWithinRow : OpenClaim := { program := "yteohgmmenlinbab", sum := "824e01658f6a59a4dfa63e8ca10abe3c1f0bf558d0440a78d34ae3a7df4ebb80", func := "loop.example/pinbits/laws.FnBoxWithin", spec := "fnBoxWithin", unfollowed := true, recurses := true, apart := false }
def FnBoxWithinSaid : Prop := fnBoxWithinRow.holds Try.pinned (OpenSpec.ofChange fnBoxWithinSpec)

/-- ITS FALSE NEIGHBOUR: 'it returns false'. Refute it at one input. -/
def fnBoxWithinWrong : ChangeSpec := { name := "fnBoxWithin", fn := fun _ => fun
  | [d] => { results := [.lit (.bool false)], args := [d] }
  | _ => none }
def FnBoxWithinWrongFalsely : Prop := fnBoxWithinRow.holds Try.pinned (OpenSpec.ofChange fnBoxWithinWrong)

/-- 'laws.FnBoxNarrow': WHATEVER THE INPUT: true; the input reads as it did. -/
def fnBoxNarrowSpec : ChangeSpec := { name := "fnBoxNarrow", fn := fun _ => fun
  | [d] => { results := [.lit (.bool true)], args := [d] }
  | _ => none }
def fnBoxNarrowRow : OpenClaim := { program := "yteohgmmenlinbab", sum := "824e01658f6a59a4dfa63e8ca10abe3c1f0bf558d0440a78d34ae3a7df4ebb80", func := "loop.example/pinbits/laws.FnBoxNarrow", spec := "fnBoxNarrow", inPlace := ["math.Float32frombits", "math.Float64bits", "math.Float64frombits", "math.Float32bits"], unfollowed := true, recurses := true, apart := false }
def FnBoxNarrowSaid : Prop := fnBoxNarrowRow.holds Try.pinned (OpenSpec.ofChange fnBoxNarrowSpec)

/-- ITS FALSE NEIGHBOUR: 'it returns false'. Refute it at one input. -/
def fnBoxNarrowWrong : ChangeSpec := { name := "fnBoxNarrow", fn := fun _ => fun
  | [d] => { results := [.lit (.bool false)], args := [d] }
  | _ => none }
def FnBoxNarrowWrongFalsely : Prop := fnBoxNarrowRow.holds Try.pinned (OpenSpec.ofChange fnBoxNarrowWrong)

/- THE SECOND FORM. 'bulk': how many values and letters a reading holds, each counted each time it is reached (what is shared counts as often as it is met; a slice's spare places count too). A statement '..UptoSaid' is the law's where the arguments, and the package variables that the reading takes, are together of bulk at most 1048576: NARROWER than '..Said'. Prove '..Said' where nothing that the law and all that it calls make is longer than what came in: it says more and counts as full. Else prove '..UptoSaid'. A law counts once. -/
mutual
def uptoBulk {H : Type} : DataW H → Nat
  | .lit (.string bytes) => bytes.length + 1
  | .lit _ => 1
  | .nil => 1
  | .ptr d => uptoBulk d + 1
  | .slice elems spare => uptoBulkAll elems + uptoBulkAll spare + 1
  | .agg parts => uptoBulkAll parts + 1
  | .iface _ d => uptoBulk d + 1
  | .map entries => uptoBulkEntries entries + 1
  | .held _ => 1
def uptoBulkAll {H : Type} : List (DataW H) → Nat
  | [] => 0
  | d :: r => uptoBulk d + uptoBulkAll r
def uptoBulkEntries {H : Type} : List (Lit × DataW H) → Nat
  | [] => 0
  | x :: r => uptoBulkEntry x + uptoBulkEntries r
def uptoBulkEntry {H : Type} : Lit × DataW H → Nat
  | (.string bytes, d) => bytes.length + uptoBulk d + 1
  | (_, d) => uptoBulk d + 1
 end
def uptoSmall : (H : Type) → List (DataW H) → Bool := fun _ ds => decide (uptoBulkAll ds ≤ 1048576)
def OpenSpec.upto (s : _root_.Go.ChangeSpec) : _root_.Go.OpenSpec := { _root_.Go.OpenSpec.ofChange s with cond := some uptoSmall }

/-- 'laws.FnPairSplit', WHERE WHAT IT READS IS OF BULK AT MOST 1048576: true; the input reads as it did. -/
def fnPairSplitUptoRow : OpenClaim := { program := "yteohgmmenlinbab", sum := "824e01658f6a59a4dfa63e8ca10abe3c1f0bf558d0440a78d34ae3a7df4ebb80", func := "loop.example/pinbits/laws.FnPairSplit", spec := "fnPairSplit", unfollowed := true, recurses := true, apart := false, narrowed := true }
def FnPairSplitUptoSaid : Prop := fnPairSplitUptoRow.holds Try.pinned (OpenSpec.upto fnPairSplitSpec)

/-- 'laws.FnPairCut', WHERE WHAT IT READS IS OF BULK AT MOST 1048576: true; the input reads as it did. -/
def fnPairCutUptoRow : OpenClaim := { program := "yteohgmmenlinbab", sum := "824e01658f6a59a4dfa63e8ca10abe3c1f0bf558d0440a78d34ae3a7df4ebb80", func := "loop.example/pinbits/laws.FnPairCut", spec := "fnPairCut", unfollowed := true, recurses := true, apart := false, narrowed := true }
def FnPairCutUptoSaid : Prop := fnPairCutUptoRow.holds Try.pinned (OpenSpec.upto fnPairCutSpec)

/-- 'laws.FnPairMeet', WHERE WHAT IT READS IS OF BULK AT MOST 1048576: true; the input reads as it did. -/
def fnPairMeetUptoRow : OpenClaim := { program := "yteohgmmenlinbab", sum := "824e01658f6a59a4dfa63e8ca10abe3c1f0bf558d0440a78d34ae3a7df4ebb80", func := "loop.example/pinbits/laws.FnPairMeet", spec := "fnPairMeet", unfollowed := true, recurses := true, apart := false, narrowed := true }
def FnPairMeetUptoSaid : Prop := fnPairMeetUptoRow.holds Try.pinned (OpenSpec.upto fnPairMeetSpec)

/-- 'laws.FnBoxUnits', WHERE WHAT IT READS IS OF BULK AT MOST 1048576: true; the input reads as it did. -/
def fnBoxUnitsUptoRow : OpenClaim := { program := "yteohgmmenlinbab", sum := "824e01658f6a59a4dfa63e8ca10abe3c1f0bf558d0440a78d34ae3a7df4ebb80", func := "loop.example/pinbits/laws.FnBoxUnits", spec := "fnBoxUnits", unfollowed := true, recurses := true, apart := false, narrowed := true }
def FnBoxUnitsUptoSaid : Prop := fnBoxUnitsUptoRow.holds Try.pinned (OpenSpec.upto fnBoxUnitsSpec)

/-- 'laws.FnBoxWithin', WHERE WHAT IT READS IS OF BULK AT MOST 1048576: true; the input reads as it did. -/
def fnBoxWithinUptoRow : OpenClaim := { program := "yteohgmmenlinbab", sum := "824e01658f6a59a4dfa63e8ca10abe3c1f0bf558d0440a78d34ae3a7df4ebb80", func := "loop.example/pinbits/laws.FnBoxWithin", spec := "fnBoxWithin", unfollowed := true, recurses := true, apart := false, narrowed := true }
def FnBoxWithinUptoSaid : Prop := fnBoxWithinUptoRow.holds Try.pinned (OpenSpec.upto fnBoxWithinSpec)

/-- 'laws.FnBoxNarrow', WHERE WHAT IT READS IS OF BULK AT MOST 1048576: true; the input reads as it did. -/
def fnBoxNarrowUptoRow : OpenClaim := { program := "yteohgmmenlinbab", sum := "824e01658f6a59a4dfa63e8ca10abe3c1f0bf558d0440a78d34ae3a7df4ebb80", func := "loop.example/pinbits/laws.FnBoxNarrow", spec := "fnBoxNarrow", inPlace := ["math.Float32frombits", "math.Float64bits", "math.Float64frombits", "math.Float32bits"], unfollowed := true, recurses := true, apart := false, narrowed := true }
def FnBoxNarrowUptoSaid : Prop := fnBoxNarrowUptoRow.holds Try.pinned (OpenSpec.upto fnBoxNarrowSpec)

end Rows
end Go.Proofs.Yteohgmmenlinbab
