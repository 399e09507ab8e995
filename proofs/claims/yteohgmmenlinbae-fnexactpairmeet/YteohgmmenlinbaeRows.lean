/-
  No cell of these rows narrows 'for every input' (looked for: loops, veiled, ifaces, maps, wideKeys, modest, calm, conditions, laid).
  DERIVED. THE GIVEN ROWS OF THIS SEAT. 6 by the template 'for every input the law returns true; each argument reads behind the call as it read before'; 0 by the template 'total and deterministic' (their statements: YteohgmmenlinbaeTotals.lean).
  GIVEN WITH THE SEED: the statements are not yours to turn. If you find one false, say at which input.
  Laid BY PROGRAM, IN A SANDBOX (cutbox-rows.mjs): the forced cells as the released guide's own fill.sh prints them over the translation 480df9c92e3c6373… (all of the seat's roots in one cut). By AI agents, Wed Nov 11 2026. No macro, syntax, notation, axiom, sorry.
-/
import Derived.Test.YteohgmmenlinbaeChecked
import GoSem.Claim
import GoSem.ClaimJoined
import GoSem.ClaimMapViews
import Derived.JoinedTies
import Derived.KernelRfl
namespace Go.Proofs.Yteohgmmenlinbae
/- THE CELL 'sum', in the pinned program and in every row, IS THE sha256 OF THE DUMP (.gsa) THAT YteohgmmenlinbaeProg.lean LOADS. Nothing in Lean hashes anything: it is a label: what it is worth is what the hold of that sum in a sandbox is worth. -/
noncomputable def Try.pinned : Pinned := { name := "yteohgmmenlinbae", sum := "480df9c92e3c6373adec2ea1816147a6e988ec55ae12378cb0d6c4fd42616a6b", checked := Try.checked }
namespace Rows
def none {H : Type} : Left H := { results := [], args := [] }

/-- 'laws.FnExactBitWiden': WHATEVER THE INPUT: true; the input reads as it did. -/
def fnExactBitWidenSpec : ChangeSpec := { name := "fnExactBitWiden", fn := fun _ => fun
  | [d] => { results := [.lit (.bool true)], args := [d] }
  | _ => none }
def fnExactBitWidenRow : OpenClaim := { program := "yteohgmmenlinbae", sum := "480df9c92e3c6373adec2ea1816147a6e988ec55ae12378cb0d6c4fd42616a6b", func := "loop.example/pinbits/laws.FnExactBitWiden", spec := "fnExactBitWiden", inPlace := ["math.Float32frombits", "math.Float64bits"], unfollowed := true, recurses := true, apart := false }
def FnExactBitWidenSaid : Prop := fnExactBitWidenRow.holds Try.pinned (OpenSpec.ofChange fnExactBitWidenSpec)

/-- ITS FALSE NEIGHBOUR: 'it returns false'. Refute it at one input. -/
def fnExactBitWidenWrong : ChangeSpec := { name := "fnExactBitWiden", fn := fun _ => fun
  | [d] => { results := [.lit (.bool false)], args := [d] }
  | _ => none }
def FnExactBitWidenWrongFalsely : Prop := fnExactBitWidenRow.holds Try.pinned (OpenSpec.ofChange fnExactBitWidenWrong)

/-- 'laws.FnExactBitBelow': WHATEVER THE INPUT: true; the input reads as it did. -/
def fnExactBitBelowSpec : ChangeSpec := { name := "fnExactBitBelow", fn := fun _ => fun
  | [d] => { results := [.lit (.bool true)], args := [d] }
  | _ => none }
def fnExactBitBelowRow : OpenClaim := { program := "yteohgmmenlinbae", sum := "480df9c92e3c6373adec2ea1816147a6e988ec55ae12378cb0d6c4fd42616a6b", func := "loop.example/pinbits/laws.FnExactBitBelow", spec := "fnExactBitBelow", inPlace := ["math.Float32frombits", "math.Float64bits", "math.Float64frombits", "math.Float32bits"], unfollowed := true, recurses := true, apart := false }
def FnExactBitBelowSaid : Prop := fnExactBitBelowRow.holds Try.pinned (OpenSpec.ofChange fnExactBitBelowSpec)

/-- ITS FALSE NEIGHBOUR: 'it returns false'. Refute it at one input. -/
def fnExactBitBelowWrong : ChangeSpec := { name := "fnExactBitBelow", fn := fun _ => fun
  | [d] => { results := [.lit (.bool false)], args := [d] }
  | _ => none }
def FnExactBitBelowWrongFalsely : Prop := fnExactBitBelowRow.holds Try.pinned (OpenSpec.ofChange fnExactBitBelowWrong)

/-- 'laws.FnExactBitAbove': WHATEVER THE INPUT: true; the input reads as it did. -/
def fnExactBitAboveSpec : ChangeSpec := { name := "fnExactBitAbove", fn := fun _ => fun
  | [d] => { results := [.lit (.bool true)], args := [d] }
  | _ => none }
def fnExactBitAboveRow : OpenClaim := { program := "yteohgmmenlinbae", sum := "480df9c92e3c6373adec2ea1816147a6e988ec55ae12378cb0d6c4fd42616a6b", func := "loop.example/pinbits/laws.FnExactBitAbove", spec := "fnExactBitAbove", inPlace := ["math.Float32frombits", "math.Float64bits", "math.Float64frombits", "math.Float32bits"], unfollowed := true, recurses := true, apart := false }
def FnExactBitAboveSaid : Prop := fnExactBitAboveRow.holds Try.pinned (OpenSpec.ofChange fnExactBitAboveSpec)

/-- ITS FALSE NEIGHBOUR: 'it returns false'. Refute it at one input. -/
def fnExactBitAboveWrong : ChangeSpec := { name := "fnExactBitAbove", fn := fun _ => fun
  | [d] => { results := [.lit (.bool false)], args := [d] }
  | _ => none }
def FnExactBitAboveWrongFalsely : Prop := fnExactBitAboveRow.holds Try.pinned (OpenSpec.ofChange fnExactBitAboveWrong)

/-- 'laws.FnExactPairOk': WHATEVER THE INPUT: true; the input reads as it did. -/
def fnExactPairOkSpec : ChangeSpec := { name := "fnExactPairOk", fn := fun _ => fun
  | [d1, d2] => { results := [.lit (.bool true)], args := [d1, d2] }
  | _ => none }
def fnExactPairOkRow : OpenClaim := { program := "yteohgmmenlinbae", sum := "480df9c92e3c6373adec2ea1816147a6e988ec55ae12378cb0d6c4fd42616a6b", func := "loop.example/pinbits/laws.FnExactPairOk", spec := "fnExactPairOk", unfollowed := true, recurses := true, apart := false }
def FnExactPairOkSaid : Prop := fnExactPairOkRow.holds Try.pinned (OpenSpec.ofChange fnExactPairOkSpec)

/-- ITS FALSE NEIGHBOUR: 'it returns false'. Refute it at one input. -/
def fnExactPairOkWrong : ChangeSpec := { name := "fnExactPairOk", fn := fun _ => fun
  | [d1, d2] => { results := [.lit (.bool false)], args := [d1, d2] }
  | _ => none }
def FnExactPairOkWrongFalsely : Prop := fnExactPairOkRow.holds Try.pinned (OpenSpec.ofChange fnExactPairOkWrong)

/-- 'laws.FnExactPairIs': WHATEVER THE INPUT: true; the input reads as it did. -/
def fnExactPairIsSpec : ChangeSpec := { name := "fnExactPairIs", fn := fun _ => fun
  | [d1, d2] => { results := [.lit (.bool true)], args := [d1, d2] }
  | _ => none }
def fnExactPairIsRow : OpenClaim := { program := "yteohgmmenlinbae", sum := "480df9c92e3c6373adec2ea1816147a6e988ec55ae12378cb0d6c4fd42616a6b", func := "loop.example/pinbits/laws.FnExactPairIs", spec := "fnExactPairIs", apart := false }
def FnExactPairIsSaid : Prop := fnExactPairIsRow.holds Try.pinned (OpenSpec.ofChange fnExactPairIsSpec)

/-- ITS FALSE NEIGHBOUR: 'it returns false'. Refute it at one input. -/
def fnExactPairIsWrong : ChangeSpec := { name := "fnExactPairIs", fn := fun _ => fun
  | [d1, d2] => { results := [.lit (.bool false)], args := [d1, d2] }
  | _ => none }
def FnExactPairIsWrongFalsely : Prop := fnExactPairIsRow.holds Try.pinned (OpenSpec.ofChange fnExactPairIsWrong)

/-- 'laws.FnExactPairMeet': WHATEVER THE INPUT: true; the input reads as it did. -/
def fnExactPairMeetSpec : ChangeSpec := { name := "fnExactPairMeet", fn := fun _ => fun
  | [d1, d2, d3] => { results := [.lit (.bool true)], args := [d1, d2, d3] }
  | _ => none }
def fnExactPairMeetRow : OpenClaim := { program := "yteohgmmenlinbae", sum := "480df9c92e3c6373adec2ea1816147a6e988ec55ae12378cb0d6c4fd42616a6b", func := "loop.example/pinbits/laws.FnExactPairMeet", spec := "fnExactPairMeet", unfollowed := true, recurses := true, apart := false }
def FnExactPairMeetSaid : Prop := fnExactPairMeetRow.holds Try.pinned (OpenSpec.ofChange fnExactPairMeetSpec)

/-- ITS FALSE NEIGHBOUR: 'it returns false'. Refute it at one input. -/
def fnExactPairMeetWrong : ChangeSpec := { name := "fnExactPairMeet", fn := fun _ => fun
  | [d1, d2, d3] => { results := [.lit (.bool false)], args := [d1, d2, d3] }
  | _ => none }
def FnExactPairMeetWrongFalsely : Prop := fnExactPairMeetRow.holds Try.pinned (OpenSpec.ofChange fnExactPairMeetWrong)

/- THE SECOND FORM. 'bulk': how many values and letters a reading holds, each counted each time it is reached (what is shared counts as often as it is met; a slice's spare places count too). A statement '..UptoSaid' is the law's where the arguments, and the package variables that the reading takes, are together of bulk at most 1048576: NARROWER than '..Said'. Prove '..Said' where nothing that the law and all that it calls make is longer than what came in: it says more and counts as full. Else prove '..UptoSaid'. A law counts once. -/
mutual
def uptoBulk {H : Type} : DataW H → Nat
  | .lit (.string bytes) => bytes.length + 1
  | .lit _ => 1
  | .nil => 1
  | .ptr d => uptoBulk d + 1
  | .slice elems spare => uptoBulkAll elems + uptoBulkAll spare + 1
  | .agg parts => uptoBulkAll parts + 1
  | .iface _ d => uptoBulk d + 1
  | .map entries => uptoBulkEntries entries + 1
  | .held _ => 1
def uptoBulkAll {H : Type} : List (DataW H) → Nat
  | [] => 0
  | d :: r => uptoBulk d + uptoBulkAll r
def uptoBulkEntries {H : Type} : List (Lit × DataW H) → Nat
  | [] => 0
  | x :: r => uptoBulkEntry x + uptoBulkEntries r
def uptoBulkEntry {H : Type} : Lit × DataW H → Nat
  | (.string bytes, d) => bytes.length + uptoBulk d + 1
  | (_, d) => uptoBulk d + 1
 end
def uptoSmall : (H : Type) → List (DataW H) → Bool := fun _ ds => decide (uptoBulkAll ds ≤ 1048576)
def OpenSpec.upto (s : _root_.Go.ChangeSpec) : _root_.Go.OpenSpec := { _root_.Go.OpenSpec.ofChange s with cond := some uptoSmall }

/-- 'laws.FnExactBitWiden', WHERE WHAT IT READS IS OF BULK AT MOST 1048576: true; the input reads as it did. -/
def fnExactBitWidenUptoRow : OpenClaim := { program := "yteohgmmenlinbae", sum := "480df9c92e3c6373adec2ea1816147a6e988ec55ae12378cb0d6c4fd42616a6b", func := "loop.example/pinbits/laws.FnExactBitWiden", spec := "fnExactBitWiden", inPlace := ["math.Float32frombits", "math.Float64bits"], unfollowed := true, recurses := true, apart := false, narrowed := true }
def FnExactBitWidenUptoSaid : Prop := fnExactBitWidenUptoRow.holds Try.pinned (OpenSpec.upto fnExactBitWidenSpec)

/-- 'laws.FnExactBitBelow', WHERE WHAT IT READS IS OF BULK AT MOST 1048576: true; the input reads as it did. -/
def fnExactBitBelowUptoRow : OpenClaim := { program := "yteohgmmenlinbae", sum := "480df9c92e3c6373adec2ea1816147a6e988ec55ae12378cb0d6c4fd42616a6b", func := "loop.example/pinbits/laws.FnExactBitBelow", spec := "fnExactBitBelow", inPlace := ["math.Float32frombits", "math.Float64bits", "math.Float64frombits", "math.Float32bits"], unfollowed := true, recurses := true, apart := false, narrowed := true }
def FnExactBitBelowUptoSaid : Prop := fnExactBitBelowUptoRow.holds Try.pinned (OpenSpec.upto fnExactBitBelowSpec)

/-- 'laws.FnExactBitAbove', WHERE WHAT IT READS IS OF BULK AT MOST 1048576: true; the input reads as it did. -/
def fnExactBitAboveUptoRow : OpenClaim := { program := "yteohgmmenlinbae", sum := "480df9c92e3c6373adec2ea1816147a6e988ec55ae12378cb0d6c4fd42616a6b", func := "loop.example/pinbits/laws.FnExactBitAbove", spec := "fnExactBitAbove", inPlace := ["math.Float32frombits", "math.Float64bits", "math.Float64frombits", "math.Float32bits"], unfollowed := true, recurses := true, apart := false, narrowed := true }
def FnExactBitAboveUptoSaid : Prop := fnExactBitAboveUptoRow.holds Try.pinned (OpenSpec.upto fnExactBitAboveSpec)

/-- 'laws.FnExactPairOk', WHERE WHAT IT READS IS OF BULK AT MOST 1048576: true; the input reads as it did. -/
def fnExactPairOkUptoRow : OpenClaim := { program := "yteohgmmenlinbae", sum := "480df9c92e3c6373adec2ea1816147a6e988ec55ae12378cb0d6c4fd42616a6b", func := "loop.example/pinbits/laws.FnExactPairOk", spec := "fnExactPairOk", unfollowed := true, recurses := true, apart := false, narrowed := true }
def FnExactPairOkUptoSaid : Prop := fnExactPairOkUptoRow.holds Try.pinned (OpenSpec.upto fnExactPairOkSpec)

/-- 'laws.FnExactPairIs', WHERE WHAT IT READS IS OF BULK AT MOST 1048576: true; the input reads as it did. -/
def fnExactPairIsUptoRow : OpenClaim := { program := "yteohgmmenlinbae", sum := "480df9c92e3c6373adec2ea1816147a6e988ec55ae12378cb0d6c4fd42616a6b", func := "loop.example/pinbits/laws.FnExactPairIs", spec := "fnExactPairIs", apart := false, narrowed := true }
def FnExactPairIsUptoSaid : Prop := fnExactPairIsUptoRow.holds Try.pinned (OpenSpec.upto fnExactPairIsSpec)

/-- 'laws.FnExactPairMeet', WHERE WHAT IT READS IS OF BULK AT MOST 1048576: true; the input reads as it did. -/
def fnExactPairMeetUptoRow : OpenClaim := { program := "yteohgmmenlinbae", sum := "480df9c92e3c6373adec2ea1816147a6e988ec55ae12378cb0d6c4fd42616a6b", func := "loop.example/pinbits/laws.FnExactPairMeet", spec := "fnExactPairMeet", unfollowed := true, recurses := true, apart := false, narrowed := true }
def FnExactPairMeetUptoSaid : Prop := fnExactPairMeetUptoRow.holds Try.pinned (OpenSpec.upto fnExactPairMeetSpec)

end Rows
end Go.Proofs.Yteohgmmenlinbae
