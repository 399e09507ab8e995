/-
  No cell of these rows narrows 'for every input' (looked for: loops, veiled, ifaces, maps, wideKeys, modest, calm, conditions, laid).
  DERIVED. THE GIVEN ROWS OF THIS SEAT. 6 by the template 'for every input the law returns true; each argument reads behind the call as it read before'; 0 by the template 'total and deterministic' (their statements: YteohgmmenlinbafTotals.lean).
  GIVEN WITH THE SEED: the statements are not yours to turn. If you find one false, say at which input.
  Laid BY PROGRAM, IN A SANDBOX (cutbox-rows.mjs): the forced cells as the released guide's own fill.sh prints them over the translation 604b8c52c8a2ee0f… (all of the seat's roots in one cut). By AI agents, Wed Nov 11 2026. No macro, syntax, notation, axiom, sorry.
-/
import Derived.Test.YteohgmmenlinbafChecked
import GoSem.Claim
import GoSem.ClaimJoined
import GoSem.ClaimMapViews
import Derived.JoinedTies
import Derived.KernelRfl
namespace Go.Proofs.Yteohgmmenlinbaf
/- THE CELL 'sum', in the pinned program and in every row, IS THE sha256 OF THE DUMP (.gsa) THAT YteohgmmenlinbafProg.lean LOADS. Nothing in Lean hashes anything: it is a label: what it is worth is what the hold of that sum in a sandbox is worth. -/
noncomputable def Try.pinned : Pinned := { name := "yteohgmmenlinbaf", sum := "604b8c52c8a2ee0f68a2019ea414bc3af8cd31e10c95e35a22c5119d831b39ab", checked := Try.checked }
namespace Rows
def none {H : Type} : Left H := { results := [], args := [] }

/-- 'laws.FnExactPairHull': WHATEVER THE INPUT: true; the input reads as it did. -/
def fnExactPairHullSpec : ChangeSpec := { name := "fnExactPairHull", fn := fun _ => fun
  | [d1, d2, d3] => { results := [.lit (.bool true)], args := [d1, d2, d3] }
  | _ => none }
def fnExactPairHullRow : OpenClaim := { program := "yteohgmmenlinbaf", sum := "604b8c52c8a2ee0f68a2019ea414bc3af8cd31e10c95e35a22c5119d831b39ab", func := "loop.example/pinbits/laws.FnExactPairHull", spec := "fnExactPairHull", unfollowed := true, recurses := true, apart := false }
def FnExactPairHullSaid : Prop := fnExactPairHullRow.holds Try.pinned (OpenSpec.ofChange fnExactPairHullSpec)

/-- ITS FALSE NEIGHBOUR: 'it returns false'. Refute it at one input. -/
def fnExactPairHullWrong : ChangeSpec := { name := "fnExactPairHull", fn := fun _ => fun
  | [d1, d2, d3] => { results := [.lit (.bool false)], args := [d1, d2, d3] }
  | _ => none }
def FnExactPairHullWrongFalsely : Prop := fnExactPairHullRow.holds Try.pinned (OpenSpec.ofChange fnExactPairHullWrong)

/-- 'laws.FnExactPairSplit': WHATEVER THE INPUT: true; the input reads as it did. -/
def fnExactPairSplitSpec : ChangeSpec := { name := "fnExactPairSplit", fn := fun _ => fun
  | [d1, d2] => { results := [.lit (.bool true)], args := [d1, d2] }
  | _ => none }
def fnExactPairSplitRow : OpenClaim := { program := "yteohgmmenlinbaf", sum := "604b8c52c8a2ee0f68a2019ea414bc3af8cd31e10c95e35a22c5119d831b39ab", func := "loop.example/pinbits/laws.FnExactPairSplit", spec := "fnExactPairSplit", unfollowed := true, recurses := true, apart := false }
def FnExactPairSplitSaid : Prop := fnExactPairSplitRow.holds Try.pinned (OpenSpec.ofChange fnExactPairSplitSpec)

/-- ITS FALSE NEIGHBOUR: 'it returns false'. Refute it at one input. -/
def fnExactPairSplitWrong : ChangeSpec := { name := "fnExactPairSplit", fn := fun _ => fun
  | [d1, d2] => { results := [.lit (.bool false)], args := [d1, d2] }
  | _ => none }
def FnExactPairSplitWrongFalsely : Prop := fnExactPairSplitRow.holds Try.pinned (OpenSpec.ofChange fnExactPairSplitWrong)

/-- 'laws.FnExactPairCut': WHATEVER THE INPUT: true; the input reads as it did. -/
def fnExactPairCutSpec : ChangeSpec := { name := "fnExactPairCut", fn := fun _ => fun
  | [d1, d2, d3] => { results := [.lit (.bool true)], args := [d1, d2, d3] }
  | _ => none }
def fnExactPairCutRow : OpenClaim := { program := "yteohgmmenlinbaf", sum := "604b8c52c8a2ee0f68a2019ea414bc3af8cd31e10c95e35a22c5119d831b39ab", func := "loop.example/pinbits/laws.FnExactPairCut", spec := "fnExactPairCut", unfollowed := true, recurses := true, apart := false }
def FnExactPairCutSaid : Prop := fnExactPairCutRow.holds Try.pinned (OpenSpec.ofChange fnExactPairCutSpec)

/-- ITS FALSE NEIGHBOUR: 'it returns false'. Refute it at one input. -/
def fnExactPairCutWrong : ChangeSpec := { name := "fnExactPairCut", fn := fun _ => fun
  | [d1, d2, d3] => { results := [.lit (.bool false)], args := [d1, d2, d3] }
  | _ => none }
def FnExactPairCutWrongFalsely : Prop := fnExactPairCutRow.holds Try.pinned (OpenSpec.ofChange fnExactPairCutWrong)

/-- 'laws.FnExactPairLess': WHATEVER THE INPUT: true; the input reads as it did. -/
def fnExactPairLessSpec : ChangeSpec := { name := "fnExactPairLess", fn := fun _ => fun
  | [d] => { results := [.lit (.bool true)], args := [d] }
  | _ => none }
def fnExactPairLessRow : OpenClaim := { program := "yteohgmmenlinbaf", sum := "604b8c52c8a2ee0f68a2019ea414bc3af8cd31e10c95e35a22c5119d831b39ab", func := "loop.example/pinbits/laws.FnExactPairLess", spec := "fnExactPairLess", inPlace := ["math.Float32frombits", "math.Float64bits", "math.Float64frombits", "math.Float32bits"], unfollowed := true, recurses := true, apart := false }
def FnExactPairLessSaid : Prop := fnExactPairLessRow.holds Try.pinned (OpenSpec.ofChange fnExactPairLessSpec)

/-- ITS FALSE NEIGHBOUR: 'it returns false'. Refute it at one input. -/
def fnExactPairLessWrong : ChangeSpec := { name := "fnExactPairLess", fn := fun _ => fun
  | [d] => { results := [.lit (.bool false)], args := [d] }
  | _ => none }
def FnExactPairLessWrongFalsely : Prop := fnExactPairLessRow.holds Try.pinned (OpenSpec.ofChange fnExactPairLessWrong)

/-- 'laws.FnExactPairMore': WHATEVER THE INPUT: true; the input reads as it did. -/
def fnExactPairMoreSpec : ChangeSpec := { name := "fnExactPairMore", fn := fun _ => fun
  | [d] => { results := [.lit (.bool true)], args := [d] }
  | _ => none }
def fnExactPairMoreRow : OpenClaim := { program := "yteohgmmenlinbaf", sum := "604b8c52c8a2ee0f68a2019ea414bc3af8cd31e10c95e35a22c5119d831b39ab", func := "loop.example/pinbits/laws.FnExactPairMore", spec := "fnExactPairMore", inPlace := ["math.Float32frombits", "math.Float64bits"], unfollowed := true, recurses := true, apart := false }
def FnExactPairMoreSaid : Prop := fnExactPairMoreRow.holds Try.pinned (OpenSpec.ofChange fnExactPairMoreSpec)

/-- ITS FALSE NEIGHBOUR: 'it returns false'. Refute it at one input. -/
def fnExactPairMoreWrong : ChangeSpec := { name := "fnExactPairMore", fn := fun _ => fun
  | [d] => { results := [.lit (.bool false)], args := [d] }
  | _ => none }
def FnExactPairMoreWrongFalsely : Prop := fnExactPairMoreRow.holds Try.pinned (OpenSpec.ofChange fnExactPairMoreWrong)

/-- 'laws.FnExactBoxOk': WHATEVER THE INPUT: true; the input reads as it did. -/
def fnExactBoxOkSpec : ChangeSpec := { name := "fnExactBoxOk", fn := fun _ => fun
  | [d1, d2] => { results := [.lit (.bool true)], args := [d1, d2] }
  | _ => none }
def fnExactBoxOkRow : OpenClaim := { program := "yteohgmmenlinbaf", sum := "604b8c52c8a2ee0f68a2019ea414bc3af8cd31e10c95e35a22c5119d831b39ab", func := "loop.example/pinbits/laws.FnExactBoxOk", spec := "fnExactBoxOk", unfollowed := true, recurses := true, apart := false }
def FnExactBoxOkSaid : Prop := fnExactBoxOkRow.holds Try.pinned (OpenSpec.ofChange fnExactBoxOkSpec)

/-- ITS FALSE NEIGHBOUR: 'it returns false'. Refute it at one input. -/
def fnExactBoxOkWrong : ChangeSpec := { name := "fnExactBoxOk", fn := fun _ => fun
  | [d1, d2] => { results := [.lit (.bool false)], args := [d1, d2] }
  | _ => none }
def FnExactBoxOkWrongFalsely : Prop := fnExactBoxOkRow.holds Try.pinned (OpenSpec.ofChange fnExactBoxOkWrong)

/- THE SECOND FORM. 'bulk': how many values and letters a reading holds, each counted each time it is reached (what is shared counts as often as it is met; a slice's spare places count too). A statement '..UptoSaid' is the law's where the arguments, and the package variables that the reading takes, are together of bulk at most 1048576: NARROWER than '..Said'. Prove '..Said' where nothing that the law and all that it calls make is longer than what came in: it says more and counts as full. Else prove '..UptoSaid'. A law counts once. -/
mutual
def uptoBulk {H : Type} : DataW H → Nat
  | .lit (.string bytes) => bytes.length + 1
  | .lit _ => 1
  | .nil => 1
  | .ptr d => uptoBulk d + 1
  | .slice elems spare => uptoBulkAll elems + uptoBulkAll spare + 1
  | .agg parts => uptoBulkAll parts + 1
  | .iface _ d => uptoBulk d + 1
  | .map entries => uptoBulkEntries entries + 1
  | .held _ => 1
def uptoBulkAll {H : Type} : List (DataW H) → Nat
  | [] => 0
  | d :: r => uptoBulk d + uptoBulkAll r
def uptoBulkEntries {H : Type} : List (Lit × DataW H) → Nat
  | [] => 0
  | x :: r => uptoBulkEntry x + uptoBulkEntries r
def uptoBulkEntry {H : Type} : Lit × DataW H → Nat
  | (.string bytes, d) => bytes.length + uptoBulk d + 1
  | (_, d) => uptoBulk d + 1
 end
def uptoSmall : (H : Type) → List (DataW H) → Bool := fun _ ds => decide (uptoBulkAll ds ≤ 1048576)
def OpenSpec.upto (s : _root_.Go.ChangeSpec) : _root_.Go.OpenSpec := { _root_.Go.OpenSpec.ofChange s with cond := some uptoSmall }

/-- 'laws.FnExactPairHull', WHERE WHAT IT READS IS OF BULK AT MOST 1048576: true; the input reads as it did. -/
def fnExactPairHullUptoRow : OpenClaim := { program := "yteohgmmenlinbaf", sum := "604b8c52c8a2ee0f68a2019ea414bc3af8cd31e10c95e35a22c5119d831b39ab", func := "loop.example/pinbits/laws.FnExactPairHull", spec := "fnExactPairHull", unfollowed := true, recurses := true, apart := false, narrowed := true }
def FnExactPairHullUptoSaid : Prop := fnExactPairHullUptoRow.holds Try.pinned (OpenSpec.upto fnExactPairHullSpec)

/-- 'laws.FnExactPairSplit', WHERE WHAT IT READS IS OF BULK AT MOST 1048576: true; the input reads as it did. -/
def fnExactPairSplitUptoRow : OpenClaim := { program := "yteohgmmenlinbaf", sum := "604b8c52c8a2ee0f68a2019ea414bc3af8cd31e10c95e35a22c5119d831b39ab", func := "loop.example/pinbits/laws.FnExactPairSplit", spec := "fnExactPairSplit", unfollowed := true, recurses := true, apart := false, narrowed := true }
def FnExactPairSplitUptoSaid : Prop := fnExactPairSplitUptoRow.holds Try.pinned (OpenSpec.upto fnExactPairSplitSpec)

/-- 'laws.FnExactPairCut', WHERE WHAT IT READS IS OF BULK AT MOST 1048576: true; the input reads as it did. -/
def fnExactPairCutUptoRow : OpenClaim := { program := "yteohgmmenlinbaf", sum := "604b8c52c8a2ee0f68a2019ea414bc3af8cd31e10c95e35a22c5119d831b39ab", func := "loop.example/pinbits/laws.FnExactPairCut", spec := "fnExactPairCut", unfollowed := true, recurses := true, apart := false, narrowed := true }
def FnExactPairCutUptoSaid : Prop := fnExactPairCutUptoRow.holds Try.pinned (OpenSpec.upto fnExactPairCutSpec)

/-- 'laws.FnExactPairLess', WHERE WHAT IT READS IS OF BULK AT MOST 1048576: true; the input reads as it did. -/
def fnExactPairLessUptoRow : OpenClaim := { program := "yteohgmmenlinbaf", sum := "604b8c52c8a2ee0f68a2019ea414bc3af8cd31e10c95e35a22c5119d831b39ab", func := "loop.example/pinbits/laws.FnExactPairLess", spec := "fnExactPairLess", inPlace := ["math.Float32frombits", "math.Float64bits", "math.Float64frombits", "math.Float32bits"], unfollowed := true, recurses := true, apart := false, narrowed := true }
def FnExactPairLessUptoSaid : Prop := fnExactPairLessUptoRow.holds Try.pinned (OpenSpec.upto fnExactPairLessSpec)

/-- 'laws.FnExactPairMore', WHERE WHAT IT READS IS OF BULK AT MOST 1048576: true; the input reads as it did. -/
def fnExactPairMoreUptoRow : OpenClaim := { program := "yteohgmmenlinbaf", sum := "604b8c52c8a2ee0f68a2019ea414bc3af8cd31e10c95e35a22c5119d831b39ab", func := "loop.example/pinbits/laws.FnExactPairMore", spec := "fnExactPairMore", inPlace := ["math.Float32frombits", "math.Float64bits"], unfollowed := true, recurses := true, apart := false, narrowed := true }
def FnExactPairMoreUptoSaid : Prop := fnExactPairMoreUptoRow.holds Try.pinned (OpenSpec.upto fnExactPairMoreSpec)

/-- 'laws.FnExactBoxOk', WHERE WHAT IT READS IS OF BULK AT MOST 1048576: true; the input reads as it did. -/
def fnExactBoxOkUptoRow : OpenClaim := { program := "yteohgmmenlinbaf", sum := "604b8c52c8a2ee0f68a2019ea414bc3af8cd31e10c95e35a22c5119d831b39ab", func := "loop.example/pinbits/laws.FnExactBoxOk", spec := "fnExactBoxOk", unfollowed := true, recurses := true, apart := false, narrowed := true }
def FnExactBoxOkUptoSaid : Prop := fnExactBoxOkUptoRow.holds Try.pinned (OpenSpec.upto fnExactBoxOkSpec)

end Rows
end Go.Proofs.Yteohgmmenlinbaf
