/-
  No cell of these rows narrows 'for every input' (looked for: loops, veiled, ifaces, maps, wideKeys, modest, calm, conditions, laid).
  DERIVED. THE GIVEN ROWS OF THIS SEAT. 5 by the template 'for every input the law returns true; each argument reads behind the call as it read before'; 0 by the template 'total and deterministic' (their statements: YteohgmmenlinbadTotals.lean).
  GIVEN WITH THE SEED: the statements are not yours to turn. If you find one false, say at which input.
  Laid BY PROGRAM, IN A SANDBOX (cutbox-rows.mjs): the forced cells as the released guide's own fill.sh prints them over the translation 0f757be3e6126ed5… (all of the seat's roots in one cut). By AI agents, Wed Nov 11 2026. No macro, syntax, notation, axiom, sorry.
-/
import Derived.Test.YteohgmmenlinbadChecked
import GoSem.Claim
import GoSem.ClaimJoined
import GoSem.ClaimMapViews
import Derived.JoinedTies
import Derived.KernelRfl
namespace Go.Proofs.Yteohgmmenlinbad
/- THE CELL 'sum', in the pinned program and in every row, IS THE sha256 OF THE DUMP (.gsa) THAT YteohgmmenlinbadProg.lean LOADS. Nothing in Lean hashes anything: it is a label: what it is worth is what the hold of that sum in a sandbox is worth. -/
noncomputable def Try.pinned : Pinned := { name := "yteohgmmenlinbad", sum := "0f757be3e6126ed5090567b8d4946feb292572082bc02569a554da855c027f9c", checked := Try.checked }
namespace Rows
def none {H : Type} : Left H := { results := [], args := [] }

/-- 'laws.FnExactBitUp': WHATEVER THE INPUT: true; the input reads as it did. -/
def fnExactBitUpSpec : ChangeSpec := { name := "fnExactBitUp", fn := fun _ => fun
  | [d1, d2] => { results := [.lit (.bool true)], args := [d1, d2] }
  | _ => none }
def fnExactBitUpRow : OpenClaim := { program := "yteohgmmenlinbad", sum := "0f757be3e6126ed5090567b8d4946feb292572082bc02569a554da855c027f9c", func := "loop.example/pinbits/laws.FnExactBitUp", spec := "fnExactBitUp", unfollowed := true, recurses := true, apart := false }
def FnExactBitUpSaid : Prop := fnExactBitUpRow.holds Try.pinned (OpenSpec.ofChange fnExactBitUpSpec)

/-- ITS FALSE NEIGHBOUR: 'it returns false'. Refute it at one input. -/
def fnExactBitUpWrong : ChangeSpec := { name := "fnExactBitUp", fn := fun _ => fun
  | [d1, d2] => { results := [.lit (.bool false)], args := [d1, d2] }
  | _ => none }
def FnExactBitUpWrongFalsely : Prop := fnExactBitUpRow.holds Try.pinned (OpenSpec.ofChange fnExactBitUpWrong)

/-- 'laws.FnExactBitDown': WHATEVER THE INPUT: true; the input reads as it did. -/
def fnExactBitDownSpec : ChangeSpec := { name := "fnExactBitDown", fn := fun _ => fun
  | [d1, d2] => { results := [.lit (.bool true)], args := [d1, d2] }
  | _ => none }
def fnExactBitDownRow : OpenClaim := { program := "yteohgmmenlinbad", sum := "0f757be3e6126ed5090567b8d4946feb292572082bc02569a554da855c027f9c", func := "loop.example/pinbits/laws.FnExactBitDown", spec := "fnExactBitDown", unfollowed := true, recurses := true, apart := false }
def FnExactBitDownSaid : Prop := fnExactBitDownRow.holds Try.pinned (OpenSpec.ofChange fnExactBitDownSpec)

/-- ITS FALSE NEIGHBOUR: 'it returns false'. Refute it at one input. -/
def fnExactBitDownWrong : ChangeSpec := { name := "fnExactBitDown", fn := fun _ => fun
  | [d1, d2] => { results := [.lit (.bool false)], args := [d1, d2] }
  | _ => none }
def FnExactBitDownWrongFalsely : Prop := fnExactBitDownRow.holds Try.pinned (OpenSpec.ofChange fnExactBitDownWrong)

/-- 'laws.FnExactBitPartOf': WHATEVER THE INPUT: true; the input reads as it did. -/
def fnExactBitPartOfSpec : ChangeSpec := { name := "fnExactBitPartOf", fn := fun _ => fun
  | [d1, d2] => { results := [.lit (.bool true)], args := [d1, d2] }
  | _ => none }
def fnExactBitPartOfRow : OpenClaim := { program := "yteohgmmenlinbad", sum := "0f757be3e6126ed5090567b8d4946feb292572082bc02569a554da855c027f9c", func := "loop.example/pinbits/laws.FnExactBitPartOf", spec := "fnExactBitPartOf", unfollowed := true, recurses := true, apart := false }
def FnExactBitPartOfSaid : Prop := fnExactBitPartOfRow.holds Try.pinned (OpenSpec.ofChange fnExactBitPartOfSpec)

/-- ITS FALSE NEIGHBOUR: 'it returns false'. Refute it at one input. -/
def fnExactBitPartOfWrong : ChangeSpec := { name := "fnExactBitPartOf", fn := fun _ => fun
  | [d1, d2] => { results := [.lit (.bool false)], args := [d1, d2] }
  | _ => none }
def FnExactBitPartOfWrongFalsely : Prop := fnExactBitPartOfRow.holds Try.pinned (OpenSpec.ofChange fnExactBitPartOfWrong)

/-- 'laws.FnExactBitGap': WHATEVER THE INPUT: true; the input reads as it did. -/
def fnExactBitGapSpec : ChangeSpec := { name := "fnExactBitGap", fn := fun _ => fun
  | [d1, d2] => { results := [.lit (.bool true)], args := [d1, d2] }
  | _ => none }
def fnExactBitGapRow : OpenClaim := { program := "yteohgmmenlinbad", sum := "0f757be3e6126ed5090567b8d4946feb292572082bc02569a554da855c027f9c", func := "loop.example/pinbits/laws.FnExactBitGap", spec := "fnExactBitGap", apart := false }
def FnExactBitGapSaid : Prop := fnExactBitGapRow.holds Try.pinned (OpenSpec.ofChange fnExactBitGapSpec)

/-- ITS FALSE NEIGHBOUR: 'it returns false'. Refute it at one input. -/
def fnExactBitGapWrong : ChangeSpec := { name := "fnExactBitGap", fn := fun _ => fun
  | [d1, d2] => { results := [.lit (.bool false)], args := [d1, d2] }
  | _ => none }
def FnExactBitGapWrongFalsely : Prop := fnExactBitGapRow.holds Try.pinned (OpenSpec.ofChange fnExactBitGapWrong)

/-- 'laws.FnExactBitMiddle': WHATEVER THE INPUT: true; the input reads as it did. -/
def fnExactBitMiddleSpec : ChangeSpec := { name := "fnExactBitMiddle", fn := fun _ => fun
  | [d1, d2] => { results := [.lit (.bool true)], args := [d1, d2] }
  | _ => none }
def fnExactBitMiddleRow : OpenClaim := { program := "yteohgmmenlinbad", sum := "0f757be3e6126ed5090567b8d4946feb292572082bc02569a554da855c027f9c", func := "loop.example/pinbits/laws.FnExactBitMiddle", spec := "fnExactBitMiddle", apart := false }
def FnExactBitMiddleSaid : Prop := fnExactBitMiddleRow.holds Try.pinned (OpenSpec.ofChange fnExactBitMiddleSpec)

/-- ITS FALSE NEIGHBOUR: 'it returns false'. Refute it at one input. -/
def fnExactBitMiddleWrong : ChangeSpec := { name := "fnExactBitMiddle", fn := fun _ => fun
  | [d1, d2] => { results := [.lit (.bool false)], args := [d1, d2] }
  | _ => none }
def FnExactBitMiddleWrongFalsely : Prop := fnExactBitMiddleRow.holds Try.pinned (OpenSpec.ofChange fnExactBitMiddleWrong)

/- THE SECOND FORM. 'bulk': how many values and letters a reading holds, each counted each time it is reached (what is shared counts as often as it is met; a slice's spare places count too). A statement '..UptoSaid' is the law's where the arguments, and the package variables that the reading takes, are together of bulk at most 1048576: NARROWER than '..Said'. Prove '..Said' where nothing that the law and all that it calls make is longer than what came in: it says more and counts as full. Else prove '..UptoSaid'. A law counts once. -/
mutual
def uptoBulk {H : Type} : DataW H → Nat
  | .lit (.string bytes) => bytes.length + 1
  | .lit _ => 1
  | .nil => 1
  | .ptr d => uptoBulk d + 1
  | .slice elems spare => uptoBulkAll elems + uptoBulkAll spare + 1
  | .agg parts => uptoBulkAll parts + 1
  | .iface _ d => uptoBulk d + 1
  | .map entries => uptoBulkEntries entries + 1
  | .held _ => 1
def uptoBulkAll {H : Type} : List (DataW H) → Nat
  | [] => 0
  | d :: r => uptoBulk d + uptoBulkAll r
def uptoBulkEntries {H : Type} : List (Lit × DataW H) → Nat
  | [] => 0
  | x :: r => uptoBulkEntry x + uptoBulkEntries r
def uptoBulkEntry {H : Type} : Lit × DataW H → Nat
  | (.string bytes, d) => bytes.length + uptoBulk d + 1
  | (_, d) => uptoBulk d + 1
 end
def uptoSmall : (H : Type) → List (DataW H) → Bool := fun _ ds => decide (uptoBulkAll ds ≤ 1048576)
def OpenSpec.upto (s : _root_.Go.ChangeSpec) : _root_.Go.OpenSpec := { _root_.Go.OpenSpec.ofChange s with cond := some uptoSmall }

/-- 'laws.FnExactBitUp', WHERE WHAT IT READS IS OF BULK AT MOST 1048576: true; the input reads as it did. -/
def fnExactBitUpUptoRow : OpenClaim := { program := "yteohgmmenlinbad", sum := "0f757be3e6126ed5090567b8d4946feb292572082bc02569a554da855c027f9c", func := "loop.example/pinbits/laws.FnExactBitUp", spec := "fnExactBitUp", unfollowed := true, recurses := true, apart := false, narrowed := true }
def FnExactBitUpUptoSaid : Prop := fnExactBitUpUptoRow.holds Try.pinned (OpenSpec.upto fnExactBitUpSpec)

/-- 'laws.FnExactBitDown', WHERE WHAT IT READS IS OF BULK AT MOST 1048576: true; the input reads as it did. -/
def fnExactBitDownUptoRow : OpenClaim := { program := "yteohgmmenlinbad", sum := "0f757be3e6126ed5090567b8d4946feb292572082bc02569a554da855c027f9c", func := "loop.example/pinbits/laws.FnExactBitDown", spec := "fnExactBitDown", unfollowed := true, recurses := true, apart := false, narrowed := true }
def FnExactBitDownUptoSaid : Prop := fnExactBitDownUptoRow.holds Try.pinned (OpenSpec.upto fnExactBitDownSpec)

/-- 'laws.FnExactBitPartOf', WHERE WHAT IT READS IS OF BULK AT MOST 1048576: true; the input reads as it did. -/
def fnExactBitPartOfUptoRow : OpenClaim := { program := "yteohgmmenlinbad", sum := "0f757be3e6126ed5090567b8d4946feb292572082bc02569a554da855c027f9c", func := "loop.example/pinbits/laws.FnExactBitPartOf", spec := "fnExactBitPartOf", unfollowed := true, recurses := true, apart := false, narrowed := true }
def FnExactBitPartOfUptoSaid : Prop := fnExactBitPartOfUptoRow.holds Try.pinned (OpenSpec.upto fnExactBitPartOfSpec)

/-- 'laws.FnExactBitGap', WHERE WHAT IT READS IS OF BULK AT MOST 1048576: true; the input reads as it did. -/
def fnExactBitGapUptoRow : OpenClaim := { program := "yteohgmmenlinbad", sum := "0f757be3e6126ed5090567b8d4946feb292572082bc02569a554da855c027f9c", func := "loop.example/pinbits/laws.FnExactBitGap", spec := "fnExactBitGap", apart := false, narrowed := true }
def FnExactBitGapUptoSaid : Prop := fnExactBitGapUptoRow.holds Try.pinned (OpenSpec.upto fnExactBitGapSpec)

/-- 'laws.FnExactBitMiddle', WHERE WHAT IT READS IS OF BULK AT MOST 1048576: true; the input reads as it did. -/
def fnExactBitMiddleUptoRow : OpenClaim := { program := "yteohgmmenlinbad", sum := "0f757be3e6126ed5090567b8d4946feb292572082bc02569a554da855c027f9c", func := "loop.example/pinbits/laws.FnExactBitMiddle", spec := "fnExactBitMiddle", apart := false, narrowed := true }
def FnExactBitMiddleUptoSaid : Prop := fnExactBitMiddleUptoRow.holds Try.pinned (OpenSpec.upto fnExactBitMiddleSpec)

end Rows
end Go.Proofs.Yteohgmmenlinbad
