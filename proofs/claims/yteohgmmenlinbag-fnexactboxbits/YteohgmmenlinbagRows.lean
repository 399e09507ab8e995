/-
  No cell of these rows narrows 'for every input' (looked for: loops, veiled, ifaces, maps, wideKeys, modest, calm, conditions, laid).
  DERIVED. THE GIVEN ROWS OF THIS SEAT. 5 by the template 'for every input the law returns true; each argument reads behind the call as it read before'; 0 by the template 'total and deterministic' (their statements: YteohgmmenlinbagTotals.lean).
  GIVEN WITH THE SEED: the statements are not yours to turn. If you find one false, say at which input.
  Laid BY PROGRAM, IN A SANDBOX (cutbox-rows.mjs): the forced cells as the released guide's own fill.sh prints them over the translation 4ee19186bf6b1dd4… (all of the seat's roots in one cut). By AI agents, Wed Nov 11 2026. No macro, syntax, notation, axiom, sorry.
-/
import Derived.Test.YteohgmmenlinbagChecked
import GoSem.Claim
import GoSem.ClaimJoined
import GoSem.ClaimMapViews
import Derived.JoinedTies
import Derived.KernelRfl
namespace Go.Proofs.Yteohgmmenlinbag
/- THE CELL 'sum', in the pinned program and in every row, IS THE sha256 OF THE DUMP (.gsa) THAT YteohgmmenlinbagProg.lean LOADS. Nothing in Lean hashes anything: it is a label: what it is worth is what the hold of that sum in a sandbox is worth. -/
noncomputable def Try.pinned : Pinned := { name := "yteohgmmenlinbag", sum := "4ee19186bf6b1dd46da27b987741406aa2c7fab5323b73c89e2111136bfb6363", checked := Try.checked }
namespace Rows
def none {H : Type} : Left H := { results := [], args := [] }

/-- 'laws.FnExactBoxBits': WHATEVER THE INPUT: true; the input reads as it did. -/
def fnExactBoxBitsSpec : ChangeSpec := { name := "fnExactBoxBits", fn := fun _ => fun
  | [d1, d2] => { results := [.lit (.bool true)], args := [d1, d2] }
  | _ => none }
def fnExactBoxBitsRow : OpenClaim := { program := "yteohgmmenlinbag", sum := "4ee19186bf6b1dd46da27b987741406aa2c7fab5323b73c89e2111136bfb6363", func := "loop.example/pinbits/laws.FnExactBoxBits", spec := "fnExactBoxBits", unfollowed := true, recurses := true, apart := false }
def FnExactBoxBitsSaid : Prop := fnExactBoxBitsRow.holds Try.pinned (OpenSpec.ofChange fnExactBoxBitsSpec)

/-- ITS FALSE NEIGHBOUR: 'it returns false'. Refute it at one input. -/
def fnExactBoxBitsWrong : ChangeSpec := { name := "fnExactBoxBits", fn := fun _ => fun
  | [d1, d2] => { results := [.lit (.bool false)], args := [d1, d2] }
  | _ => none }
def FnExactBoxBitsWrongFalsely : Prop := fnExactBoxBitsRow.holds Try.pinned (OpenSpec.ofChange fnExactBoxBitsWrong)

/-- 'laws.FnExactBoxIs': WHATEVER THE INPUT: true; the input reads as it did. -/
def fnExactBoxIsSpec : ChangeSpec := { name := "fnExactBoxIs", fn := fun _ => fun
  | [d1, d2] => { results := [.lit (.bool true)], args := [d1, d2] }
  | _ => none }
def fnExactBoxIsRow : OpenClaim := { program := "yteohgmmenlinbag", sum := "4ee19186bf6b1dd46da27b987741406aa2c7fab5323b73c89e2111136bfb6363", func := "loop.example/pinbits/laws.FnExactBoxIs", spec := "fnExactBoxIs", unfollowed := true, recurses := true, apart := false }
def FnExactBoxIsSaid : Prop := fnExactBoxIsRow.holds Try.pinned (OpenSpec.ofChange fnExactBoxIsSpec)

/-- ITS FALSE NEIGHBOUR: 'it returns false'. Refute it at one input. -/
def fnExactBoxIsWrong : ChangeSpec := { name := "fnExactBoxIs", fn := fun _ => fun
  | [d1, d2] => { results := [.lit (.bool false)], args := [d1, d2] }
  | _ => none }
def FnExactBoxIsWrongFalsely : Prop := fnExactBoxIsRow.holds Try.pinned (OpenSpec.ofChange fnExactBoxIsWrong)

/-- 'laws.FnExactBoxMeet': WHATEVER THE INPUT: true; the input reads as it did. -/
def fnExactBoxMeetSpec : ChangeSpec := { name := "fnExactBoxMeet", fn := fun _ => fun
  | [d1, d2, d3] => { results := [.lit (.bool true)], args := [d1, d2, d3] }
  | _ => none }
def fnExactBoxMeetRow : OpenClaim := { program := "yteohgmmenlinbag", sum := "4ee19186bf6b1dd46da27b987741406aa2c7fab5323b73c89e2111136bfb6363", func := "loop.example/pinbits/laws.FnExactBoxMeet", spec := "fnExactBoxMeet", unfollowed := true, recurses := true, apart := false }
def FnExactBoxMeetSaid : Prop := fnExactBoxMeetRow.holds Try.pinned (OpenSpec.ofChange fnExactBoxMeetSpec)

/-- ITS FALSE NEIGHBOUR: 'it returns false'. Refute it at one input. -/
def fnExactBoxMeetWrong : ChangeSpec := { name := "fnExactBoxMeet", fn := fun _ => fun
  | [d1, d2, d3] => { results := [.lit (.bool false)], args := [d1, d2, d3] }
  | _ => none }
def FnExactBoxMeetWrongFalsely : Prop := fnExactBoxMeetRow.holds Try.pinned (OpenSpec.ofChange fnExactBoxMeetWrong)

/-- 'laws.FnExactBoxFine': WHATEVER THE INPUT: true; the input reads as it did. -/
def fnExactBoxFineSpec : ChangeSpec := { name := "fnExactBoxFine", fn := fun _ => fun
  | [d1, d2, d3] => { results := [.lit (.bool true)], args := [d1, d2, d3] }
  | _ => none }
def fnExactBoxFineRow : OpenClaim := { program := "yteohgmmenlinbag", sum := "4ee19186bf6b1dd46da27b987741406aa2c7fab5323b73c89e2111136bfb6363", func := "loop.example/pinbits/laws.FnExactBoxFine", spec := "fnExactBoxFine", unfollowed := true, recurses := true, apart := false }
def FnExactBoxFineSaid : Prop := fnExactBoxFineRow.holds Try.pinned (OpenSpec.ofChange fnExactBoxFineSpec)

/-- ITS FALSE NEIGHBOUR: 'it returns false'. Refute it at one input. -/
def fnExactBoxFineWrong : ChangeSpec := { name := "fnExactBoxFine", fn := fun _ => fun
  | [d1, d2, d3] => { results := [.lit (.bool false)], args := [d1, d2, d3] }
  | _ => none }
def FnExactBoxFineWrongFalsely : Prop := fnExactBoxFineRow.holds Try.pinned (OpenSpec.ofChange fnExactBoxFineWrong)

/-- 'laws.FnExactBoxWidest': WHATEVER THE INPUT: true; the input reads as it did. -/
def fnExactBoxWidestSpec : ChangeSpec := { name := "fnExactBoxWidest", fn := fun _ => fun
  | [d1, d2] => { results := [.lit (.bool true)], args := [d1, d2] }
  | _ => none }
def fnExactBoxWidestRow : OpenClaim := { program := "yteohgmmenlinbag", sum := "4ee19186bf6b1dd46da27b987741406aa2c7fab5323b73c89e2111136bfb6363", func := "loop.example/pinbits/laws.FnExactBoxWidest", spec := "fnExactBoxWidest", unfollowed := true, recurses := true, apart := false }
def FnExactBoxWidestSaid : Prop := fnExactBoxWidestRow.holds Try.pinned (OpenSpec.ofChange fnExactBoxWidestSpec)

/-- ITS FALSE NEIGHBOUR: 'it returns false'. Refute it at one input. -/
def fnExactBoxWidestWrong : ChangeSpec := { name := "fnExactBoxWidest", fn := fun _ => fun
  | [d1, d2] => { results := [.lit (.bool false)], args := [d1, d2] }
  | _ => none }
def FnExactBoxWidestWrongFalsely : Prop := fnExactBoxWidestRow.holds Try.pinned (OpenSpec.ofChange fnExactBoxWidestWrong)

/- THE SECOND FORM. 'bulk': how many values and letters a reading holds, each counted each time it is reached (what is shared counts as often as it is met; a slice's spare places count too). A statement '..UptoSaid' is the law's where the arguments, and the package variables that the reading takes, are together of bulk at most 1048576: NARROWER than '..Said'. Prove '..Said' where nothing that the law and all that it calls make is longer than what came in: it says more and counts as full. Else prove '..UptoSaid'. A law counts once. -/
mutual
def uptoBulk {H : Type} : DataW H → Nat
  | .lit (.string bytes) => bytes.length + 1
  | .lit _ => 1
  | .nil => 1
  | .ptr d => uptoBulk d + 1
  | .slice elems spare => uptoBulkAll elems + uptoBulkAll spare + 1
  | .agg parts => uptoBulkAll parts + 1
  | .iface _ d => uptoBulk d + 1
  | .map entries => uptoBulkEntries entries + 1
  | .held _ => 1
def uptoBulkAll {H : Type} : List (DataW H) → Nat
  | [] => 0
  | d :: r => uptoBulk d + uptoBulkAll r
def uptoBulkEntries {H : Type} : List (Lit × DataW H) → Nat
  | [] => 0
  | x :: r => uptoBulkEntry x + uptoBulkEntries r
def uptoBulkEntry {H : Type} : Lit × DataW H → Nat
  | (.string bytes, d) => bytes.length + uptoBulk d + 1
  | (_, d) => uptoBulk d + 1
 end
def uptoSmall : (H : Type) → List (DataW H) → Bool := fun _ ds => decide (uptoBulkAll ds ≤ 1048576)
def OpenSpec.upto (s : _root_.Go.ChangeSpec) : _root_.Go.OpenSpec := { _root_.Go.OpenSpec.ofChange s with cond := some uptoSmall }

/-- 'laws.FnExactBoxBits', WHERE WHAT IT READS IS OF BULK AT MOST 1048576: true; the input reads as it did. -/
def fnExactBoxBitsUptoRow : OpenClaim := { program := "yteohgmmenlinbag", sum := "4ee19186bf6b1dd46da27b987741406aa2c7fab5323b73c89e2111136bfb6363", func := "loop.example/pinbits/laws.FnExactBoxBits", spec := "fnExactBoxBits", unfollowed := true, recurses := true, apart := false, narrowed := true }
def FnExactBoxBitsUptoSaid : Prop := fnExactBoxBitsUptoRow.holds Try.pinned (OpenSpec.upto fnExactBoxBitsSpec)

/-- 'laws.FnExactBoxIs', WHERE WHAT IT READS IS OF BULK AT MOST 1048576: true; the input reads as it did. -/
def fnExactBoxIsUptoRow : OpenClaim := { program := "yteohgmmenlinbag", sum := "4ee19186bf6b1dd46da27b987741406aa2c7fab5323b73c89e2111136bfb6363", func := "loop.example/pinbits/laws.FnExactBoxIs", spec := "fnExactBoxIs", unfollowed := true, recurses := true, apart := false, narrowed := true }
def FnExactBoxIsUptoSaid : Prop := fnExactBoxIsUptoRow.holds Try.pinned (OpenSpec.upto fnExactBoxIsSpec)

/-- 'laws.FnExactBoxMeet', WHERE WHAT IT READS IS OF BULK AT MOST 1048576: true; the input reads as it did. -/
def fnExactBoxMeetUptoRow : OpenClaim := { program := "yteohgmmenlinbag", sum := "4ee19186bf6b1dd46da27b987741406aa2c7fab5323b73c89e2111136bfb6363", func := "loop.example/pinbits/laws.FnExactBoxMeet", spec := "fnExactBoxMeet", unfollowed := true, recurses := true, apart := false, narrowed := true }
def FnExactBoxMeetUptoSaid : Prop := fnExactBoxMeetUptoRow.holds Try.pinned (OpenSpec.upto fnExactBoxMeetSpec)

/-- 'laws.FnExactBoxFine', WHERE WHAT IT READS IS OF BULK AT MOST 1048576: true; the input reads as it did. -/
def fnExactBoxFineUptoRow : OpenClaim := { program := "yteohgmmenlinbag", sum := "4ee19186bf6b1dd46da27b987741406aa2c7fab5323b73c89e2111136bfb6363", func := "loop.example/pinbits/laws.FnExactBoxFine", spec := "fnExactBoxFine", unfollowed := true, recurses := true, apart := false, narrowed := true }
def FnExactBoxFineUptoSaid : Prop := fnExactBoxFineUptoRow.holds Try.pinned (OpenSpec.upto fnExactBoxFineSpec)

/-- 'laws.FnExactBoxWidest', WHERE WHAT IT READS IS OF BULK AT MOST 1048576: true; the input reads as it did. -/
def fnExactBoxWidestUptoRow : OpenClaim := { program := "yteohgmmenlinbag", sum := "4ee19186bf6b1dd46da27b987741406aa2c7fab5323b73c89e2111136bfb6363", func := "loop.example/pinbits/laws.FnExactBoxWidest", spec := "fnExactBoxWidest", unfollowed := true, recurses := true, apart := false, narrowed := true }
def FnExactBoxWidestUptoSaid : Prop := fnExactBoxWidestUptoRow.holds Try.pinned (OpenSpec.upto fnExactBoxWidestSpec)

end Rows
end Go.Proofs.Yteohgmmenlinbag
