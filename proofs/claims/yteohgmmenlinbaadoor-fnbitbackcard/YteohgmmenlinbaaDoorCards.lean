/-
  DERIVED. GIVEN WITH THE SEED: THE CARDS: each row of YteohgmmenlinbaaDoorRows.lean that lists a variable, with what it lists TIED to the program's text (the seventh form; the later family's looks); each row that meets fmt, with fmt's text TOLD by the authors' own Lean function (tested against real Go, not proved from fmt's source: count such statements apart). THE CARD IS WHAT COUNTS. Prove the row's statement (the work); the ties are given (YteohgmmenlinbaaDoorTie.lean); close each card by the builder's one call (the guide's Derived/Test/ToyasCard.lean, 'card_holds'). Laid BY PROGRAM, IN A SANDBOX (cutbox-door.mjs). By AI agents, Wed Nov 11 2026. No macro, syntax, notation, axiom, sorry.
-/
import Derived.Test.YteohgmmenlinbaaDoorRows
import GoSem.ClaimSeven
namespace Go.Proofs.YteohgmmenlinbaaDoor
namespace Rows

/-- THE TIED CARD OF 'laws.FnBitBack'. -/
def fnBitBackCard : Claim7 := { stood := { row := fnBitBackRow, standIns := [], harness := (true, "edaa36ed49b8d12bcf87d0d9ad731293c5bedfc0bb3a1e7f37b5ac927d4c7f57"), looks := false }, kinds := [], alts := [], laidByText := true, laidKinds := [.data], laidTests := true, laidLooks := .later }
def FnBitBackCardSaid : Prop := Claim7.holds Tryd.pinned (.plain (OpenSpec.ofChange fnBitBackSpec)) fnBitBackCard

/-- THE SECOND FORM's CARD OF 'laws.FnBitBack'. -/
def fnBitBackUptoCard : Claim7 := { stood := { row := fnBitBackUptoRow, standIns := [], harness := (true, "edaa36ed49b8d12bcf87d0d9ad731293c5bedfc0bb3a1e7f37b5ac927d4c7f57"), looks := false }, kinds := [], alts := [], laidByText := true, laidKinds := [.data], laidTests := true, laidLooks := .later }
def FnBitBackUptoCardSaid : Prop := Claim7.holds Tryd.pinned (.plain (OpenSpec.upto fnBitBackSpec)) fnBitBackUptoCard
end Rows
end Go.Proofs.YteohgmmenlinbaaDoor
