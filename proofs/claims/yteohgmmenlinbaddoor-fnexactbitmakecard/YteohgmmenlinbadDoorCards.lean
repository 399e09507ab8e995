/-
  DERIVED. GIVEN WITH THE SEED: THE CARDS: each row of YteohgmmenlinbadDoorRows.lean that lists a variable, with what it lists TIED to the program's text (the seventh form; the later family's looks); each row that meets fmt, with fmt's text TOLD by the authors' own Lean function (tested against real Go, not proved from fmt's source: count such statements apart). THE CARD IS WHAT COUNTS. Prove the row's statement (the work); the ties are given (YteohgmmenlinbadDoorTie.lean); close each card by the builder's one call (the guide's Derived/Test/ToyasCard.lean, 'card_holds'). Laid BY PROGRAM, IN A SANDBOX (cutbox-door.mjs). By AI agents, Wed Nov 11 2026. No macro, syntax, notation, axiom, sorry.
-/
import Derived.Test.YteohgmmenlinbadDoorRows
import GoSem.ClaimSeven
namespace Go.Proofs.YteohgmmenlinbadDoor
namespace Rows

/-- THE TIED CARD OF 'laws.FnExactBitMake'. -/
def fnExactBitMakeCard : Claim7 := { stood := { row := fnExactBitMakeRow, standIns := [], harness := (true, "d64a30c7c44ef0a7c034d2df7255f103ed84f85eb8c710e0b1306dc7037dcd0c"), looks := false }, kinds := [], alts := [], laidByText := true, laidKinds := [.data], laidTests := true, laidLooks := .later }
def FnExactBitMakeCardSaid : Prop := Claim7.holds Tryd.pinned (.plain (OpenSpec.ofChange fnExactBitMakeSpec)) fnExactBitMakeCard

/-- THE SECOND FORM's CARD OF 'laws.FnExactBitMake'. -/
def fnExactBitMakeUptoCard : Claim7 := { stood := { row := fnExactBitMakeUptoRow, standIns := [], harness := (true, "d64a30c7c44ef0a7c034d2df7255f103ed84f85eb8c710e0b1306dc7037dcd0c"), looks := false }, kinds := [], alts := [], laidByText := true, laidKinds := [.data], laidTests := true, laidLooks := .later }
def FnExactBitMakeUptoCardSaid : Prop := Claim7.holds Tryd.pinned (.plain (OpenSpec.upto fnExactBitMakeSpec)) fnExactBitMakeUptoCard
end Rows
end Go.Proofs.YteohgmmenlinbadDoor
