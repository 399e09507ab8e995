/- bits.TrailingZeros64 of a number above 0 counts the zeros at its end, where its table lies in the program's first variable. -/
import Derived.Test.YteohgmmenlinbaaDoorChecked
import Derived.Test.YteohgmmenlinbaaDoorTzLay
import Derived.Shelf.Spec.TrailingZeros
namespace Go.Proofs.YteohgmmenlinbaaDoor
open Go.RowKit
set_option linter.unusedVariables false

theorem tz64 (w : World) (x : Nat) (h0 : 0 < x) (hx : x < 18446744073709551616) (hT : TabAt 0 Lib.deBruijn64tab w) :
    Calls Tryd.prog 32 #[.int .u64 x] w fun e w' => e = .returned (.int .i64 (Lib.ctz 64 x)) ∧ w' = w :=
  Any7.bits_TrailingZeros64 Tryd.lays29 x hx w (fun _ => hT)

end Go.Proofs.YteohgmmenlinbaaDoor
