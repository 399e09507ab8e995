/- The program's small functions of chapter 1: contracts. -/
import Derived.Test.YteohgmmenlinbadDoorSpecA
namespace Go.Proofs.YteohgmmenlinbadDoor
open Go.ChangeShapes Go.WideShapes Go.ChangeAt Go.RowKit
set_option linter.unusedVariables false

theorem meth_ne (w : World) : Sem.run Tryd.prog (method 162 40 (.agg #[]) "loop.example/pinbits/impl.exponentBits") w = .ok (33, .agg #[]) w := by kernel_rfl
theorem meth_nf (w : World) : Sem.run Tryd.prog (method 162 40 (.agg #[]) "loop.example/pinbits/impl.fractionBits") w = .ok (34, .agg #[]) w := by kernel_rfl
theorem meth_we (w : World) : Sem.run Tryd.prog (method 162 41 (.agg #[]) "loop.example/pinbits/impl.exponentBits") w = .ok (36, .agg #[]) w := by kernel_rfl
theorem meth_wf (w : World) : Sem.run Tryd.prog (method 162 41 (.agg #[]) "loop.example/pinbits/impl.fractionBits") w = .ok (37, .agg #[]) w := by kernel_rfl

theorem format32 (w : World) : Calls Tryd.prog 11 #[.int .i64 32] w fun e w' => e = .returned (.tuple #[.iface 40 (.agg #[]), .bool true]) ∧ w = w' := by
  go_enter Tryd.func11, Tryd.ntmps11
  go_wp2
  go_ret2
  exact ⟨rfl, rfl⟩

theorem format64 (w : World) : Calls Tryd.prog 11 #[.int .i64 64] w fun e w' => e = .returned (.tuple #[.iface 41 (.agg #[]), .bool true]) ∧ w = w' := by
  go_enter Tryd.func11, Tryd.ntmps11
  go_wp2
  go_ret2
  exact ⟨rfl, rfl⟩

theorem formatNo (w : World) (n : Int) (h1 : n ≠ 32) (h2 : n ≠ 64) : Calls Tryd.prog 11 #[.int .i64 n] w fun e w' => e = .returned (.tuple #[.nilIface, .bool false]) ∧ w = w' := by
  have e1 : (n == 32) = false := by simp; exact h1
  have e2 : (n == 64) = false := by simp; exact h2
  go_enter Tryd.func11, Tryd.ntmps11
  go_wp2
  go_ret2
  exact ⟨rfl, rfl⟩

theorem okI_no {n x : Int} (h1 : n ≠ 32) (h2 : n ≠ 64) : okI n x = false := by
  unfold okI
  simp [h1, h2]

end Go.Proofs.YteohgmmenlinbadDoor
