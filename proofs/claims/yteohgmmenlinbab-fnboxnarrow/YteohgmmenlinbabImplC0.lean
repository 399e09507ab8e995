/- The library's conversions between floats and their patterns, as the model runs them. -/
import Derived.Test.YteohgmmenlinbabImplB
namespace Go.Proofs.Yteohgmmenlinbab
theorem from32 (n : Int) (w : World) : Sem.run Try.prog (callFunc 108 #[.int .u32 n]) w = .ok (.value (.float .f32 n.toNat)) w := by kernel_rfl
theorem bits64 (n : Nat) (w : World) : Sem.run Try.prog (callFunc 111 #[.float .f64 n]) w = .ok (.value (.int .u64 n)) w := by kernel_rfl
end Go.Proofs.Yteohgmmenlinbab
