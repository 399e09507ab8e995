/- The contracts of the reader's 'big' and 'ord', and of 'BitTop' of the model. -/
import Derived.Test.YteohgmmenlinbaaDoorDrawB
import Derived.Test.YteohgmmenlinbaaDoorTop
import Derived.Deep.LoopGhost
import Derived.WalkSpells
namespace Go.Proofs.YteohgmmenlinbaaDoor
open Go.ChangeShapes Go.WideShapes Go.ChangeAt Go.RowKit
set_option linter.unusedVariables false

theorem big (w : World) (b : Nat) (lim : Int) (h : Rd w b lim) (hl : lim ≤ 999990) :
    Calls Tryd.prog 17 #[.pointer (some ⟨b, 0, none⟩)] w fun e w' => ∃ r, e = .returned (.int .u64 r) ∧ 0 ≤ r ∧ r ≤ 18446744073709551615 ∧ Rd w' b (lim + 8) ∧ Keep b w w' := by
  go_enter Tryd.func17, Tryd.ntmps17
  go_wp2
  go_loopg [3, 4] 8 (fun g sn si wr => ∃ (i : Nat) (n : Int), i + g = 8 ∧ sn = .int .u64 n ∧ si = .int .i64 i ∧ 0 ≤ n ∧ n ≤ 18446744073709551615 ∧ Rd wr b (lim + i) ∧ Keep b w wr)
  case atStart => exact ⟨0, 0, rfl, rfl, rfl, by omega, by omega, by simpa using h, Keep.refl b w⟩
  case round =>
    obtain ⟨i, n, hi, rfl, rfl, n0, n1, hr, hk⟩ := hrel
    have hp := fun hl' => pick wr b (lim + i) 256 hr hl'
    have hk' : Hid (Rd wr b (lim + i) ∧ Keep b w wr) := ⟨hr, hk⟩
    clear hr hk h
    go_wp2_with (go_at_call 16; go_must (refine (hp (by omega)).mono ?_); rintro e w1 ⟨r, rfl, r0, r1, -, hr1, hk1⟩)
    · go_roundg (8 - (i + 1))
      case measure => omega
      case rel =>
        refine ⟨i + 1, _, by omega, rfl, by go_num, ?_, ?_, ?_, hk'.out.2.trans hk1⟩
        · rw [IntKind.wrap_u64]; omega
        · rw [IntKind.wrap_u64]; omega
        · have e : lim + (i : Int) + 1 = lim + ((i + 1 : Nat) : Int) := by omega
          rw [e] at hr1; exact hr1
    · go_ret
      exact ⟨n, rfl, n0, n1, hk'.out.1.mono (by omega), hk'.out.2⟩

end Go.Proofs.YteohgmmenlinbaaDoor
