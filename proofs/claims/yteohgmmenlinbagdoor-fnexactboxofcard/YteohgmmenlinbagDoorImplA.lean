/- The program's small functions of chapter 1: contracts. -/
import Derived.Test.YteohgmmenlinbagDoorSpecA
namespace Go.Proofs.YteohgmmenlinbagDoor
open Go.ChangeShapes Go.WideShapes Go.ChangeAt Go.RowKit
set_option linter.unusedVariables false

theorem meth_ne (w : World) : Sem.run Tryd.prog (method 239 65 (.agg #[]) "loop.example/pinbits/impl.exponentBits") w = .ok (69, .agg #[]) w := by kernel_rfl
theorem meth_nf (w : World) : Sem.run Tryd.prog (method 239 65 (.agg #[]) "loop.example/pinbits/impl.fractionBits") w = .ok (70, .agg #[]) w := by kernel_rfl
theorem meth_we (w : World) : Sem.run Tryd.prog (method 239 66 (.agg #[]) "loop.example/pinbits/impl.exponentBits") w = .ok (72, .agg #[]) w := by kernel_rfl
theorem meth_wf (w : World) : Sem.run Tryd.prog (method 239 66 (.agg #[]) "loop.example/pinbits/impl.fractionBits") w = .ok (73, .agg #[]) w := by kernel_rfl

theorem format32 (w : World) : Calls Tryd.prog 22 #[.int .i64 32] w fun e w' => e = .returned (.tuple #[.iface 65 (.agg #[]), .bool true]) ∧ w = w' := by
  go_enter Tryd.func22, Tryd.ntmps22
  go_wp2
  go_ret2
  exact ⟨rfl, rfl⟩

theorem format64 (w : World) : Calls Tryd.prog 22 #[.int .i64 64] w fun e w' => e = .returned (.tuple #[.iface 66 (.agg #[]), .bool true]) ∧ w = w' := by
  go_enter Tryd.func22, Tryd.ntmps22
  go_wp2
  go_ret2
  exact ⟨rfl, rfl⟩

theorem formatNo (w : World) (n : Int) (h1 : n ≠ 32) (h2 : n ≠ 64) : Calls Tryd.prog 22 #[.int .i64 n] w fun e w' => e = .returned (.tuple #[.nilIface, .bool false]) ∧ w = w' := by
  have e1 : (n == 32) = false := by simp; exact h1
  have e2 : (n == 64) = false := by simp; exact h2
  go_enter Tryd.func22, Tryd.ntmps22
  go_wp2
  go_ret2
  exact ⟨rfl, rfl⟩

theorem topOf32 (w : World) : Calls Tryd.prog 31 #[.iface 65 (.agg #[])] w fun e w' => e = .returned (.int .i64 2139095040) ∧ Below w.heap.size w w' := by
  have m1 := meth_ne
  have m2 := meth_nf
  go_enter Tryd.func31, Tryd.ntmps31
  go_wp2
  go_ret
  exact ⟨rfl, ((Below.refl _ _).alloc (Nat.le_refl _) _).alloc (by simp) _⟩

theorem topOf64 (w : World) : Calls Tryd.prog 31 #[.iface 66 (.agg #[])] w fun e w' => e = .returned (.int .i64 9218868437227405312) ∧ Below w.heap.size w w' := by
  have m1 := meth_we
  have m2 := meth_wf
  go_enter Tryd.func31, Tryd.ntmps31
  go_wp2
  go_ret
  exact ⟨rfl, ((Below.refl _ _).alloc (Nat.le_refl _) _).alloc (by simp) _⟩

theorem hasOrd32 (w : World) (x : Int) :
    Calls Tryd.prog 47 #[.iface 65 (.agg #[]), .int .i64 x] w fun e w' => e = .returned (.bool (okI 32 x)) ∧ Below w.heap.size w w' := by
  have ht := topOf32
  by_cases h2 : -2139095040 ≤ x
  · by_cases h3 : x ≤ 2139095040
    · rw [(okI_32 x).2 ⟨h2, h3⟩]
      go_enter Tryd.func47, Tryd.ntmps47
      go_wp2_with (go_at_call 31; go_must (refine (ht _).mono ?_); rintro e w1 ⟨rfl, hb⟩)
      go_ret
      rename_i hb1
      exact ⟨rfl, hb1.trans (hb.mono hb1.size)⟩
    · rw [show okI 32 x = false by rw [Bool.eq_false_iff, Ne, okI_32]; omega]
      have d3 : decide (x ≤ 2139095040) = false := by simp; omega
      go_enter Tryd.func47, Tryd.ntmps47
      go_wp2_with (go_at_call 31; go_must (refine (ht _).mono ?_); rintro e w1 ⟨rfl, hb⟩)
      go_ret
      rename_i hb1
      exact ⟨rfl, hb1.trans (hb.mono hb1.size)⟩
  · rw [show okI 32 x = false by rw [Bool.eq_false_iff, Ne, okI_32]; omega]
    have d3 : decide (-2139095040 ≤ x) = false := by simp; omega
    go_enter Tryd.func47, Tryd.ntmps47
    go_wp2_with (go_at_call 31; go_must (refine (ht _).mono ?_); rintro e w1 ⟨rfl, hb⟩)
    go_ret
    exact ⟨rfl, hb⟩

theorem hasOrd64 (w : World) (x : Int) :
    Calls Tryd.prog 47 #[.iface 66 (.agg #[]), .int .i64 x] w fun e w' => e = .returned (.bool (okI 64 x)) ∧ Below w.heap.size w w' := by
  have ht := topOf64
  by_cases h2 : -9218868437227405312 ≤ x
  · by_cases h3 : x ≤ 9218868437227405312
    · rw [(okI_64 x).2 ⟨h2, h3⟩]
      go_enter Tryd.func47, Tryd.ntmps47
      go_wp2_with (go_at_call 31; go_must (refine (ht _).mono ?_); rintro e w1 ⟨rfl, hb⟩)
      go_ret
      rename_i hb1
      exact ⟨rfl, hb1.trans (hb.mono hb1.size)⟩
    · rw [show okI 64 x = false by rw [Bool.eq_false_iff, Ne, okI_64]; omega]
      have d3 : decide (x ≤ 9218868437227405312) = false := by simp; omega
      go_enter Tryd.func47, Tryd.ntmps47
      go_wp2_with (go_at_call 31; go_must (refine (ht _).mono ?_); rintro e w1 ⟨rfl, hb⟩)
      go_ret
      rename_i hb1
      exact ⟨rfl, hb1.trans (hb.mono hb1.size)⟩
  · rw [show okI 64 x = false by rw [Bool.eq_false_iff, Ne, okI_64]; omega]
    have d3 : decide (-9218868437227405312 ≤ x) = false := by simp; omega
    go_enter Tryd.func47, Tryd.ntmps47
    go_wp2_with (go_at_call 31; go_must (refine (ht _).mono ?_); rintro e w1 ⟨rfl, hb⟩)
    go_ret
    exact ⟨rfl, hb⟩

theorem implOk32 (w : World) (x : Int) (hx : (Lit.int .i64 x).wf = true) :
    Calls Tryd.prog 41 #[.int .i64 32, .int .i64 x] w fun e w' => e = .returned (.bool (okI 32 x)) ∧ Below w.heap.size w w' := by
  have hf := format32 w
  have ht := hasOrd32 w x
  generalize okI 32 x = k at *
  go_enter Tryd.func41, Tryd.ntmps41
  go_wp2_with first | (go_at_call 22; go_must (refine hf.mono ?_); clear hf; rintro e w1 ⟨rfl, rfl⟩) | (go_at_call 47; go_must (refine ht.mono ?_); clear ht; rintro e w1 ⟨rfl, hb⟩)
  go_ret
  exact ⟨rfl, hb⟩

theorem implOk64 (w : World) (x : Int) (hx : (Lit.int .i64 x).wf = true) :
    Calls Tryd.prog 41 #[.int .i64 64, .int .i64 x] w fun e w' => e = .returned (.bool (okI 64 x)) ∧ Below w.heap.size w w' := by
  have hf := format64 w
  have ht := hasOrd64 w x
  generalize okI 64 x = k at *
  go_enter Tryd.func41, Tryd.ntmps41
  go_wp2_with first | (go_at_call 22; go_must (refine hf.mono ?_); clear hf; rintro e w1 ⟨rfl, rfl⟩) | (go_at_call 47; go_must (refine ht.mono ?_); clear ht; rintro e w1 ⟨rfl, hb⟩)
  go_ret
  exact ⟨rfl, hb⟩

theorem okI_no {n x : Int} (h1 : n ≠ 32) (h2 : n ≠ 64) : okI n x = false := by
  unfold okI
  simp [h1, h2]

theorem implOkNo (w : World) (n x : Int) (h1 : n ≠ 32) (h2 : n ≠ 64) :
    Calls Tryd.prog 41 #[.int .i64 n, .int .i64 x] w fun e w' => e = .returned (.bool false) ∧ Below w.heap.size w w' := by
  have hf := formatNo w n h1 h2
  go_enter Tryd.func41, Tryd.ntmps41
  go_wp2_with (go_at_call 22; go_must (refine hf.mono ?_); clear hf; rintro e w1 ⟨rfl, rfl⟩)
  go_ret
  exact ⟨rfl, Below.refl _ _⟩

/-- The program's BitOk at every width. -/
theorem implOk (w : World) (n x : Int) (hx : (Lit.int .i64 x).wf = true) :
    Calls Tryd.prog 41 #[.int .i64 n, .int .i64 x] w fun e w' => e = .returned (.bool (okI n x)) ∧ Below w.heap.size w w' := by
  by_cases h1 : n = 32
  · subst h1; exact implOk32 w x hx
  · by_cases h2 : n = 64
    · subst h2; exact implOk64 w x hx
    · rw [okI_no h1 h2]; exact implOkNo w n x h1 h2

end Go.Proofs.YteohgmmenlinbagDoor
