/- The program's BitWiden: its contract. -/
import Derived.Test.YteohgmmenlinbabImplC0
import Derived.Test.YteohgmmenlinbabSpecE
namespace Go.Proofs.Yteohgmmenlinbab
open Go.ChangeShapes Go.WideShapes Go.ChangeAt Go.RowKit
set_option linter.unusedVariables false

theorem word32_lt (neg : Bool) (r : Nat) (h : r ≤ 2139095040) : Ieee.single.word neg r < 4294967296 := by
  unfold Ieee.Format.word
  have : Ieee.single.signWeight = 2147483648 := by decide
  rw [this]
  split <;> omega

theorem ord64_word (w : World) (neg : Bool) (R : Nat) (h : R ≤ 9218868437227405312) :
    Calls Try.prog 110 #[.int .i64 64, .int .u64 (Ieee.double.word neg R : Nat)] w (WidOut w (if neg then -(R : Int) else R) true) := by
  have hS : Ieee.double.signWeight = 9223372036854775808 := by decide
  have hw : ((Ieee.double.word neg R : Nat) : Int) = (if neg then 9223372036854775808 else 0) + (R : Int) := by
    unfold Ieee.Format.word
    rw [hS]
    cases neg <;> simp
  rw [hw]
  have ho := implOrd64 w ((if neg then 9223372036854775808 else 0) + (R : Int)) (if neg then 1 else 0) (R : Int) (by split <;> omega) (by split <;> omega) (by cases neg <;> simp <;> omega) (by cases neg <;> simp <;> omega)
  refine ho.mono ?_
  rintro e w' ⟨rfl, hb⟩
  refine ⟨?_, hb⟩
  have h' : (R : Int) ≤ 9218868437227405312 := by omega
  rw [if_pos h', decide_eq_true h']
  cases neg <;> simp

theorem implWidenOk (w : World) (n : Int) (h1 : -2139095040 ≤ n) (h2 : n ≤ 2139095040) :
    Calls Try.prog 97 #[.int .i64 n] w (WidOut w (widI n) true) := by
  have ho := implOk32 w n (wf64 (by omega) (by omega))
  rw [(okI_32 n).2 ⟨h1, h2⟩] at ho
  have hbt := fun W => implBits32 W n h1 h2
  have hi : infS = 2139095040 := rfl
  have hlt := word32_lt (decide (n < 0)) n.natAbs (by omega)
  have hc := fun W => run_convert_float_float (P := Try.prog) W 112 117 .f32 .f64 _ _ (by kernel_rfl) Try.underlying117 (conv_widen (decide (n < 0)) n.natAbs (by omega))
  have hR : wid n.natAbs ≤ 9218868437227405312 := wid_le_inf (by omega)
  have hod := fun W => ord64_word W (decide (n < 0)) (wid n.natAbs) hR
  have hv : (if decide (n < 0) = true then -(wid n.natAbs : Int) else (wid n.natAbs : Int)) = widI n := by
    unfold widI; by_cases hn : n < 0 <;> simp [hn]
  rw [hv] at hod
  generalize Ieee.single.word (decide (n < 0)) n.natAbs = B at *
  generalize Ieee.double.word (decide (n < 0)) (wid n.natAbs) = D at *
  generalize widI n = v at *
  clear hv hR hi h1 h2
  have f1 := from32
  have f2 := bits64
  have hb := Below.refl w.heap.size w
  go_enter Try.func97, Try.ntmps97
  go_wp2_with first | (go_at_call 46; go_must (refine ho.mono ?_); clear ho; rintro e w1 ⟨rfl, q⟩; replace hb := hb.trans (q.mono hb.size); clear q) | (go_at_call 109; go_must (refine (hbt _).mono ?_); clear hbt; rintro e w1 ⟨rfl, q⟩; replace hb := hb.trans (q.mono hb.size); clear q) | (go_at_call 110; go_must (refine (hod _).mono ?_); clear hod; rintro e w1 ⟨rfl, q⟩; replace hb := hb.trans (q.mono hb.size); clear q)
  go_ret2
  exact ⟨rfl, hb⟩

theorem implWidenNo (w : World) (n : Int) (hx : (Lit.int .i64 n).wf = true) (h : okI 32 n = false) :
    Calls Try.prog 97 #[.int .i64 n] w (WidOut w 0 false) := by
  have ho := implOk32 w n hx
  rw [h] at ho
  go_enter Try.func97, Try.ntmps97
  go_wp2_with (go_at_call 46; go_must (refine ho.mono ?_); clear ho; rintro e w1 ⟨rfl, hb⟩)
  go_ret2
  exact ⟨rfl, hb⟩

theorem implWiden (w : World) (n : Int) (hx : (Lit.int .i64 n).wf = true) :
    Calls Try.prog 97 #[.int .i64 n] w (WidOut w (if okI 32 n = true then widI n else 0) (okI 32 n)) := by
  by_cases h : okI 32 n = true
  · rw [if_pos h, h]
    exact implWidenOk w n ((okI_32 n).1 h).1 ((okI_32 n).1 h).2
  · rw [if_neg h]
    rw [Bool.not_eq_true] at h
    rw [h]
    exact implWidenNo w n hx h

end Go.Proofs.Yteohgmmenlinbab
