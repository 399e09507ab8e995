/- The program's BitBelow: its contract. -/
import Derived.Test.YteohgmmenlinbabImplD
import Derived.Test.YteohgmmenlinbabNumE
namespace Go.Proofs.Yteohgmmenlinbab
open Go.ChangeShapes Go.WideShapes Go.ChangeAt Go.RowKit
set_option linter.unusedVariables false

theorem up32 (w : World) (n : Int) (h1 : -2139095040 ≤ n) (h2 : n < 2139095040) :
    Calls Try.prog 107 #[.int .i64 32, .int .i64 n] w fun e w' => e = .returned (.int .i64 (n + 1)) ∧ Below w.heap.size w w' := by
  have ho := implOk32 w n (wf64 (by omega) (by omega))
  rw [(okI_32 n).2 (by omega)] at ho
  have hT := implTop32
  have hb := Below.refl w.heap.size w
  go_enter Try.func107, Try.ntmps107
  go_wp2_with first | (go_at_call 46; go_must (refine ho.mono ?_); clear ho; rintro e w1 ⟨rfl, q⟩; replace hb := hb.trans (q.mono hb.size); clear q) | (go_at_call 47; go_must (refine (hT _).mono ?_); clear hT; rintro e w1 ⟨rfl, q⟩; replace hb := hb.trans (q.mono hb.size); clear q)
  all_goals try (exfalso; omega)
  all_goals
    go_ret
    refine ⟨?_, hb⟩
    first | rfl | (rw [show n + 1 = 2139095040 by omega]; rfl)

theorem down32 (w : World) (n : Int) (h1 : -2139095040 < n) (h2 : n ≤ 2139095040) :
    Calls Try.prog 106 #[.int .i64 32, .int .i64 n] w fun e w' => e = .returned (.int .i64 (n - 1)) ∧ Below w.heap.size w w' := by
  have ho := implOk32 w n (wf64 (by omega) (by omega))
  rw [(okI_32 n).2 (by omega)] at ho
  have hT := implTop32
  have hb := Below.refl w.heap.size w
  go_enter Try.func106, Try.ntmps106
  go_wp2_with first | (go_at_call 46; go_must (refine ho.mono ?_); clear ho; rintro e w1 ⟨rfl, q⟩; replace hb := hb.trans (q.mono hb.size); clear q) | (go_at_call 47; go_must (refine (hT _).mono ?_); clear hT; rintro e w1 ⟨rfl, q⟩; replace hb := hb.trans (q.mono hb.size); clear q)
  all_goals try (exfalso; omega)
  all_goals
    go_ret
    refine ⟨?_, hb⟩
    first | rfl | (rw [show n - 1 = -2139095040 by omega]; rfl)

theorem own_cell {w w1 : World} {x : Int} {t : TypeId} (q : Below (w.alloc (.cells #[.int .i64 x] t)).heap.size (w.alloc (.cells #[.int .i64 x] t)) w1) : w1.cell? ⟨w.heap.size, 0, none⟩ = some (.int .i64 x) := by
  rw [q.cell (p := ⟨w.heap.size, 0, none⟩) (by simp)]
  simp

theorem fits (w : World) (k : Nat) (n x : Int) (h1 : -2139095040 ≤ n) (h2 : n ≤ 2139095040) (hk : k < w.heap.size) (hc : w.cell? ⟨k, 0, none⟩ = some (.int .i64 x)) :
    Calls Try.prog 104 #[.int .i64 n, .pointer (some ⟨k, 0, none⟩)] w fun e w' => e = .returned (.bool (decide (widI n ≤ x))) ∧ Below w.heap.size w w' := by
  have hw := implWidenOk w n h1 h2
  generalize widI n = v at *
  go_enter Try.func104, Try.ntmps104
  go_wp2_with (go_at_call 97; go_must (refine hw.mono ?_); clear hw; rintro e w1 ⟨rfl, q⟩; have hc1 : w1.cell? ⟨k, 0, none⟩ = some (.int .i64 x) := (q.cell (p := ⟨k, 0, none⟩) hk).trans hc)
  go_ret
  exact ⟨rfl, q⟩

theorem lastThat (w : World) (k : Nat) (lo0 hi0 x : Int) (h1 : -2139095040 ≤ lo0) (h2 : lo0 ≤ hi0) (h3 : hi0 ≤ 2139095040) (hk : k < w.heap.size) (hc : w.cell? ⟨k, 0, none⟩ = some (.int .i64 x))
    (hlo : widI lo0 ≤ x) (hhi : hi0 < 2139095040 → x < widI (hi0 + 1)) :
    Calls Try.prog 105 #[.int .i64 lo0, .int .i64 hi0, .func (Fn.func 104) #[] #[.pointer (some ⟨k, 0, none⟩)]] w fun e w' => ∃ n, e = .returned (.int .i64 n) ∧ IsBelow x n ∧ Below w.heap.size w w' := by
  have H0 : Hid (widI lo0 ≤ x ∧ (hi0 < 2139095040 → x < widI (hi0 + 1)) ∧ Below w.heap.size w w) := ⟨hlo, hhi, Below.refl _ _⟩
  clear hlo hhi
  go_enter Try.func105, Try.ntmps105
  go_wp2
  go_loopg [0, 1] (hi0 - lo0).toNat (fun g lv hv wr => ∃ lo hi : Int, (hi - lo).toNat ≤ g ∧ lv = .int .i64 lo ∧ hv = .int .i64 hi ∧ -2139095040 ≤ lo ∧ lo ≤ hi ∧ hi ≤ 2139095040 ∧
    Hid (widI lo ≤ x ∧ (hi < 2139095040 → x < widI (hi + 1)) ∧ Below w.heap.size w wr))
  case atStart => exact ⟨lo0, hi0, Nat.le_refl _, rfl, rfl, h1, h2, h3, H0⟩
  case round =>
    clear H0 h1 h2 h3
    obtain ⟨lo, hi, hg, rfl, rfl, hlo, hle, hhi, HR⟩ := hrel
    have hkr : k < wr.heap.size := Nat.lt_of_lt_of_le hk HR.out.2.2.size
    have hcr : wr.cell? ⟨k, 0, none⟩ = some (.int .i64 x) := (HR.out.2.2.cell (p := ⟨k, 0, none⟩) hk).trans hc
    by_cases c : lo < hi
    · obtain ⟨m, hme⟩ : ∃ m, m = lo + (hi - lo + 1) / 2 := ⟨_, rfl⟩
      have hm : wrap64 (bits .or .i64 lo hi - bits .xor .i64 lo hi / 2) = m := by
        rw [half_up lo hi (by omega) (by omega) (by omega) (by omega), hme]
        exact IntWalk.wrap64_in _ (by omega)
      have M : Hid (lo < m ∧ m ≤ hi) := ⟨by omega, by omega⟩
      have m1 : -2139095040 ≤ m := by omega
      have m2 : m ≤ 2139095040 := by omega
      clear hme
      have hf := fits wr k m x m1 m2 hkr hcr
      by_cases c2 : widI m ≤ x
      · rw [decide_eq_true c2] at hf
        have C2 : Hid (widI m ≤ x) := c2
        clear c2
        go_wp2_with (go_at_call 104; go_must (refine hf.mono ?_); clear hf; rintro e w1 ⟨rfl, hb⟩)
        go_roundg (hi - m).toNat
        case measure => have := M.out; omega
        case rel =>
          obtain ⟨q1, q2, q3⟩ := HR.out
          obtain ⟨p1, p2⟩ := M.out
          exact ⟨m, hi, Nat.le_refl _, rfl, rfl, by omega, by omega, by omega, ⟨C2.out, q2, q3.trans (hb.mono q3.size)⟩⟩
      · rw [decide_eq_false c2] at hf
        have C2 : Hid (x < widI m) := Int.not_le.1 c2
        clear c2
        go_wp2_with (go_at_call 104; go_must (refine hf.mono ?_); clear hf; rintro e w1 ⟨rfl, hb⟩)
        go_roundg (m - 1 - lo).toNat
        case measure => have := M.out; omega
        case rel =>
          obtain ⟨q1, q2, q3⟩ := HR.out
          obtain ⟨p1, p2⟩ := M.out
          refine ⟨lo, m - 1, Nat.le_refl _, rfl, rfl, by omega, by omega, by omega, ⟨q1, fun _ => ?_, q3.trans (hb.mono q3.size)⟩⟩
          rw [show m - 1 + 1 = m by omega]
          exact C2.out
    · have e : lo = hi := by omega
      subst e
      go_wp2
      go_ret
      obtain ⟨q1, q2, q3⟩ := HR.out
      exact ⟨lo, rfl, ⟨hlo, hhi, q1, q2⟩, q3⟩

theorem implBelow (w : World) (x : Int) (h1 : -9218868437227405312 ≤ x) (h2 : x ≤ 9218868437227405312) :
    Calls Try.prog 95 #[.int .i64 x] w (BelOut w x) := by
  have ho := implOk64 (w.alloc (.cells #[.int .i64 x] 3)) x (wf64 (by omega) (by omega))
  rw [(okI_64 x).2 ⟨h1, h2⟩] at ho
  have hN := fun W => nearNarrow W x h1 h2
  go_enter Try.func95, Try.ntmps95
  go_wp2_with first
    | (go_at_call 46; go_must (refine ho.mono ?_); clear ho; rintro e w1 ⟨rfl, q⟩; have c1 := own_cell q)
    | (go_at_call 103; go_must (refine (hN _).mono ?_); clear hN; rintro e w2 ⟨near, rfl, hn, q2⟩; replace q := q.trans (q2.mono q.size); clear q2 c1; have c1 := own_cell q; have n1 := hn.1; have n2 := hn.2.1; have hU := fun W => up32 W near (by omega) (by omega); have hD := fun W => down32 W near (by omega) (by omega); have HN : Hid (NearP x near) := hn; clear hn)
    | (go_at_call 107; go_must (refine (hU _).mono ?_); clear hU; rintro e w3 ⟨rfl, q2⟩; replace q := q.trans (q2.mono q.size); clear q2 c1; have c1 := own_cell q)
    | (go_at_call 106; go_must (refine (hD _).mono ?_); clear hD; rintro e w3 ⟨rfl, q2⟩; replace q := q.trans (q2.mono q.size); clear q2 c1; have c1 := own_cell q)
  have hL := lastThat w3 w.heap.size (near - 1) (near + 1) x (by omega) (by omega) (by omega) (by have := q.size; simp at this; omega) c1 HN.out.2.2.1
    (fun hq => Int.lt_of_le_of_lt (HN.out.2.2.2 hq) (widI_lt (by omega) (by omega) (by omega)))
  go_wp2_with (go_at_call 105; go_must (refine hL.mono ?_); clear hL; rintro e w4 ⟨n, rfl, hn, q2⟩; replace q := q.trans (q2.mono q.size))
  go_ret2
  exact ⟨n, rfl, hn, ((Below.refl _ _).alloc (Nat.le_refl _) _).trans (q.mono (by simp))⟩

theorem implBelowNo (w : World) (x : Int) (hx : (Lit.int .i64 x).wf = true) (h : okI 64 x = false) :
    Calls Try.prog 95 #[.int .i64 x] w (WidOut w 0 false) := by
  have ho := implOk64 (w.alloc (.cells #[.int .i64 x] 3)) x hx
  rw [h] at ho
  go_enter Try.func95, Try.ntmps95
  go_wp2_with (go_at_call 46; go_must (refine ho.mono ?_); clear ho; rintro e w1 ⟨rfl, q⟩)
  go_ret2
  exact ⟨rfl, ((Below.refl _ _).alloc (Nat.le_refl _) _).trans (q.mono (by simp))⟩

end Go.Proofs.Yteohgmmenlinbab
