/- The program's nearNarrow: its contract. -/
import Derived.Test.YteohgmmenlinbabImplC
namespace Go.Proofs.Yteohgmmenlinbab
open Go.ChangeShapes Go.WideShapes Go.ChangeAt Go.RowKit
set_option linter.unusedVariables false

theorem from64 (n : Int) (w : World) : Sem.run Try.prog (callFunc 114 #[.int .u64 n]) w = .ok (.value (.float .f64 n.toNat)) w := by kernel_rfl
theorem bits32 (n : Nat) (w : World) : Sem.run Try.prog (callFunc 115 #[.float .f32 n]) w = .ok (.value (.int .u32 n)) w := by kernel_rfl

theorem implTop32 (w : World) :
    Calls Try.prog 47 #[.int .i64 32] w fun e w' => e = .returned (.int .i64 2139095040) ∧ Below w.heap.size w w' := by
  have hf := format32 w
  have ht := topOf32
  go_enter Try.func47, Try.ntmps47
  go_wp2_with first | (go_at_call 80; go_must (refine hf.mono ?_); clear hf; rintro e w1 ⟨rfl, rfl⟩) | (go_at_call 82; go_must (refine (ht _).mono ?_); rintro e w1 ⟨rfl, hb⟩)
  go_ret
  exact ⟨rfl, hb⟩

theorem ord32_word (w : World) (neg : Bool) (R : Nat) (h : R ≤ 2139095040) :
    Calls Try.prog 110 #[.int .i64 32, .int .u64 (Ieee.single.word neg R : Nat)] w (WidOut w (if neg then -(R : Int) else R) true) := by
  have hS : Ieee.single.signWeight = 2147483648 := by decide
  have hw : ((Ieee.single.word neg R : Nat) : Int) = (if neg then 2147483648 else 0) + (R : Int) := by
    unfold Ieee.Format.word
    rw [hS]
    cases neg <;> simp
  rw [hw]
  have ho := implOrd32 w ((if neg then 2147483648 else 0) + (R : Int)) (if neg then 1 else 0) (R : Int) (by split <;> omega) (by split <;> omega) (by cases neg <;> simp <;> omega) (by cases neg <;> simp <;> omega)
  refine ho.mono ?_
  rintro e w' ⟨rfl, hb⟩
  refine ⟨?_, hb⟩
  have h' : (R : Int) ≤ 2139095040 := by omega
  rw [if_pos h', decide_eq_true h']
  cases neg <;> simp

/-- near is at most one step from the narrow float below. -/
def NearP (ord near : Int) : Prop := -2139095040 < near ∧ near < 2139095040 ∧ widI (near - 1) ≤ ord ∧ (near + 1 < 2139095040 → ord ≤ widI (near + 1))

theorem widI_nat (t : Nat) : widI (t : Int) = (wid t : Int) := by
  unfold widI
  rw [if_neg (by omega)]
  rfl

theorem near_of {x : Int} {t : Nat} (ht : t < 2139095040) (h1 : wid (t - 1) ≤ x.natAbs) (h2 : x.natAbs < wid (t + 1)) :
    widI ((if x < 0 then -(t : Int) else t) - 1) ≤ x ∧ (x < 0 → widI ((if x < 0 then -(t : Int) else t) - 1) < x) ∧ x ≤ widI ((if x < 0 then -(t : Int) else t) + 1) ∧ (0 ≤ x → x < widI ((if x < 0 then -(t : Int) else t) + 1)) := by
  have hi : infS = 2139095040 := rfl
  have a1 := widI_nat (t + 1)
  have a0 : widI (-1) < widI 0 := widI_lt (by omega) (by omega) (by omega)
  have a2 : widI 0 < widI 1 := widI_lt (by omega) (by omega) (by omega)
  have a3 : widI 0 = 0 := by simp [widI, wid_zero]
  by_cases hx : x < 0
  · rw [if_pos hx]
    have e1 : -(t : Int) - 1 = -((t + 1 : Nat) : Int) := by omega
    rw [e1, widI_neg, a1]
    have up : x ≤ widI (-(t : Int) + 1) := by
      by_cases h0 : t = 0
      · subst h0
        have e : -((0 : Nat) : Int) + 1 = 1 := rfl
        rw [e]
        omega
      · have e2 : -(t : Int) + 1 = -((t - 1 : Nat) : Int) := by omega
        rw [e2, widI_neg, widI_nat]
        omega
    exact ⟨by omega, fun _ => by omega, up, fun _ => by omega⟩
  · rw [if_neg hx]
    have e1 : (t : Int) + 1 = ((t + 1 : Nat) : Int) := by omega
    rw [e1, a1]
    have lo : widI ((t : Int) - 1) ≤ x := by
      by_cases h0 : t = 0
      · subst h0
        have e : ((0 : Nat) : Int) - 1 = -1 := rfl
        rw [e]
        omega
      · have e2 : (t : Int) - 1 = ((t - 1 : Nat) : Int) := by omega
        rw [e2, widI_nat]
        omega
    exact ⟨lo, fun _ => by omega, by omega, fun _ => by omega⟩

theorem near_ord {ord x near : Int} (h1 : -9218868437227405312 ≤ ord) (h2 : ord ≤ 9218868437227405312) (hx : x = max (-widI 2139095039) (min ord (widI 2139095039)))
    (hn1 : -2139095040 < near) (hn2 : near < 2139095040) (hlo : widI (near - 1) ≤ x) (hlo2 : x < 0 → widI (near - 1) < x) (hhi : x ≤ widI (near + 1)) (hhi2 : 0 ≤ x → x < widI (near + 1)) : NearP ord near := by
  have hg0 : widI 0 < widI 2139095039 := widI_lt (by omega) (by omega) (by omega)
  have a3 : widI 0 = 0 := by simp [widI, wid_zero]
  refine ⟨hn1, hn2, ?_, fun hq => ?_⟩
  · by_cases c : -widI 2139095039 ≤ ord
    · omega
    · have e : x = widI (-2139095039) := by rw [widI_neg]; omega
      have q := hlo2 (by rw [widI_neg] at e; omega)
      have : near - 1 = -2139095040 := by
        rcases Int.lt_or_le (near - 1) (-2139095039) with q1 | q1
        · omega
        · have := widI_le (a := -2139095039) (b := near - 1) q1 (by omega) (by omega); omega
      rw [this, widI_neg, widI_top]; exact h1
  · by_cases c : ord ≤ widI 2139095039
    · omega
    · have e : x = widI 2139095039 := by omega
      have q := hhi2 (by omega)
      have := widI_le (a := near + 1) (b := 2139095039) (by omega) (by omega) (by omega)
      omega

theorem nearNarrow (w : World) (ord : Int) (h1 : -9218868437227405312 ≤ ord) (h2 : ord ≤ 9218868437227405312) :
    Calls Try.prog 103 #[.int .i64 ord] w fun e w' => ∃ near, e = .returned (.int .i64 near) ∧ NearP ord near ∧ Below w.heap.size w w' := by
  have hi : infS = 2139095040 := rfl
  have hT := implTop32
  have hW := fun W => implWidenOk W 2139095039 (by omega) (by omega)
  obtain ⟨x, hx⟩ : ∃ x, x = max (-widI 2139095039) (min ord (widI 2139095039)) := ⟨_, rfl⟩
  have hg0 : widI 0 < widI 2139095039 := widI_lt (by omega) (by omega) (by omega)
  have a3 : widI 0 = 0 := by simp [widI, wid_zero]
  have hgb := (widI_bounds (n := 2139095039) (by omega) (by omega)).2
  have hxa : x.natAbs ≤ wid (infS - 1) := by
    have := widI_nat 2139095039
    have e : ((2139095039 : Nat) : Int) = 2139095039 := rfl
    rw [e] at this
    have e2 : infS - 1 = 2139095039 := by decide
    rw [e2]
    omega
  have hB := fun W => implBits64 W x (by omega) (by omega)
  obtain ⟨t, hc0, ht, ht1, ht2⟩ := conv_narrow (decide (x < 0)) x.natAbs hxa
  have hc := fun W => run_convert_float_float (P := Try.prog) W 117 112 .f64 .f32 _ _ (by kernel_rfl) Try.underlying112 hc0
  have hO := fun W => ord32_word W (decide (x < 0)) t (by omega)
  have hlt := word32_lt (decide (x < 0)) t (by omega)
  have hn := near_of (x := x) (t := t) (by omega) ht1 ht2
  have he : (if decide (x < 0) = true then -(t : Int) else (t : Int)) = (if x < 0 then -(t : Int) else (t : Int)) := by by_cases q : x < 0 <;> simp [q]
  rw [he] at hO
  have hN : NearP ord (if x < 0 then -(t : Int) else (t : Int)) := near_ord h1 h2 hx (by split <;> omega) (by split <;> omega) hn.1 hn.2.1 hn.2.2.1 hn.2.2.2
  generalize (if x < 0 then -(t : Int) else (t : Int)) = near at *
  generalize Ieee.double.word (decide (x < 0)) x.natAbs = D at *
  generalize Ieee.single.word (decide (x < 0)) t = S at *
  have HN : Hid (NearP ord near) := hN
  have g0 : 0 < widI 2139095039 := by omega
  generalize widI 2139095039 = g at *
  clear hn he hN hc0 hxa ht ht1 ht2 hg0 a3 hi
  have f1 := from64
  have f2 := bits32
  have hb := Below.refl w.heap.size w
  have HX : Hid (x = max (-g) (min ord g)) := hx
  clear hx
  go_enter Try.func103, Try.ntmps103
  go_wp2_with first | (go_at_call 47; go_must (refine (hT _).mono ?_); clear hT; rintro e w1 ⟨rfl, q⟩; replace hb := hb.trans (q.mono hb.size); clear q) | (go_at_call 97; go_must (refine (hW _).mono ?_); clear hW; rintro e w1 ⟨rfl, q⟩; replace hb := hb.trans (q.mono hb.size); clear q)
  all_goals try (exfalso; omega)
  all_goals first | (have ex : x = g := (by have := HX.out; omega)) | (have ex : x = ord := (by have := HX.out; omega)) | (have ex : x = -g := (by have := HX.out; omega))
  all_goals
    simp only [ex] at hB
    clear ex HX
    go_wp2_with (go_at_call 109; go_must (refine (hB _).mono ?_); clear hB; rintro e w1 ⟨rfl, q⟩; replace hb := hb.trans (q.mono hb.size); clear q)
    go_wp2_with (go_at_call 110; go_must (refine (hO _).mono ?_); clear hO; rintro e w1 ⟨rfl, q⟩; replace hb := hb.trans (q.mono hb.size); clear q)
    go_ret
    exact ⟨_, rfl, HN.out, hb⟩

end Go.Proofs.Yteohgmmenlinbab
