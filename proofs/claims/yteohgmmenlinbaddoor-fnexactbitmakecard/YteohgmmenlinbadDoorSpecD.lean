/- The model's BitMake: its contract. -/
import Derived.Test.YteohgmmenlinbadDoorSpecC
namespace Go.Proofs.YteohgmmenlinbadDoor
open Go.ChangeShapes Go.WideShapes Go.ChangeAt Go.RowKit
set_option linter.unusedVariables false

/-- What BitMake answers: the float with that value, or that there is none. -/
def MakeAns (F : Nat) (L : Int) (inf : Nat) (bl : Bool) (size : Nat) (power : Int) (o : Int) (k : Bool) : Prop :=
  (k = true ∧ ∃ r : Nat, r < inf ∧ isV F L r size power ∧ o = if bl then -(r : Int) else r) ∨ (k = false ∧ o = 0 ∧ ∀ r, r < inf → ¬ isV F L r size power)

def MakeOut (w : World) (F : Nat) (L : Int) (inf : Nat) (bl : Bool) (size : Nat) (power : Int) (e : Ending) (w' : World) : Prop :=
  ∃ o k, e = .returned (.tuple #[.int .i64 o, .bool k]) ∧ Below w.heap.size w w' ∧ MakeAns F L inf bl size power o k

theorem log2_half {s : Nat} (h : s % 2 = 0) (hs : 0 < s) : (s / 2).log2 + 1 = s.log2 := by
  have e : s = 2 * (s / 2) := by omega
  have := Nat.log2_two_mul (n := s / 2) (by omega)
  rw [← e] at this
  omega

theorem ans_none {F : Nat} {L : Int} {inf s s0 : Nat} {bl : Bool} {p p0 : Int} (hL : -4000 ≤ L) (hp : -4000 ≤ p) (HI : ∀ r, isV F L r s p ↔ isV F L r s0 p0) (ho : s % 2 = 1) (h : 2 ^ (F + 1) ≤ s ∨ p < L) : MakeAns F L inf bl s0 p0 0 false :=
  .inr ⟨rfl, rfl, fun r _ hr => isV_none hL hp ho h ((HI r).2 hr)⟩

theorem ans_over {F : Nat} {L : Int} {inf s s0 : Nat} {bl : Bool} {p p0 : Int} (hL : -4000 ≤ L) (hp : L ≤ p) (HI : ∀ r, isV F L r s p ↔ isV F L r s0 p0) (hs : s < 2 ^ (F + 1)) (hs2 : 2 ^ F ≤ s)
    (h : inf ≤ (p - L).toNat * 2 ^ F + s) : MakeAns F L inf bl s0 p0 0 false :=
  .inr ⟨rfl, rfl, fun r hr hv => by have := (isV_fit hL hp hs (.inr hs2)).1 ((HI r).2 hv); omega⟩

theorem ans_fit {F : Nat} {L : Int} {inf s s0 : Nat} {bl : Bool} {p p0 o : Int} (hL : -4000 ≤ L) (hp : L ≤ p) (HI : ∀ r, isV F L r s p ↔ isV F L r s0 p0) (hs : s < 2 ^ (F + 1)) (hs2 : p = L ∨ 2 ^ F ≤ s)
    (h : (p - L).toNat * 2 ^ F + s < inf) (ho : o = if bl then -(((p - L).toNat * 2 ^ F + s : Nat) : Int) else (((p - L).toNat * 2 ^ F + s : Nat) : Int)) : MakeAns F L inf bl s0 p0 o true :=
  .inl ⟨rfl, _, h, (HI _).1 ((isV_fit hL hp hs hs2).2 rfl), ho⟩

set_option maxRecDepth 20000 in
set_option maxHeartbeats 4000000 in
theorem specMake32 (w : World) (bl : Bool) (s0 : Nat) (p0 : Int) (h1 : 0 < s0) (h2 : s0 ≤ 18446744073709551615) (h3 : -2000 ≤ p0) (h4 : p0 ≤ 2000) :
    Calls Tryd.prog 4 #[.int .i64 32, .agg #[.bool bl, .int .u64 s0, .int .i64 p0]] w (MakeOut w 23 (-149) 2139095040 bl s0 p0) := by
  have d0 : ((s0 : Int) == 0) = false := by simp; omega
  have l0 : s0.log2 < 64 := (Nat.log2_lt (by omega)).2 (by omega)
  go_enter Tryd.func4, Tryd.ntmps4
  go_wp2
  go_loopg [6, 7] s0 (fun g sv pv wr => ∃ (s : Nat) (p : Int), s ≤ g ∧ sv = .int .u64 s ∧ pv = .int .i64 p ∧ 0 < s ∧ s ≤ 18446744073709551615 ∧ -2000 ≤ p ∧ p + s.log2 ≤ 2063 ∧
    wr = w.alloc (.cells #[.bool bl, .int .u64 s0, .int .i64 p0] 27) ∧ Hid (∀ r, isV 23 (-149) r s p ↔ isV 23 (-149) r s0 p0))
  case atStart => exact ⟨s0, p0, Nat.le_refl _, rfl, rfl, h1, h2, h3, by omega, rfl, fun _ => Iff.rfl⟩
  case round =>
    obtain ⟨s, p, hg, rfl, rfl, hs0, hs1, hp0, hp1, rfl, HI⟩ := hrel
    have hp2 : p ≤ 2063 := by omega
    clear h1 h2 h3 h4 d0 l0
    have HP : Hid (p + s.log2 ≤ 2063) := hp1
    clear hp1
    by_cases c : s % 2 = 0 ∧ (16777216 ≤ s ∨ p < -149)
    · obtain ⟨c1, c2⟩ := c
      have e1 : ((s : Int) % 2 == 0) = true := by simp; omega
      have hstep : Hid ((∀ r, isV 23 (-149) r (s / 2) (p + 1) ↔ isV 23 (-149) r s0 p0) ∧ 0 < s / 2 ∧ p + 1 + (s / 2).log2 ≤ 2063) :=
        ⟨fun r => (isV_half (by omega) c1).trans (HI.out r), by omega, by have := HP.out; have := log2_half c1 hs0; omega⟩
      by_cases c3 : 16777216 ≤ s
      · have e2 : 16777216 ≤ (s : Int) := by omega
        go_wp2
        go_roundg (s / 2)
        case measure => omega
        case rel => exact ⟨s / 2, p + 1, Nat.le_refl _, by go_num, rfl, hstep.out.2.1, by omega, by omega, hstep.out.2.2, rfl, hstep.out.1⟩
      · have e2 : ¬ 16777216 ≤ (s : Int) := by omega
        have e3 : p < -149 := by omega
        go_wp2
        go_roundg (s / 2)
        case measure => omega
        case rel => exact ⟨s / 2, p + 1, Nat.le_refl _, by go_num, rfl, hstep.out.2.1, by omega, by omega, hstep.out.2.2, rfl, hstep.out.1⟩
    · have HE : Hid ((s < 16777216 ∧ -149 ≤ p) ∨ (s % 2 = 1 ∧ (16777216 ≤ s ∨ p < -149))) := by show _ ∨ _; omega
      clear HP
      by_cases c1 : s % 2 = 0
      case' pos =>
        have e1 : ((s : Int) % 2 == 0) = true := by simp; omega
        have e2 : ¬ 16777216 ≤ (s : Int) := by omega
        have e3 : ¬ p < -149 := by omega
        go_wp2
        clear e1 e2 e3 c1 c
      case' neg =>
        have e1 : ((s : Int) % 2 == 0) = false := by simp; omega
        go_wp2
        clear e1 c1 c
      all_goals
        go_loopg [6, 7] (p + 2000).toNat (fun g sv pv wr => ∃ (s : Nat) (p : Int), (p + 2000).toNat ≤ g ∧ sv = .int .u64 s ∧ pv = .int .i64 p ∧ 0 < s ∧ s ≤ 18446744073709551615 ∧ -2000 ≤ p ∧ p ≤ 2063 ∧
          wr = w.alloc (.cells #[.bool bl, .int .u64 s0, .int .i64 p0] 27) ∧ Hid ((s < 16777216 ∧ -149 ≤ p) ∨ (s % 2 = 1 ∧ (16777216 ≤ s ∨ p < -149))) ∧ Hid (∀ r, isV 23 (-149) r s p ↔ isV 23 (-149) r s0 p0))
        case atStart => exact ⟨s, p, Nat.le_refl _, rfl, rfl, hs0, hs1, hp0, hp2, rfl, HE, HI⟩
        case round =>
          clear hs0 hs1 hp0 hp2 HE HI hg
          obtain ⟨s, p, hg, rfl, rfl, hs0, hs1, hp0, hp2, rfl, HE, HI⟩ := hrel
          have hb : Below w.heap.size w (w.alloc (.cells #[.bool bl, .int .u64 s0, .int .i64 p0] 27)) := (Below.refl _ _).alloc (Nat.le_refl _) _
          by_cases b1 : s < 16777216 ∧ -149 ≤ p
          · obtain ⟨b2, b3⟩ := b1
            by_cases b4 : s < 8388608
            · by_cases b5 : -149 < p
              · have e1 : (s : Int) < 8388608 := by omega
                have hstep : Hid ((∀ r, isV 23 (-149) r (s * 2) (p - 1) ↔ isV 23 (-149) r s0 p0)) := fun r => (isV_twice (by omega)).trans (HI.out r)
                go_wp2
                go_roundg (p - 1 + 2000).toNat
                case measure => omega
                case rel => exact ⟨s * 2, p - 1, Nat.le_refl _, by go_num, by go_num, by omega, by omega, by omega, by omega, rfl, (by show _ ∨ _; omega), hstep.out⟩
              · have e1 : (s : Int) < 8388608 := by omega
                have e2 : ¬ -149 < p := by omega
                have e3 : ¬ 16777216 ≤ (s : Int) := by omega
                have e4 : ¬ p < -149 := by omega
                have e5 : ¬ 8388608 ≤ (s : Int) := by omega
                cases bl
                all_goals
                  go_wp2
                  go_ret2
                  refine ⟨_, _, rfl, hb, ans_fit (s := s) (p := p) (by omega) (by omega) HI.out (by omega) (.inl (by omega)) (by omega) ?_⟩
                  simp
                  try omega
            · have hz : Hid (∃ z : Int, z = (s : Int)) := ⟨_, rfl⟩
              obtain ⟨z, hz⟩ := hz.out
              rw [← hz]
              have B : Hid (z = (s : Int) ∧ s < 16777216 ∧ 8388608 ≤ s ∧ -149 ≤ p ∧ p ≤ 2063) := ⟨hz, b2, by omega, b3, hp2⟩
              have z0 : 8388608 ≤ z := by omega
              have z1 : z < 16777216 := by omega
              clear b2 b4 hz hg hs0 hs1 HE
              by_cases b5 : p ≤ 104
              · cases bl
                all_goals
                  go_wp2
                  go_ret2
                  obtain ⟨hz, b2, b4, _, _⟩ := B.out
                  refine ⟨_, _, rfl, hb, ans_fit (s := s) (p := p) (by omega) (by omega) HI.out (by omega) (.inr (by omega)) (by omega) ?_⟩
                  simp
                  try omega
              · go_wp2
                go_ret2
                obtain ⟨hz, b2, b4, _, _⟩ := B.out
                exact ⟨_, _, rfl, hb, ans_over (s := s) (p := p) (by omega) (by omega) HI.out (by omega) (by omega) (by omega)⟩
          · have hodd : s % 2 = 1 ∧ (16777216 ≤ s ∨ p < -149) := by have := HE.out; omega
            by_cases b2 : 16777216 ≤ s
            · have e1 : ¬ (s : Int) < 8388608 := by omega
              have e3 : 16777216 ≤ (s : Int) := by omega
              go_wp2
              go_ret2
              exact ⟨_, _, rfl, hb, ans_none (s := s) (p := p) (by omega) (by omega) HI.out hodd.1 hodd.2⟩
            · have e2 : ¬ -149 < p := by omega
              have e3 : ¬ 16777216 ≤ (s : Int) := by omega
              have e4 : p < -149 := by omega
              by_cases b3 : s < 8388608
              · have e1 : (s : Int) < 8388608 := by omega
                go_wp2
                go_ret2
                exact ⟨_, _, rfl, hb, ans_none (s := s) (p := p) (by omega) (by omega) HI.out hodd.1 hodd.2⟩
              · have e1 : ¬ (s : Int) < 8388608 := by omega
                go_wp2
                go_ret2
                exact ⟨_, _, rfl, hb, ans_none (s := s) (p := p) (by omega) (by omega) HI.out hodd.1 hodd.2⟩

set_option maxHeartbeats 4000000 in
theorem specMake64 (w : World) (bl : Bool) (s0 : Nat) (p0 : Int) (h1 : 0 < s0) (h2 : s0 ≤ 18446744073709551615) (h3 : -2000 ≤ p0) (h4 : p0 ≤ 2000) :
    Calls Tryd.prog 4 #[.int .i64 64, .agg #[.bool bl, .int .u64 s0, .int .i64 p0]] w (MakeOut w 52 (-1074) 9218868437227405312 bl s0 p0) := by
  have d0 : ((s0 : Int) == 0) = false := by simp; omega
  have l0 : s0.log2 < 64 := (Nat.log2_lt (by omega)).2 (by omega)
  go_enter Tryd.func4, Tryd.ntmps4
  go_wp2
  go_loopg [6, 7] s0 (fun g sv pv wr => ∃ (s : Nat) (p : Int), s ≤ g ∧ sv = .int .u64 s ∧ pv = .int .i64 p ∧ 0 < s ∧ s ≤ 18446744073709551615 ∧ -2000 ≤ p ∧ p + s.log2 ≤ 2063 ∧
    wr = w.alloc (.cells #[.bool bl, .int .u64 s0, .int .i64 p0] 27) ∧ Hid (∀ r, isV 52 (-1074) r s p ↔ isV 52 (-1074) r s0 p0))
  case atStart => exact ⟨s0, p0, Nat.le_refl _, rfl, rfl, h1, h2, h3, by omega, rfl, fun _ => Iff.rfl⟩
  case round =>
    obtain ⟨s, p, hg, rfl, rfl, hs0, hs1, hp0, hp1, rfl, HI⟩ := hrel
    have hp2 : p ≤ 2063 := by omega
    clear h1 h2 h3 h4 d0 l0
    have HP : Hid (p + s.log2 ≤ 2063) := hp1
    clear hp1
    by_cases c : s % 2 = 0 ∧ (9007199254740992 ≤ s ∨ p < -1074)
    · obtain ⟨c1, c2⟩ := c
      have e1 : ((s : Int) % 2 == 0) = true := by simp; omega
      have hstep : Hid ((∀ r, isV 52 (-1074) r (s / 2) (p + 1) ↔ isV 52 (-1074) r s0 p0) ∧ 0 < s / 2 ∧ p + 1 + (s / 2).log2 ≤ 2063) :=
        ⟨fun r => (isV_half (by omega) c1).trans (HI.out r), by omega, by have := HP.out; have := log2_half c1 hs0; omega⟩
      by_cases c3 : 9007199254740992 ≤ s
      · have e2 : 9007199254740992 ≤ (s : Int) := by omega
        go_wp2
        go_roundg (s / 2)
        case measure => omega
        case rel => exact ⟨s / 2, p + 1, Nat.le_refl _, by go_num, rfl, hstep.out.2.1, by omega, by omega, hstep.out.2.2, rfl, hstep.out.1⟩
      · have e2 : ¬ 9007199254740992 ≤ (s : Int) := by omega
        have e3 : p < -1074 := by omega
        go_wp2
        go_roundg (s / 2)
        case measure => omega
        case rel => exact ⟨s / 2, p + 1, Nat.le_refl _, by go_num, rfl, hstep.out.2.1, by omega, by omega, hstep.out.2.2, rfl, hstep.out.1⟩
    · have HE : Hid ((s < 9007199254740992 ∧ -1074 ≤ p) ∨ (s % 2 = 1 ∧ (9007199254740992 ≤ s ∨ p < -1074))) := by show _ ∨ _; omega
      clear HP
      by_cases c1 : s % 2 = 0
      case' pos =>
        have e1 : ((s : Int) % 2 == 0) = true := by simp; omega
        have e2 : ¬ 9007199254740992 ≤ (s : Int) := by omega
        have e3 : ¬ p < -1074 := by omega
        go_wp2
        clear e1 e2 e3 c1 c
      case' neg =>
        have e1 : ((s : Int) % 2 == 0) = false := by simp; omega
        go_wp2
        clear e1 c1 c
      all_goals
        go_loopg [6, 7] (p + 2000).toNat (fun g sv pv wr => ∃ (s : Nat) (p : Int), (p + 2000).toNat ≤ g ∧ sv = .int .u64 s ∧ pv = .int .i64 p ∧ 0 < s ∧ s ≤ 18446744073709551615 ∧ -2000 ≤ p ∧ p ≤ 2063 ∧
          wr = w.alloc (.cells #[.bool bl, .int .u64 s0, .int .i64 p0] 27) ∧ Hid ((s < 9007199254740992 ∧ -1074 ≤ p) ∨ (s % 2 = 1 ∧ (9007199254740992 ≤ s ∨ p < -1074))) ∧ Hid (∀ r, isV 52 (-1074) r s p ↔ isV 52 (-1074) r s0 p0))
        case atStart => exact ⟨s, p, Nat.le_refl _, rfl, rfl, hs0, hs1, hp0, hp2, rfl, HE, HI⟩
        case round =>
          clear hs0 hs1 hp0 hp2 HE HI hg
          obtain ⟨s, p, hg, rfl, rfl, hs0, hs1, hp0, hp2, rfl, HE, HI⟩ := hrel
          have hb : Below w.heap.size w (w.alloc (.cells #[.bool bl, .int .u64 s0, .int .i64 p0] 27)) := (Below.refl _ _).alloc (Nat.le_refl _) _
          by_cases b1 : s < 9007199254740992 ∧ -1074 ≤ p
          · obtain ⟨b2, b3⟩ := b1
            by_cases b4 : s < 4503599627370496
            · by_cases b5 : -1074 < p
              · have e1 : (s : Int) < 4503599627370496 := by omega
                have hstep : Hid ((∀ r, isV 52 (-1074) r (s * 2) (p - 1) ↔ isV 52 (-1074) r s0 p0)) := fun r => (isV_twice (by omega)).trans (HI.out r)
                go_wp2
                go_roundg (p - 1 + 2000).toNat
                case measure => omega
                case rel => exact ⟨s * 2, p - 1, Nat.le_refl _, by go_num, by go_num, by omega, by omega, by omega, by omega, rfl, (by show _ ∨ _; omega), hstep.out⟩
              · have e1 : (s : Int) < 4503599627370496 := by omega
                have e2 : ¬ -1074 < p := by omega
                have e3 : ¬ 9007199254740992 ≤ (s : Int) := by omega
                have e4 : ¬ p < -1074 := by omega
                have e5 : ¬ 4503599627370496 ≤ (s : Int) := by omega
                cases bl
                all_goals
                  go_wp2
                  go_ret2
                  refine ⟨_, _, rfl, hb, ans_fit (s := s) (p := p) (by omega) (by omega) HI.out (by omega) (.inl (by omega)) (by omega) ?_⟩
                  simp
                  try omega
            · have hz : Hid (∃ z : Int, z = (s : Int)) := ⟨_, rfl⟩
              obtain ⟨z, hz⟩ := hz.out
              rw [← hz]
              have B : Hid (z = (s : Int) ∧ s < 9007199254740992 ∧ 4503599627370496 ≤ s ∧ -1074 ≤ p ∧ p ≤ 2063) := ⟨hz, b2, by omega, b3, hp2⟩
              have z0 : 4503599627370496 ≤ z := by omega
              have z1 : z < 9007199254740992 := by omega
              clear b2 b4 hz hg hs0 hs1 HE
              by_cases b5 : p ≤ 971
              · cases bl
                all_goals
                  go_wp2
                  go_ret2
                  obtain ⟨hz, b2, b4, _, _⟩ := B.out
                  refine ⟨_, _, rfl, hb, ans_fit (s := s) (p := p) (by omega) (by omega) HI.out (by omega) (.inr (by omega)) (by omega) ?_⟩
                  simp
                  try omega
              · go_wp2
                go_ret2
                obtain ⟨hz, b2, b4, _, _⟩ := B.out
                exact ⟨_, _, rfl, hb, ans_over (s := s) (p := p) (by omega) (by omega) HI.out (by omega) (by omega) (by omega)⟩
          · have hodd : s % 2 = 1 ∧ (9007199254740992 ≤ s ∨ p < -1074) := by have := HE.out; omega
            by_cases b2 : 9007199254740992 ≤ s
            · have e1 : ¬ (s : Int) < 4503599627370496 := by omega
              have e3 : 9007199254740992 ≤ (s : Int) := by omega
              go_wp2
              go_ret2
              exact ⟨_, _, rfl, hb, ans_none (s := s) (p := p) (by omega) (by omega) HI.out hodd.1 hodd.2⟩
            · have e2 : ¬ -1074 < p := by omega
              have e3 : ¬ 9007199254740992 ≤ (s : Int) := by omega
              have e4 : p < -1074 := by omega
              by_cases b3 : s < 4503599627370496
              · have e1 : (s : Int) < 4503599627370496 := by omega
                go_wp2
                go_ret2
                exact ⟨_, _, rfl, hb, ans_none (s := s) (p := p) (by omega) (by omega) HI.out hodd.1 hodd.2⟩
              · have e1 : ¬ (s : Int) < 4503599627370496 := by omega
                go_wp2
                go_ret2
                exact ⟨_, _, rfl, hb, ans_none (s := s) (p := p) (by omega) (by omega) HI.out hodd.1 hodd.2⟩

end Go.Proofs.YteohgmmenlinbadDoor
