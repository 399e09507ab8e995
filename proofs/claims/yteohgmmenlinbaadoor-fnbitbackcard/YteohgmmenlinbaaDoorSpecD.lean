/- The model's BitMake: its contract. -/
import Derived.Test.YteohgmmenlinbaaDoorSpecC
namespace Go.Proofs.YteohgmmenlinbaaDoor
open Go.ChangeShapes Go.WideShapes Go.ChangeAt Go.RowKit
set_option linter.unusedVariables false

/-- What BitMake answers: the float with that value, or that there is none. -/
def MakeAns (F : Nat) (L : Int) (inf : Nat) (bl : Bool) (size : Nat) (power : Int) (o : Int) (k : Bool) : Prop :=
  (k = true ∧ ∃ r : Nat, r < inf ∧ isV F L r size power ∧ o = if bl then -(r : Int) else r) ∨ (k = false ∧ o = 0 ∧ ∀ r, r < inf → ¬ isV F L r size power)

def MakeOut (w : World) (F : Nat) (L : Int) (inf : Nat) (bl : Bool) (size : Nat) (power : Int) (e : Ending) (w' : World) : Prop :=
  ∃ o k, e = .returned (.tuple #[.int .i64 o, .bool k]) ∧ Below w.heap.size w w' ∧ MakeAns F L inf bl size power o k

theorem log2_half {s : Nat} (h : s % 2 = 0) (hs : 0 < s) : (s / 2).log2 + 1 = s.log2 := by
  have e : s = 2 * (s / 2) := by omega
  have := Nat.log2_two_mul (n := s / 2) (by omega)
  rw [← e] at this
  omega

theorem ans_none {F : Nat} {L : Int} {inf s s0 : Nat} {bl : Bool} {p p0 : Int} (hL : -4000 ≤ L) (hp : -4000 ≤ p) (HI : ∀ r, isV F L r s p ↔ isV F L r s0 p0) (ho : s % 2 = 1) (h : 2 ^ (F + 1) ≤ s ∨ p < L) : MakeAns F L inf bl s0 p0 0 false :=
  .inr ⟨rfl, rfl, fun r _ hr => isV_none hL hp ho h ((HI r).2 hr)⟩

theorem ans_over {F : Nat} {L : Int} {inf s s0 : Nat} {bl : Bool} {p p0 : Int} (hL : -4000 ≤ L) (hp : L ≤ p) (HI : ∀ r, isV F L r s p ↔ isV F L r s0 p0) (hs : s < 2 ^ (F + 1)) (hs2 : 2 ^ F ≤ s)
    (h : inf ≤ (p - L).toNat * 2 ^ F + s) : MakeAns F L inf bl s0 p0 0 false :=
  .inr ⟨rfl, rfl, fun r hr hv => by have := (isV_fit hL hp hs (.inr hs2)).1 ((HI r).2 hv); omega⟩

theorem ans_fit {F : Nat} {L : Int} {inf s s0 : Nat} {bl : Bool} {p p0 o : Int} (hL : -4000 ≤ L) (hp : L ≤ p) (HI : ∀ r, isV F L r s p ↔ isV F L r s0 p0) (hs : s < 2 ^ (F + 1)) (hs2 : p = L ∨ 2 ^ F ≤ s)
    (h : (p - L).toNat * 2 ^ F + s < inf) (ho : o = if bl then -(((p - L).toNat * 2 ^ F + s : Nat) : Int) else (((p - L).toNat * 2 ^ F + s : Nat) : Int)) : MakeAns F L inf bl s0 p0 o true :=
  .inl ⟨rfl, _, h, (HI _).1 ((isV_fit hL hp hs hs2).2 rfl), ho⟩

end Go.Proofs.YteohgmmenlinbaaDoor
