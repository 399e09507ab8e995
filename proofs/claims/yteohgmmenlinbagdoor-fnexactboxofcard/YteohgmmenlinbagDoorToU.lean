/- The laws' own copy of a list of uint64: its contract. -/
import Derived.Test.YteohgmmenlinbagDoorU64
import Derived.Test.YteohgmmenlinbagDoorBoxT
namespace Go.Proofs.YteohgmmenlinbagDoor
open Go.ChangeShapes Go.WideShapes Go.ChangeAt Go.RowKit
set_option linter.unusedVariables false

theorem infoU64 : (Tryd.prog.info? 37).map (fun i => (i.zero, i.size, i.bytes)) = some (some (.int .u64 0), 1, 8) := by kernel_rfl

def CopyU (w : World) (len : Nat) (zs : List Int) (i : Nat) (W : World) : Prop :=
  (∃ vs : List Value, vs.length = len ∧ Own W w.heap.size vs ∧ ∀ j, j < i → ∀ z, zs[j]? = some z → vs[j]? = some (.int .u64 z)) ∧ Below w.heap.size w W

theorem Own.nums {W : World} {G : Nat} {vs : List Value} {zs : List Int} (o : Own W G vs) (h : ∀ (i : Nat) (z : Int), zs[i]? = some z → vs[i]? = some (.int .u64 z)) : OwnU W G zs :=
  ⟨o.lt, fun i z hz => o.cell i _ (h i z hz), fun i z hz => o.frz i _ (h i z hz)⟩

set_option maxHeartbeats 1000000 in
theorem toU (w : World) (a : Option Addr) (zs : List Int) (len cap : Nat) (hlen : zs.length = len) (h : UAt w a zs) (hl : len ≤ cap) (hm : len ≤ 1048576) :
    Calls Tryd.prog 5 #[.slice a len cap] w fun e w' => e = .returned (.slice (some ⟨w.heap.size, 0, none⟩) len len) ∧ OwnU w' w.heap.size zs ∧ Below w.heap.size w w' := by
  obtain ⟨i0, hi, hz0, hz1, hz2⟩ := info_parts infoU64
  have hmk := fun W : World => run_make (P := Tryd.prog) W 22 37 i0 (.int .u64 0) Tryd.underlying22 hi hz0 .i64 .i64 (len : Int) (len : Int) (by omega) (Int.le_refl _) (by rw [hz2]; omega) (by omega)
  simp only [Int.toNat_natCast, hz1, Nat.mul_one] at hmk
  clear hi hz0 hz1 hz2
  have B0 := Own.new w (madeCells (Value.int .u64 0).cells len) 37
  have hsz : (madeCells (Value.int .u64 0).cells len).toList.length = len := by simpa using size_madeCells _ _
  have S0 : Hid (CopyU w len zs 0 (w.alloc (.cells (madeCells (Value.int .u64 0).cells len) 37))) :=
    ⟨⟨_, hsz, B0, fun j hj => absurd hj (by omega)⟩, (Below.refl _ w).alloc (Nat.le_refl _) _⟩
  have hH : Hid (UAt w a zs) := h
  clear B0 hsz h
  go_enter Tryd.func5, Tryd.ntmps5
  go_wp2
  go_loopg [4] len (fun gq iv wr => ∃ i : Nat, i + gq = len ∧ iv = .int .i64 i ∧ Hid (CopyU w len zs i wr))
  case atStart => exact ⟨0, by omega, rfl, S0⟩
  case round =>
    clear S0
    obtain ⟨i, hi, rfl, S⟩ := hrel
    by_cases hlast : i < len
    · obtain ⟨⟨vs, hv, ov, hc⟩, hb⟩ := S.out
      have hne : zs ≠ [] := by intro e; rw [e] at hlen; simp at hlen; omega
      obtain ⟨rb, ro, ha, hlt0, hcells⟩ := hH.out.resolve_left hne
      subst ha
      obtain ⟨z, hzi⟩ : ∃ z, zs[i]? = some z := ⟨zs[i]'(by omega), List.getElem?_eq_getElem (by omega)⟩
      have c0 : wr.cell? ⟨rb, ro + i, none⟩ = some (.int .u64 z) := (hb.cell (p := ⟨rb, ro + i, none⟩) hlt0).trans (hcells i z hzi)
      clear S
      have hil : (i : Int) < len := by omega
      obtain ⟨y0, v0⟩ : ∃ v, vs[i]? = some v := ⟨vs[i]'(by omega), List.getElem?_eq_getElem (by omega)⟩
      have d0 := ov.cell i _ v0
      have f0 := ov.frz i _ v0
      have HC : Hid ((∀ j, j < i → ∀ z, zs[j]? = some z → vs[j]? = some (.int .u64 z)) ∧ zs[i]? = some z ∧ vs.length = len) := ⟨hc, hzi, hv⟩
      clear hcells hc hzi hv v0
      go_wp2
      go_roundg (len - (i + 1))
      case measure => omega
      case rel =>
        refine ⟨i + 1, by omega, by go_num, ⟨⟨_, ?_, ov.set (i := i) (.int .u64 z) (by rw [HC.out.2.2]; exact hlast), fun j hj q hq => ?_⟩, ?_⟩⟩
        · rw [List.length_set]; exact HC.out.2.2
        · by_cases e : i = j
          · subst e
            rw [HC.out.2.1] at hq
            obtain rfl := Option.some.inj hq
            rw [List.getElem?_set_self (by rw [HC.out.2.2]; exact hlast)]
          · rw [List.getElem?_set_ne e]
            exact HC.out.1 j (by omega) q hq
        · exact hb.setCell (p := ⟨w.heap.size, i, none⟩) (Nat.le_refl _) _
    · have hil : ¬ (i : Int) < len := by omega
      go_wp2
      go_ret
      obtain ⟨⟨vs, hv, ov, hc⟩, hb⟩ := S.out
      exact ⟨rfl, ov.nums fun j z hj => hc j (by have := (List.getElem?_eq_some_iff.1 hj).1; omega) z hj, hb⟩

end Go.Proofs.YteohgmmenlinbagDoor
