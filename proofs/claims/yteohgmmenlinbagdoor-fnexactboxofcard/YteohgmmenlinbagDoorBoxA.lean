/- Lists of pairs in memory; the model's BoxOk: its contract. -/
import Derived.Test.YteohgmmenlinbagDoorSpecG
import Derived.Test.YteohgmmenlinbagDoorOwn
import Derived.Deep.LoopGhost
namespace Go.Proofs.YteohgmmenlinbagDoor
open Go.ChangeShapes Go.WideShapes Go.ChangeAt Go.RowKit
set_option linter.unusedVariables false

/-- A slice that leads to these pairs. -/
def PairsAt (W : World) (a : Option Addr) (ps : List (Int × Int)) : Prop :=
  (∀ p ∈ ps, (Lit.int .i64 p.1).wf = true ∧ (Lit.int .i64 p.2).wf = true) ∧
  (ps = [] ∨ ∃ rb ro, a = some ⟨rb, ro, none⟩ ∧ rb < W.heap.size ∧ ∀ (i : Nat) (p : Int × Int), ps[i]? = some p → W.cell? ⟨rb, ro + i * 2, none⟩ = some (.int .i64 p.1) ∧ W.cell? ⟨rb, ro + i * 2 + 1, none⟩ = some (.int .i64 p.2))

theorem PairsAt.below {W W' : World} {a : Option Addr} {ps : List (Int × Int)} (h : PairsAt W a ps) (q : Below W.heap.size W W') : PairsAt W' a ps := by
  refine ⟨h.1, ?_⟩
  rcases h.2 with h | ⟨rb, ro, ha, hlt, hc⟩
  · exact .inl h
  · refine .inr ⟨rb, ro, ha, Nat.lt_of_lt_of_le hlt q.size, fun i p hp => ?_⟩
    obtain ⟨c0, c1⟩ := hc i p hp
    exact ⟨(q.cell (p := ⟨rb, ro + i * 2, none⟩) hlt).trans c0, (q.cell (p := ⟨rb, ro + i * 2 + 1, none⟩) hlt).trans c1⟩

theorem PairsAt.at {W : World} {rb ro : Nat} {ps : List (Int × Int)} (h : PairsAt W (some ⟨rb, ro, none⟩) ps) (hne : ps ≠ []) (i : Nat) (p : Int × Int) (hp : ps[i]? = some p) :
    W.cell? ⟨rb, ro + i * 2, none⟩ = some (.int .i64 p.1) ∧ W.cell? ⟨rb, ro + i * 2 + 1, none⟩ = some (.int .i64 p.2) := by
  obtain ⟨rb', ro', ha, hlt, hc⟩ := h.2.resolve_left hne
  injection ha with ha
  injection ha with e1 e2
  subst e1 e2
  exact hc i p hp

/-- What lies in memory between two rounds. -/
def BoxSt (w : World) (n : Int) (rb ro len cap : Nat) (ps : List (Int × Int)) (i : Nat) (W : World) : Prop :=
  (∀ j, j < i → ∀ p, ps[j]? = some p → pokI n p.1 p.2 = true) ∧ Own W w.heap.size [.slice (some ⟨rb, ro, none⟩) len cap] ∧ PairsAt W (some ⟨rb, ro, none⟩) ps ∧ Below w.heap.size w W

/-- A box is ok. -/
def bokI (n : Int) (ps : List (Int × Int)) : Bool := decide (1 ≤ ps.length) && (decide (ps.length ≤ 6) && ps.all fun p => pokI n p.1 p.2)

theorem bok_false {n : Int} {ps : List (Int × Int)} {i : Nat} {lo hi : Int} (hp : ps[i]? = some (lo, hi)) (h : pokI n lo hi = false) : bokI n ps = false := by
  have : (ps.all fun p => pokI n p.1 p.2) = false := by
    rw [List.all_eq_false]
    exact ⟨(lo, hi), List.mem_of_getElem? hp, by simp [h]⟩
  unfold bokI
  rw [this]
  simp

theorem bok_true {n : Int} {ps : List (Int × Int)} (h1 : 1 ≤ ps.length) (h6 : ps.length ≤ 6) (h : ∀ (j : Nat) p, ps[j]? = some p → pokI n p.1 p.2 = true) : bokI n ps = true := by
  have : (ps.all fun p => pokI n p.1 p.2) = true := by
    rw [List.all_eq_true]
    intro p hp
    obtain ⟨j, hj⟩ := List.getElem?_of_mem hp
    exact h j p hj
  unfold bokI
  rw [this, decide_eq_true h1, decide_eq_true h6]
  rfl

theorem specBoxOk (w : World) (n : Int) (a : Option Addr) (ps : List (Int × Int)) (cap : Nat) (h : PairsAt w a ps) (hl : ps.length ≤ cap) (hm : ps.length ≤ 1048576) :
    Calls Tryd.prog 14 #[.int .i64 n, .agg #[.slice a ps.length cap]] w fun e w' => e = .returned (.bool (bokI n ps)) ∧ Below w.heap.size w w' := by
  by_cases h1 : 1 ≤ ps.length
  · by_cases h6 : ps.length ≤ 6
    · have k1 : ¬ (ps.length : Int) < 1 := by omega
      have k6 : ¬ (6 : Int) < ps.length := by omega
      obtain ⟨rb, ro, ha, hlt, hc⟩ := h.2.resolve_left (by intro e; rw [e] at h1; simp at h1)
      subst ha
      obtain ⟨len, hlen⟩ : ∃ len, ps.length = len := ⟨_, rfl⟩
      rw [hlen] at k1 k6 h1 h6 hl hm ⊢
      go_enter Tryd.func14, Tryd.ntmps14
      go_wp2
      have B0 := Own.new w #[.slice (some ⟨rb, ro, none⟩) len cap] 25
      have hb0 := (Below.refl _ w).alloc (Nat.le_refl _) (.cells #[.slice (some ⟨rb, ro, none⟩) len cap] 25)
      have S0 : Hid (BoxSt w n rb ro len cap ps 0 (w.alloc (.cells #[.slice (some ⟨rb, ro, none⟩) len cap] 25))) := ⟨fun j hj => absurd hj (by omega), B0, h.below ((Below.refl _ _).alloc (Nat.le_refl _) _), hb0⟩
      clear B0 hb0 hc h
      go_loopg [5] len (fun gq iv wr => ∃ i : Nat, i + gq = len ∧ iv = .int .i64 i ∧ Hid (BoxSt w n rb ro len cap ps i wr))
      case atStart => exact ⟨0, by omega, rfl, S0⟩
      case round =>
        clear S0
        obtain ⟨i, hi, rfl, S⟩ := hrel
        have b0 := S.out.2.1.cell 0 _ rfl
        by_cases hlast : i < len
        · have hp : ∃ p, ps[i]? = some p := ⟨ps[i]'(by omega), List.getElem?_eq_getElem (by omega)⟩
          obtain ⟨⟨lo, hi'⟩, hp⟩ := hp
          have wf := S.out.2.2.1.1 (lo, hi') (List.mem_of_getElem? hp)
          have cc := S.out.2.2.1.at (by intro e; rw [e] at hp; simp at hp) i (lo, hi') hp
          have c0 := cc.1
          have c1 := cc.2
          have hk := fun W => specPairOk W n lo hi' wf.1 wf.2
          have hil : (i : Int) < len := by omega
          cases hpk : pokI n lo hi'
          · rw [hpk] at hk
            go_wp2_with (go_at_call 21; refine (hk _).mono ?_; clear hk; rintro e w2 ⟨rfl, q⟩)
            go_ret
            rw [bok_false hp hpk]
            exact ⟨rfl, S.out.2.2.2.trans (q.mono S.out.2.2.2.size)⟩
          · rw [hpk] at hk
            go_wp2_with (go_at_call 21; refine (hk _).mono ?_; clear hk; rintro e w2 ⟨rfl, q⟩)
            go_roundg (len - (i + 1))
            case measure => omega
            case rel =>
              refine ⟨i + 1, by omega, by go_num, ⟨fun j hj p hp' => ?_, S.out.2.1.below q, S.out.2.2.1.below q, S.out.2.2.2.trans (q.mono S.out.2.2.2.size)⟩⟩
              by_cases e : j = i
              · subst e
                rw [hp] at hp'
                obtain rfl := Option.some.inj hp'
                exact hpk
              · exact S.out.1 j (by omega) p hp'
        · have hil : ¬ (i : Int) < len := by omega
          have hall : ∀ (j : Nat) (p : Int × Int), ps[j]? = some p → pokI n p.1 p.2 = true := fun j p hj => S.out.1 j (by have := (List.getElem?_eq_some_iff.1 hj).1; omega) p hj
          have hbt : bokI n ps = true := bok_true (by omega) (by omega) hall
          go_wp2
          go_ret
          exact ⟨rfl, S.out.2.2.2⟩
    · have k1 : ¬ (ps.length : Int) < 1 := by omega
      have k6 : (6 : Int) < ps.length := by omega
      have e : bokI n ps = false := by unfold bokI; rw [decide_eq_false h6]; simp
      rw [e]
      generalize ps.length = len at *
      go_enter Tryd.func14, Tryd.ntmps14
      go_wp2
      go_ret
      exact ⟨rfl, (Below.refl _ _).alloc (Nat.le_refl _) _⟩
  · have k1 : (ps.length : Int) < 1 := by omega
    have e : bokI n ps = false := by unfold bokI; rw [decide_eq_false h1]; simp
    rw [e]
    generalize ps.length = len at *
    go_enter Tryd.func14, Tryd.ntmps14
    go_wp2
    go_ret
    exact ⟨rfl, (Below.refl _ _).alloc (Nat.le_refl _) _⟩

end Go.Proofs.YteohgmmenlinbagDoor
