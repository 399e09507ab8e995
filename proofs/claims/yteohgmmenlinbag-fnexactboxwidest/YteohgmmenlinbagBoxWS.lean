/- BoxWidest of the model: its contract. -/
import Derived.Test.YteohgmmenlinbagBoxW
import Derived.Test.YteohgmmenlinbagBoxR
namespace Go.Proofs.Yteohgmmenlinbag
open Go.ChangeShapes Go.WideShapes Go.ChangeAt Go.RowKit
set_option linter.unusedVariables false

/-- The best coordinate of the first i. -/
def BestSt (ps : List (Int × Int)) (k i : Nat) : Prop :=
  k < i ∧ (∀ (j : Nat) q, j < i → ps[j]? = some q → gq q ≤ gq (ps[k]?.getD (0, 0))) ∧ (∀ (j : Nat) q, j < k → ps[j]? = some q → gq q < gq (ps[k]?.getD (0, 0)))

theorem best_end {ps : List (Int × Int)} {k : Nat} (h : BestSt ps k ps.length) : (k : Int) = firstI (fun p => decide (gq p = mostL ps)) ps := by
  obtain ⟨h1, h2, h3⟩ := h
  have hp : ps[k]? = some ps[k] := List.getElem?_eq_getElem h1
  rw [getD_of' hp] at h2 h3
  obtain ⟨m1, m2, m3⟩ := most_fold ps 0
  have h0 : 0 ≤ gq ps[k] := by unfold gq gapI; split <;> omega
  have e : gq ps[k] = mostL ps := by
    have a1 := m2 _ (List.mem_of_getElem? hp)
    have a2 := m3 (gq ps[k]) h0 (fun p hp' => by
      obtain ⟨j, hj⟩ := List.getElem?_of_mem hp'
      exact h2 j p (List.getElem?_eq_some_iff.1 hj).1 hj)
    unfold mostL
    omega
  rw [first_at hp (by simp [e]) fun j q hj hq => ?_]
  have := h3 j q hj hq
  rw [← e]
  exact decide_eq_false (by omega)

theorem best_keep {ps : List (Int × Int)} {k i : Nat} {q : Int × Int} (h : BestSt ps k i) (hq : ps[i]? = some q) (hle : ¬ gq q > gq (ps[k]?.getD (0, 0))) : BestSt ps k (i + 1) := by
  obtain ⟨h1, h2, h3⟩ := h
  refine ⟨by omega, fun j p hj hp => ?_, h3⟩
  by_cases e : j = i
  · subst e
    rw [hq] at hp
    obtain rfl := Option.some.inj hp
    omega
  · exact h2 j p (by omega) hp

theorem best_new {ps : List (Int × Int)} {k i : Nat} {q : Int × Int} (h : BestSt ps k i) (hq : ps[i]? = some q) (hgt : gq q > gq (ps[k]?.getD (0, 0))) : BestSt ps i (i + 1) := by
  obtain ⟨h1, h2, h3⟩ := h
  refine ⟨by omega, fun j p hj hp => ?_, fun j p hj hp => ?_⟩
  · rw [getD_of' hq]
    by_cases e : j = i
    · subst e
      rw [hq] at hp
      obtain rfl := Option.some.inj hp
      omega
    · have := h2 j p (by omega) hp
      omega
  · rw [getD_of' hq]
    have := h2 j p hj hp
    omega

theorem best_one {ps : List (Int × Int)} : BestSt ps 0 1 := by
  refine ⟨by omega, fun j q hj hq => ?_, fun j q hj => absurd hj (by omega)⟩
  have e : j = 0 := by omega
  subst e
  rw [getD_of' hq]
  exact Int.le_refl _

set_option maxHeartbeats 1000000 in
theorem specBoxWidest (w : World) (n : Int) (a : Option Addr) (ps : List (Int × Int)) (cap : Nat) (h : PairsAt w a ps) (hl : ps.length ≤ cap) (hm : ps.length ≤ 1048576) :
    Calls Try.prog 24 #[.int .i64 n, .agg #[.slice a ps.length cap]] w fun e w' => e = .returned (.int .i64 (widestI n ps)) ∧ Below w.heap.size w w' := by
  have q0 : Below w.heap.size w (w.alloc (.cells #[.slice a ps.length cap] 30)) := (Below.refl _ w).alloc (Nat.le_refl _) _
  have o0 := Own.new w #[.slice a ps.length cap] 30
  have hk := specBoxOk (w.alloc (.cells #[.slice a ps.length cap] 30)) n a ps cap (h.below q0) hl hm
  unfold widestI
  cases hbk : bokI n ps
  · rw [hbk] at hk
    rw [if_neg (by decide)]
    generalize ps.length = len at *
    go_enter Try.func24, Try.ntmps24
    go_wp2_with (go_at_call 27; refine hk.mono ?_; clear hk; rintro e w2 ⟨rfl, q⟩)
    go_ret
    exact ⟨rfl, q0.trans (q.mono q0.size)⟩
  · rw [hbk] at hk
    rw [if_pos rfl]
    have hlen' := bok_len hbk
    obtain ⟨rb, ro, ha, hlt, hc⟩ := h.2.resolve_left (by intro e; rw [e] at hlen'; simp at hlen')
    subst ha
    have hend := fun k => @best_end ps k
    obtain ⟨len, hlen⟩ : ∃ len, ps.length = len := ⟨_, rfl⟩
    rw [hlen] at hk hlen' hl hm o0 q0 hend ⊢
    have hcell : Hid (PairsAt w (some ⟨rb, ro, none⟩) ps) := h
    clear hc h
    go_enter Try.func24, Try.ntmps24
    go_wp2_with (go_at_call 27; refine hk.mono ?_; clear hk; rintro e w2 ⟨rfl, q⟩; replace q0 := q0.trans (q.mono q0.size); replace o0 := o0.below q; clear q)
    have S0 : Hid (RowSt w rb ro len cap ps w2) := ⟨o0, hcell.out.below q0, q0⟩
    have B0 : Hid (BestSt ps 0 1) := best_one
    clear o0 q0 hcell
    go_loopg [5, 6] (len - 1) (fun gq_ kv iv wr => ∃ i k : Nat, i + gq_ = len ∧ iv = .int .i64 i ∧ kv = .int .i64 k ∧ Hid (BestSt ps k i) ∧ Hid (RowSt w rb ro len cap ps wr))
    case atStart => exact ⟨1, 0, by omega, rfl, rfl, B0, S0⟩
    case round =>
      clear S0 B0
      obtain ⟨i, k, hi, rfl, rfl, B, S⟩ := hrel
      have b0 := S.out.1.cell 0 _ rfl
      by_cases hlast : i < len
      · have hki : k < i := B.out.1
        have hp : ∃ p, ps[i]? = some p := ⟨ps[i]'(by omega), List.getElem?_eq_getElem (by omega)⟩
        obtain ⟨⟨lo, hi'⟩, hp⟩ := hp
        have hp2 : ∃ p, ps[k]? = some p := ⟨ps[k]'(by omega), List.getElem?_eq_getElem (by omega)⟩
        obtain ⟨⟨klo, khi⟩, hp2⟩ := hp2
        have wf := S.out.2.1.1 (lo, hi') (List.mem_of_getElem? hp)
        have wf2 := S.out.2.1.1 (klo, khi) (List.mem_of_getElem? hp2)
        have w0 := wf.1
        have w1 := wf.2
        have w3 := wf2.1
        have w4 := wf2.2
        dsimp only at w0 w1 w3 w4
        have ne : ps ≠ [] := by intro e; rw [e] at hp; simp at hp
        have cc := S.out.2.1.at ne i (lo, hi') hp
        have dd := S.out.2.1.at ne k (klo, khi) hp2
        have hx : Hid (wr.heap.size > w.heap.size ∧ rb < wr.heap.size ∧ (wr.cell? ⟨rb, ro + i * 2, none⟩ = some (.int .i64 lo) ∧ wr.cell? ⟨rb, ro + i * 2 + 1, none⟩ = some (.int .i64 hi')) ∧ wr.cell? ⟨rb, ro + k * 2, none⟩ = some (.int .i64 klo) ∧ wr.cell? ⟨rb, ro + k * 2 + 1, none⟩ = some (.int .i64 khi)) := ⟨S.out.1.lt, by have := S.out.2.2.size; omega, cc, dd⟩
        have hil : (i : Int) < len := by omega
        have hkl : (k : Int) < len := by omega
        have bk : gq (lo, hi') > gq (klo, khi) → BestSt ps i (i + 1) := fun hg => best_new B.out hp (by rw [getD_of' hp2]; exact hg)
        have bn : ¬ gq (lo, hi') > gq (klo, khi) → BestSt ps k (i + 1) := fun hg => best_keep B.out hp (by rw [getD_of' hp2]; exact hg)
        unfold gq at bk bn
        dsimp only at bk bn
        clear cc dd wf wf2 hp hp2 B ne
        go_wp2
        refine region_below (by kernel_rfl) (by kernel_rfl) ?_
        repeat (first
          | go_big_quiet_step (first
            | (intro hC; go_at_call 47; exact Calls.qb hC (l3gap _ _ _ (by assumption) (by assumption)))
            | (intro _; rfl))
          | (go_big_quiet_want
             go_big_quiet_op
             refine ⟨.slice (some ⟨rb, ro, none⟩) len cap, ?_, ?_⟩
             · intro W hC
               have r0 := (hC.cell (p := ⟨w.heap.size, 0, none⟩) hx.out.1).trans b0
               go_simp
             go_big_quiet_on)
          | (go_big_quiet_want
             go_big_quiet_op
             refine ⟨.pointer (some ⟨rb, ro + i * 2, none⟩), ?_, ?_⟩
             · intro W hC
               go_simp
             go_big_quiet_on)
          | (go_big_quiet_want
             go_big_quiet_op
             refine ⟨.pointer (some ⟨rb, ro + k * 2, none⟩), ?_, ?_⟩
             · intro W hC
               go_simp
             go_big_quiet_on)
          | (go_big_quiet_want
             go_big_quiet_op
             refine ⟨.agg #[.int .i64 lo, .int .i64 hi'], ?_, ?_⟩
             · intro W hC
               have r2 := (hC.cell (p := ⟨rb, ro + i * 2, none⟩) hx.out.2.1).trans hx.out.2.2.1.1
               have r3 := (hC.cell (p := ⟨rb, ro + i * 2 + 1, none⟩) hx.out.2.1).trans hx.out.2.2.1.2
               go_simp
             go_big_quiet_on)
          | (go_big_quiet_want
             go_big_quiet_op
             refine ⟨.agg #[.int .i64 klo, .int .i64 khi], ?_, ?_⟩
             · intro W hC
               have r2 := (hC.cell (p := ⟨rb, ro + k * 2, none⟩) hx.out.2.1).trans hx.out.2.2.2.1
               have r3 := (hC.cell (p := ⟨rb, ro + k * 2 + 1, none⟩) hx.out.2.1).trans hx.out.2.2.2.2
               go_simp
             go_big_quiet_on))
        refine wpQuiet_nil ?_
        intro w5 q5
        have S5 : Hid (RowSt w rb ro len cap ps w5) := S.out.below q5
        clear S hx b0
        by_cases hg : gapI lo hi' > gapI klo khi
        · have B5 : Hid (BestSt ps i (i + 1)) := bk hg
          clear bk bn
          go_wp2
          go_roundg (len - (i + 1))
          case measure => omega
          case rel => exact ⟨i + 1, i, by omega, by go_num, rfl, B5, S5⟩
        · have B5 : Hid (BestSt ps k (i + 1)) := bn (by omega)
          clear bk bn
          go_wp2
          go_roundg (len - (i + 1))
          case measure => omega
          case rel => exact ⟨i + 1, k, by omega, by go_num, rfl, B5, S5⟩
      · have hil : ¬ (i : Int) < len := by omega
        obtain rfl : i = len := by omega
        have he := hend k B.out
        go_wp2
        go_ret
        exact ⟨by rw [← he]; rfl, S.out.2.2⟩

end Go.Proofs.Yteohgmmenlinbag
