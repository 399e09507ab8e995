/- BoxIs of the model: its contract. -/
import Derived.Test.YteohgmmenlinbahBoxX
import Derived.Test.YteohgmmenlinbahPairIsS
namespace Go.Proofs.Yteohgmmenlinbah
open Go.ChangeShapes Go.WideShapes Go.ChangeAt Go.RowKit
set_option linter.unusedVariables false

/-- What lies in memory between two rounds over two boxes. -/
def RowSt2 (w : World) (a b : Option Addr) (len cap cap' : Nat) (ps qs : List (Int × Int)) (W : World) : Prop :=
  (Own W w.heap.size [.slice a len cap] ∧ Own W (w.heap.size + 1) [.slice b len cap']) ∧ (PairsAt W a ps ∧ PairsAt W b qs) ∧ Below w.heap.size w W

theorem RowSt2.below {w : World} {a b : Option Addr} {len cap cap' : Nat} {ps qs : List (Int × Int)} {W W' : World} (h : RowSt2 w a b len cap cap' ps qs W) (q : Below W.heap.size W W') : RowSt2 w a b len cap cap' ps qs W' :=
  ⟨⟨h.1.1.below q, h.1.2.below q⟩, ⟨h.2.1.1.below q, h.2.1.2.below q⟩, h.2.2.trans (q.mono h.2.2.size)⟩

theorem RowSt2.new {w : World} {a b : Option Addr} {len cap cap' : Nat} {ps qs : List (Int × Int)} (h : PairsAt w a ps) (h' : PairsAt w b qs) :
    RowSt2 w a b len cap cap' ps qs ((w.alloc (.cells #[.slice a len cap] 29)).alloc (.cells #[.slice b len cap'] 29)) := by
  have q0 : Below w.heap.size w ((w.alloc (.cells #[.slice a len cap] 29)).alloc (.cells #[.slice b len cap'] 29)) := ((Below.refl _ w).alloc (Nat.le_refl _) _).alloc (by simp) _
  have o1 := Own.new (w.alloc (.cells #[.slice a len cap] 29)) #[.slice b len cap'] 29
  simp only [World.size_alloc] at o1
  exact ⟨⟨(Own.new w _ _).alloc _, o1⟩, ⟨h.below q0, h'.below q0⟩, q0⟩

set_option maxHeartbeats 1000000 in
theorem specBoxIs (w : World) (a b : Option Addr) (ps qs : List (Int × Int)) (cap cap' : Nat) (h : PairsAt w a ps) (h' : PairsAt w b qs) (hl : ps.length ≤ cap) (hl' : qs.length ≤ cap') (hm : ps.length ≤ 1048576) (hm' : qs.length ≤ 1048576) :
    Calls Try.prog 29 #[.agg #[.slice a ps.length cap], .agg #[.slice b qs.length cap']] w fun e w' => e = .returned (.bool (isbI ps qs)) ∧ Below w.heap.size w w' := by
  by_cases hlen : ps.length = qs.length
  · obtain ⟨len, hlen1⟩ : ∃ len, ps.length = len := ⟨_, rfl⟩
    have hlen2 : qs.length = len := by omega
    rw [hlen1] at hl hm ⊢
    rw [hlen2] at hl' ⊢
    have S0 : Hid (RowSt2 w a b len cap cap' ps qs _) := RowSt2.new h h'
    have hF : ∀ i, i < len → isP (at2 ps i) (at2 qs i) = false → isbI ps qs = false := fun i hi => isb_false (by omega)
    have hT : (∀ j, j < len → isP (at2 ps j) (at2 qs j) = true) → isbI ps qs = true := fun hh => isb_true hlen (by rw [hlen1]; exact hh)
    generalize isbI ps qs = B at *
    clear h h'
    go_enter Try.func29, Try.ntmps29
    go_wp2
    go_loopg [5] len (fun gk iv wr => ∃ i : Nat, i + gk = len ∧ iv = .int .i64 i ∧ Hid (∀ j, j < i → isP (at2 ps j) (at2 qs j) = true) ∧ Hid (RowSt2 w a b len cap cap' ps qs wr))
    case atStart => exact ⟨0, by omega, rfl, fun j hj => absurd hj (by omega), S0⟩
    case round =>
      clear S0
      obtain ⟨i, hi, rfl, A, S⟩ := hrel
      have b0 := S.out.1.1.cell 0 _ rfl
      have b1 := S.out.1.2.cell 0 _ rfl
      by_cases hlast : i < len
      · obtain ⟨rb, ro, ea, hlta, c0, c1⟩ := S.out.2.1.1.atD (i := i) (by omega)
        obtain ⟨sb, so, eb, hltb, d0, d1⟩ := S.out.2.1.2.atD (i := i) (by omega)
        subst ea eb
        have hstep : isP (at2 ps i) (at2 qs i) = true → ∀ j, j < i + 1 → isP (at2 ps j) (at2 qs j) = true := fun hh j hj => by
          by_cases e : j = i
          · subst e; exact hh
          · exact A.out j (by omega)
        have hFi := hF i hlast
        unfold isP at hstep hFi
        generalize (at2 ps i).1 = lo at *
        generalize (at2 ps i).2 = hi' at *
        generalize (at2 qs i).1 = blo at *
        generalize (at2 qs i).2 = bhi at *
        have hx : Hid ((w.heap.size < wr.heap.size ∧ w.heap.size + 1 < wr.heap.size) ∧ (rb < wr.heap.size ∧ wr.cell? ⟨rb, ro + i * 2, none⟩ = some (.int .i64 lo) ∧ wr.cell? ⟨rb, ro + i * 2 + 1, none⟩ = some (.int .i64 hi')) ∧ (sb < wr.heap.size ∧ wr.cell? ⟨sb, so + i * 2, none⟩ = some (.int .i64 blo) ∧ wr.cell? ⟨sb, so + i * 2 + 1, none⟩ = some (.int .i64 bhi))) :=
          ⟨⟨S.out.1.1.lt, S.out.1.2.lt⟩, ⟨hlta, c0, c1⟩, ⟨hltb, d0, d1⟩⟩
        have hil : (i : Int) < len := by omega
        clear c0 c1 d0 d1 hF hT A
        go_wp2
        refine region_below (by kernel_rfl) (by kernel_rfl) ?_
        repeat (first
          | go_big_quiet_step (first
            | (intro hC; go_at_call 59; exact Calls.qb hC (specIs _ lo hi' blo bhi))
            | (intro _; rfl))
          | (go_big_quiet_want
             go_big_quiet_op
             refine ⟨.slice (some ⟨rb, ro, none⟩) len cap, ?_, ?_⟩
             · intro W hC
               have r0 := (hC.cell (p := ⟨w.heap.size, 0, none⟩) hx.out.1.1).trans b0
               go_simp
             go_big_quiet_on)
          | (go_big_quiet_want
             go_big_quiet_op
             refine ⟨.slice (some ⟨sb, so, none⟩) len cap', ?_, ?_⟩
             · intro W hC
               have r0 := (hC.cell (p := ⟨w.heap.size + 1, 0, none⟩) hx.out.1.2).trans b1
               go_simp
             go_big_quiet_on)
          | (go_big_quiet_want
             go_big_quiet_op
             refine ⟨.pointer (some ⟨rb, ro + i * 2, none⟩), ?_, ?_⟩
             · intro W hC
               go_simp
             go_big_quiet_on)
          | (go_big_quiet_want
             go_big_quiet_op
             refine ⟨.pointer (some ⟨sb, so + i * 2, none⟩), ?_, ?_⟩
             · intro W hC
               go_simp
             go_big_quiet_on)
          | (go_big_quiet_want
             go_big_quiet_op
             refine ⟨.agg #[.int .i64 lo, .int .i64 hi'], ?_, ?_⟩
             · intro W hC
               have r2 := (hC.cell (p := ⟨rb, ro + i * 2, none⟩) hx.out.2.1.1).trans hx.out.2.1.2.1
               have r3 := (hC.cell (p := ⟨rb, ro + i * 2 + 1, none⟩) hx.out.2.1.1).trans hx.out.2.1.2.2
               go_simp
             go_big_quiet_on)
          | (go_big_quiet_want
             go_big_quiet_op
             refine ⟨.agg #[.int .i64 blo, .int .i64 bhi], ?_, ?_⟩
             · intro W hC
               have r2 := (hC.cell (p := ⟨sb, so + i * 2, none⟩) hx.out.2.2.1).trans hx.out.2.2.2.1
               have r3 := (hC.cell (p := ⟨sb, so + i * 2 + 1, none⟩) hx.out.2.2.1).trans hx.out.2.2.2.2
               go_simp
             go_big_quiet_on))
        refine wpQuiet_nil ?_
        intro w5 q5
        have S5 : Hid (RowSt2 w (some ⟨rb, ro, none⟩) (some ⟨sb, so, none⟩) len cap cap' ps qs w5) := S.out.below q5
        clear S hx b0 b1
        cases hB : isB lo hi' blo bhi
        · have e := hFi hB
          subst e
          clear hstep hFi
          go_wp2
          go_ret
          exact ⟨rfl, S5.out.2.2⟩
        · have A5 : Hid (∀ j, j < i + 1 → isP (at2 ps j) (at2 qs j) = true) := hstep hB
          clear hstep hFi
          go_wp2
          go_roundg (len - (i + 1))
          case measure => omega
          case rel => exact ⟨i + 1, by omega, by go_num, A5, S5⟩
      · have hil : ¬ (i : Int) < len := by omega
        have e := hT fun j hj => A.out j (by omega)
        subst e
        clear hF hT A
        go_wp2
        go_ret
        exact ⟨rfl, S.out.2.2⟩
  · rw [isb_len hlen]
    have k1 : ¬ (ps.length : Int) = qs.length := by omega
    generalize ps.length = len at *
    generalize qs.length = len' at *
    go_enter Try.func29, Try.ntmps29
    go_wp2
    go_ret
    exact ⟨rfl, ((Below.refl _ w).alloc (Nat.le_refl _) _).alloc (by simp) _⟩

end Go.Proofs.Yteohgmmenlinbah
