/- BoxHalved of the program and of the model: contracts. -/
import Derived.Test.YteohgmmenlinbahBoxXS
namespace Go.Proofs.Yteohgmmenlinbah
open Go.ChangeShapes Go.WideShapes Go.ChangeAt Go.RowKit
set_option linter.unusedVariables false

/-- A coordinate of so many steps came down to half. -/
def halfB (g k : Int) : Bool := decide (0 < g) && decide (k ≤ g / 2)
def halfP (p q : Int × Int) : Bool := halfB (gapI p.1 p.2) (gapI q.1 q.2)
def halvedI (n : Int) (ps qs : List (Int × Int)) : Bool := bokI n ps && (bokI n qs && (isbI qs ps && (List.range ps.length).any fun j => halfP (at2 ps j) (at2 qs j)))

theorem half_any {ps qs : List (Int × Int)} {j : Nat} (hj : j < ps.length) (h : halfP (at2 ps j) (at2 qs j) = true) : ((List.range ps.length).any fun j => halfP (at2 ps j) (at2 qs j)) = true := by
  rw [List.any_eq_true]
  exact ⟨j, List.mem_range.2 hj, h⟩
theorem half_none {ps qs : List (Int × Int)} (h : ∀ j, j < ps.length → halfP (at2 ps j) (at2 qs j) = false) : ((List.range ps.length).any fun j => halfP (at2 ps j) (at2 qs j)) = false := by
  rw [List.any_eq_false]
  intro j hj
  rw [h j (List.mem_range.1 hj)]
  decide

theorem spanOf2 (w : World) (x y : Int) (h1 : (Lit.int .i64 x).wf = true) (h2 : (Lit.int .i64 y).wf = true) :
    Calls Try.prog 35 #[.agg #[.int .i64 x, .int .i64 y]] w fun e w' => e = .returned (.agg #[.int .i64 x, .int .i64 y, .int .u64 (gapI x y)]) ∧ Below w.heap.size w w' := spanOf w x y h1 h2

set_option maxHeartbeats 1000000 in
theorem halfFits (w : World) (i : Nat) (lo hi g blo bhi : Int) (C sb so len cap : Nat) (hil : i < len) (hlc : len ≤ cap) (hm : len ≤ 1048576) (hg0 : 0 ≤ g) (hg1 : g ≤ 18446744073709551615) (wb : (Lit.int .i64 blo).wf = true) (wb' : (Lit.int .i64 bhi).wf = true) (hc : w.cell? ⟨C, 0, none⟩ = some (.slice (some ⟨sb, so, none⟩) len cap)) (hC : C < w.heap.size) (hs : sb < w.heap.size)
    (h0 : w.cell? ⟨sb, so + i * 2, none⟩ = some (.int .i64 blo)) (h1 : w.cell? ⟨sb, so + i * 2 + 1, none⟩ = some (.int .i64 bhi)) :
    Calls Try.prog 34 #[.int .i64 (i : Int), .agg #[.int .i64 lo, .int .i64 hi, .int .u64 g], .pointer (some ⟨C, 0, none⟩)] w fun e w' => e = .returned (.bool (halfB g (gapI blo bhi))) ∧ Below w.heap.size w w' := by
  have hil' : (i : Int) < len := by omega
  have q0 : Below w.heap.size w (w.alloc (.cells #[.int .i64 lo, .int .i64 hi, .int .u64 g] 55)) := (Below.refl _ w).alloc (Nat.le_refl _) _
  have o0 := Own.new w #[.int .i64 lo, .int .i64 hi, .int .u64 g] 55
  have hx : Hid ((w.heap.size < (w.alloc (.cells #[.int .i64 lo, .int .i64 hi, .int .u64 g] 55)).heap.size ∧ C < (w.alloc (.cells #[.int .i64 lo, .int .i64 hi, .int .u64 g] 55)).heap.size ∧ sb < (w.alloc (.cells #[.int .i64 lo, .int .i64 hi, .int .u64 g] 55)).heap.size) ∧ (w.alloc (.cells #[.int .i64 lo, .int .i64 hi, .int .u64 g] 55)).cell? ⟨C, 0, none⟩ = some (.slice (some ⟨sb, so, none⟩) len cap) ∧ (w.alloc (.cells #[.int .i64 lo, .int .i64 hi, .int .u64 g] 55)).cell? ⟨sb, so + i * 2, none⟩ = some (.int .i64 blo) ∧ (w.alloc (.cells #[.int .i64 lo, .int .i64 hi, .int .u64 g] 55)).cell? ⟨sb, so + i * 2 + 1, none⟩ = some (.int .i64 bhi)) :=
    ⟨⟨by simp, by simp; omega, by simp; omega⟩, (q0.cell (p := ⟨C, 0, none⟩) hC).trans hc, (q0.cell (p := ⟨sb, so + i * 2, none⟩) hs).trans h0, (q0.cell (p := ⟨sb, so + i * 2 + 1, none⟩) hs).trans h1⟩
  clear hc h0 h1
  have hk := fun W => spanOf2 W blo bhi wb wb'
  generalize gapI blo bhi = k at *
  have ff := field1 (.int .i64 blo) (.int .i64 bhi) (.int .u64 k)
  by_cases hgp : 0 < g
  · have hd : decide (0 < g) = true := decide_eq_true hgp
    have hhalf : halfB g k = decide (k ≤ g / 2) := by unfold halfB; rw [hd, Bool.true_and]
    rw [hhalf]
    clear hhalf
    go_enter Try.func34, Try.ntmps34
    go_wp2
    generalize w.alloc (.cells #[.int .i64 lo, .int .i64 hi, .int .u64 g] 55) = W1 at *
    refine region_below (by kernel_rfl) (by kernel_rfl) ?_
    repeat (first
      | go_big_quiet_step (first
        | (intro hC; go_at_call 35; exact Calls.qb hC (hk _))
        | (intro _; rfl))
      | (go_big_quiet_want
         go_big_quiet_op
         refine ⟨.slice (some ⟨sb, so, none⟩) len cap, ?_, ?_⟩
         · intro W hC
           have r0 := (hC.cell (p := ⟨C, 0, none⟩) hx.out.1.2.1).trans hx.out.2.1
           go_simp
         go_big_quiet_on)
      | (go_big_quiet_want
         go_big_quiet_op
         refine ⟨.pointer (some ⟨sb, so + i * 2, none⟩), ?_, ?_⟩
         · intro W hC
           go_simp
         go_big_quiet_on)
      | (go_big_quiet_want
         go_big_quiet_op
         refine ⟨.agg #[.int .i64 blo, .int .i64 bhi], ?_, ?_⟩
         · intro W hC
           have r2 := (hC.cell (p := ⟨sb, so + i * 2, none⟩) hx.out.1.2.2).trans hx.out.2.2.1
           have r3 := (hC.cell (p := ⟨sb, so + i * 2 + 1, none⟩) hx.out.1.2.2).trans hx.out.2.2.2
           go_simp
         go_big_quiet_on)
      | (go_big_quiet_want
         go_big_quiet_op
         refine ⟨.int .u64 g, ?_, ?_⟩
         · intro W hC
           have r0 := (hC.cell (p := ⟨w.heap.size, 2, none⟩) hx.out.1.1).trans (o0.cell 2 _ rfl)
           go_simp
         go_big_quiet_on)
      | (go_big_quiet_want
         go_big_quiet_op
         refine ⟨.int .u64 k, ?_, ?_⟩
         · intro W hC
           exact ff W
         go_big_quiet_on)
      | (go_big_quiet_want
         go_big_quiet_op
         refine ⟨.int .u64 (g / 2), ?_, ?_⟩
         · intro W hC
           go_simp
         go_big_quiet_on)
      | (go_big_quiet_want
         go_big_quiet_op
         refine ⟨.bool (decide (k ≤ g / 2)), ?_, ?_⟩
         · intro W hC
           go_simp
         go_big_quiet_on)
      | (go_big_quiet_want
         go_big_quiet_op
         refine ⟨.bool true, ?_, ?_⟩
         · intro W hC
           go_simp
         go_big_quiet_on)      )
    refine wpQuiet_nil ?_
    intro w4 q4
    go_wp2
    go_ret
    refine ⟨?_, q0.trans (q4.mono q0.size)⟩
    have e2 : IntKind.u64.wrap (g.tdiv 2) = g / 2 := by
      rw [IntKind.wrap_u64, Int.tdiv_eq_ediv_of_nonneg hg0]
      omega
    rw [← e2]
    rfl
  · have hd : decide (0 < g) = false := decide_eq_false hgp
    have hhalf : halfB g k = false := by unfold halfB; rw [decide_eq_false hgp, Bool.false_and]
    rw [hhalf]
    clear hhalf
    go_enter Try.func34, Try.ntmps34
    go_wp2
    generalize w.alloc (.cells #[.int .i64 lo, .int .i64 hi, .int .u64 g] 55) = W1 at *
    refine region_below (by kernel_rfl) (by kernel_rfl) ?_
    repeat (first
      | go_big_quiet_step (first
        | (intro hC; go_at_call 35; exact Calls.qb hC (hk _))
        | (intro _; rfl))
      | (go_big_quiet_want
         go_big_quiet_op
         refine ⟨.slice (some ⟨sb, so, none⟩) len cap, ?_, ?_⟩
         · intro W hC
           have r0 := (hC.cell (p := ⟨C, 0, none⟩) hx.out.1.2.1).trans hx.out.2.1
           go_simp
         go_big_quiet_on)
      | (go_big_quiet_want
         go_big_quiet_op
         refine ⟨.pointer (some ⟨sb, so + i * 2, none⟩), ?_, ?_⟩
         · intro W hC
           go_simp
         go_big_quiet_on)
      | (go_big_quiet_want
         go_big_quiet_op
         refine ⟨.agg #[.int .i64 blo, .int .i64 bhi], ?_, ?_⟩
         · intro W hC
           have r2 := (hC.cell (p := ⟨sb, so + i * 2, none⟩) hx.out.1.2.2).trans hx.out.2.2.1
           have r3 := (hC.cell (p := ⟨sb, so + i * 2 + 1, none⟩) hx.out.1.2.2).trans hx.out.2.2.2
           go_simp
         go_big_quiet_on)
      | (go_big_quiet_want
         go_big_quiet_op
         refine ⟨.int .u64 g, ?_, ?_⟩
         · intro W hC
           have r0 := (hC.cell (p := ⟨w.heap.size, 2, none⟩) hx.out.1.1).trans (o0.cell 2 _ rfl)
           go_simp
         go_big_quiet_on)
      | (go_big_quiet_want
         go_big_quiet_op
         refine ⟨.int .u64 k, ?_, ?_⟩
         · intro W hC
           exact ff W
         go_big_quiet_on)
      | (go_big_quiet_want
         go_big_quiet_op
         refine ⟨.int .u64 (g / 2), ?_, ?_⟩
         · intro W hC
           go_simp
         go_big_quiet_on)
      | (go_big_quiet_want
         go_big_quiet_op
         refine ⟨.bool (decide (k ≤ g / 2)), ?_, ?_⟩
         · intro W hC
           go_simp
         go_big_quiet_on)
      | (go_big_quiet_want
         go_big_quiet_op
         refine ⟨.bool false, ?_, ?_⟩
         · intro W hC
           go_simp
         go_big_quiet_on)      )
    refine wpQuiet_nil ?_
    intro w4 q4
    go_wp2
    go_ret
    exact ⟨rfl, q0.trans (q4.mono q0.size)⟩

set_option maxHeartbeats 1000000 in
theorem implBoxHalved (w : World) (n : Int) (a b : Option Addr) (ps qs : List (Int × Int)) (cap cap' : Nat) (h : PairsAt w a ps) (h' : PairsAt w b qs) (hl : ps.length ≤ cap) (hl' : qs.length ≤ cap') (hm : ps.length ≤ 1048576) (hm' : qs.length ≤ 1048576) :
    Calls Try.prog 12 #[.int .i64 n, .agg #[.slice a ps.length cap], .agg #[.slice b qs.length cap']] w fun e w' => e = .returned (.bool (halvedI n ps qs)) ∧ Below w.heap.size w w' := by
  have q0 : Below w.heap.size w ((w.alloc (.cells #[.slice a ps.length cap] 29)).alloc (.cells #[.slice b qs.length cap'] 29)) := ((Below.refl _ w).alloc (Nat.le_refl _) _).alloc (by simp) _
  have oA := (Own.new w #[.slice a ps.length cap] 29).alloc (.cells #[.slice b qs.length cap'] 29)
  have oB := Own.new (w.alloc (.cells #[.slice a ps.length cap] 29)) #[.slice b qs.length cap'] 29
  simp only [World.size_alloc] at oB
  have k1 := fun W (q : Below w.heap.size w W) => implBoxOk W n a ps cap (h.below q) hl hm
  have k2 := fun W (q : Below w.heap.size w W) => implBoxOk W n b qs cap' (h'.below q) hl' hm'
  have k3 := fun W (q : Below w.heap.size w W) => implBoxIs W b a qs ps cap' cap (h'.below q) (h.below q) hl' hl hm' hm
  have hF := fun W (q : Below w.heap.size w W) (oW : Own W (w.heap.size + 1) [.slice b qs.length cap']) (hlen : ps.length = qs.length) => firstThat W a ps.length cap _ _ hl hm ((h.below q).lies (by omega) (Nat.le_refl _)) 34 (w.heap.size + 1) (enters_of Try.func34 (by kernel_rfl) rfl)
      (fun x => halfP (at2 ps x.1) (at2 qs x.1)) (fun x V hV => by
        have hx' : x.1 < qs.length := by have := x.2; omega
        have hB := (h'.below q).below hV
        have wq := hB.wfD hx'
        have wp := h.wfD x.2
        have hg := gap_bounds wp.1 wp.2
        obtain ⟨sb, so, hb, hlt, c0, c1⟩ := hB.atD hx'
        subst hb
        exact halfFits V x.1 _ _ _ _ _ (w.heap.size + 1) sb so qs.length cap' hx' hl' hm' hg.1 hg.2 wq.1 wq.2 ((hV.cell (p := ⟨w.heap.size + 1, 0, none⟩) oW.lt).trans (oW.cell 0 _ rfl)) (Nat.lt_of_lt_of_le oW.lt hV.size) hlt c0 c1)
  have hfin : ∀ r : Int, ((r = -1 ∧ ∀ x : Fin ps.length, halfP (at2 ps x.1) (at2 qs x.1) = false) ∨ (∃ x : Fin ps.length, r = (x.1 : Int) ∧ halfP (at2 ps x.1) (at2 qs x.1) = true ∧ ∀ y : Fin ps.length, y.1 < x.1 → halfP (at2 ps y.1) (at2 qs y.1) = false)) → (!decide (r = -1)) = (List.range ps.length).any fun j => halfP (at2 ps j) (at2 qs j) := by
    rintro r (⟨rfl, hall⟩ | ⟨x, rfl, hx, _⟩)
    · rw [half_none fun j hj => hall ⟨j, hj⟩]
      rfl
    · rw [half_any x.2 hx]
      simp only [Bool.not_eq_true', decide_eq_false_iff_not]
      omega
  unfold halvedI
  cases h1 : bokI n ps
  · rw [h1] at k1
    clear hF hfin k2 k3
    generalize ps.length = len at *
    generalize qs.length = len' at *
    have q0' : Hid _ := q0
    go_enter Try.func12, Try.ntmps12
    go_wp2_with (go_at_call 32; refine (k1 _ q0).mono ?_; clear k1; rintro e w2 ⟨rfl, q⟩)
    go_ret
    exact ⟨rfl, q0'.out.trans (q.mono q0'.out.size)⟩
  cases h2 : bokI n qs
  · rw [h1] at k1
    rw [h2] at k2
    clear hF hfin k3
    generalize ps.length = len at *
    generalize qs.length = len' at *
    go_enter Try.func12, Try.ntmps12
    go_wp2_with first
      | (go_at_call 32; refine (k1 _ q0).mono ?_; clear k1; rintro e w2 ⟨rfl, q⟩; replace q0 := q0.trans (q.mono q0.size); replace oB := oB.below q; clear q; have c1 := oB.cell 0 _ rfl)
      | (go_at_call 32; refine (k2 _ q0).mono ?_; clear k2; rintro e w3 ⟨rfl, q⟩; replace q0 := q0.trans (q.mono q0.size); clear q)
    go_ret
    exact ⟨rfl, q0⟩
  cases h3 : isbI qs ps
  · rw [h1] at k1
    rw [h2] at k2
    rw [h3] at k3
    clear hF hfin
    generalize ps.length = len at *
    generalize qs.length = len' at *
    go_enter Try.func12, Try.ntmps12
    go_wp2_with first
      | (go_at_call 32; refine (k1 _ q0).mono ?_; clear k1; rintro e w2 ⟨rfl, q⟩; replace q0 := q0.trans (q.mono q0.size); replace oA := oA.below q; replace oB := oB.below q; clear q; have c1 := oB.cell 0 _ rfl)
      | (go_at_call 32; refine (k2 _ q0).mono ?_; clear k2 c1; rintro e w3 ⟨rfl, q⟩; replace q0 := q0.trans (q.mono q0.size); replace oA := oA.below q; replace oB := oB.below q; clear q; have c0 := oA.cell 0 _ rfl; have c1 := oB.cell 0 _ rfl)
      | (go_at_call 33; refine (k3 _ q0).mono ?_; clear k3; rintro e w4 ⟨rfl, q⟩; replace q0 := q0.trans (q.mono q0.size); clear q)
    go_ret
    exact ⟨rfl, q0⟩
  have hlen := (isb_iff.1 h3).1.symm
  rw [h1] at k1
  rw [h2] at k2
  rw [h3] at k3
  simp only [Bool.true_and]
  generalize ((List.range ps.length).any fun j => halfP (at2 ps j) (at2 qs j)) = B at *
  replace hF := fun W q oW => hF W q oW hlen
  clear h1 h2 h3 hlen
  have e1 : Hid (ps.length = ps.length) := rfl
  obtain ⟨len, hlen'⟩ : ∃ len, ps.length = len := ⟨_, rfl⟩
  simp only [hlen'] at q0 oA oB hF hfin k1 k2 k3 ⊢
  generalize qs.length = len' at *
  clear e1 hl hm hl' hm'
  go_enter Try.func12, Try.ntmps12
  go_wp2_with first
    | (go_at_call 32; refine (k1 _ q0).mono ?_; clear k1; rintro e w2 ⟨rfl, q⟩; replace q0 := q0.trans (q.mono q0.size); replace oA := oA.below q; replace oB := oB.below q; clear q; have c1 := oB.cell 0 _ rfl)
    | (go_at_call 32; refine (k2 _ q0).mono ?_; clear k2 c1; rintro e w3 ⟨rfl, q⟩; replace q0 := q0.trans (q.mono q0.size); replace oA := oA.below q; replace oB := oB.below q; clear q; have c0 := oA.cell 0 _ rfl; have c1 := oB.cell 0 _ rfl)
    | (go_at_call 33; refine (k3 _ q0).mono ?_; clear k3 c0 c1; rintro e w4 ⟨rfl, q⟩; replace q0 := q0.trans (q.mono q0.size); replace oA := oA.below q; replace oB := oB.below q; clear q; have c0 := oA.cell 0 _ rfl)
    | (go_at_call 36; refine (hF _ q0 oB).mono ?_; clear hF; rintro e w5 ⟨r, rfl, hr, q⟩)
  go_ret
  exact ⟨by rw [← hfin r hr]; rfl, q0.trans (q.mono q0.size)⟩

end Go.Proofs.Yteohgmmenlinbah
