/- BoxIs of the program: its contract. -/
import Derived.Test.YteohgmmenlinbacDoorBoxG
import Derived.Test.YteohgmmenlinbacDoorJB
import Derived.Test.YteohgmmenlinbacDoorPairC
namespace Go.Proofs.YteohgmmenlinbacDoor
open Go.ChangeShapes Go.WideShapes Go.ChangeAt Go.RowKit
set_option linter.unusedVariables false

def isP (p q : Int × Int) : Bool := isB p.1 p.2 q.1 q.2
/-- One box lies within another one. -/
def isbI (ps qs : List (Int × Int)) : Bool := decide (ps.length = qs.length) && (List.range ps.length).all fun j => isP (at2 ps j) (at2 qs j)

theorem isb_true {ps qs : List (Int × Int)} (hl : ps.length = qs.length) (h : ∀ j, j < ps.length → isP (at2 ps j) (at2 qs j) = true) : isbI ps qs = true := by
  unfold isbI
  rw [decide_eq_true hl, Bool.true_and, List.all_eq_true]
  intro j hj
  exact h j (List.mem_range.1 hj)
theorem isb_false {ps qs : List (Int × Int)} {j : Nat} (hj : j < ps.length) (h : isP (at2 ps j) (at2 qs j) = false) : isbI ps qs = false := by
  unfold isbI
  have : ((List.range ps.length).all fun j => isP (at2 ps j) (at2 qs j)) = false := by
    rw [List.all_eq_false]
    exact ⟨j, List.mem_range.2 hj, by rw [h]; decide⟩
  rw [this, Bool.and_false]
theorem isb_len {ps qs : List (Int × Int)} (h : ¬ ps.length = qs.length) : isbI ps qs = false := by
  unfold isbI
  rw [decide_eq_false h, Bool.false_and]
theorem isb_iff {ps qs : List (Int × Int)} : isbI ps qs = true ↔ ps.length = qs.length ∧ ∀ j, j < ps.length → isP (at2 ps j) (at2 qs j) = true := by
  constructor
  · intro h
    unfold isbI at h
    rw [Bool.and_eq_true, decide_eq_true_eq, List.all_eq_true] at h
    exact ⟨h.1, fun j hj => h.2 j (List.mem_range.2 hj)⟩
  · exact fun h => isb_true h.1 h.2

set_option maxHeartbeats 1000000 in
theorem isFits (w : World) (i : Nat) (lo hi g blo bhi : Int) (C sb so len cap : Nat) (hil : i < len) (hlc : len ≤ cap) (hm : len ≤ 1048576) (hc : w.cell? ⟨C, 0, none⟩ = some (.slice (some ⟨sb, so, none⟩) len cap)) (hC : C < w.heap.size) (hs : sb < w.heap.size)
    (h0 : w.cell? ⟨sb, so + i * 2, none⟩ = some (.int .i64 blo)) (h1 : w.cell? ⟨sb, so + i * 2 + 1, none⟩ = some (.int .i64 bhi)) :
    Calls Tryd.prog 20 #[.int .i64 (i : Int), .agg #[.int .i64 lo, .int .i64 hi, .int .u64 g], .pointer (some ⟨C, 0, none⟩)] w fun e w' => e = .returned (.bool (!isB lo hi blo bhi)) ∧ Below w.heap.size w w' := by
  have hil' : (i : Int) < len := by omega
  have q0 : Below w.heap.size w (w.alloc (.cells #[.int .i64 lo, .int .i64 hi, .int .u64 g] 45)) := (Below.refl _ w).alloc (Nat.le_refl _) _
  have o0 := Own.new w #[.int .i64 lo, .int .i64 hi, .int .u64 g] 45
  have hx : Hid ((w.heap.size < (w.alloc (.cells #[.int .i64 lo, .int .i64 hi, .int .u64 g] 45)).heap.size ∧ C < (w.alloc (.cells #[.int .i64 lo, .int .i64 hi, .int .u64 g] 45)).heap.size ∧ sb < (w.alloc (.cells #[.int .i64 lo, .int .i64 hi, .int .u64 g] 45)).heap.size) ∧ (w.alloc (.cells #[.int .i64 lo, .int .i64 hi, .int .u64 g] 45)).cell? ⟨C, 0, none⟩ = some (.slice (some ⟨sb, so, none⟩) len cap) ∧ (w.alloc (.cells #[.int .i64 lo, .int .i64 hi, .int .u64 g] 45)).cell? ⟨sb, so + i * 2, none⟩ = some (.int .i64 blo) ∧ (w.alloc (.cells #[.int .i64 lo, .int .i64 hi, .int .u64 g] 45)).cell? ⟨sb, so + i * 2 + 1, none⟩ = some (.int .i64 bhi)) :=
    ⟨⟨by simp, by simp; omega, by simp; omega⟩, (q0.cell (p := ⟨C, 0, none⟩) hC).trans hc, (q0.cell (p := ⟨sb, so + i * 2, none⟩) hs).trans h0, (q0.cell (p := ⟨sb, so + i * 2 + 1, none⟩) hs).trans h1⟩
  clear hc h0 h1
  go_enter Tryd.func20, Tryd.ntmps20
  go_wp2
  generalize w.alloc (.cells #[.int .i64 lo, .int .i64 hi, .int .u64 g] 45) = W1 at *
  refine region_below (by kernel_rfl) (by kernel_rfl) ?_
  repeat (first
    | go_big_quiet_step (first
      | (intro hC; go_at_call 21; exact Calls.qb hC (implIs _ lo hi blo bhi))
      | (intro _; rfl))
    | (go_big_quiet_want
       go_big_quiet_op
       refine ⟨.slice (some ⟨sb, so, none⟩) len cap, ?_, ?_⟩
       · intro W hC
         have r0 := (hC.cell (p := ⟨C, 0, none⟩) hx.out.1.2.1).trans hx.out.2.1
         go_simp
       go_big_quiet_on)
    | (go_big_quiet_want
       go_big_quiet_op
       refine ⟨.pointer (some ⟨sb, so + i * 2, none⟩), ?_, ?_⟩
       · intro W hC
         go_simp
       go_big_quiet_on)
    | (go_big_quiet_want
       go_big_quiet_op
       refine ⟨.agg #[.int .i64 lo, .int .i64 hi], ?_, ?_⟩
       · intro W hC
         have r0 := (hC.cell (p := ⟨w.heap.size, 0, none⟩) hx.out.1.1).trans (o0.cell 0 _ rfl)
         have r1 := (hC.cell (p := ⟨w.heap.size, 1, none⟩) hx.out.1.1).trans (o0.cell 1 _ rfl)
         go_simp
       go_big_quiet_on)
    | (go_big_quiet_want
       go_big_quiet_op
       refine ⟨.agg #[.int .i64 blo, .int .i64 bhi], ?_, ?_⟩
       · intro W hC
         have r2 := (hC.cell (p := ⟨sb, so + i * 2, none⟩) hx.out.1.2.2).trans hx.out.2.2.1
         have r3 := (hC.cell (p := ⟨sb, so + i * 2 + 1, none⟩) hx.out.1.2.2).trans hx.out.2.2.2
         go_simp
       go_big_quiet_on))
  refine wpQuiet_nil ?_
  intro w4 q4
  go_wp2
  go_ret
  exact ⟨rfl, q0.trans (q4.mono q0.size)⟩

theorem implBoxIs (w : World) (a b : Option Addr) (ps qs : List (Int × Int)) (cap cap' : Nat) (h : PairsAt w a ps) (h' : PairsAt w b qs) (hl : ps.length ≤ cap) (hl' : qs.length ≤ cap') (hm : ps.length ≤ 1048576) (hm' : qs.length ≤ 1048576) :
    Calls Tryd.prog 8 #[.agg #[.slice a ps.length cap], .agg #[.slice b qs.length cap']] w fun e w' => e = .returned (.bool (isbI ps qs)) ∧ Below w.heap.size w w' := by
  have q0 : Below w.heap.size w ((w.alloc (.cells #[.slice a ps.length cap] 25)).alloc (.cells #[.slice b qs.length cap'] 25)) := ((Below.refl _ w).alloc (Nat.le_refl _) _).alloc (by simp) _
  by_cases hlen : ps.length = qs.length
  · have oB := Own.new (w.alloc (.cells #[.slice a ps.length cap] 25)) #[.slice b qs.length cap'] 25
    simp only [World.size_alloc] at oB
    have hF := firstThat _ a ps.length cap _ _ hl hm ((h.below q0).lies (by omega) (Nat.le_refl _)) 20 (w.heap.size + 1) (enters_of Tryd.func20 (by kernel_rfl) rfl)
      (fun x => !isP (at2 ps x.1) (at2 qs x.1)) (fun x W hW => by
        have hx' : x.1 < qs.length := by have := x.2; omega
        have hB := (h'.below q0).below hW
        obtain ⟨sb, so, hb, hlt, c0, c1⟩ := hB.atD hx'
        subst hb
        exact isFits W x.1 _ _ _ _ _ (w.heap.size + 1) sb so qs.length cap' hx' hl' hm' ((hW.cell (p := ⟨w.heap.size + 1, 0, none⟩) oB.lt).trans (oB.cell 0 _ rfl)) (Nat.lt_of_lt_of_le oB.lt hW.size) hlt c0 c1)
    have hfin : ∀ r : Int, ((r = -1 ∧ ∀ x : Fin ps.length, (!isP (at2 ps x.1) (at2 qs x.1)) = false) ∨ (∃ x : Fin ps.length, r = (x.1 : Int) ∧ (!isP (at2 ps x.1) (at2 qs x.1)) = true ∧ ∀ y : Fin ps.length, y.1 < x.1 → (!isP (at2 ps y.1) (at2 qs y.1)) = false)) → decide (r = -1) = isbI ps qs := by
      rintro r (⟨rfl, hall⟩ | ⟨x, rfl, hx, _⟩)
      · rw [isb_true hlen fun j hj => by simpa using hall ⟨j, hj⟩]
        rfl
      · rw [isb_false x.2 (by simpa using hx)]
        simp only [decide_eq_false_iff_not]
        omega
    generalize isbI ps qs = B at *
    have e1 : ps.length = ps.length := rfl
    rw [← hlen] at q0 oB hF ⊢
    obtain ⟨len, hlen'⟩ : ∃ len, ps.length = len := ⟨_, rfl⟩
    simp only [hlen'] at q0 oB hF hfin ⊢
    have q0' : Hid _ := q0
    clear h h' q0 oB
    go_enter Tryd.func8, Tryd.ntmps8
    go_wp2_with (go_at_call 22; refine hF.mono ?_; clear hF; rintro e w2 ⟨r, rfl, hr, q⟩)
    go_ret
    exact ⟨by rw [← hfin r hr]; rfl, q0'.out.trans (q.mono (by simp; omega))⟩
  · rw [isb_len hlen]
    have k1 : ¬ (ps.length : Int) = qs.length := by omega
    generalize ps.length = len at *
    generalize qs.length = len' at *
    go_enter Tryd.func8, Tryd.ntmps8
    go_wp2
    go_ret
    exact ⟨rfl, q0⟩

end Go.Proofs.YteohgmmenlinbacDoor
