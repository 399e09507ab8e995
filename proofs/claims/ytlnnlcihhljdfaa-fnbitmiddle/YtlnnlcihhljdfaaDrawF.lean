/- The contracts of the model's 'l5Open' and 'l5Two'. -/
import Derived.Test.YtlnnlcihhljdfaaDrawE
namespace Go.Proofs.Ytlnnlcihhljdfaa
open Go.ChangeShapes Go.WideShapes Go.ChangeAt Go.RowKit
set_option linter.unusedVariables false

/-- The bytes of a code: what the law is handed. -/
def Code8 (w : World) (a : Option Addr) (len : Nat) : Prop :=
  len = 0 ∨ ∃ rb ro, a = some ⟨rb, ro, none⟩ ∧ rb < w.heap.size ∧ ∀ j, j < len → ∃ z : Int, 0 ≤ z ∧ z ≤ 255 ∧ w.cell? ⟨rb, ro + j, none⟩ = some (.int .u8 z)

theorem code8_of {w : World} {x : Addr} {len cap : Nat} {zs : List Int} (hl : len ≤ cap) (hz : zs.length = cap) (hcell : ∀ i, i < zs.length → w.cell? (x.add i) = some (.int .u8 (zs.getD i 0)))
    (hwf : ∀ n ∈ zs, (Lit.int .u8 n).wf = true) : Code8 w (some x) len := by
  by_cases h0 : len = 0
  · exact .inl h0
  · obtain ⟨b, off, rfl, hc⟩ := ints_at hcell (by omega)
    refine .inr ⟨b, off, rfl, ?_, fun j hj => ?_⟩
    · have h := hc 0 (by omega)
      rcases Nat.lt_or_ge b w.heap.size with hb | hb
      · exact hb
      · simp [World.cell?, Array.getElem?_eq_none hb] at h
    · refine ⟨zs.getD j 0, ?_, ?_, hc j (by omega)⟩ <;>
        have hm : zs.getD j 0 ∈ zs := by rw [List.getD_eq_getElem?_getD, List.getElem?_eq_getElem (show j < zs.length by omega)]; exact List.getElem_mem _
      · have := bounds_u8 (hwf _ hm); omega
      · have := bounds_u8 (hwf _ hm); omega

theorem rd_new {w : World} {a : Option Addr} {len n cap : Nat} {t : TypeId} (hc : Code8 w a len) (hn : n ≤ len) (h2 : n ≤ 2000) : Rd (w.alloc (.cells #[.slice a n cap, .int .i64 0] t)) w.heap.size 0 := by
  refine ⟨by simp, a, n, cap, 0, h2, Int.le_refl _, Int.le_refl _, ?_, ?_, by simp, ?_⟩
  · rw [World.cell?_alloc_new]; rfl
  · rw [World.cell?_alloc_new]; rfl
  · rcases hc with hc | ⟨rb, ro, ha, hlt, hcell⟩
    · exact .inl (by omega)
    · refine .inr ⟨rb, ro, ha, hlt, fun j hj => ?_⟩
      obtain ⟨z, z0, z1, hz⟩ := hcell j (by omega)
      exact ⟨z, z0, z1, (World.cell?_alloc_lt _ _ _ hlt).trans hz⟩

theorem opened (w : World) (a : Option Addr) (len cap : Nat) (hc : Code8 w a len) (hl : len ≤ cap) (hm : len ≤ 1048576) :
    Calls Try.prog 9 #[.slice a len cap] w fun e w' => e = .returned (.pointer (some ⟨w.heap.size, 0, none⟩)) ∧ Rd w' w.heap.size 0 ∧ Keep w.heap.size w w' := by
  by_cases h2 : 2000 < len
  · go_enter Try.func9, Try.ntmps9
    go_wp2
    go_ret
    exact ⟨rfl, rd_new hc (by omega) (by omega), (Keep.refl _ _).alloc _⟩
  · go_enter Try.func9, Try.ntmps9
    go_wp2
    go_ret
    exact ⟨rfl, rd_new hc (by omega) (by omega), (Keep.refl _ _).alloc _⟩

def TwoOut (w : World) (e : Ending) (w' : World) : Prop :=
  ∃ x y, e = .returned (.tuple #[.int .i64 x, .int .i64 y]) ∧ (Lit.int .i64 x).wf = true ∧ (Lit.int .i64 y).wf = true ∧ Below w.heap.size w w'

theorem two_at {w w2 : World} {b : Nat} {l r : Int} (hb : b < w.heap.size) (h : St (w.alloc (.cells #[.int .i64 32, .int .i64 64] 3)) b l w2) (h0 : 0 ≤ r) (h1 : r < 2) :
    ∃ v : Int, w2.cell? ⟨w.heap.size, r.toNat, none⟩ = some (.int .i64 v) := by
  have e : r = 0 ∨ r = 1 := by omega
  rcases e with rfl | rfl
  · exact ⟨_, (h.laid hb 0 _ rfl).1⟩
  · exact ⟨_, (h.laid hb 1 _ rfl).1⟩

theorem two (w : World) (a : Option Addr) (len cap : Nat) (hc : Code8 w a len) (hl : len ≤ cap) (hm : len ≤ 1048576) :
    Calls Try.prog 8 #[.slice a len cap] w (TwoOut w) := by
  have ho := opened w a len cap hc hl hm
  go_enter Try.func8, Try.ntmps8
  go_wp2_with (go_at_call 9; go_must (refine ho.mono ?_); clear ho hc; rintro e w1 ⟨rfl, hr, hk⟩)
  have hr0 := hr.alloc (.cells #[.int .i64 32, .int .i64 64] 3)
  have hb1 := hr.1
  go_wp2_with first
    | (go_at_call 11; refine (pickSt (St.start hr0) (by omega)).mono ?_; clear hr0 hr; rintro e w2 ⟨r, rfl, r0, r1, h⟩; replace r1 := r1 (by omega); obtain ⟨v, hv⟩ := two_at hb1 h r0 r1; have hk2 := (hk.alloc _).trans h.2; have hr2 := h.1; clear hk h)
    | (go_at_call 10; refine (pair _ _ _ _ hr2 (by omega)).mono ?_; rintro e w3 ⟨x, y, rfl, wx, wy, hr3, hk3⟩; replace hk3 := hk2.trans hk3; clear hr2 hk2)
  clear hv
  have hb3 := hr3.1
  have hr4 := hr3.alloc (.cells #[.int .i64 x, .int .i64 y] 32)
  go_wp2_with first
    | (go_at_call 11; refine (pickSt (St.start hr4) (by omega)).mono ?_; clear hr4 hr3; rintro e w4 ⟨q, rfl, q0, -, h⟩; have d0 := (h.laid hb3 0 _ rfl).1; have d1 := (h.laid hb3 1 _ rfl).1; simp only [List.getElem_toArray, List.getElem_cons_zero, List.getElem_cons_succ] at d0 d1; have hk4 := (hk3.alloc _).trans h.2)
    | (go_at_call 12; refine (bigSt h (by omega)).mono ?_; clear h; rintro e w5 ⟨u, rfl, -, -, h⟩; have hk5 := (hk3.alloc _).trans h.2)
  · go_ret2
    exact ⟨_, _, rfl, wrap64_wf _, wrap64_wf _, hk5.below (Nat.le_refl _) (Nat.le_refl _)⟩
  · go_quiet (fail)
    go_wp2
    go_ret2
    exact ⟨_, _, rfl, wx, wy, (hk4.drewN _).below (Nat.le_refl _) (Nat.le_refl _)⟩

end Go.Proofs.Ytlnnlcihhljdfaa
