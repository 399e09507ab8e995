/- The program's firstThat: its contract, for whatever function it is handed. -/
import Derived.Test.YteohgmmenlinbagDoorBoxI
namespace Go.Proofs.YteohgmmenlinbagDoor
open Go.RowKit Go.Shelf
attribute [local go_sem] Oper.semAt_some
set_option linter.unusedVariables false

/-- A block of cells, whole. -/
def BoxedA (W : World) (B : Nat) (t : TypeId) (vs : Array Value) : Prop := W.heap[B]? = some (.cells vs t (0, 0))
theorem BoxedA.lt {W : World} {B : Nat} {t : TypeId} {vs : Array Value} (h : BoxedA W B t vs) : B < W.heap.size := (Array.getElem?_eq_some_iff.1 h).1
theorem BoxedA.cell {W : World} {B : Nat} {t : TypeId} {vs : Array Value} (h : BoxedA W B t vs) (i : Nat) (v : Value) (hv : vs[i]? = some v) : W.cell? ⟨B, i, none⟩ = some v := by simp [World.cell?, show W.heap[B]? = _ from h, hv]
theorem BoxedA.below {W W' : World} {B : Nat} {t : TypeId} {vs : Array Value} (h : BoxedA W B t vs) (q : Below W.heap.size W W') : BoxedA W' B t vs := (q.block B h.lt).trans h
theorem BoxedA.own {W W' : World} {row : Option Nat} {B : Nat} {t : TypeId} {vs : Array Value} (h : BoxedA W B t vs) (hg : W.grownBy W' row) (hr : ∀ r, row = some r → ∃ o : Obj, W.heap[r]? = some o ∧ o.isCells = false) : BoxedA W' B t vs :=
  (hg.block B h.lt (fun e' => by obtain ⟨o, ho, hc⟩ := hr B e'.symm; rw [show W.heap[B]? = _ from h] at ho; cases ho; cases hc)).trans h
theorem BoxedA.new (W : World) (t : TypeId) (vs : Array Value) : BoxedA (W.alloc (.cells vs t)) W.heap.size t vs := World.alloc_heap_new W _
theorem boxedBelow {W W' : World} {B : Nat} {t : TypeId} {v : Value} (h : Boxed W B t v) (q : Below W.heap.size W W') : Boxed W' B t v := (q.block B h.lt).trans h

/-- What firstThat answers of coordinates that fit or not. -/
def FirstOut (w : World) (len : Nat) (p : Fin len → Bool) (e : Ending) (w' : World) : Prop :=
  ∃ r : Int, e = .returned (.int .i64 r) ∧ ((r = -1 ∧ ∀ x, p x = false) ∨ (∃ x : Fin len, r = (x.1 : Int) ∧ p x = true ∧ ∀ y, y.1 < x.1 → p y = false)) ∧ Below w.heap.size w w'

set_option maxRecDepth 100000 in
set_option maxHeartbeats 2000000 in
theorem firstThat (w : World) (a : Option Addr) (len cap : Nat) (los his : Nat → Int) (hl : len ≤ cap) (hm : len ≤ 1048576) (hI : LiesP (w.heap.size + 4) w.heap.size w a len los his) (g C : Nat)
    (eg : ∀ (args : Array Value) (w : World), Sem.run Tryd.prog (callFunc g args) w = Result.ok (Next.enter g args) w) (p : Fin len → Bool)
    (hg : ∀ (x : Fin len) W, Below w.heap.size w W → Calls Tryd.prog g #[.int .i64 (x.1 : Int), .agg #[.int .i64 (los x.1), .int .i64 (his x.1), .int .u64 (gapI (los x.1) (his x.1))], .pointer (some ⟨C, 0, none⟩)] W fun e W' => e = .returned (.bool (p x)) ∧ Below W.heap.size W W') :
    Calls Tryd.prog 35 #[.agg #[.slice a len cap], .func (.func g) #[] #[.pointer (some ⟨C, 0, none⟩)]] w (FirstOut w len p) := by
  refine (callsIn_wide (n := 5)).1 ?_
  refine callsIn_of_wp_marks Tryd.func35 rfl trivial ?_ rfl
  simp only [Tryd.ntmps35, List.size_toArray, List.length_cons, List.length_nil, Nat.reduceAdd, Nat.reduceSub, Array.replicate_succ, Array.replicate_zero, List.push_toArray, List.append_toArray, List.nil_append, List.cons_append]
  gi_wp2_with (refine ⟨trivial, ?_⟩; gi_at_call 43; refine (spans_in 4 _ _ _ _).mono ?_; rintro e w' ⟨rfl, rfl⟩)
  have bF := ((Boxed.new (w.alloc (.cells #[.slice a len cap] 25)) 74 (.func (.func g) #[] #[.pointer (some ⟨C, 0, none⟩)])).alloc (.cells #[.int .i64 0] 3)).alloc (.cells #[.slice a len cap] 25)
  have bR := (Boxed.new ((w.alloc (.cells #[.slice a len cap] 25)).alloc (.cells #[.func (.func g) #[] #[.pointer (some ⟨C, 0, none⟩)]] 74)) 3 (.int .i64 0)).alloc (.cells #[.slice a len cap] 25)
  have bN := Boxed.new (((w.alloc (.cells #[.slice a len cap] 25)).alloc (.cells #[.func (.func g) #[] #[.pointer (some ⟨C, 0, none⟩)]] 74)).alloc (.cells #[.int .i64 0] 3)) 25 (.slice a len cap)
  simp only [World.size_alloc] at bF bR bN
  have hB0 : Below w.heap.size w ((((w.alloc (.cells #[.slice a len cap] 25)).alloc (.cells #[.func (.func g) #[] #[.pointer (some ⟨C, 0, none⟩)]] 74)).alloc (.cells #[.int .i64 0] 3)).alloc (.cells #[.slice a len cap] 25)) :=
    ((((Below.refl _ w).alloc (Nat.le_refl _) _).alloc (by simp) _).alloc (by simp; omega) _).alloc (by simp; omega) _
  have hsz : ((((w.alloc (.cells #[.slice a len cap] 25)).alloc (.cells #[.func (.func g) #[] #[.pointer (some ⟨C, 0, none⟩)]] 74)).alloc (.cells #[.int .i64 0] 3)).alloc (.cells #[.slice a len cap] 25)).heap.size = w.heap.size + 4 := by simp
  obtain ⟨W0, hW0⟩ : ∃ W0, (((w.alloc (.cells #[.slice a len cap] 25)).alloc (.cells #[.func (.func g) #[] #[.pointer (some ⟨C, 0, none⟩)]] 74)).alloc (.cells #[.int .i64 0] 3)).alloc (.cells #[.slice a len cap] 25) = W0 := ⟨_, rfl⟩
  rw [hW0] at bF bR bN hB0 hsz ⊢
  clear hW0
  refine wpIn_rangeFunc_ownH rfl (by omega) (gf := 48) (lb := #[.pointer (some ⟨w.heap.size + 1 + 1 + 1, 0, none⟩)]) rfl trivial (enters_of Tryd.func48 (by kernel_rfl) rfl)
    (spans_stops 4 (by omega) (w.heap.size + 1 + 1 + 1) (w.heap.size + 4) (w.heap.size + 4) len cap a los his hl hm W0 ⟨by omega, by omega⟩ (by omega) bN.cell ((hI.below (BelowX.of hB0 (Nat.le_refl _))).mono (by omega))) BelowX.trans (belowX_b (by omega)) (Below.refl _ _) (fun _ => rfl)
    (fun pre W => ((∀ x ∈ pre, p x = false) ∧ (Boxed W (w.heap.size + 1) 74 (.func (.func g) #[] #[.pointer (some ⟨C, 0, none⟩)]) ∧ Boxed W (w.heap.size + 1 + 1) 3 (.int .i64 0) ∧ Boxed W (w.heap.size + 1 + 1 + 1) 25 (.slice a len cap))) ∧ Below w.heap.size w W)
    (fun c pre W => (∃ ini last, (c = .ret ∧ pre = ini ++ [last] ∧ (∀ x ∈ ini, p x = false) ∧ p last = true) ∧ Boxed W (w.heap.size + 1 + 1) 3 (.int .i64 (last.1 : Int))) ∧ Below w.heap.size w W)
    (OwnFrom.and (OwnFrom.and (ownFrom_pure _ _) (OwnFrom.and (Own.from (boxed_own _ _ _) _) (OwnFrom.and (Own.from (boxed_own _ _ _) _) (Own.from (boxed_own _ _ _) _)))) (ownFrom_below (Nat.le_refl _) (by omega)))
    (fun c => OwnFrom.and (fun s A B row hs hg' hr => by obtain ⟨ini, last, h1, h2⟩ := hs; exact ⟨ini, last, h1, boxed_own (w.heap.size + 1 + 1) 3 (fun (_ : Unit) => Value.int .i64 (last.1 : Int)) () A B row h2 hg' (fun r e => (hr r e).2)⟩) (ownFrom_below (Nat.le_refl _) (by omega)))
    ⟨⟨by simp, bF, bR, bN⟩, hB0⟩
    (fun x a' W => ∃ Bx, (a' = { tmps := #[.agg #[.slice a len cap], .func (.func g) #[] #[.pointer (some ⟨C, 0, none⟩)], .pointer (some ⟨w.heap.size, 0, none⟩), .pointer (some ⟨w.heap.size + 1, 0, none⟩), .pointer (some ⟨w.heap.size + 1 + 1, 0, none⟩), .int .i64 (x.1 : Int), .pointer (some ⟨Bx, 0, none⟩), .agg #[.slice a len cap], .func (.func 48) #[] #[.pointer (some ⟨w.heap.size + 1 + 1 + 1, 0, none⟩)], .int .i64 (x.1 : Int), .agg #[.int .i64 (los x.1), .int .i64 (his x.1), .int .u64 (gapI (los x.1) (his x.1))], undef, undef, undef, undef, undef], defers := [] }) ∧ BoxedA W Bx 73 #[.int .i64 (los x.1), .int .i64 (his x.1), .int .u64 (gapI (los x.1) (his x.1))])
    (fun x a' _ X Y row hs hg' hr => by obtain ⟨Bx, h1, h2⟩ := hs; exact ⟨Bx, h1, h2.own hg' (fun r e => (hr r e).2)⟩)
    ?assign ?body ?done ?stop
  case assign =>
    rintro l pre x W K ⟨⟨hp, bF1, bR1, bN1⟩, hB1⟩ hK
    gi_wp2
    have q1 : Below W.heap.size W (W.alloc (.cells #[.int .i64 (los x.1), .int .i64 (his x.1), .int .u64 (gapI (los x.1) (his x.1))] 73)) := (Below.refl _ W).alloc (Nat.le_refl _) _
    exact hK _ _ (keeps_of_below q1) (BelowX.of q1 (by have := bN1.lt; omega)) ⟨⟨hp, boxedBelow bF1 q1, boxedBelow bR1 q1, boxedBelow bN1 q1⟩, hB1.trans (q1.mono hB1.size)⟩ ⟨W.heap.size, rfl, BoxedA.new W _ _⟩
  case body =>
    rintro l pre x a' W hl' ⟨r, hr⟩ ⟨⟨hp, bF1, bR1, bN1⟩, hB1⟩ ⟨Bx, rfl, bX⟩ hlt
    have cF := bF1.cell
    have cR := bR1.cell
    have fR := bR1.frozen
    have x0 := bX.cell 0 (.int .i64 (los x.1)) rfl
    have x1 := bX.cell 1 (.int .i64 (his x.1)) rfl
    have x2 := bX.cell 2 (.int .u64 (gapI (los x.1) (his x.1))) rfl
    have hgx := hg x W hB1
    gi_wp2
    refine ⟨trivial, ?_⟩
    refine (CallsIn.inRound l (callsIn_wide.2 hgx)).mono ?_
    rintro e W2 ⟨rfl, q⟩
    have hB2 := hB1.trans (q.mono hB1.size)
    have bF2 := boxedBelow bF1 q
    have bR2 := boxedBelow bR1 q
    have bN2 := boxedBelow bN1 q
    have cR2 := bR2.cell
    have fR2 := bR2.frozen
    cases hpx : p x
    · gi_wp2
      refine ⟨keeps_of_below q, BelowX.of q (by have := bN1.lt; omega), ⟨fun y hy => ?_, bF2, bR2, bN2⟩, hB2⟩
      rcases List.mem_append.1 hy with h | h
      · exact hp y h
      · simp at h; subst h; exact hpx
    · gi_wp2
      exact ⟨(keeps_of_below q).trans ((KeepsOthers.setCell _ _ _).from _), ⟨pre, x, ⟨rfl, rfl, hp, hpx⟩, bR2.set _⟩, hB2.setCell (p := ⟨w.heap.size + 1 + 1, 0, none⟩) (by simp; omega) _⟩
  case done =>
    rintro D ys W hD rfl ⟨⟨hne, bF1, bR1, bN1⟩, hB⟩ hK
    have cR := bR1.cell
    have fR := bR1.frozen
    gi_wp2
    have hK' := (KeepsOthers.setCell W ⟨w.heap.size + 1 + 1, 0, none⟩ (.int .i64 (-1))).same D _ hK rfl
    refine ⟨by simp, .inl ⟨_, _, rfl, run_takeDeferred hK', ?_⟩⟩
    have hc5 := cell_kept (World.cell?_setCell_same' W ⟨w.heap.size + 1 + 1, 0, none⟩ (.int .i64 (-1)) (by rw [cR]; rfl)) (grownBy_putObj' _ D (.deferred none)) (fun r e => by cases e; exact ⟨_, hK', rfl⟩)
    refine ⟨.int .i64 (-1), ?_, -1, rfl, .inl ⟨rfl, fun x => hne x (by rw [uptoF, List.take_of_length_le (by simp)]; exact List.mem_finRange x)⟩, (hB.setCell (p := ⟨w.heap.size + 1 + 1, 0, none⟩) (by simp; omega) _).trans (belowK_b (w := w) (Nat.le_refl _) _ D _ _ (by omega) hK' rfl rfl)⟩
    simp [results, Tryd.f35, go_sem, hc5]
  case stop =>
    rintro D c pre W hD ⟨k, hk, rfl⟩ ⟨⟨ini, last, ⟨rfl, e1, e2, e3⟩, bR1⟩, hB⟩ hK
    have hcr := bR1.cell
    gi_wp2
    refine ⟨by simp, .inl ⟨_, _, rfl, run_takeDeferred hK, ?_⟩⟩
    have hc5 := cell_kept hcr (grownBy_putObj' _ D (.deferred none)) (fun r e => by cases e; exact ⟨_, hK, rfl⟩)
    obtain ⟨k', rfl⟩ : ∃ k', k = k' + 1 := by
      cases k with
      | zero => simp [uptoF] at e1
      | succ k' => exact ⟨k', rfl⟩
    rw [uptoF_succ (by omega)] at e1
    obtain ⟨rfl, e5⟩ := List.append_inj' e1 rfl
    have e6 : (⟨k', by omega⟩ : Fin len) = last := by simpa using e5
    subst e6
    refine ⟨.int .i64 (k' : Int), ?_, (k' : Int), rfl, .inr ⟨_, rfl, e3, fun y hy => e2 y ?_⟩, hB.trans (belowK_b (w := w) (Nat.le_refl _) W D _ _ (by omega) hK rfl rfl)⟩
    · simp [results, Tryd.f35, go_sem, hc5]
    · have hy' : y.1 < k' := hy
      refine List.mem_of_getElem? (i := y.1) ?_
      rw [uptoF, List.getElem?_take_of_lt hy', List.getElem?_eq_getElem (by simp)]
      simp

end Go.Proofs.YteohgmmenlinbagDoor
