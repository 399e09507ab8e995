/- The program's fold at int: its contract, for whatever function it is handed. -/
import Derived.Test.YteohgmmenlinbaaJB
namespace Go.Proofs.Yteohgmmenlinbaa
open Go.RowKit Go.Shelf
attribute [local go_sem] Oper.semAt_some
set_option linter.unusedVariables false

set_option maxRecDepth 100000 in
set_option maxHeartbeats 2000000 in
theorem foldI (w : World) (a : Option Addr) (len cap : Nat) (los his : Nat → Int) (hl : len ≤ cap) (hm : len ≤ 1048576) (hI : LiesP (w.heap.size + 1) w.heap.size w a len los his) (g : Nat)
    (eg : ∀ (args : Array Value) (w : World), Sem.run Try.prog (callFunc g args) w = Result.ok (Next.enter g args) w) (v0 : Int) (tk : Int → Fin len → Int)
    (hg : ∀ (pre : List (Fin len)) (x : Fin len) W, pre.length < len → Calls Try.prog g #[.int .i64 (pre.foldl tk v0), .agg #[.int .i64 (los x.1), .int .i64 (his x.1), .int .u64 (gapI (los x.1) (his x.1))]] W fun e W' => e = .returned (.int .i64 (tk (pre.foldl tk v0) x)) ∧ Below W.heap.size W W') :
    Calls Try.prog 39 #[.agg #[.slice a len cap], .int .i64 v0, .func (.func g) #[] #[]] w fun e w' => e = .returned (.int .i64 ((List.finRange len).foldl tk v0)) ∧ Below w.heap.size w w' := by
  refine (callsIn_wide (n := 5)).1 ?_
  refine callsIn_of_wp_marks Try.func39 rfl trivial ?_ rfl
  simp only [Try.ntmps39, List.size_toArray, List.length_cons, List.length_nil, Nat.reduceAdd, Nat.reduceSub, Array.replicate_succ, Array.replicate_zero, List.push_toArray, List.append_toArray, List.nil_append, List.cons_append]
  gi_wp2_with (refine ⟨trivial, ?_⟩; gi_at_call 80; refine (spans_in 4 _ _ _ _).mono ?_; rintro e w' ⟨rfl, rfl⟩)
  have bV := ((Boxed.new (w.alloc (.cells #[.slice a len cap] 25)) 3 (.int .i64 v0)).alloc (.cells #[.func (.func g) #[] #[]] 63)).alloc (.cells #[.slice a len cap] 25)
  have bF := (Boxed.new ((w.alloc (.cells #[.slice a len cap] 25)).alloc (.cells #[.int .i64 v0] 3)) 63 (.func (.func g) #[] #[])).alloc (.cells #[.slice a len cap] 25)
  have bN := Boxed.new (((w.alloc (.cells #[.slice a len cap] 25)).alloc (.cells #[.int .i64 v0] 3)).alloc (.cells #[.func (.func g) #[] #[]] 63)) 25 (.slice a len cap)
  simp only [World.size_alloc] at bF bV bN
  have hB0 : Below w.heap.size w ((((w.alloc (.cells #[.slice a len cap] 25)).alloc (.cells #[.int .i64 v0] 3)).alloc (.cells #[.func (.func g) #[] #[]] 63)).alloc (.cells #[.slice a len cap] 25)) :=
    ((((Below.refl _ w).alloc (Nat.le_refl _) _).alloc (by simp) _).alloc (by simp; omega) _).alloc (by simp; omega) _
  have hsz : ((((w.alloc (.cells #[.slice a len cap] 25)).alloc (.cells #[.int .i64 v0] 3)).alloc (.cells #[.func (.func g) #[] #[]] 63)).alloc (.cells #[.slice a len cap] 25)).heap.size = w.heap.size + 4 := by simp
  obtain ⟨W0, hW0⟩ : ∃ W0, (((w.alloc (.cells #[.slice a len cap] 25)).alloc (.cells #[.int .i64 v0] 3)).alloc (.cells #[.func (.func g) #[] #[]] 63)).alloc (.cells #[.slice a len cap] 25) = W0 := ⟨_, rfl⟩
  rw [hW0] at bF bV bN hB0 hsz ⊢
  clear hW0
  refine wpIn_rangeFunc_ownH rfl (by omega) (gf := 95) (lb := #[.pointer (some ⟨w.heap.size + 1 + 1 + 1, 0, none⟩)]) rfl trivial (enters_of Try.func95 (by kernel_rfl) rfl)
    (spans_stops 4 (by omega) (w.heap.size + 1 + 1 + 1) (w.heap.size + 1) (w.heap.size + 4) len cap a los his hl hm W0 ⟨by omega, by omega⟩ (by omega) bN.cell ((hI.below (BelowX.of hB0 (Nat.le_refl _))).mono (by omega))) BelowX.trans (belowX_b (by omega)) (Below.refl _ _) (fun _ => rfl)
    (fun pre W => (Boxed W (w.heap.size + 1) 3 (.int .i64 (pre.foldl tk v0)) ∧ (Boxed W (w.heap.size + 1 + 1) 63 (.func (.func g) #[] #[]) ∧ Boxed W (w.heap.size + 1 + 1 + 1) 25 (.slice a len cap))) ∧ Below w.heap.size w W)
    (fun c pre W => False ∧ Below w.heap.size w W)
    (OwnFrom.and (OwnFrom.and (Own.from (boxed_own _ _ _) _) (OwnFrom.and (Own.from (boxed_own _ _ _) _) (Own.from (boxed_own _ _ _) _))) (ownFrom_below (Nat.le_refl _) (by omega)))
    (fun c => OwnFrom.and (ownFrom_pure _ _) (ownFrom_below (Nat.le_refl _) (by omega)))
    ⟨⟨bV, bF, bN⟩, hB0⟩
    (fun x a' W => ∃ Bx, (a' = { tmps := #[.agg #[.slice a len cap], .int .i64 v0, .func (.func g) #[] #[], .pointer (some ⟨w.heap.size, 0, none⟩), .pointer (some ⟨w.heap.size + 1, 0, none⟩), .pointer (some ⟨w.heap.size + 1 + 1, 0, none⟩), .int .i64 0, undef, .pointer (some ⟨Bx, 0, none⟩), .agg #[.slice a len cap], .func (.func 95) #[] #[.pointer (some ⟨w.heap.size + 1 + 1 + 1, 0, none⟩)], .int .i64 (x.1 : Int), .agg #[.int .i64 (los x.1), .int .i64 (his x.1), .int .u64 (gapI (los x.1) (his x.1))], undef, undef, undef, undef, undef], defers := [] }) ∧ BoxedA W Bx 61 #[.int .i64 (los x.1), .int .i64 (his x.1), .int .u64 (gapI (los x.1) (his x.1))])
    (fun x a' _ X Y row hs hg' hr => by obtain ⟨Bx, h1, h2⟩ := hs; exact ⟨Bx, h1, h2.own hg' (fun r e => (hr r e).2)⟩)
    ?assign ?body ?done ?stop
  case assign =>
    rintro l pre x W K ⟨⟨bV1, bF1, bN1⟩, hB1⟩ hK
    gi_wp2
    have q1 : Below W.heap.size W (W.alloc (.cells #[.int .i64 (los x.1), .int .i64 (his x.1), .int .u64 (gapI (los x.1) (his x.1))] 61)) := (Below.refl _ W).alloc (Nat.le_refl _) _
    exact hK _ _ (keeps_of_below q1) (BelowX.of q1 (by have := bN1.lt; omega)) ⟨⟨boxedBelow bV1 q1, boxedBelow bF1 q1, boxedBelow bN1 q1⟩, hB1.trans (q1.mono hB1.size)⟩ ⟨W.heap.size, rfl, BoxedA.new W _ _⟩
  case body =>
    rintro l pre x a' W hl' ⟨r, hr⟩ ⟨⟨bV1, bF1, bN1⟩, hB1⟩ ⟨Bx, rfl, bX⟩ hlt
    have cF := bF1.cell
    have cV := bV1.cell
    have x0 := bX.cell 0 (.int .i64 (los x.1)) rfl
    have x1 := bX.cell 1 (.int .i64 (his x.1)) rfl
    have x2 := bX.cell 2 (.int .u64 (gapI (los x.1) (his x.1))) rfl
    have hgx := hg pre x W (by simpa using hlt)
    gi_wp2
    refine ⟨trivial, ?_⟩
    refine (CallsIn.inRound l (callsIn_wide.2 hgx)).mono ?_
    rintro e W2 ⟨rfl, q⟩
    have hB2 := hB1.trans (q.mono hB1.size)
    have bV2 := boxedBelow bV1 q
    have bF2 := boxedBelow bF1 q
    have bN2 := boxedBelow bN1 q
    have cV2 := bV2.cell
    have fV2 := bV2.frozen
    gi_wp2
    refine ⟨(keeps_of_below q).trans ((KeepsOthers.setCell _ _ _).from _), (BelowX.of q (by have := bN1.lt; omega)).setCell _, ⟨?_, ?_, ?_⟩, hB2.setCell (p := ⟨w.heap.size + 1, 0, none⟩) (by simp) _⟩
    · rw [List.foldl_append]; exact bV2.set _
    · exact bF2.other (by omega) _
    · exact bN2.other (by omega) _
  case done =>
    rintro D ys W hD rfl ⟨⟨bV1, bF1, bN1⟩, hB⟩ hK
    have cV := bV1.cell
    gi_wp2
    refine ⟨by simp, .inl ⟨_, _, rfl, run_takeDeferred hK, ?_⟩⟩
    refine ⟨.int .i64 ((List.finRange len).foldl tk v0), ?_, rfl, hB.trans (belowK_b (w := w) (Nat.le_refl _) W D _ _ (by omega) hK rfl rfl)⟩
    simp [results, Try.f39, go_sem, uptoF, List.take_of_length_le]
  case stop =>
    rintro D c pre W hD hx ⟨hF, _⟩ hK
    exact absurd hF id

end Go.Proofs.Yteohgmmenlinbaa
