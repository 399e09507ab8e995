/- The program's fold over the patterns of a box: its contract. -/
import Derived.Test.YteohgmmenlinbacDoorBoxBc
import Derived.Test.YteohgmmenlinbacDoorJB
namespace Go.Proofs.YteohgmmenlinbacDoor
open Go.RowKit Go.Shelf
attribute [local go_sem] Oper.semAt_some
set_option linter.unusedVariables false

def zsOf (n : Int) (los his : Nat → Int) {len : Nat} (pre : List (Fin len)) : List Int := pre.flatMap fun x => [bitsI n (los x.1), bitsI n (his x.1)]
theorem zsOf_snoc (n : Int) (los his : Nat → Int) {len : Nat} (pre : List (Fin len)) (x : Fin len) : zsOf n los his (pre ++ [x]) = zsOf n los his pre ++ [bitsI n (los x.1), bitsI n (his x.1)] := by simp [zsOf]
theorem zsOf_length (n : Int) (los his : Nat → Int) {len : Nat} (pre : List (Fin len)) : (zsOf n los his pre).length = 2 * pre.length := by
  induction pre with
  | nil => rfl
  | cons p ps ih => simp [zsOf] at ih ⊢; omega

theorem kept_cells {X Y : World} {row : Option Nat} (hg : X.grownBy Y row) (hr : ∀ r, row = some r → ∃ o : Obj, X.heap[r]? = some o ∧ o.isCells = false) {b : Nat} {o' : Obj} (h : X.heap[b]? = some o') (ho : o'.isCells = true) : Y.heap[b]? = some o' := by
  refine (hg.block b (Array.getElem?_eq_some_iff.1 h).1 ?_).trans h
  intro e
  obtain ⟨o, h1, h2⟩ := hr b e.symm
  rw [h] at h1
  obtain rfl := Option.some.inj h1
  rw [ho] at h2
  cases h2

theorem ownsRow_grown {X Y : World} {row : Option Nat} (hg : X.grownBy Y row) (hr : ∀ r, row = some r → ∃ o : Obj, X.heap[r]? = some o ∧ o.isCells = false) {base : Nat} {e : TypeId} {size : Nat} {v : Value} {n : Nat} {xs : List Value} (h : X.ownsRow base e size v n xs) : Y.ownsRow base e size v n xs := by
  obtain ⟨h1, h2⟩ := h
  refine ⟨h1, ?_⟩
  rcases h2 with h2 | ⟨g, cap, cur, e1, e2, e3, e4⟩
  · exact .inl h2
  · exact .inr ⟨g, cap, cur, e1, e2, kept_cells hg hr e3 rfl, e4⟩

/-- The list so far: none yet, or an own row. -/
def LU (W : World) (n0 k0 : Nat) (zs : List Int) (v : Value) : Prop := (zs = [] ∧ v = .slice (some ⟨k0, 0, none⟩) 0 0) ∨ (zs ≠ [] ∧ W.ownsRow n0 38 1 v zs.length (uvals zs))
def LV (W : World) (V n0 k0 : Nat) (zs : List Int) : Prop := ∃ v, Boxed W V 28 v ∧ LU W n0 k0 zs v
theorem LU.grown {X Y : World} {row : Option Nat} (hg : X.grownBy Y row) (hr : ∀ r, row = some r → ∃ o : Obj, X.heap[r]? = some o ∧ o.isCells = false) {n0 k0 : Nat} {zs : List Int} {v : Value} (h : LU X n0 k0 zs v) : LU Y n0 k0 zs v := by
  rcases h with h | ⟨h1, h2⟩
  · exact .inl h
  · exact .inr ⟨h1, ownsRow_grown hg hr h2⟩
theorem LV.grown {X Y : World} {row : Option Nat} (hg : X.grownBy Y row) (hr : ∀ r, row = some r → ∃ o : Obj, X.heap[r]? = some o ∧ o.isCells = false) {V n0 k0 : Nat} {zs : List Int} (h : LV X V n0 k0 zs) : LV Y V n0 k0 zs := by
  obtain ⟨v, h1, h2⟩ := h
  exact ⟨v, kept_cells hg hr h1 rfl, h2.grown hg hr⟩
theorem LV.from {β : Type} (B V n0 k0 : Nat) (f : β → List Int) : OwnFrom B (fun s W => LV W V n0 k0 (f s)) := fun s X Y row hs hg hr => LV.grown hg (fun r e => (hr r e).2) hs

def FoldUOut (w : World) (n0 k0 : Nat) (zs : List Int) (e : Ending) (w' : World) : Prop := ∃ v, e = .returned v ∧ LU w' n0 k0 zs v ∧ Below w.heap.size w w'

set_option maxRecDepth 100000 in
set_option maxHeartbeats 2000000 in
theorem foldU (w : World) (n : Int) (C k0 : Nat) (a : Option Addr) (len cap : Nat) (los his : Nat → Int) (hl : len ≤ cap) (hm : len ≤ 1048576) (hI : LiesP (w.heap.size + 1) w.heap.size w a len los his)
    (hm6 : len ≤ 6) (hC : Own w C [.int .i64 n]) (hwf : ∀ j, j < len → (Lit.int .i64 (los j)).wf = true ∧ (Lit.int .i64 (his j)).wf = true) :
    Calls Tryd.prog 14 #[.agg #[.slice a len cap], .slice (some ⟨k0, 0, none⟩) 0 0, .func (.func 15) #[] #[.pointer (some ⟨C, 0, none⟩)]] w (FoldUOut w (w.heap.size + 4) k0 (zsOf n los his (List.finRange len))) := by
  refine (callsIn_wide (n := 5)).1 ?_
  refine callsIn_of_wp_marks Tryd.func14 rfl trivial ?_ rfl
  simp only [Tryd.ntmps14, List.size_toArray, List.length_cons, List.length_nil, Nat.reduceAdd, Nat.reduceSub, Array.replicate_succ, Array.replicate_zero, List.push_toArray, List.append_toArray, List.nil_append, List.cons_append]
  gi_wp2_with (refine ⟨trivial, ?_⟩; gi_at_call 38; refine (spans_in 4 _ _ _ _).mono ?_; rintro e w' ⟨rfl, rfl⟩)
  have bV := ((Boxed.new (w.alloc (.cells #[.slice a len cap] 25)) 28 (.slice (some ⟨k0, 0, none⟩) 0 0)).alloc (.cells #[.func (.func 15) #[] #[.pointer (some ⟨C, 0, none⟩)]] 47)).alloc (.cells #[.slice a len cap] 25)
  have bF := (Boxed.new ((w.alloc (.cells #[.slice a len cap] 25)).alloc (.cells #[.slice (some ⟨k0, 0, none⟩) 0 0] 28)) 47 (.func (.func 15) #[] #[.pointer (some ⟨C, 0, none⟩)])).alloc (.cells #[.slice a len cap] 25)
  have bN := Boxed.new (((w.alloc (.cells #[.slice a len cap] 25)).alloc (.cells #[.slice (some ⟨k0, 0, none⟩) 0 0] 28)).alloc (.cells #[.func (.func 15) #[] #[.pointer (some ⟨C, 0, none⟩)]] 47)) 25 (.slice a len cap)
  simp only [World.size_alloc] at bF bV bN
  have hB0 : Below w.heap.size w ((((w.alloc (.cells #[.slice a len cap] 25)).alloc (.cells #[.slice (some ⟨k0, 0, none⟩) 0 0] 28)).alloc (.cells #[.func (.func 15) #[] #[.pointer (some ⟨C, 0, none⟩)]] 47)).alloc (.cells #[.slice a len cap] 25)) :=
    ((((Below.refl _ w).alloc (Nat.le_refl _) _).alloc (by simp) _).alloc (by simp; omega) _).alloc (by simp; omega) _
  have hsz : ((((w.alloc (.cells #[.slice a len cap] 25)).alloc (.cells #[.slice (some ⟨k0, 0, none⟩) 0 0] 28)).alloc (.cells #[.func (.func 15) #[] #[.pointer (some ⟨C, 0, none⟩)]] 47)).alloc (.cells #[.slice a len cap] 25)).heap.size = w.heap.size + 4 := by simp
  obtain ⟨W0, hW0⟩ : ∃ W0, (((w.alloc (.cells #[.slice a len cap] 25)).alloc (.cells #[.slice (some ⟨k0, 0, none⟩) 0 0] 28)).alloc (.cells #[.func (.func 15) #[] #[.pointer (some ⟨C, 0, none⟩)]] 47)).alloc (.cells #[.slice a len cap] 25) = W0 := ⟨_, rfl⟩
  rw [hW0] at bF bV bN hB0 hsz ⊢
  clear hW0
  refine wpIn_rangeFunc_ownH rfl (by omega) (gf := 53) (lb := #[.pointer (some ⟨w.heap.size + 1 + 1 + 1, 0, none⟩)]) rfl trivial (enters_of Tryd.func53 (by kernel_rfl) rfl)
    (spans_stops 4 (by omega) (w.heap.size + 1 + 1 + 1) (w.heap.size + 1) (w.heap.size + 4) len cap a los his hl hm W0 ⟨by omega, by omega⟩ (by omega) bN.cell ((hI.below (BelowX.of hB0 (Nat.le_refl _))).mono (by omega))) BelowX.trans (belowX_b (by omega)) (Below.refl _ _) (fun _ => rfl)
    (fun pre W => (LV W (w.heap.size + 1) (w.heap.size + 4) k0 (zsOf n los his pre) ∧ (Boxed W (w.heap.size + 1 + 1) 47 (.func (.func 15) #[] #[.pointer (some ⟨C, 0, none⟩)]) ∧ Boxed W (w.heap.size + 1 + 1 + 1) 25 (.slice a len cap))) ∧ Below w.heap.size w W)
    (fun c pre W => False ∧ Below w.heap.size w W)
    (OwnFrom.and (OwnFrom.and (LV.from _ _ _ _ _) (OwnFrom.and (Own.from (boxed_own _ _ _) _) (Own.from (boxed_own _ _ _) _))) (ownFrom_below (Nat.le_refl _) (by omega)))
    (fun c => OwnFrom.and (ownFrom_pure _ _) (ownFrom_below (Nat.le_refl _) (by omega)))
    ⟨⟨⟨_, bV, .inl ⟨rfl, rfl⟩⟩, bF, bN⟩, hB0⟩
    (fun x a' W => ∃ Bx, (a' = { tmps := #[.agg #[.slice a len cap], .slice (some ⟨k0, 0, none⟩) 0 0, .func (.func 15) #[] #[.pointer (some ⟨C, 0, none⟩)], .pointer (some ⟨w.heap.size, 0, none⟩), .pointer (some ⟨w.heap.size + 1, 0, none⟩), .pointer (some ⟨w.heap.size + 1 + 1, 0, none⟩), .slice none 0 0, undef, .pointer (some ⟨Bx, 0, none⟩), .agg #[.slice a len cap], .func (.func 53) #[] #[.pointer (some ⟨w.heap.size + 1 + 1 + 1, 0, none⟩)], .int .i64 (x.1 : Int), .agg #[.int .i64 (los x.1), .int .i64 (his x.1), .int .u64 (gapI (los x.1) (his x.1))], undef, undef, undef, undef, undef], defers := [] }) ∧ BoxedA W Bx 45 #[.int .i64 (los x.1), .int .i64 (his x.1), .int .u64 (gapI (los x.1) (his x.1))])
    (fun x a' _ X Y row hs hg' hr => by obtain ⟨Bx, h1, h2⟩ := hs; exact ⟨Bx, h1, h2.own hg' (fun r e => (hr r e).2)⟩)
    ?assign ?body ?done ?stop
  case assign =>
    rintro l pre x W K ⟨⟨bV1, bF1, bN1⟩, hB1⟩ hK
    gi_wp2
    have q1 : Below W.heap.size W (W.alloc (.cells #[.int .i64 (los x.1), .int .i64 (his x.1), .int .u64 (gapI (los x.1) (his x.1))] 45)) := (Below.refl _ W).alloc (Nat.le_refl _) _
    exact hK _ _ (keeps_of_below q1) (BelowX.of q1 (by have := bN1.lt; omega)) ⟨⟨LV.grown (grown_of_below q1) (fun _ e => by cases e) bV1, boxedBelow bF1 q1, boxedBelow bN1 q1⟩, hB1.trans (q1.mono hB1.size)⟩ ⟨W.heap.size, rfl, BoxedA.new W _ _⟩
  case body =>
    rintro l pre x a' W hl' ⟨r, hr⟩ ⟨⟨⟨v, bV1, hv⟩, bF1, bN1⟩, hB1⟩ ⟨Bx, rfl, bX⟩ hlt
    have cF := bF1.cell
    have cV := bV1.cell
    have x0 := bX.cell 0 (.int .i64 (los x.1)) rfl
    have x1 := bX.cell 1 (.int .i64 (his x.1)) rfl
    have x2 := bX.cell 2 (.int .u64 (gapI (los x.1) (his x.1))) rfl
    have hlN := bN1.lt
    have hCw := hC.lt
    have hwx := hwf x.1 x.2
    have hpl : pre.length < len := by simpa using hlt
    have hgx : Calls Tryd.prog 15 #[v, .agg #[.int .i64 (los x.1), .int .i64 (his x.1), .int .u64 (gapI (los x.1) (his x.1))], .pointer (some ⟨C, 0, none⟩)] W (ClOut W (w.heap.size + 4) (zsOf n los his pre ++ [bitsI n (los x.1), bitsI n (his x.1)])) := by
      have hC' : Own W C [.int .i64 n] := ⟨Nat.lt_of_lt_of_le hCw hB1.size, fun i u hu => (hB1.cell (p := ⟨C, i, none⟩) hCw).trans (hC.cell i u hu), fun i u hu => (hB1.frozen (p := ⟨C, i, none⟩) hCw).trans (hC.frz i u hu)⟩
      rcases hv with ⟨h1, h2⟩ | ⟨h1, h2⟩
      · rw [h1, h2]
        exact bitsTake0 W C k0 (w.heap.size + 4) n _ _ _ hC' (by omega) (by omega) hwx.1 hwx.2
      · exact bitsTake W C (w.heap.size + 4) n _ _ _ v _ hC' (by omega) (by omega) hwx.1 hwx.2 h2 (by rw [zsOf_length]; omega)
    clear hv
    gi_wp2
    refine ⟨trivial, ?_⟩
    refine (CallsIn.inRound l (callsIn_wide.2 hgx)).mono ?_
    rintro e W2 ⟨v', rfl, R2, ⟨gg, cc, hv'⟩, q, kp⟩
    obtain ⟨LL, hLL⟩ : ∃ LL, (zsOf n los his pre ++ [bitsI n (los x.1), bitsI n (his x.1)]).length = LL := ⟨_, rfl⟩
    rw [hLL] at R2 hv'
    have HL : Hid ((zsOf n los his pre ++ [bitsI n (los x.1), bitsI n (his x.1)]).length = LL) := hLL
    clear hLL
    have hB2 := hB1.trans (q.mono (show w.heap.size ≤ w.heap.size + 4 by omega))
    have bV2 : Boxed W2 (w.heap.size + 1) 28 v := (q.block _ (by omega)).trans bV1
    have bF2 : Boxed W2 (w.heap.size + 1 + 1) 47 (.func (.func 15) #[] #[.pointer (some ⟨C, 0, none⟩)]) := (q.block _ (by omega)).trans bF1
    have bN2 : Boxed W2 (w.heap.size + 1 + 1 + 1) 25 (.slice a len cap) := (q.block _ (by omega)).trans bN1
    have cV2 := bV2.cell
    have fV2 := bV2.frozen
    have R3 := R2
    rw [hv']
    rw [hv'] at R3
    have R4 := ownsRow_setCell_below R3 (a := ⟨w.heap.size + 1, 0, none⟩) (by show w.heap.size + 1 < w.heap.size + 4; omega) (.slice (some ⟨gg, 0, none⟩) LL cc)
    have HR : Hid _ := R4
    clear R2 R3 R4
    gi_wp2
    refine ⟨(kp.from _).trans ((KeepsOthers.setCell _ _ _).from _), (BelowX.of q (Nat.le_refl _)).setCell _, ⟨⟨_, bV2.set _, .inr ⟨by rw [zsOf_snoc]; simp, by rw [zsOf_snoc, HL.out]; exact HR.out⟩⟩, ?_, ?_⟩, hB2.setCell (p := ⟨w.heap.size + 1, 0, none⟩) (by simp) _⟩
    · exact bF2.other (by omega) _
    · exact bN2.other (by omega) _
  case done =>
    rintro D ys W hD rfl ⟨⟨⟨v, bV1, hv⟩, bF1, bN1⟩, hB⟩ hK
    have cV := bV1.cell
    have hvs : ∃ s m c, v = .slice s m c := by
      rcases hv with ⟨_, h2⟩ | ⟨_, h2⟩
      · exact ⟨_, _, _, h2⟩
      · obtain ⟨s, c, _, h3, _⟩ := ownsRow_hasU h2
        exact ⟨_, _, _, h3⟩
    obtain ⟨s, m, c, hvs⟩ := hvs
    have hv2 : LU W (w.heap.size + 4) k0 (zsOf n los his (uptoF len len)) v := hv
    clear hv
    subst hvs
    have HV : Hid _ := hv2
    clear hv2
    gi_wp2
    refine ⟨by simp, .inl ⟨_, _, rfl, run_takeDeferred hK, ?_⟩⟩
    refine ⟨.slice s m c, ?_, _, rfl, ?_, hB.trans (belowK_b (w := w) (Nat.le_refl _) W D _ _ (by omega) hK rfl rfl)⟩
    · simp [results, Tryd.f14, go_sem]
    · have hu : uptoF len len = List.finRange len := by simp [uptoF, List.take_of_length_le]
      rw [← hu]
      exact LU.grown (grownBy_putObj' W D _) (fun r e => by cases e; exact ⟨_, hK, rfl⟩) HV.out
  case stop =>
    rintro D c pre W hD hx ⟨hF, _⟩ hK
    exact absurd hF id

end Go.Proofs.YteohgmmenlinbacDoor
