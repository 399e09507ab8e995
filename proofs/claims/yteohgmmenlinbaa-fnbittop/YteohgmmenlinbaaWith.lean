/- The program's withPair, slices.Clone: contracts. -/
import Derived.Test.YteohgmmenlinbaaApp
import Derived.Test.YteohgmmenlinbaaMark
import Derived.Test.YteohgmmenlinbaaJB
import Derived.Maps.AppendAt
import Derived.RangeFuncRecord
namespace Go.Proofs.Yteohgmmenlinbaa
open Go.ChangeShapes Go.WideShapes Go.ChangeAt Go.RowKit
set_option linter.unusedVariables false

/-- A slice of new pairs, in block G. -/
def SliceNewC (w : World) (ps : List (Int × Int)) (e : Ending) (w' : World) : Prop :=
  ∃ G cap, e = .returned (.slice (some ⟨G, 0, none⟩) ps.length cap) ∧ ps.length ≤ cap ∧ w.heap.size ≤ G ∧ OwnP w' G ps ∧ Below w.heap.size w w'
/-- A box of new pairs, in block G. -/
def BoxNewC (w : World) (ps : List (Int × Int)) (e : Ending) (w' : World) : Prop :=
  ∃ G cap, e = .returned (.agg #[.slice (some ⟨G, 0, none⟩) ps.length cap]) ∧ ps.length ≤ cap ∧ w.heap.size ≤ G ∧ OwnP w' G ps ∧ Below w.heap.size w w'

theorem flat_cells {W : World} {rb ro : Nat} {ps : List (Int × Int)} (h : ∀ (i : Nat) (p : Int × Int), ps[i]? = some p → W.cell? ⟨rb, ro + i * 2, none⟩ = some (.int .i64 p.1) ∧ W.cell? ⟨rb, ro + i * 2 + 1, none⟩ = some (.int .i64 p.2)) :
    ∀ j u, (flat ps)[j]? = some u → W.cell? ((⟨rb, ro, none⟩ : Addr).add j) = some u := by
  intro j u hj
  have hl : j < ps.length * 2 := by have := (List.getElem?_eq_some_iff.1 hj).1; rw [flat_length] at this; exact this
  have hp := at2_get (ps := ps) (i := j / 2) (by omega)
  have hc := h _ _ hp
  have hf := flat_get hp
  have ea : (⟨rb, ro, none⟩ : Addr).add j = ⟨rb, ro + j, none⟩ := by
    unfold Addr.add
    by_cases e : j = 0
    · subst e; simp
    · simp [e]
  rw [ea]
  rcases Nat.mod_two_eq_zero_or_one j with e | e
  · rw [show j = j / 2 * 2 by omega] at hj ⊢
    rw [hf.1] at hj
    obtain rfl := Option.some.inj hj
    exact hc.1
  · rw [show j = j / 2 * 2 + 1 by omega] at hj ⊢
    rw [hf.2] at hj
    obtain rfl := Option.some.inj hj
    exact hc.2

theorem flat_one {ps : List (Int × Int)} : ∀ u ∈ flat ps, u.oneCell' = true := by
  intro u hu
  unfold flat at hu
  rw [List.mem_flatMap] at hu
  obtain ⟨p, _, hp⟩ := hu
  simp at hp
  rcases hp with rfl | rfl <;> rfl

theorem notNil (rb ro len cap : Nat) (w : World) : Sem.run Try.prog (binOp .eql 23 (.slice (some ⟨rb, ro, none⟩) len cap) (.slice none 0 0)) w = .ok (.bool false) w := by kernel_rfl

set_option maxRecDepth 100000 in
theorem clone (w : World) (rb ro : Nat) (ps : List (Int × Int)) (cap : Nat) (h : PairsAt w (some ⟨rb, ro, none⟩) ps) (h1 : 1 ≤ ps.length) (hl : ps.length ≤ cap) (hm : ps.length ≤ 1048576) :
    Calls Try.prog 96 #[.slice (some ⟨rb, ro, none⟩) ps.length cap] w (SliceNewC w ps) := by
  obtain ⟨rb', ro', ha, hlt, hc⟩ := h.2.resolve_left (by intro e; rw [e] at h1; simp at h1)
  injection ha with ha
  injection ha with e1 e2
  subst e1 e2
  obtain ⟨i0, hi, hz0, hz1, hz2⟩ := info_parts infoPair
  have hw := h.1
  have H : Hid ((∀ j u, (flat ps)[j]? = some u → w.cell? ((⟨rb, ro, none⟩ : Addr).add j) = some u) ∧ rb < w.heap.size) := ⟨flat_cells hc, hlt⟩
  clear h hc hlt
  have hfl := flat_length ps
  unfold SliceNewC
  obtain ⟨len, hlen⟩ : ∃ len, ps.length = len := ⟨_, rfl⟩
  have h1' : Hid (1 ≤ len ∧ len ≤ 1048576 ∧ ps.length = len ∧ (flat ps).length = len * 2) := ⟨by omega, by omega, hlen, by omega⟩
  rw [hlen] at hl ⊢
  clear hlen hfl h1 hm
  have hnn := notNil rb ro len cap
  have R0 : Hid ((w.alloc (.cells #[] 33)).ownsRow w.heap.size 33 2 (.slice (some ⟨w.heap.size, 0, none⟩) 0 0) 0 []) :=
    ⟨rfl, .inr ⟨w.heap.size, 0, #[], rfl, Nat.le_refl _, World.alloc_heap_new w _, Nat.le_refl _, by unfold maxLen; omega, rfl, rfl⟩⟩
  have H1 : Hid (∀ j u, (flat ps)[j]? = some u → (w.alloc (.cells #[] 33)).cell? ((⟨rb, ro, none⟩ : Addr).add j) = some u) := fun j u hj => by
    rw [World.cell?_alloc_lt _ _ _ (by unfold Addr.add; split <;> exact H.out.2)]
    exact H.out.1 j u hj
  go_enter Try.func96, Try.ntmps96
  go_wp2_with first
  | (at_builtin; (refine wpList_append_own _ rfl _ _ 23 rfl w.heap.size 33 i0 (.agg #[.int .i64 0, .int .i64 0]) 2 16 Try.underlying23 hi hz0 hz1 hz2 rfl (by decide) _ _ _ rfl R0.out ⟨rb, ro, none⟩ len cap (flat ps) rfl h1'.out.2.2.2 H1.out flat_one (by have := h1'.out.2.1; unfold maxLen; omega) (by have := h1'.out.2.1; omega) (by simp) ?_); intro v' w7 hown' hgrow hnil
     have hex : ∃ G c, v' = .slice (some ⟨G, 0, none⟩) len c ∧ len ≤ c ∧ w.heap.size ≤ G ∧ OwnP w7 G ps := by
       rw [Nat.zero_add, List.nil_append, ← h1'.out.2.2.1] at hown'
       obtain ⟨a, c, o, rfl, hc, hp, ho⟩ := ownsRow_has hown' hw
       rcases hp.2 with ⟨e, _⟩ | ⟨G, e1, e2, e3⟩
       · exfalso
         have := h1'.out.1
         rw [← h1'.out.2.2.1, e] at this
         simp at this
       · subst e2
         rw [h1'.out.2.2.1] at hc ⊢
         exact ⟨G, c, rfl, hc, ho G e1, e3⟩
     obtain ⟨G7, c7, rfl, hc7, hG7, hO7⟩ := hex
     have hb7 : Below w.heap.size w w7 := by
       obtain ⟨c, hc, hk⟩ := Keep.of_grown hgrow R0.out (by simp)
       exact ((Below.refl _ w).alloc (Nat.le_refl _) _).trans (hk.below hc (by simp))
     clear hown' hgrow hnil)
  go_ret
  exact ⟨G7, c7, rfl, hc7, hG7, hO7, hb7⟩

theorem at2_set {ps : List (Int × Int)} {k : Nat} {x y : Int} (hk : k < ps.length) : ∀ p ∈ ps.set k (x, y), p ∈ ps ∨ p = (x, y) := by
  intro p hp
  rcases List.mem_or_eq_of_mem_set hp with h | h
  · exact .inl h
  · exact .inr h

theorem withPair (w : World) (rb ro : Nat) (ps : List (Int × Int)) (cap k : Nat) (x y : Int) (h : PairsAt w (some ⟨rb, ro, none⟩) ps) (hk : k < ps.length) (hl : ps.length ≤ cap) (hm : ps.length ≤ 1048576) :
    Calls Try.prog 82 #[.agg #[.slice (some ⟨rb, ro, none⟩) ps.length cap], .int .i64 (k : Int), .agg #[.int .i64 x, .int .i64 y]] w (BoxNewC w (ps.set k (x, y))) := by
  have q0 : Below w.heap.size w (((w.alloc (.cells #[.slice (some ⟨rb, ro, none⟩) ps.length cap] 25)).alloc (.cells #[.int .i64 x, .int .i64 y] 33)).alloc (.cells #[.slice none 0 0] 25)) := (((Below.refl _ w).alloc (Nat.le_refl _) _).alloc (by simp) _).alloc (by simp; omega) _
  have oP := ((Own.new (w.alloc (.cells #[.slice (some ⟨rb, ro, none⟩) ps.length cap] 25)) #[.int .i64 x, .int .i64 y] 33)).alloc (.cells #[.slice none 0 0] 25)
  have oR := Own.new ((w.alloc (.cells #[.slice (some ⟨rb, ro, none⟩) ps.length cap] 25)).alloc (.cells #[.int .i64 x, .int .i64 y] 33)) #[.slice none 0 0] 25
  simp only [World.size_alloc] at oP oR
  have hC := clone _ rb ro ps cap (h.below q0) (by omega) hl hm
  clear h
  have hsl := @List.length_set _ ps k (x, y)
  unfold BoxNewC
  rw [hsl]
  have hkl : (k : Int) < ps.length := by omega
  obtain ⟨len, hlen⟩ : ∃ len, ps.length = len := ⟨_, rfl⟩
  have hlH : Hid (ps.length = len) := hlen
  unfold SliceNewC at hC
  rw [hlen] at q0 oP oR hC hkl hk hl hm ⊢
  clear hlen hsl
  go_enter Try.func82, Try.ntmps82
  go_wp2_with first
  | (go_at_call 96; refine hC.mono ?_; clear hC; rintro e w2 ⟨G, c, rfl, hc, hG, oG, q⟩
     simp only [World.size_alloc] at hG
     replace oP := oP.below q; replace oR := oR.below q; replace q0 := q0.trans (q.mono q0.size); clear q
     have p0 := oP.cell 0 _ rfl; have p1 := oP.cell 1 _ rfl
     have hpk := oG.cell k _ (at2_get (by rw [hlH.out]; exact hk)); have fpk := oG.frz k _ (at2_get (by rw [hlH.out]; exact hk))
     have g0 := hpk.1; have g1 := hpk.2; have f0 := fpk.1; have f1 := fpk.2; clear hpk fpk
     have r0 := oR.cell 0 _ rfl; have r1 := oR.frz 0 _ rfl
     have hne : G ≠ w.heap.size + 1 + 1 := by omega)
  have oG2 := oG.setPair (i := k) x y (by rw [hlH.out]; exact hk)
  have oG3 := oG2.other (j := w.heap.size + 1 + 1) (k := 0) (.slice (some ⟨G, 0, none⟩) len c) (by omega)
  have oR3 := ((oR.other (j := G) (i := k * 2) (.int .i64 x) hne).other (j := G) (i := k * 2 + 1) (.int .i64 y) hne).set (i := 0) (.slice (some ⟨G, 0, none⟩) len c) (by simp)
  have c3 := oR3.cell 0 _ rfl
  refine bodyPost_ret (v := .agg #[.slice (some ⟨G, 0, none⟩) len c]) ?_ rfl ⟨G, c, rfl, hc, by omega, oG3, ?_⟩
  · simp [results, Try.f82, go_sem, c3]
  · exact ((q0.setCell (p := ⟨G, k * 2, none⟩) (by show w.heap.size ≤ G; omega) _).setCell (p := ⟨G, k * 2 + 1, none⟩) (by show w.heap.size ≤ G; omega) _).setCell (p := ⟨w.heap.size + 1 + 1, 0, none⟩) (by simp; omega) _

end Go.Proofs.Yteohgmmenlinbaa
