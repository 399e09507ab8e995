/- The contract of the model's 'DrawBoxCut'. -/
import Derived.Test.YteohgmmenlinbabDrawBS
import Derived.Test.YteohgmmenlinbabDrawK
import Derived.Test.YteohgmmenlinbabDrawIn
namespace Go.Proofs.Yteohgmmenlinbab
open Go.ChangeShapes Go.WideShapes Go.ChangeAt Go.RowKit
set_option linter.unusedVariables false

theorem HasO.cellsN {W : World} {G : Nat} {ps : List (Int × Int)} {o : Option Nat} {j : Nat} (h : HasO W (Option.some ⟨G, 0, none⟩) ps o) (hj : j < ps.length) (hg : ∀ p ∈ ps, Nr p.1 ∧ Nr p.2) :
    ∃ x y, Nr x ∧ Nr y ∧ W.cell? ⟨G, j * 2, none⟩ = Option.some (.int .i64 x) ∧ W.cell? ⟨G, j * 2 + 1, none⟩ = Option.some (.int .i64 y) := by
  obtain ⟨rb, ro, ha, -, c0, c1⟩ := h.at.atD hj
  injection ha with ha
  injection ha with e1 e2
  subst e1 e2
  have hN := hg (at2 ps j) (List.mem_of_getElem? (at2_get hj))
  exact ⟨_, _, hN.1, hN.2, by simpa using c0, by simpa using c1⟩

theorem free4 {c : Nat} {f1 f2 : Fact} (f3 : Fact) (h : ∀ f ∈ ([f1, f2] : List Fact), f.free (some c)) (h3 : f3.free (some c)) : ∀ f ∈ ([f1, f2, f3] : List Fact), f.free (some c) := by
  intro f hf
  simp only [List.mem_cons, List.not_mem_nil, or_false] at hf
  rcases hf with rfl | rfl | rfl
  · exact h _ (by simp)
  · exact h _ (by simp)
  · exact h3

theorem set4 {W : World} {a : Option Addr} {ps : List (Int × Int)} {G k1 k : Nat} {vs : List Value} {u v x y : Value} (h : Facts W [.has a ps (some G), .own k1 vs, .own k [u, v]]) (h1 : G ≠ k) (h2 : k1 ≠ k) :
    Facts ((W.setCell ⟨k, 0, none⟩ x).setCell ⟨k, 1, none⟩ y) [.has a ps (some G), .own k1 vs, .own k [x, y]] := by
  have q : KeepO (some k) W ((W.setCell ⟨k, 0, none⟩ x).setCell ⟨k, 1, none⟩ y) := ((KeepO.of_below (some k) (Below.refl _ W)).setCell _).setCell _
  exact (((Facts.nil _).pushHas ((h.has 0 rfl).keepO q (fun H hH e => by have e1 := Option.some.inj hH; have e2 := Option.some.inj e; omega))).pushOwn ((h.own 1 rfl).keepO q (fun e => by have e2 := Option.some.inj e; omega))).pushOwn (Own.set2 (h.own 2 rfl) x y)

/-- A number, a new box, a number and a pair. -/
def BoxGapOut (w : World) (e : Ending) (w' : World) : Prop :=
  ∃ (n : Int) (a1 : Option Addr) (c1 : Nat) (ps : List (Int × Int)) (o1 : Option Nat) (k x y : Int), e = .returned (.tuple #[.int .i64 n, .agg #[.slice a1 ps.length c1], .int .i64 k, .agg #[.int .i64 x, .int .i64 y]]) ∧
    ps.length ≤ 8 ∧ ps.length ≤ c1 ∧ HasO w' a1 ps o1 ∧ (∀ G, o1 = some G → w.heap.size ≤ G) ∧ (Lit.int .i64 k).wf = true ∧ (Lit.int .i64 x).wf = true ∧ (Lit.int .i64 y).wf = true ∧ Below w.heap.size w w'

theorem boxGapEnd {w W : World} {T : Array Value} {n k x y : Int} {a1 : Option Addr} {l1 c1 : Nat} {ps : List (Int × Int)} {o1 : Option Nat} (rs : Own W w.heap.size [.slice a1 l1 c1]) (rs' : Own W (w.heap.size + 1) [.int .i64 x, .int .i64 y]) (e1 : ps.length = l1) (h1 : l1 ≤ 8) (h2 : l1 ≤ c1) (hh : HasO W a1 ps o1) (ho : ∀ G, o1 = some G → w.heap.size ≤ G)
    (hb : Below w.heap.size w W) (hk : (Lit.int .i64 k).wf = true) (hx : (Lit.int .i64 x).wf = true) (hy : (Lit.int .i64 y).wf = true) (t2 : T.getD 2 undef = .int .i64 n) (t3 : T.getD 3 undef = .pointer (some ⟨w.heap.size, 0, none⟩)) (t4 : T.getD 4 undef = .int .i64 k) (t5 : T.getD 5 undef = .pointer (some ⟨w.heap.size + 1, 0, none⟩)) :
    bodyPost Try.prog Try.f28 (BoxGapOut w) Exit.ret { tmps := T, defers := [] } W := by
  subst e1
  have c0 := rs.cell 0 _ rfl
  have d0 := rs'.cell 0 _ rfl
  have d1 := rs'.cell 1 _ rfl
  refine bodyPost_ret (v := .tuple #[.int .i64 n, .agg #[.slice a1 ps.length c1], .int .i64 k, .agg #[.int .i64 x, .int .i64 y]]) ?_ rfl ⟨n, a1, c1, ps, o1, k, x, y, rfl, h1, h2, hh, ho, hk, hx, hy, hb⟩
  simp at t2 t3 t4 t5
  simp [results, Try.f28, go_sem, t2, t3, t4, t5, c0, d0, d1]

set_option maxRecDepth 100000 in
set_option maxHeartbeats 8000000 in
theorem drawBoxCut (w : World) (a : Option Addr) (len cap : Nat) (hc : Code8 w a len) (hl : len ≤ cap) (hm : len ≤ 1048576) :
    Calls Try.prog 28 #[.slice a len cap] w (BoxGapOut w) := by
  have hN := boxN ((w.alloc (.cells #[.slice none 0 0] 41)).alloc (.cells #[.int .i64 0, .int .i64 0] 24)) a len cap ((hc.alloc _).alloc _) hl hm
  have own0 := (Own.new w #[.slice none 0 0] 41).alloc (.cells #[.int .i64 0, .int .i64 0] 24)
  have own1 := Own.new (w.alloc (.cells #[.slice none 0 0] 41)) #[.int .i64 0, .int .i64 0] 24
  rw [World.size_alloc] at own1
  have hb0 := ((Below.refl _ w).alloc (Nat.le_refl _) (.cells #[.slice none 0 0] 41)).alloc (by simp) (.cells #[.int .i64 0, .int .i64 0] 24)
  go_enter Try.func28, Try.ntmps28
  go_wp2_with (go_at_call 53; go_must (refine hN.mono ?_); clear hN; rintro e w1 ⟨n, a1, c1, ps, o1, rfl, h8, hc1, hh, g1, hg, q⟩; have hs1 := q.size; simp only [World.size_alloc] at hs1 g1)
  have hb1 := (hb0.trans (q.mono hb0.size)).alloc (by omega) (.cells #[.slice a1 ps.length c1] 41)
  have hO := opened _ a len cap ((((hc.alloc (.cells #[.slice none 0 0] 41)).alloc (.cells #[.int .i64 0, .int .i64 0] 24)).belowD q).alloc (.cells #[.slice a1 ps.length c1] 41)) hl hm
  have F : Facts (w1.alloc (.cells #[.slice a1 ps.length c1] 41)) [.has a1 ps o1, .own w1.heap.size [.slice a1 ps.length c1]] := ((Facts.nil _).pushHas hh).cells #[.slice a1 ps.length c1] 41
  have g2 : ∀ G, o1 = some G → w.heap.size + 1 + 1 ≤ G ∧ G < w1.heap.size := fun G hG => ⟨by have := g1 G hG; omega, hh.lt G hG⟩
  replace own0 := (own0.below q).alloc (.cells #[.slice a1 ps.length c1] 41)
  replace own1 := (own1.below q).alloc (.cells #[.slice a1 ps.length c1] 41)
  clear hc q hb0 hh g1
  obtain ⟨m, hlen⟩ : ∃ m, ps.length = m := ⟨_, rfl⟩
  rw [hlen] at F h8 hc1 own0 own1 hb1 hO ⊢
  have hL : Hid (ps.length = m) := hlen
  clear hlen
  have hfree : ∀ c, c = w.heap.size ∨ c = w.heap.size + 1 ∨ c = w1.heap.size + 1 → ∀ f ∈ ([.has a1 ps o1, .own w1.heap.size [.slice a1 m c1]] : List Fact), f.free (some c) := by
    intro c hcc f hf
    simp only [List.mem_cons, List.not_mem_nil, or_false] at hf
    rcases hf with rfl | rfl
    · intro G hG e; have := Option.some.inj e; have := g2 G hG; omega
    · intro e; have := Option.some.inj e; omega
  have hfb := hfree (w1.heap.size + 1) (.inr (.inr rfl))
  go_wp2_with (go_at_call 41; go_must (refine hO.mono ?_); clear hO; rintro e w2 ⟨rfl, hr, hk⟩; simp only [World.size_alloc] at hr hk; obtain ⟨hrb, ra_, rl_, rc_, rp_, -, -, -, -, hp1, hp2, -⟩ := id hr; have F2 := Facts.keepB F hk hfb; have cB := (F2.own 1 rfl).cell 0 _ rfl; clear F2)
  have hk3 : Keep (w1.heap.size + 1) (w1.alloc (.cells #[.slice a1 m c1] 41)) (w2.setCell ⟨w1.heap.size + 1, 1, none⟩ (.int .i64 500)) := hk.setCell rfl _
  have hr3 : Rd (w2.setCell ⟨w1.heap.size + 1, 1, none⟩ (.int .i64 500)) (w1.heap.size + 1) 500 := (hr.mono (by omega)).setCell (by omega) (by omega)
  have F3 : Hid (Facts (w2.setCell ⟨w1.heap.size + 1, 1, none⟩ (.int .i64 500)) [.has a1 ps o1, .own w1.heap.size [.slice a1 m c1]]) := Facts.keepB F hk3 hfb
  have own3 := own0.keep hk3 (by omega)
  have own4 := own1.keep hk3 (by omega)
  have hbw := hb1.trans (hk3.below (by omega) hb1.size)
  have g2H : Hid (∀ G, o1 = some G → w.heap.size + 1 + 1 ≤ G ∧ G < w1.heap.size) := g2
  clear hr hk hk3 hb1 own0 own1 F g2 hp1 hp2 cB hrb
  generalize w2.setCell ⟨w1.heap.size + 1, 1, none⟩ (.int .i64 500) = w3 at *
  have pk1 := fun W (h : Rd W (w1.heap.size + 1) 500) => pick W (w1.heap.size + 1) 500 (m : Int) h (by omega)
  have pk2 := fun W (h : Rd W (w1.heap.size + 1) 700) => pick W (w1.heap.size + 1) 700 24 h (by omega)
  by_cases hm0 : 0 < m
  · have hm0' : 0 < (m : Int) := by omega
    obtain ⟨G, hoG, haG⟩ := (F3.out.has 0 rfl).some (by rw [hL.out]; exact hm0)
    subst hoG haG
    go_wp2_with first
      | (go_at_call 42; refine (pk1 _ hr3).mono ?_; clear pk1; rintro e w4 ⟨r, rfl, r0, r1, -, hr, hk⟩; replace r1 := r1 (by omega); obtain ⟨j, hj⟩ := Int.eq_ofNat_of_zero_le r0; subst hj; have hjm : j < m := (by omega); have F4 : Hid (Facts (w4.alloc (.cells #[.int .i64 0, .int .i64 0] 24)) [.has (some ⟨G, 0, none⟩) ps (some G), .own w1.heap.size [.slice (some ⟨G, 0, none⟩) m c1], .own w4.heap.size [.int .i64 0, .int .i64 0]]) := (Facts.keepB F3.out hk hfb).cells #[.int .i64 0, .int .i64 0] 24; have hr5 : Rd (w4.alloc (.cells #[.int .i64 0, .int .i64 0] 24)) (w1.heap.size + 1) 501 := (hr.mono (by omega)).alloc _; have own5 := (own3.keep hk (by omega)).alloc (.cells #[.int .i64 0, .int .i64 0] 24); have own6 := (own4.keep hk (by omega)).alloc (.cells #[.int .i64 0, .int .i64 0] 24); have hrb : w1.heap.size + 1 < w4.heap.size := hr.1; replace hbw := (hbw.trans (hk.below (by omega) hbw.size)).alloc (by omega) (.cells #[.int .i64 0, .int .i64 0] 24); clear hr hk F3 hr3 own3 own4; have cB := (F4.out.own 1 rfl).cell 0 _ rfl; obtain ⟨x0, y0, nx, ny, d0, d1⟩ := (F4.out.has 0 rfl).cellsN (by rw [hL.out]; exact hjm) hg)
      | (go_at_call 63; refine (within _ _ _ n x0 y0 hr5 (by omega) nx ny).mono ?_; rintro e w5 ⟨x, y, rfl, wx, wy, hr6, hk5⟩; have F6 : Hid (Facts w5 [.has (some ⟨G, 0, none⟩) ps (some G), .own w1.heap.size [.slice (some ⟨G, 0, none⟩) m c1], .own w4.heap.size [.int .i64 0, .int .i64 0]]) := Facts.keepB F4.out hk5 (free4 (.own w4.heap.size [.int .i64 0, .int .i64 0]) hfb (by intro e; have := Option.some.inj e; omega)); have own7 := own5.keep hk5 (by omega); have own8 := own6.keep hk5 (by omega); replace hbw := hbw.trans (hk5.below (by omega) hbw.size); clear hk5 F4 own5 own6 hr5 cB d0 d1; have k0 := (F6.out.own 2 rfl).cell 0 _ rfl; have k1 := (F6.out.own 2 rfl).cell 1 _ rfl; have z0 := (F6.out.own 2 rfl).frz 0 _ rfl; have z1 := (F6.out.own 2 rfl).frz 1 _ rfl)
    have hgw := g2H.out G rfl
    have hf0 := free4 (.own w4.heap.size [.int .i64 x, .int .i64 y]) (hfree w.heap.size (.inl rfl)) (by intro e; have := Option.some.inj e; omega)
    have hf1 := free4 (.own w4.heap.size [.int .i64 x, .int .i64 y]) (hfree (w.heap.size + 1) (.inr (.inl rfl))) (by intro e; have := Option.some.inj e; omega)
    have hfb5 := free4 (.own w4.heap.size [.int .i64 x, .int .i64 y]) hfb (by intro e; have := Option.some.inj e; omega)
    have F5 : Hid (Facts ((w5.setCell ⟨w4.heap.size, 0, none⟩ (.int .i64 x)).setCell ⟨w4.heap.size, 1, none⟩ (.int .i64 y)) [.has (some ⟨G, 0, none⟩) ps (some G), .own w1.heap.size [.slice (some ⟨G, 0, none⟩) m c1], .own w4.heap.size [.int .i64 x, .int .i64 y]]) := set4 F6.out (by omega) (by omega)
    have hr7 : Rd ((w5.setCell ⟨w4.heap.size, 0, none⟩ (.int .i64 x)).setCell ⟨w4.heap.size, 1, none⟩ (.int .i64 y)) (w1.heap.size + 1) 700 := ((hr6.mono (by omega)).own _ (by omega)).own _ (by omega)
    replace own7 := (own7.other (j := w4.heap.size) (i := 0) (.int .i64 x) (by omega)).other (j := w4.heap.size) (i := 1) (.int .i64 y) (by omega)
    replace own8 := (own8.other (j := w4.heap.size) (i := 0) (.int .i64 x) (by omega)).other (j := w4.heap.size) (i := 1) (.int .i64 y) (by omega)
    replace hbw := (hbw.setCell (p := ⟨w4.heap.size, 0, none⟩) (show w.heap.size ≤ w4.heap.size by omega) (.int .i64 x)).setCell (p := ⟨w4.heap.size, 1, none⟩) (show w.heap.size ≤ w4.heap.size by omega) (.int .i64 y)
    clear F6 hr6 k0 k1 z0 z1
    generalize (w5.setCell ⟨w4.heap.size, 0, none⟩ (.int .i64 x)).setCell ⟨w4.heap.size, 1, none⟩ (.int .i64 y) = w6 at *
    generalize w4.heap.size = k4 at *
    refine region_steps (by kernel_rfl) (by kernel_rfl) (by kernel_rfl) (fun A0 f act W => ∃ (x2 : Value) (x4 : Value) (x39 : Value) (x40 : Value) (x41 : Value) (x42 : Value) (x43 : Value) (x44 : Value) (x45 : Value) (x46 : Value) (rb : Int), act = { tmps := #[.slice a len cap, undef, x2, .pointer (some ⟨w.heap.size, 0, none⟩), x4, .pointer (some ⟨w.heap.size + 1, 0, none⟩), .int .i64 n, .pointer (some ⟨w1.heap.size, 0, none⟩), .pointer (some ⟨w1.heap.size + 1, 0, none⟩), .int .i64 (j : Int), .pointer (some ⟨k4, 0, none⟩), .tuple #[.int .i64 n, .agg #[.slice (some ⟨G, 0, none⟩) m c1]], .slice a len cap, .tuple #[.int .i64 n, .agg #[.slice (some ⟨G, 0, none⟩) m c1]], .int .i64 n, .agg #[.slice (some ⟨G, 0, none⟩) m c1], .slice a len cap, .pointer (some ⟨w1.heap.size + 1, 0, none⟩), .pointer (some ⟨w1.heap.size + 1, 0, none⟩), .pointer (some ⟨w1.heap.size + 1, 0, none⟩), .pointer (some ⟨w1.heap.size + 1, 1, none⟩), .pointer (some ⟨w1.heap.size + 1, 0, none⟩), .pointer (some ⟨w1.heap.size, 0, none⟩), .slice (some ⟨G, 0, none⟩) m c1, .int .i64 (m : Int), .int .i64 (j : Int), .agg #[.int .i64 0, .int .i64 0], .pointer (some ⟨w1.heap.size, 0, none⟩), .slice (some ⟨G, 0, none⟩) m c1, .int .i64 (m : Int), .bool true, .pointer (some ⟨w1.heap.size + 1, 0, none⟩), .int .i64 n, .pointer (some ⟨w1.heap.size, 0, none⟩), .slice (some ⟨G, 0, none⟩) m c1, .int .i64 (j : Int), .pointer (some ⟨G, j * 2, none⟩), .agg #[.int .i64 x0, .int .i64 y0], .agg #[.int .i64 x, .int .i64 y], x39, x40, x41, x42, x43, x44, x45, x46], defers := [] } ∧ (f 0 = true → x39 = .int .i64 n) ∧ (f 1 = true → x40 = .agg #[.slice (some ⟨G, 0, none⟩) m c1]) ∧ (f 2 = true → x41 = .int .i64 (j : Int)) ∧ (f 3 = true → x42 = .pointer (some ⟨w1.heap.size + 1, 0, none⟩)) ∧ (f 4 = true → x43 = .int .i64 rb) ∧ (f 5 = true → x44 = .int .i64 (IntKind.i64.wrap (rb.tdiv 23))) ∧ (f 6 = true → x45 = .int .i64 (IntKind.i64.wrap ((j : Int) - IntKind.i64.wrap (rb.tdiv 23)))) ∧ (f 7 = true → x46 = .agg #[.int .i64 x, .int .i64 y]) ∧ (f 8 = true → x2 = .int .i64 n) ∧ (f 10 = true → x4 = .int .i64 (IntKind.i64.wrap ((j : Int) - IntKind.i64.wrap (rb.tdiv 23)))) ∧ (f 4 = true → 0 ≤ rb ∧ rb ≤ 23) ∧ ((f 9 = false → Own W w.heap.size [.slice none 0 0]) ∧ (f 9 = true → Own W w.heap.size [.slice (some ⟨G, 0, none⟩) m c1])) ∧ ((f 11 = false → Own W (w.heap.size + 1) [.int .i64 0, .int .i64 0]) ∧ (f 11 = true → Own W (w.heap.size + 1) [.int .i64 x, .int .i64 y])) ∧ (f 4 = false → Rd W (w1.heap.size + 1) (700)) ∧ (f 8 = true → f 4 = true) ∧ (f 9 = true → f 4 = true) ∧ (f 10 = true → f 4 = true) ∧ (f 11 = true → f 4 = true) ∧ (f 5 = true → f 4 = true) ∧ (f 6 = true → f 4 = true) ∧ Facts W [.has (some ⟨G, 0, none⟩) ps (some G), .own w1.heap.size [.slice (some ⟨G, 0, none⟩) m c1], .own k4 [.int .i64 x, .int .i64 y]] ∧ Below w.heap.size w W) ?_ ⟨?_, ?_, ?_, ?_, ?_, ?_, ?_, ?_, ?_, ?_, ?_, ?_, trivial⟩ ?_
    · exact ⟨.int .i64 0, .int .i64 0, undef, undef, undef, undef, undef, undef, undef, undef, 0, rfl, (fun h => (by cases h)), (fun h => (by cases h)), (fun h => (by cases h)), (fun h => (by cases h)), (fun h => (by cases h)), (fun h => (by cases h)), (fun h => (by cases h)), (fun h => (by cases h)), (fun h => (by cases h)), (fun h => (by cases h)), (fun h => (by cases h)), ⟨fun _ => (own7).drew, (fun h => (by cases h))⟩, ⟨fun _ => (own8).drew, (fun h => (by cases h))⟩, fun _ => hr7, (fun h => (by cases h)), (fun h => (by cases h)), (fun h => (by cases h)), (fun h => (by cases h)), (fun h => (by cases h)), (fun h => (by cases h)), (F5.out).drew, (hbw).drew⟩
    · rintro f act W ⟨x2, x4, x39, x40, x41, x42, x43, x44, x45, x46, rb, rfl, h0, h1, h2, h3, h4, h5, h6, h7, h8, h10, p0, s0, s1, r0, l8, l9, l10, l11, i5_0, i6_0, fx, hB⟩ hf hd K_ hK
      go_simp
      refine hK _ _ ?_
      exact ⟨x2, x4, _, x40, x41, x42, x43, x44, x45, x46, rb, rfl, fun _ => rfl, fun h => h1 (upd_ne (by decide) h), fun h => h2 (upd_ne (by decide) h), fun h => h3 (upd_ne (by decide) h), fun h => h4 (upd_ne (by decide) h), fun h => h5 (upd_ne (by decide) h), fun h => h6 (upd_ne (by decide) h), fun h => h7 (upd_ne (by decide) h), fun h => h8 (upd_ne (by decide) h), fun h => h10 (upd_ne (by decide) h), fun h => p0 (upd_ne (by decide) h), ⟨fun h => s0.1 (by rw [upd_same (by decide)] at h; exact h), fun h => s0.2 (upd_ne (by decide) h)⟩, ⟨fun h => s1.1 (by rw [upd_same (by decide)] at h; exact h), fun h => s1.2 (upd_ne (by decide) h)⟩, fun h => r0 (by rw [upd_same (by decide)] at h; exact h), fun h => upd_of (l8 (upd_ne (by decide) h)), fun h => upd_of (l9 (upd_ne (by decide) h)), fun h => upd_of (l10 (upd_ne (by decide) h)), fun h => upd_of (l11 (upd_ne (by decide) h)), fun h => upd_of (i5_0 (upd_ne (by decide) h)), fun h => upd_of (i6_0 (upd_ne (by decide) h)), fx, hB⟩
    · rintro f act W ⟨x2, x4, x39, x40, x41, x42, x43, x44, x45, x46, rb, rfl, h0, h1, h2, h3, h4, h5, h6, h7, h8, h10, p0, s0, s1, r0, l8, l9, l10, l11, i5_0, i6_0, fx, hB⟩ hf hd K_ hK
      have y0 := (fx.own 1 rfl).cell 0 _ rfl
      go_simp
      refine hK _ _ ?_
      exact ⟨x2, x4, x39, _, x41, x42, x43, x44, x45, x46, rb, rfl, fun h => h0 (upd_ne (by decide) h), fun _ => rfl, fun h => h2 (upd_ne (by decide) h), fun h => h3 (upd_ne (by decide) h), fun h => h4 (upd_ne (by decide) h), fun h => h5 (upd_ne (by decide) h), fun h => h6 (upd_ne (by decide) h), fun h => h7 (upd_ne (by decide) h), fun h => h8 (upd_ne (by decide) h), fun h => h10 (upd_ne (by decide) h), fun h => p0 (upd_ne (by decide) h), ⟨fun h => s0.1 (by rw [upd_same (by decide)] at h; exact h), fun h => s0.2 (upd_ne (by decide) h)⟩, ⟨fun h => s1.1 (by rw [upd_same (by decide)] at h; exact h), fun h => s1.2 (upd_ne (by decide) h)⟩, fun h => r0 (by rw [upd_same (by decide)] at h; exact h), fun h => upd_of (l8 (upd_ne (by decide) h)), fun h => upd_of (l9 (upd_ne (by decide) h)), fun h => upd_of (l10 (upd_ne (by decide) h)), fun h => upd_of (l11 (upd_ne (by decide) h)), fun h => upd_of (i5_0 (upd_ne (by decide) h)), fun h => upd_of (i6_0 (upd_ne (by decide) h)), fx, hB⟩
    · rintro f act W ⟨x2, x4, x39, x40, x41, x42, x43, x44, x45, x46, rb, rfl, h0, h1, h2, h3, h4, h5, h6, h7, h8, h10, p0, s0, s1, r0, l8, l9, l10, l11, i5_0, i6_0, fx, hB⟩ hf hd K_ hK
      go_simp
      refine hK _ _ ?_
      exact ⟨x2, x4, x39, x40, _, x42, x43, x44, x45, x46, rb, rfl, fun h => h0 (upd_ne (by decide) h), fun h => h1 (upd_ne (by decide) h), fun _ => rfl, fun h => h3 (upd_ne (by decide) h), fun h => h4 (upd_ne (by decide) h), fun h => h5 (upd_ne (by decide) h), fun h => h6 (upd_ne (by decide) h), fun h => h7 (upd_ne (by decide) h), fun h => h8 (upd_ne (by decide) h), fun h => h10 (upd_ne (by decide) h), fun h => p0 (upd_ne (by decide) h), ⟨fun h => s0.1 (by rw [upd_same (by decide)] at h; exact h), fun h => s0.2 (upd_ne (by decide) h)⟩, ⟨fun h => s1.1 (by rw [upd_same (by decide)] at h; exact h), fun h => s1.2 (upd_ne (by decide) h)⟩, fun h => r0 (by rw [upd_same (by decide)] at h; exact h), fun h => upd_of (l8 (upd_ne (by decide) h)), fun h => upd_of (l9 (upd_ne (by decide) h)), fun h => upd_of (l10 (upd_ne (by decide) h)), fun h => upd_of (l11 (upd_ne (by decide) h)), fun h => upd_of (i5_0 (upd_ne (by decide) h)), fun h => upd_of (i6_0 (upd_ne (by decide) h)), fx, hB⟩
    · rintro f act W ⟨x2, x4, x39, x40, x41, x42, x43, x44, x45, x46, rb, rfl, h0, h1, h2, h3, h4, h5, h6, h7, h8, h10, p0, s0, s1, r0, l8, l9, l10, l11, i5_0, i6_0, fx, hB⟩ hf hd K_ hK
      go_simp
      refine hK _ _ ?_
      exact ⟨x2, x4, x39, x40, x41, _, x43, x44, x45, x46, rb, rfl, fun h => h0 (upd_ne (by decide) h), fun h => h1 (upd_ne (by decide) h), fun h => h2 (upd_ne (by decide) h), fun _ => rfl, fun h => h4 (upd_ne (by decide) h), fun h => h5 (upd_ne (by decide) h), fun h => h6 (upd_ne (by decide) h), fun h => h7 (upd_ne (by decide) h), fun h => h8 (upd_ne (by decide) h), fun h => h10 (upd_ne (by decide) h), fun h => p0 (upd_ne (by decide) h), ⟨fun h => s0.1 (by rw [upd_same (by decide)] at h; exact h), fun h => s0.2 (upd_ne (by decide) h)⟩, ⟨fun h => s1.1 (by rw [upd_same (by decide)] at h; exact h), fun h => s1.2 (upd_ne (by decide) h)⟩, fun h => r0 (by rw [upd_same (by decide)] at h; exact h), fun h => upd_of (l8 (upd_ne (by decide) h)), fun h => upd_of (l9 (upd_ne (by decide) h)), fun h => upd_of (l10 (upd_ne (by decide) h)), fun h => upd_of (l11 (upd_ne (by decide) h)), fun h => upd_of (i5_0 (upd_ne (by decide) h)), fun h => upd_of (i6_0 (upd_ne (by decide) h)), fx, hB⟩
    · rintro f act W ⟨x2, x4, x39, x40, x41, x42, x43, x44, x45, x46, rb, rfl, h0, h1, h2, h3, h4, h5, h6, h7, h8, h10, p0, s0, s1, r0, l8, l9, l10, l11, i5_0, i6_0, fx, hB⟩ hf hd K_ hK
      have e3 := h3 (dep_of hd (e := ⟨3, .data⟩) (by simp) rfl)
      subst e3
      have hr := r0 hf
      go_simp
      refine (pk2 _ hr).mono ?_
      rintro e W2 ⟨rb', rfl, rb0, rb1, -, hr', hk'⟩
      refine hK _ _ ?_
      exact ⟨x2, x4, x39, x40, x41, _, _, x44, x45, x46, rb', rfl, fun h => h0 (upd_ne (by decide) h), fun h => h1 (upd_ne (by decide) h), fun h => h2 (upd_ne (by decide) h), fun _ => rfl, fun _ => rfl, fun h => absurd (i5_0 (upd_ne (by decide) h)) (by rw [hf]; decide), fun h => absurd (i6_0 (upd_ne (by decide) h)) (by rw [hf]; decide), fun h => h7 (upd_ne (by decide) h), fun h => h8 (upd_ne (by decide) h), fun h => absurd ((l10 (upd_ne (by decide) h))) (by rw [hf]; decide), fun _ => ⟨rb0, by have := rb1 (by omega); omega⟩, ⟨fun h => (s0.1 (by rw [upd_same (by decide)] at h; exact h)).keep hk' (by omega), fun h => absurd ((l9 (upd_ne (by decide) h))) (by rw [hf]; decide)⟩, ⟨fun h => (s1.1 (by rw [upd_same (by decide)] at h; exact h)).keep hk' (by omega), fun h => absurd ((l11 (upd_ne (by decide) h))) (by rw [hf]; decide)⟩, fun h => (by rw [upd_self] at h; cases h), fun _ => upd_self, fun _ => upd_self, fun _ => upd_self, fun _ => upd_self, fun _ => upd_self, fun _ => upd_self, fx.keepB hk' hfb5, hB.trans (hk'.below (by omega) hB.size)⟩
    · rintro f act W ⟨x2, x4, x39, x40, x41, x42, x43, x44, x45, x46, rb, rfl, h0, h1, h2, h3, h4, h5, h6, h7, h8, h10, p0, s0, s1, r0, l8, l9, l10, l11, i5_0, i6_0, fx, hB⟩ hf hd K_ hK
      have e4 := h4 (dep_of hd (e := ⟨4, .data⟩) (by simp) rfl)
      subst e4
      go_simp
      refine hK _ _ ?_
      exact ⟨x2, x4, x39, x40, x41, x42, _, _, x45, x46, rb, rfl, fun h => h0 (upd_ne (by decide) h), fun h => h1 (upd_ne (by decide) h), fun h => h2 (upd_ne (by decide) h), fun h => h3 (upd_ne (by decide) h), fun _ => rfl, fun _ => rfl, fun h => h6 (upd_ne (by decide) h), fun h => h7 (upd_ne (by decide) h), fun h => h8 (upd_ne (by decide) h), fun h => h10 (upd_ne (by decide) h), fun h => p0 (upd_ne (by decide) h), ⟨fun h => s0.1 (by rw [upd_same (by decide)] at h; exact h), fun h => s0.2 (upd_ne (by decide) h)⟩, ⟨fun h => s1.1 (by rw [upd_same (by decide)] at h; exact h), fun h => s1.2 (upd_ne (by decide) h)⟩, fun h => r0 (by rw [upd_same (by decide)] at h; exact h), fun h => upd_of (l8 (upd_ne (by decide) h)), fun h => upd_of (l9 (upd_ne (by decide) h)), fun h => upd_of (l10 (upd_ne (by decide) h)), fun h => upd_of (l11 (upd_ne (by decide) h)), fun _ => upd_of (dep_of hd (e := ⟨4, .data⟩) (by simp) rfl), fun h => upd_of (i6_0 (upd_ne (by decide) h)), fx, hB⟩
    · rintro f act W ⟨x2, x4, x39, x40, x41, x42, x43, x44, x45, x46, rb, rfl, h0, h1, h2, h3, h4, h5, h6, h7, h8, h10, p0, s0, s1, r0, l8, l9, l10, l11, i5_0, i6_0, fx, hB⟩ hf hd K_ hK
      have e2 := h2 (dep_of hd (e := ⟨2, .data⟩) (by simp) rfl)
      subst e2
      have e5 := h5 (dep_of hd (e := ⟨5, .data⟩) (by simp) rfl)
      subst e5
      go_simp
      refine hK _ _ ?_
      exact ⟨x2, x4, x39, x40, _, x42, x43, _, _, x46, rb, rfl, fun h => h0 (upd_ne (by decide) h), fun h => h1 (upd_ne (by decide) h), fun _ => rfl, fun h => h3 (upd_ne (by decide) h), fun h => h4 (upd_ne (by decide) h), fun _ => rfl, fun _ => rfl, fun h => h7 (upd_ne (by decide) h), fun h => h8 (upd_ne (by decide) h), fun h => h10 (upd_ne (by decide) h), fun h => p0 (upd_ne (by decide) h), ⟨fun h => s0.1 (by rw [upd_same (by decide)] at h; exact h), fun h => s0.2 (upd_ne (by decide) h)⟩, ⟨fun h => s1.1 (by rw [upd_same (by decide)] at h; exact h), fun h => s1.2 (upd_ne (by decide) h)⟩, fun h => r0 (by rw [upd_same (by decide)] at h; exact h), fun h => upd_of (l8 (upd_ne (by decide) h)), fun h => upd_of (l9 (upd_ne (by decide) h)), fun h => upd_of (l10 (upd_ne (by decide) h)), fun h => upd_of (l11 (upd_ne (by decide) h)), fun h => upd_of (i5_0 (upd_ne (by decide) h)), fun _ => upd_of (i5_0 (dep_of hd (e := ⟨5, .data⟩) (by simp) rfl)), fx, hB⟩
    · rintro f act W ⟨x2, x4, x39, x40, x41, x42, x43, x44, x45, x46, rb, rfl, h0, h1, h2, h3, h4, h5, h6, h7, h8, h10, p0, s0, s1, r0, l8, l9, l10, l11, i5_0, i6_0, fx, hB⟩ hf hd K_ hK
      have y0 := (fx.own 2 rfl).cell 0 _ rfl
      have y1 := (fx.own 2 rfl).cell 1 _ rfl
      go_simp
      refine hK _ _ ?_
      exact ⟨x2, x4, x39, x40, x41, x42, x43, x44, x45, _, rb, rfl, fun h => h0 (upd_ne (by decide) h), fun h => h1 (upd_ne (by decide) h), fun h => h2 (upd_ne (by decide) h), fun h => h3 (upd_ne (by decide) h), fun h => h4 (upd_ne (by decide) h), fun h => h5 (upd_ne (by decide) h), fun h => h6 (upd_ne (by decide) h), fun _ => rfl, fun h => h8 (upd_ne (by decide) h), fun h => h10 (upd_ne (by decide) h), fun h => p0 (upd_ne (by decide) h), ⟨fun h => s0.1 (by rw [upd_same (by decide)] at h; exact h), fun h => s0.2 (upd_ne (by decide) h)⟩, ⟨fun h => s1.1 (by rw [upd_same (by decide)] at h; exact h), fun h => s1.2 (upd_ne (by decide) h)⟩, fun h => r0 (by rw [upd_same (by decide)] at h; exact h), fun h => upd_of (l8 (upd_ne (by decide) h)), fun h => upd_of (l9 (upd_ne (by decide) h)), fun h => upd_of (l10 (upd_ne (by decide) h)), fun h => upd_of (l11 (upd_ne (by decide) h)), fun h => upd_of (i5_0 (upd_ne (by decide) h)), fun h => upd_of (i6_0 (upd_ne (by decide) h)), fx, hB⟩
    · rintro f act W ⟨x2, x4, x39, x40, x41, x42, x43, x44, x45, x46, rb, rfl, h0, h1, h2, h3, h4, h5, h6, h7, h8, h10, p0, s0, s1, r0, l8, l9, l10, l11, i5_0, i6_0, fx, hB⟩ hf hd K_ hK
      have e0 := h0 (dep_of hd (e := ⟨0, .data⟩) (by simp) rfl)
      subst e0
      go_simp
      refine hK _ _ ?_
      exact ⟨_, x4, _, x40, x41, x42, x43, x44, x45, x46, rb, rfl, fun _ => rfl, fun h => h1 (upd_ne (by decide) h), fun h => h2 (upd_ne (by decide) h), fun h => h3 (upd_ne (by decide) h), fun h => h4 (upd_ne (by decide) h), fun h => h5 (upd_ne (by decide) h), fun h => h6 (upd_ne (by decide) h), fun h => h7 (upd_ne (by decide) h), fun _ => rfl, fun h => h10 (upd_ne (by decide) h), fun h => p0 (upd_ne (by decide) h), ⟨fun h => s0.1 (by rw [upd_same (by decide)] at h; exact h), fun h => s0.2 (upd_ne (by decide) h)⟩, ⟨fun h => s1.1 (by rw [upd_same (by decide)] at h; exact h), fun h => s1.2 (upd_ne (by decide) h)⟩, fun h => r0 (by rw [upd_same (by decide)] at h; exact h), fun _ => upd_of (dep_of hd (e := ⟨4, .chain⟩) (by simp) rfl), fun h => upd_of (l9 (upd_ne (by decide) h)), fun h => upd_of (l10 (upd_ne (by decide) h)), fun h => upd_of (l11 (upd_ne (by decide) h)), fun h => upd_of (i5_0 (upd_ne (by decide) h)), fun h => upd_of (i6_0 (upd_ne (by decide) h)), fx, hB⟩
    · rintro f act W ⟨x2, x4, x39, x40, x41, x42, x43, x44, x45, x46, rb, rfl, h0, h1, h2, h3, h4, h5, h6, h7, h8, h10, p0, s0, s1, r0, l8, l9, l10, l11, i5_0, i6_0, fx, hB⟩ hf hd K_ hK
      have e1 := h1 (dep_of hd (e := ⟨1, .data⟩) (by simp) rfl)
      subst e1
      have oz := s0.1 hf
      have y0 := oz.cell 0 _ rfl
      have z0 := oz.frz 0 _ rfl
      have fC : Hid (f 4 = true) := (l8 (dep_of hd (e := ⟨8, .chain⟩) (by simp) rfl))
      go_simp
      refine hK _ _ ?_
      exact ⟨x2, x4, x39, _, x41, x42, x43, x44, x45, x46, rb, rfl, fun h => h0 (upd_ne (by decide) h), fun _ => rfl, fun h => h2 (upd_ne (by decide) h), fun h => h3 (upd_ne (by decide) h), fun h => h4 (upd_ne (by decide) h), fun h => h5 (upd_ne (by decide) h), fun h => h6 (upd_ne (by decide) h), fun h => h7 (upd_ne (by decide) h), fun h => h8 (upd_ne (by decide) h), fun h => h10 (upd_ne (by decide) h), fun h => p0 (upd_ne (by decide) h), ⟨fun h => (by rw [upd_self] at h; cases h), fun _ => oz.set (i := 0) _ (by simp)⟩, ⟨fun h => (s1.1 (by rw [upd_same (by decide)] at h; exact h)).other (j := w.heap.size) (i := 0) _ (by omega), fun h => (s1.2 (upd_ne (by decide) h)).other (j := w.heap.size) (i := 0) _ (by omega)⟩, fun h => (by rw [upd_same (by decide)] at h; exact absurd h (by rw [fC.out]; decide)), fun h => upd_of (l8 (upd_ne (by decide) h)), fun _ => upd_of fC.out, fun h => upd_of (l10 (upd_ne (by decide) h)), fun h => upd_of (l11 (upd_ne (by decide) h)), fun h => upd_of (i5_0 (upd_ne (by decide) h)), fun h => upd_of (i6_0 (upd_ne (by decide) h)), (fx).set (i := 0) _ hf0, (hB).setCell (p := ⟨w.heap.size, 0, none⟩) (show w.heap.size ≤ w.heap.size by omega) _⟩
    · rintro f act W ⟨x2, x4, x39, x40, x41, x42, x43, x44, x45, x46, rb, rfl, h0, h1, h2, h3, h4, h5, h6, h7, h8, h10, p0, s0, s1, r0, l8, l9, l10, l11, i5_0, i6_0, fx, hB⟩ hf hd K_ hK
      have e6 := h6 (dep_of hd (e := ⟨6, .data⟩) (by simp) rfl)
      subst e6
      go_simp
      refine hK _ _ ?_
      exact ⟨x2, _, x39, x40, x41, x42, x43, x44, _, x46, rb, rfl, fun h => h0 (upd_ne (by decide) h), fun h => h1 (upd_ne (by decide) h), fun h => h2 (upd_ne (by decide) h), fun h => h3 (upd_ne (by decide) h), fun h => h4 (upd_ne (by decide) h), fun h => h5 (upd_ne (by decide) h), fun _ => rfl, fun h => h7 (upd_ne (by decide) h), fun h => h8 (upd_ne (by decide) h), fun _ => rfl, fun h => p0 (upd_ne (by decide) h), ⟨fun h => s0.1 (by rw [upd_same (by decide)] at h; exact h), fun h => s0.2 (upd_ne (by decide) h)⟩, ⟨fun h => s1.1 (by rw [upd_same (by decide)] at h; exact h), fun h => s1.2 (upd_ne (by decide) h)⟩, fun h => r0 (by rw [upd_same (by decide)] at h; exact h), fun h => upd_of (l8 (upd_ne (by decide) h)), fun h => upd_of (l9 (upd_ne (by decide) h)), fun _ => upd_of (dep_of hd (e := ⟨4, .phase⟩) (by simp) rfl), fun h => upd_of (l11 (upd_ne (by decide) h)), fun h => upd_of (i5_0 (upd_ne (by decide) h)), fun h => upd_of (i6_0 (upd_ne (by decide) h)), fx, hB⟩
    · rintro f act W ⟨x2, x4, x39, x40, x41, x42, x43, x44, x45, x46, rb, rfl, h0, h1, h2, h3, h4, h5, h6, h7, h8, h10, p0, s0, s1, r0, l8, l9, l10, l11, i5_0, i6_0, fx, hB⟩ hf hd K_ hK
      have e7 := h7 (dep_of hd (e := ⟨7, .data⟩) (by simp) rfl)
      subst e7
      have oz := s1.1 hf
      have y0 := oz.cell 0 _ rfl
      have z0 := oz.frz 0 _ rfl
      have y1 := oz.cell 1 _ rfl
      have z1 := oz.frz 1 _ rfl
      have fC : Hid (f 4 = true) := (dep_of hd (e := ⟨4, .phase⟩) (by simp) rfl)
      go_simp
      refine hK _ _ ?_
      exact ⟨x2, x4, x39, x40, x41, x42, x43, x44, x45, _, rb, rfl, fun h => h0 (upd_ne (by decide) h), fun h => h1 (upd_ne (by decide) h), fun h => h2 (upd_ne (by decide) h), fun h => h3 (upd_ne (by decide) h), fun h => h4 (upd_ne (by decide) h), fun h => h5 (upd_ne (by decide) h), fun h => h6 (upd_ne (by decide) h), fun _ => rfl, fun h => h8 (upd_ne (by decide) h), fun h => h10 (upd_ne (by decide) h), fun h => p0 (upd_ne (by decide) h), ⟨fun h => ((s0.1 (by rw [upd_same (by decide)] at h; exact h)).other (j := (w.heap.size + 1)) (i := 0) _ (by omega)).other (j := (w.heap.size + 1)) (i := 1) _ (by omega), fun h => ((s0.2 (upd_ne (by decide) h)).other (j := (w.heap.size + 1)) (i := 0) _ (by omega)).other (j := (w.heap.size + 1)) (i := 1) _ (by omega)⟩, ⟨fun h => (by rw [upd_self] at h; cases h), fun _ => oz.set2 _ _⟩, fun h => (by rw [upd_same (by decide)] at h; exact absurd h (by rw [fC.out]; decide)), fun h => upd_of (l8 (upd_ne (by decide) h)), fun h => upd_of (l9 (upd_ne (by decide) h)), fun h => upd_of (l10 (upd_ne (by decide) h)), fun _ => upd_of fC.out, fun h => upd_of (i5_0 (upd_ne (by decide) h)), fun h => upd_of (i6_0 (upd_ne (by decide) h)), ((fx).set (i := 0) _ hf1).set (i := 1) _ hf1, ((hB).setCell (p := ⟨(w.heap.size + 1), 0, none⟩) (show w.heap.size ≤ (w.heap.size + 1) by omega) _).setCell (p := ⟨(w.heap.size + 1), 1, none⟩) (show w.heap.size ≤ (w.heap.size + 1) by omega) _⟩
    rintro f act WZ ⟨x2, x4, x39, x40, x41, x42, x43, x44, x45, x46, rb, rfl, h0, h1, h2, h3, h4, h5, h6, h7, h8, h10, p0, s0, s1, r0, l8, l9, l10, l11, i5_0, i6_0, fx, hB⟩ hall
    have e0 := h0 (hall 0 (by decide))
    subst e0
    have e1 := h1 (hall 1 (by decide))
    subst e1
    have e2 := h2 (hall 2 (by decide))
    subst e2
    have e3 := h3 (hall 3 (by decide))
    subst e3
    have e4 := h4 (hall 4 (by decide))
    subst e4
    have e5 := h5 (hall 5 (by decide))
    subst e5
    have e6 := h6 (hall 6 (by decide))
    subst e6
    have e7 := h7 (hall 7 (by decide))
    subst e7
    have e8 := h8 (hall 8 (by decide))
    subst e8
    have e10 := h10 (hall 10 (by decide))
    subst e10
    have p0 := p0 (hall 4 (by decide))
    have s0 := s0.2 (hall 9 (by decide))
    have s1 := s1.2 (hall 11 (by decide))
    clear hall h0 h1 h2 h3 h4 h5 h6 h7 h8 h10 r0 l8 l9 l10 l11 i5_0 i6_0
    try dsimp only
    go_wp2
    exact boxGapEnd s0 s1 hL.out h8 hc1 (fx.has 0 rfl) (fun G hG => by have := g2H.out G hG; omega) hB (wrapWf _) wx wy rfl rfl rfl rfl
  · have hm0' : ¬ 0 < (m : Int) := by omega
    go_wp2_with (go_at_call 42; refine (pk1 _ hr3).mono ?_; clear pk1; rintro e w4 ⟨r, rfl, r0, r1, -, hr, hk⟩; have F4 : Hid (Facts (w4.alloc (.cells #[.int .i64 0, .int .i64 0] 24)) [.has a1 ps o1, .own w1.heap.size [.slice a1 m c1], .own w4.heap.size [.int .i64 0, .int .i64 0]]) := (Facts.keepB F3.out hk hfb).cells #[.int .i64 0, .int .i64 0] 24; have hr5 : Rd (w4.alloc (.cells #[.int .i64 0, .int .i64 0] 24)) (w1.heap.size + 1) 700 := (hr.mono (by omega)).alloc _; have own5 := (own3.keep hk (by omega)).alloc (.cells #[.int .i64 0, .int .i64 0] 24); have own6 := (own4.keep hk (by omega)).alloc (.cells #[.int .i64 0, .int .i64 0] 24); have hrb : w1.heap.size + 1 < w4.heap.size := hr.1; replace hbw := (hbw.trans (hk.below (by omega) hbw.size)).alloc (by omega) (.cells #[.int .i64 0, .int .i64 0] 24); clear hr hk F3 hr3 own3 own4; have cB := (F4.out.own 1 rfl).cell 0 _ rfl)
    have hf0 := free4 (.own w4.heap.size [.int .i64 0, .int .i64 0]) (hfree w.heap.size (.inl rfl)) (by intro e; have := Option.some.inj e; omega)
    have hf1 := free4 (.own w4.heap.size [.int .i64 0, .int .i64 0]) (hfree (w.heap.size + 1) (.inr (.inl rfl))) (by intro e; have := Option.some.inj e; omega)
    have hfb5 := free4 (.own w4.heap.size [.int .i64 0, .int .i64 0]) hfb (by intro e; have := Option.some.inj e; omega)
    clear cB
    generalize w4.alloc (.cells #[.int .i64 0, .int .i64 0] 24) = w6 at *
    generalize w4.heap.size = k4 at *
    refine region_steps (by kernel_rfl) (by kernel_rfl) (by kernel_rfl) (fun A0 f act W => ∃ (x2 : Value) (x4 : Value) (x39 : Value) (x40 : Value) (x41 : Value) (x42 : Value) (x43 : Value) (x44 : Value) (x45 : Value) (x46 : Value) (rb : Int), act = { tmps := #[.slice a len cap, undef, x2, .pointer (some ⟨w.heap.size, 0, none⟩), x4, .pointer (some ⟨w.heap.size + 1, 0, none⟩), .int .i64 n, .pointer (some ⟨w1.heap.size, 0, none⟩), .pointer (some ⟨w1.heap.size + 1, 0, none⟩), .int .i64 r, .pointer (some ⟨k4, 0, none⟩), .tuple #[.int .i64 n, .agg #[.slice a1 m c1]], .slice a len cap, .tuple #[.int .i64 n, .agg #[.slice a1 m c1]], .int .i64 n, .agg #[.slice a1 m c1], .slice a len cap, .pointer (some ⟨w1.heap.size + 1, 0, none⟩), .pointer (some ⟨w1.heap.size + 1, 0, none⟩), .pointer (some ⟨w1.heap.size + 1, 0, none⟩), .pointer (some ⟨w1.heap.size + 1, 1, none⟩), .pointer (some ⟨w1.heap.size + 1, 0, none⟩), .pointer (some ⟨w1.heap.size, 0, none⟩), .slice a1 m c1, .int .i64 (m : Int), .int .i64 r, .agg #[.int .i64 0, .int .i64 0], .pointer (some ⟨w1.heap.size, 0, none⟩), .slice a1 m c1, .int .i64 (m : Int), .bool false, undef, undef, undef, undef, undef, undef, undef, undef, x39, x40, x41, x42, x43, x44, x45, x46], defers := [] } ∧ (f 0 = true → x39 = .int .i64 n) ∧ (f 1 = true → x40 = .agg #[.slice a1 m c1]) ∧ (f 2 = true → x41 = .int .i64 r) ∧ (f 3 = true → x42 = .pointer (some ⟨w1.heap.size + 1, 0, none⟩)) ∧ (f 4 = true → x43 = .int .i64 rb) ∧ (f 5 = true → x44 = .int .i64 (IntKind.i64.wrap (rb.tdiv 23))) ∧ (f 6 = true → x45 = .int .i64 (IntKind.i64.wrap (r - IntKind.i64.wrap (rb.tdiv 23)))) ∧ (f 7 = true → x46 = .agg #[.int .i64 0, .int .i64 0]) ∧ (f 8 = true → x2 = .int .i64 n) ∧ (f 10 = true → x4 = .int .i64 (IntKind.i64.wrap (r - IntKind.i64.wrap (rb.tdiv 23)))) ∧ (f 4 = true → 0 ≤ rb ∧ rb ≤ 23) ∧ ((f 9 = false → Own W w.heap.size [.slice none 0 0]) ∧ (f 9 = true → Own W w.heap.size [.slice a1 m c1])) ∧ ((f 11 = false → Own W (w.heap.size + 1) [.int .i64 0, .int .i64 0]) ∧ (f 11 = true → Own W (w.heap.size + 1) [.int .i64 0, .int .i64 0])) ∧ (f 4 = false → Rd W (w1.heap.size + 1) (700)) ∧ (f 8 = true → f 4 = true) ∧ (f 9 = true → f 4 = true) ∧ (f 10 = true → f 4 = true) ∧ (f 11 = true → f 4 = true) ∧ (f 5 = true → f 4 = true) ∧ (f 6 = true → f 4 = true) ∧ Facts W [.has a1 ps o1, .own w1.heap.size [.slice a1 m c1], .own k4 [.int .i64 0, .int .i64 0]] ∧ Below w.heap.size w W) ?_ ⟨?_, ?_, ?_, ?_, ?_, ?_, ?_, ?_, ?_, ?_, ?_, ?_, trivial⟩ ?_
    · exact ⟨.int .i64 0, .int .i64 0, undef, undef, undef, undef, undef, undef, undef, undef, 0, rfl, (fun h => (by cases h)), (fun h => (by cases h)), (fun h => (by cases h)), (fun h => (by cases h)), (fun h => (by cases h)), (fun h => (by cases h)), (fun h => (by cases h)), (fun h => (by cases h)), (fun h => (by cases h)), (fun h => (by cases h)), (fun h => (by cases h)), ⟨fun _ => (own5).drew, (fun h => (by cases h))⟩, ⟨fun _ => (own6).drew, (fun h => (by cases h))⟩, fun _ => hr5, (fun h => (by cases h)), (fun h => (by cases h)), (fun h => (by cases h)), (fun h => (by cases h)), (fun h => (by cases h)), (fun h => (by cases h)), (F4.out).drew, (hbw).drew⟩
    · rintro f act W ⟨x2, x4, x39, x40, x41, x42, x43, x44, x45, x46, rb, rfl, h0, h1, h2, h3, h4, h5, h6, h7, h8, h10, p0, s0, s1, r0, l8, l9, l10, l11, i5_0, i6_0, fx, hB⟩ hf hd K_ hK
      go_simp
      refine hK _ _ ?_
      exact ⟨x2, x4, _, x40, x41, x42, x43, x44, x45, x46, rb, rfl, fun _ => rfl, fun h => h1 (upd_ne (by decide) h), fun h => h2 (upd_ne (by decide) h), fun h => h3 (upd_ne (by decide) h), fun h => h4 (upd_ne (by decide) h), fun h => h5 (upd_ne (by decide) h), fun h => h6 (upd_ne (by decide) h), fun h => h7 (upd_ne (by decide) h), fun h => h8 (upd_ne (by decide) h), fun h => h10 (upd_ne (by decide) h), fun h => p0 (upd_ne (by decide) h), ⟨fun h => s0.1 (by rw [upd_same (by decide)] at h; exact h), fun h => s0.2 (upd_ne (by decide) h)⟩, ⟨fun h => s1.1 (by rw [upd_same (by decide)] at h; exact h), fun h => s1.2 (upd_ne (by decide) h)⟩, fun h => r0 (by rw [upd_same (by decide)] at h; exact h), fun h => upd_of (l8 (upd_ne (by decide) h)), fun h => upd_of (l9 (upd_ne (by decide) h)), fun h => upd_of (l10 (upd_ne (by decide) h)), fun h => upd_of (l11 (upd_ne (by decide) h)), fun h => upd_of (i5_0 (upd_ne (by decide) h)), fun h => upd_of (i6_0 (upd_ne (by decide) h)), fx, hB⟩
    · rintro f act W ⟨x2, x4, x39, x40, x41, x42, x43, x44, x45, x46, rb, rfl, h0, h1, h2, h3, h4, h5, h6, h7, h8, h10, p0, s0, s1, r0, l8, l9, l10, l11, i5_0, i6_0, fx, hB⟩ hf hd K_ hK
      have y0 := (fx.own 1 rfl).cell 0 _ rfl
      go_simp
      refine hK _ _ ?_
      exact ⟨x2, x4, x39, _, x41, x42, x43, x44, x45, x46, rb, rfl, fun h => h0 (upd_ne (by decide) h), fun _ => rfl, fun h => h2 (upd_ne (by decide) h), fun h => h3 (upd_ne (by decide) h), fun h => h4 (upd_ne (by decide) h), fun h => h5 (upd_ne (by decide) h), fun h => h6 (upd_ne (by decide) h), fun h => h7 (upd_ne (by decide) h), fun h => h8 (upd_ne (by decide) h), fun h => h10 (upd_ne (by decide) h), fun h => p0 (upd_ne (by decide) h), ⟨fun h => s0.1 (by rw [upd_same (by decide)] at h; exact h), fun h => s0.2 (upd_ne (by decide) h)⟩, ⟨fun h => s1.1 (by rw [upd_same (by decide)] at h; exact h), fun h => s1.2 (upd_ne (by decide) h)⟩, fun h => r0 (by rw [upd_same (by decide)] at h; exact h), fun h => upd_of (l8 (upd_ne (by decide) h)), fun h => upd_of (l9 (upd_ne (by decide) h)), fun h => upd_of (l10 (upd_ne (by decide) h)), fun h => upd_of (l11 (upd_ne (by decide) h)), fun h => upd_of (i5_0 (upd_ne (by decide) h)), fun h => upd_of (i6_0 (upd_ne (by decide) h)), fx, hB⟩
    · rintro f act W ⟨x2, x4, x39, x40, x41, x42, x43, x44, x45, x46, rb, rfl, h0, h1, h2, h3, h4, h5, h6, h7, h8, h10, p0, s0, s1, r0, l8, l9, l10, l11, i5_0, i6_0, fx, hB⟩ hf hd K_ hK
      go_simp
      refine hK _ _ ?_
      exact ⟨x2, x4, x39, x40, _, x42, x43, x44, x45, x46, rb, rfl, fun h => h0 (upd_ne (by decide) h), fun h => h1 (upd_ne (by decide) h), fun _ => rfl, fun h => h3 (upd_ne (by decide) h), fun h => h4 (upd_ne (by decide) h), fun h => h5 (upd_ne (by decide) h), fun h => h6 (upd_ne (by decide) h), fun h => h7 (upd_ne (by decide) h), fun h => h8 (upd_ne (by decide) h), fun h => h10 (upd_ne (by decide) h), fun h => p0 (upd_ne (by decide) h), ⟨fun h => s0.1 (by rw [upd_same (by decide)] at h; exact h), fun h => s0.2 (upd_ne (by decide) h)⟩, ⟨fun h => s1.1 (by rw [upd_same (by decide)] at h; exact h), fun h => s1.2 (upd_ne (by decide) h)⟩, fun h => r0 (by rw [upd_same (by decide)] at h; exact h), fun h => upd_of (l8 (upd_ne (by decide) h)), fun h => upd_of (l9 (upd_ne (by decide) h)), fun h => upd_of (l10 (upd_ne (by decide) h)), fun h => upd_of (l11 (upd_ne (by decide) h)), fun h => upd_of (i5_0 (upd_ne (by decide) h)), fun h => upd_of (i6_0 (upd_ne (by decide) h)), fx, hB⟩
    · rintro f act W ⟨x2, x4, x39, x40, x41, x42, x43, x44, x45, x46, rb, rfl, h0, h1, h2, h3, h4, h5, h6, h7, h8, h10, p0, s0, s1, r0, l8, l9, l10, l11, i5_0, i6_0, fx, hB⟩ hf hd K_ hK
      go_simp
      refine hK _ _ ?_
      exact ⟨x2, x4, x39, x40, x41, _, x43, x44, x45, x46, rb, rfl, fun h => h0 (upd_ne (by decide) h), fun h => h1 (upd_ne (by decide) h), fun h => h2 (upd_ne (by decide) h), fun _ => rfl, fun h => h4 (upd_ne (by decide) h), fun h => h5 (upd_ne (by decide) h), fun h => h6 (upd_ne (by decide) h), fun h => h7 (upd_ne (by decide) h), fun h => h8 (upd_ne (by decide) h), fun h => h10 (upd_ne (by decide) h), fun h => p0 (upd_ne (by decide) h), ⟨fun h => s0.1 (by rw [upd_same (by decide)] at h; exact h), fun h => s0.2 (upd_ne (by decide) h)⟩, ⟨fun h => s1.1 (by rw [upd_same (by decide)] at h; exact h), fun h => s1.2 (upd_ne (by decide) h)⟩, fun h => r0 (by rw [upd_same (by decide)] at h; exact h), fun h => upd_of (l8 (upd_ne (by decide) h)), fun h => upd_of (l9 (upd_ne (by decide) h)), fun h => upd_of (l10 (upd_ne (by decide) h)), fun h => upd_of (l11 (upd_ne (by decide) h)), fun h => upd_of (i5_0 (upd_ne (by decide) h)), fun h => upd_of (i6_0 (upd_ne (by decide) h)), fx, hB⟩
    · rintro f act W ⟨x2, x4, x39, x40, x41, x42, x43, x44, x45, x46, rb, rfl, h0, h1, h2, h3, h4, h5, h6, h7, h8, h10, p0, s0, s1, r0, l8, l9, l10, l11, i5_0, i6_0, fx, hB⟩ hf hd K_ hK
      have e3 := h3 (dep_of hd (e := ⟨3, .data⟩) (by simp) rfl)
      subst e3
      have hr := r0 hf
      go_simp
      refine (pk2 _ hr).mono ?_
      rintro e W2 ⟨rb', rfl, rb0, rb1, -, hr', hk'⟩
      refine hK _ _ ?_
      exact ⟨x2, x4, x39, x40, x41, _, _, x44, x45, x46, rb', rfl, fun h => h0 (upd_ne (by decide) h), fun h => h1 (upd_ne (by decide) h), fun h => h2 (upd_ne (by decide) h), fun _ => rfl, fun _ => rfl, fun h => absurd (i5_0 (upd_ne (by decide) h)) (by rw [hf]; decide), fun h => absurd (i6_0 (upd_ne (by decide) h)) (by rw [hf]; decide), fun h => h7 (upd_ne (by decide) h), fun h => h8 (upd_ne (by decide) h), fun h => absurd ((l10 (upd_ne (by decide) h))) (by rw [hf]; decide), fun _ => ⟨rb0, by have := rb1 (by omega); omega⟩, ⟨fun h => (s0.1 (by rw [upd_same (by decide)] at h; exact h)).keep hk' (by omega), fun h => absurd ((l9 (upd_ne (by decide) h))) (by rw [hf]; decide)⟩, ⟨fun h => (s1.1 (by rw [upd_same (by decide)] at h; exact h)).keep hk' (by omega), fun h => absurd ((l11 (upd_ne (by decide) h))) (by rw [hf]; decide)⟩, fun h => (by rw [upd_self] at h; cases h), fun _ => upd_self, fun _ => upd_self, fun _ => upd_self, fun _ => upd_self, fun _ => upd_self, fun _ => upd_self, fx.keepB hk' hfb5, hB.trans (hk'.below (by omega) hB.size)⟩
    · rintro f act W ⟨x2, x4, x39, x40, x41, x42, x43, x44, x45, x46, rb, rfl, h0, h1, h2, h3, h4, h5, h6, h7, h8, h10, p0, s0, s1, r0, l8, l9, l10, l11, i5_0, i6_0, fx, hB⟩ hf hd K_ hK
      have e4 := h4 (dep_of hd (e := ⟨4, .data⟩) (by simp) rfl)
      subst e4
      go_simp
      refine hK _ _ ?_
      exact ⟨x2, x4, x39, x40, x41, x42, _, _, x45, x46, rb, rfl, fun h => h0 (upd_ne (by decide) h), fun h => h1 (upd_ne (by decide) h), fun h => h2 (upd_ne (by decide) h), fun h => h3 (upd_ne (by decide) h), fun _ => rfl, fun _ => rfl, fun h => h6 (upd_ne (by decide) h), fun h => h7 (upd_ne (by decide) h), fun h => h8 (upd_ne (by decide) h), fun h => h10 (upd_ne (by decide) h), fun h => p0 (upd_ne (by decide) h), ⟨fun h => s0.1 (by rw [upd_same (by decide)] at h; exact h), fun h => s0.2 (upd_ne (by decide) h)⟩, ⟨fun h => s1.1 (by rw [upd_same (by decide)] at h; exact h), fun h => s1.2 (upd_ne (by decide) h)⟩, fun h => r0 (by rw [upd_same (by decide)] at h; exact h), fun h => upd_of (l8 (upd_ne (by decide) h)), fun h => upd_of (l9 (upd_ne (by decide) h)), fun h => upd_of (l10 (upd_ne (by decide) h)), fun h => upd_of (l11 (upd_ne (by decide) h)), fun _ => upd_of (dep_of hd (e := ⟨4, .data⟩) (by simp) rfl), fun h => upd_of (i6_0 (upd_ne (by decide) h)), fx, hB⟩
    · rintro f act W ⟨x2, x4, x39, x40, x41, x42, x43, x44, x45, x46, rb, rfl, h0, h1, h2, h3, h4, h5, h6, h7, h8, h10, p0, s0, s1, r0, l8, l9, l10, l11, i5_0, i6_0, fx, hB⟩ hf hd K_ hK
      have e2 := h2 (dep_of hd (e := ⟨2, .data⟩) (by simp) rfl)
      subst e2
      have e5 := h5 (dep_of hd (e := ⟨5, .data⟩) (by simp) rfl)
      subst e5
      go_simp
      refine hK _ _ ?_
      exact ⟨x2, x4, x39, x40, _, x42, x43, _, _, x46, rb, rfl, fun h => h0 (upd_ne (by decide) h), fun h => h1 (upd_ne (by decide) h), fun _ => rfl, fun h => h3 (upd_ne (by decide) h), fun h => h4 (upd_ne (by decide) h), fun _ => rfl, fun _ => rfl, fun h => h7 (upd_ne (by decide) h), fun h => h8 (upd_ne (by decide) h), fun h => h10 (upd_ne (by decide) h), fun h => p0 (upd_ne (by decide) h), ⟨fun h => s0.1 (by rw [upd_same (by decide)] at h; exact h), fun h => s0.2 (upd_ne (by decide) h)⟩, ⟨fun h => s1.1 (by rw [upd_same (by decide)] at h; exact h), fun h => s1.2 (upd_ne (by decide) h)⟩, fun h => r0 (by rw [upd_same (by decide)] at h; exact h), fun h => upd_of (l8 (upd_ne (by decide) h)), fun h => upd_of (l9 (upd_ne (by decide) h)), fun h => upd_of (l10 (upd_ne (by decide) h)), fun h => upd_of (l11 (upd_ne (by decide) h)), fun h => upd_of (i5_0 (upd_ne (by decide) h)), fun _ => upd_of (i5_0 (dep_of hd (e := ⟨5, .data⟩) (by simp) rfl)), fx, hB⟩
    · rintro f act W ⟨x2, x4, x39, x40, x41, x42, x43, x44, x45, x46, rb, rfl, h0, h1, h2, h3, h4, h5, h6, h7, h8, h10, p0, s0, s1, r0, l8, l9, l10, l11, i5_0, i6_0, fx, hB⟩ hf hd K_ hK
      have y0 := (fx.own 2 rfl).cell 0 _ rfl
      have y1 := (fx.own 2 rfl).cell 1 _ rfl
      go_simp
      refine hK _ _ ?_
      exact ⟨x2, x4, x39, x40, x41, x42, x43, x44, x45, _, rb, rfl, fun h => h0 (upd_ne (by decide) h), fun h => h1 (upd_ne (by decide) h), fun h => h2 (upd_ne (by decide) h), fun h => h3 (upd_ne (by decide) h), fun h => h4 (upd_ne (by decide) h), fun h => h5 (upd_ne (by decide) h), fun h => h6 (upd_ne (by decide) h), fun _ => rfl, fun h => h8 (upd_ne (by decide) h), fun h => h10 (upd_ne (by decide) h), fun h => p0 (upd_ne (by decide) h), ⟨fun h => s0.1 (by rw [upd_same (by decide)] at h; exact h), fun h => s0.2 (upd_ne (by decide) h)⟩, ⟨fun h => s1.1 (by rw [upd_same (by decide)] at h; exact h), fun h => s1.2 (upd_ne (by decide) h)⟩, fun h => r0 (by rw [upd_same (by decide)] at h; exact h), fun h => upd_of (l8 (upd_ne (by decide) h)), fun h => upd_of (l9 (upd_ne (by decide) h)), fun h => upd_of (l10 (upd_ne (by decide) h)), fun h => upd_of (l11 (upd_ne (by decide) h)), fun h => upd_of (i5_0 (upd_ne (by decide) h)), fun h => upd_of (i6_0 (upd_ne (by decide) h)), fx, hB⟩
    · rintro f act W ⟨x2, x4, x39, x40, x41, x42, x43, x44, x45, x46, rb, rfl, h0, h1, h2, h3, h4, h5, h6, h7, h8, h10, p0, s0, s1, r0, l8, l9, l10, l11, i5_0, i6_0, fx, hB⟩ hf hd K_ hK
      have e0 := h0 (dep_of hd (e := ⟨0, .data⟩) (by simp) rfl)
      subst e0
      go_simp
      refine hK _ _ ?_
      exact ⟨_, x4, _, x40, x41, x42, x43, x44, x45, x46, rb, rfl, fun _ => rfl, fun h => h1 (upd_ne (by decide) h), fun h => h2 (upd_ne (by decide) h), fun h => h3 (upd_ne (by decide) h), fun h => h4 (upd_ne (by decide) h), fun h => h5 (upd_ne (by decide) h), fun h => h6 (upd_ne (by decide) h), fun h => h7 (upd_ne (by decide) h), fun _ => rfl, fun h => h10 (upd_ne (by decide) h), fun h => p0 (upd_ne (by decide) h), ⟨fun h => s0.1 (by rw [upd_same (by decide)] at h; exact h), fun h => s0.2 (upd_ne (by decide) h)⟩, ⟨fun h => s1.1 (by rw [upd_same (by decide)] at h; exact h), fun h => s1.2 (upd_ne (by decide) h)⟩, fun h => r0 (by rw [upd_same (by decide)] at h; exact h), fun _ => upd_of (dep_of hd (e := ⟨4, .chain⟩) (by simp) rfl), fun h => upd_of (l9 (upd_ne (by decide) h)), fun h => upd_of (l10 (upd_ne (by decide) h)), fun h => upd_of (l11 (upd_ne (by decide) h)), fun h => upd_of (i5_0 (upd_ne (by decide) h)), fun h => upd_of (i6_0 (upd_ne (by decide) h)), fx, hB⟩
    · rintro f act W ⟨x2, x4, x39, x40, x41, x42, x43, x44, x45, x46, rb, rfl, h0, h1, h2, h3, h4, h5, h6, h7, h8, h10, p0, s0, s1, r0, l8, l9, l10, l11, i5_0, i6_0, fx, hB⟩ hf hd K_ hK
      have e1 := h1 (dep_of hd (e := ⟨1, .data⟩) (by simp) rfl)
      subst e1
      have oz := s0.1 hf
      have y0 := oz.cell 0 _ rfl
      have z0 := oz.frz 0 _ rfl
      have fC : Hid (f 4 = true) := (l8 (dep_of hd (e := ⟨8, .chain⟩) (by simp) rfl))
      go_simp
      refine hK _ _ ?_
      exact ⟨x2, x4, x39, _, x41, x42, x43, x44, x45, x46, rb, rfl, fun h => h0 (upd_ne (by decide) h), fun _ => rfl, fun h => h2 (upd_ne (by decide) h), fun h => h3 (upd_ne (by decide) h), fun h => h4 (upd_ne (by decide) h), fun h => h5 (upd_ne (by decide) h), fun h => h6 (upd_ne (by decide) h), fun h => h7 (upd_ne (by decide) h), fun h => h8 (upd_ne (by decide) h), fun h => h10 (upd_ne (by decide) h), fun h => p0 (upd_ne (by decide) h), ⟨fun h => (by rw [upd_self] at h; cases h), fun _ => oz.set (i := 0) _ (by simp)⟩, ⟨fun h => (s1.1 (by rw [upd_same (by decide)] at h; exact h)).other (j := w.heap.size) (i := 0) _ (by omega), fun h => (s1.2 (upd_ne (by decide) h)).other (j := w.heap.size) (i := 0) _ (by omega)⟩, fun h => (by rw [upd_same (by decide)] at h; exact absurd h (by rw [fC.out]; decide)), fun h => upd_of (l8 (upd_ne (by decide) h)), fun _ => upd_of fC.out, fun h => upd_of (l10 (upd_ne (by decide) h)), fun h => upd_of (l11 (upd_ne (by decide) h)), fun h => upd_of (i5_0 (upd_ne (by decide) h)), fun h => upd_of (i6_0 (upd_ne (by decide) h)), (fx).set (i := 0) _ hf0, (hB).setCell (p := ⟨w.heap.size, 0, none⟩) (show w.heap.size ≤ w.heap.size by omega) _⟩
    · rintro f act W ⟨x2, x4, x39, x40, x41, x42, x43, x44, x45, x46, rb, rfl, h0, h1, h2, h3, h4, h5, h6, h7, h8, h10, p0, s0, s1, r0, l8, l9, l10, l11, i5_0, i6_0, fx, hB⟩ hf hd K_ hK
      have e6 := h6 (dep_of hd (e := ⟨6, .data⟩) (by simp) rfl)
      subst e6
      go_simp
      refine hK _ _ ?_
      exact ⟨x2, _, x39, x40, x41, x42, x43, x44, _, x46, rb, rfl, fun h => h0 (upd_ne (by decide) h), fun h => h1 (upd_ne (by decide) h), fun h => h2 (upd_ne (by decide) h), fun h => h3 (upd_ne (by decide) h), fun h => h4 (upd_ne (by decide) h), fun h => h5 (upd_ne (by decide) h), fun _ => rfl, fun h => h7 (upd_ne (by decide) h), fun h => h8 (upd_ne (by decide) h), fun _ => rfl, fun h => p0 (upd_ne (by decide) h), ⟨fun h => s0.1 (by rw [upd_same (by decide)] at h; exact h), fun h => s0.2 (upd_ne (by decide) h)⟩, ⟨fun h => s1.1 (by rw [upd_same (by decide)] at h; exact h), fun h => s1.2 (upd_ne (by decide) h)⟩, fun h => r0 (by rw [upd_same (by decide)] at h; exact h), fun h => upd_of (l8 (upd_ne (by decide) h)), fun h => upd_of (l9 (upd_ne (by decide) h)), fun _ => upd_of (dep_of hd (e := ⟨4, .phase⟩) (by simp) rfl), fun h => upd_of (l11 (upd_ne (by decide) h)), fun h => upd_of (i5_0 (upd_ne (by decide) h)), fun h => upd_of (i6_0 (upd_ne (by decide) h)), fx, hB⟩
    · rintro f act W ⟨x2, x4, x39, x40, x41, x42, x43, x44, x45, x46, rb, rfl, h0, h1, h2, h3, h4, h5, h6, h7, h8, h10, p0, s0, s1, r0, l8, l9, l10, l11, i5_0, i6_0, fx, hB⟩ hf hd K_ hK
      have e7 := h7 (dep_of hd (e := ⟨7, .data⟩) (by simp) rfl)
      subst e7
      have oz := s1.1 hf
      have y0 := oz.cell 0 _ rfl
      have z0 := oz.frz 0 _ rfl
      have y1 := oz.cell 1 _ rfl
      have z1 := oz.frz 1 _ rfl
      have fC : Hid (f 4 = true) := (dep_of hd (e := ⟨4, .phase⟩) (by simp) rfl)
      go_simp
      refine hK _ _ ?_
      exact ⟨x2, x4, x39, x40, x41, x42, x43, x44, x45, _, rb, rfl, fun h => h0 (upd_ne (by decide) h), fun h => h1 (upd_ne (by decide) h), fun h => h2 (upd_ne (by decide) h), fun h => h3 (upd_ne (by decide) h), fun h => h4 (upd_ne (by decide) h), fun h => h5 (upd_ne (by decide) h), fun h => h6 (upd_ne (by decide) h), fun _ => rfl, fun h => h8 (upd_ne (by decide) h), fun h => h10 (upd_ne (by decide) h), fun h => p0 (upd_ne (by decide) h), ⟨fun h => ((s0.1 (by rw [upd_same (by decide)] at h; exact h)).other (j := (w.heap.size + 1)) (i := 0) _ (by omega)).other (j := (w.heap.size + 1)) (i := 1) _ (by omega), fun h => ((s0.2 (upd_ne (by decide) h)).other (j := (w.heap.size + 1)) (i := 0) _ (by omega)).other (j := (w.heap.size + 1)) (i := 1) _ (by omega)⟩, ⟨fun h => (by rw [upd_self] at h; cases h), fun _ => oz.set2 _ _⟩, fun h => (by rw [upd_same (by decide)] at h; exact absurd h (by rw [fC.out]; decide)), fun h => upd_of (l8 (upd_ne (by decide) h)), fun h => upd_of (l9 (upd_ne (by decide) h)), fun h => upd_of (l10 (upd_ne (by decide) h)), fun _ => upd_of fC.out, fun h => upd_of (i5_0 (upd_ne (by decide) h)), fun h => upd_of (i6_0 (upd_ne (by decide) h)), ((fx).set (i := 0) _ hf1).set (i := 1) _ hf1, ((hB).setCell (p := ⟨(w.heap.size + 1), 0, none⟩) (show w.heap.size ≤ (w.heap.size + 1) by omega) _).setCell (p := ⟨(w.heap.size + 1), 1, none⟩) (show w.heap.size ≤ (w.heap.size + 1) by omega) _⟩
    rintro f act WZ ⟨x2, x4, x39, x40, x41, x42, x43, x44, x45, x46, rb, rfl, h0, h1, h2, h3, h4, h5, h6, h7, h8, h10, p0, s0, s1, r0, l8, l9, l10, l11, i5_0, i6_0, fx, hB⟩ hall
    have e0 := h0 (hall 0 (by decide))
    subst e0
    have e1 := h1 (hall 1 (by decide))
    subst e1
    have e2 := h2 (hall 2 (by decide))
    subst e2
    have e3 := h3 (hall 3 (by decide))
    subst e3
    have e4 := h4 (hall 4 (by decide))
    subst e4
    have e5 := h5 (hall 5 (by decide))
    subst e5
    have e6 := h6 (hall 6 (by decide))
    subst e6
    have e7 := h7 (hall 7 (by decide))
    subst e7
    have e8 := h8 (hall 8 (by decide))
    subst e8
    have e10 := h10 (hall 10 (by decide))
    subst e10
    have p0 := p0 (hall 4 (by decide))
    have s0 := s0.2 (hall 9 (by decide))
    have s1 := s1.2 (hall 11 (by decide))
    clear hall h0 h1 h2 h3 h4 h5 h6 h7 h8 h10 r0 l8 l9 l10 l11 i5_0 i6_0
    try dsimp only
    go_wp2
    exact boxGapEnd s0 s1 hL.out h8 hc1 (fx.has 0 rfl) (fun G hG => by have := g2H.out G hG; omega) hB (wrapWf _) rfl rfl rfl rfl rfl rfl

end Go.Proofs.Yteohgmmenlinbab
