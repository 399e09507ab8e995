/- The contracts of the model's 'l5Box', 'DrawBoxSplit' and 'DrawBoxCut'. -/
import Derived.Test.YteohgmmenlinbabDrawFw
import Derived.Test.YteohgmmenlinbabDrawH
import Derived.Test.YteohgmmenlinbabJB
import Derived.Test.YteohgmmenlinbabOwns
import Derived.Test.YteohgmmenlinbabRegM
import Derived.Test.YteohgmmenlinbabJA
namespace Go.Proofs.Yteohgmmenlinbab
open Go.ChangeShapes Go.WideShapes Go.ChangeAt Go.RowKit
set_option linter.unusedVariables false

/-- A number and a new box. -/
def BoxNOut (w : World) (e : Ending) (w' : World) : Prop :=
  ∃ (n : Int) (a1 : Option Addr) (c1 : Nat) (ps : List (Int × Int)) (o1 : Option Nat), e = .returned (.tuple #[.int .i64 n, .agg #[.slice a1 ps.length c1]]) ∧
    ps.length ≤ 8 ∧ ps.length ≤ c1 ∧ HasO w' a1 ps o1 ∧ (∀ G, o1 = some G → w.heap.size + 1 ≤ G) ∧ (∀ p ∈ ps, Nr p.1 ∧ Nr p.2) ∧ Below w.heap.size w w'

theorem boxNEnd {w W : World} {T : Array Value} {n : Int} {a1 : Option Addr} {l1 c1 : Nat} {ps : List (Int × Int)} {o1 : Option Nat} (rs : Own W w.heap.size [.slice none 0 0]) (e1 : ps.length = l1) (h1 : l1 ≤ 8) (h2 : l1 ≤ c1) (hh : HasO W a1 ps o1) (g1 : ∀ G, o1 = some G → w.heap.size + 1 ≤ G)
    (hg : ∀ p ∈ ps, Nr p.1 ∧ Nr p.2) (hb : Below w.heap.size w W) (t2 : T.getD 2 undef = .int .i64 n) (t3 : T.getD 3 undef = .pointer (some ⟨w.heap.size, 0, none⟩)) :
    bodyPost Try.prog Try.f53 (BoxNOut w) Exit.ret { tmps := T, defers := [] } (W.setCell ⟨w.heap.size, 0, none⟩ (.slice a1 l1 c1)) := by
  subst e1
  have o := rs.set (i := 0) (.slice a1 ps.length c1) (by simp)
  have c0 := o.cell 0 _ rfl
  have hh' : HasO (W.setCell ⟨w.heap.size, 0, none⟩ (.slice a1 ps.length c1)) a1 ps o1 := hh.keepO ((KeepO.of_below (some w.heap.size) (Below.refl _ W)).setCell _) (fun G hG e => by have := g1 G hG; have := Option.some.inj e; omega)
  have hb' := hb.setCell (p := ⟨w.heap.size, 0, none⟩) (Nat.le_refl _) (.slice a1 ps.length c1)
  generalize W.setCell ⟨w.heap.size, 0, none⟩ (.slice a1 ps.length c1) = V at *
  refine bodyPost_ret (v := .tuple #[.int .i64 n, .agg #[.slice a1 ps.length c1]]) ?_ rfl ⟨n, a1, c1, ps, o1, rfl, h1, h2, hh', g1, hg, hb'⟩
  simp at t2 t3
  simp [results, Try.f53, go_sem, t2, t3, c0]

set_option maxHeartbeats 1000000 in
theorem boxN (w : World) (a : Option Addr) (len cap : Nat) (hc : Code8 w a len) (hl : len ≤ cap) (hm : len ≤ 1048576) :
    Calls Try.prog 53 #[.slice a len cap] w (BoxNOut w) := by
  have ho := opened (w.alloc (.cells #[.slice none 0 0] 41)) a len cap (hc.alloc _) hl hm
  have own0 := Own.new w #[.slice none 0 0] 41
  clear hc
  go_enter Try.func53, Try.ntmps53
  go_wp2_with (go_at_call 41; go_must (refine ho.mono ?_); clear ho; rintro e w1 ⟨rfl, hr, hk⟩)
  have hsz : (w.alloc (.cells #[.slice none 0 0] 41)).heap.size = w.heap.size + 1 := by simp
  rw [hsz] at hr hk
  replace own0 := own0.keep hk (by omega)
  have hkw : Keep (w.heap.size + 1) w w1 := ((Keep.refl _ w).alloc _).trans hk
  clear hk hsz
  go_wp2_with first
    | (go_at_call 83; refine (width _ _ _ hr (by omega)).mono ?_; clear hr; rintro e w2 ⟨n, rfl, n0, n1, hr, hk2⟩; replace hkw := hkw.trans hk2; replace own0 := own0.keep hk2 (by omega); clear hk2 n0 n1)
    | (go_at_call 42; refine (pickSt (St.start hr) (by omega)).mono ?_; clear hr; rintro e w3 ⟨r, rfl, r0, r1, h4⟩; have hr : Rd w3 (w.heap.size + 1) 10 := h4.1.mono (by omega); have hb3 : w.heap.size + 1 < w3.heap.size := hr.1; replace hkw := hkw.trans h4.2; replace own0 := own0.keep h4.2 (by omega); clear h4)
    | (go_at_call 85; refine (fewR _ _ _ _ hr (by omega)).mono ?_; rintro e w4 ⟨a3, c3, ps, o3, rfl, h8, hc3, hh, ho3, hg, hr3, hk3⟩; replace own0 := own0.keep hk3 (by omega); replace hkw := hkw.trans hk3; clear hk3 hr; have e0 := own0.cell 0 _ rfl; have f0 := own0.frz 0 _ rfl)
    | (go_at_call 78; refine (boxR _ _ _ _ hr (by omega)).mono ?_; rintro e w4 ⟨a3, c3, ps, o3, rfl, h8, hc3, hh, ho3, hg, hr3, hk3⟩; replace own0 := own0.keep hk3 (by omega); replace hkw := hkw.trans hk3; clear hk3 hr; have e0 := own0.cell 0 _ rfl; have f0 := own0.frz 0 _ rfl)
  all_goals exact boxNEnd own0 rfl h8 hc3 hh (fun G hG => by have := ho3 G hG; omega) hg (hkw.below (by omega) (Nat.le_refl _)) rfl rfl

theorem Code8.belowD {w w' : World} {a : Option Addr} {len : Nat} (h : Code8 w a len) (q : Below w.heap.size w w') : Code8 w' a len := by
  rcases h with h | ⟨rb, ro, ha, hlt, hcell⟩
  · exact .inl h
  · refine .inr ⟨rb, ro, ha, Nat.lt_of_lt_of_le hlt q.size, fun j hj => ?_⟩
    obtain ⟨z, z0, z1, hz⟩ := hcell j hj
    exact ⟨z, z0, z1, (q.cell (p := ⟨rb, ro + j, none⟩) hlt).trans hz⟩

theorem wrapWf (y : Int) : (Lit.int .i64 (IntKind.i64.wrap y)).wf = true := by
  simp [Lit.wf, IntKind.wrap, IntKind.min, IntKind.max, IntKind.signed, IntKind.bits] <;> (try split) <;> omega

/-- A number, a new box and a number. -/
def BoxAtOut (w : World) (e : Ending) (w' : World) : Prop :=
  ∃ (n : Int) (a1 : Option Addr) (c1 : Nat) (ps : List (Int × Int)) (o1 : Option Nat) (k : Int), e = .returned (.tuple #[.int .i64 n, .agg #[.slice a1 ps.length c1], .int .i64 k]) ∧
    ps.length ≤ 8 ∧ ps.length ≤ c1 ∧ HasO w' a1 ps o1 ∧ (Lit.int .i64 k).wf = true ∧ Below w.heap.size w w'

theorem boxAtEnd {w W : World} {T : Array Value} {n k : Int} {a1 : Option Addr} {l1 c1 : Nat} {ps : List (Int × Int)} {o1 : Option Nat} (rs : Own W w.heap.size [.slice a1 l1 c1]) (e1 : ps.length = l1) (h1 : l1 ≤ 8) (h2 : l1 ≤ c1) (hh : HasO W a1 ps o1)
    (hb : Below w.heap.size w W) (hk : (Lit.int .i64 k).wf = true) (t2 : T.getD 2 undef = .int .i64 n) (t3 : T.getD 3 undef = .pointer (some ⟨w.heap.size, 0, none⟩)) (t4 : T.getD 4 undef = .int .i64 k) :
    bodyPost Try.prog Try.f22 (BoxAtOut w) Exit.ret { tmps := T, defers := [] } W := by
  subst e1
  have c0 := rs.cell 0 _ rfl
  refine bodyPost_ret (v := .tuple #[.int .i64 n, .agg #[.slice a1 ps.length c1], .int .i64 k]) ?_ rfl ⟨n, a1, c1, ps, o1, k, rfl, h1, h2, hh, hk, hb⟩
  simp at t2 t3 t4
  simp [results, Try.f22, go_sem, t2, t3, t4, c0]

set_option maxRecDepth 100000 in
set_option maxHeartbeats 8000000 in
theorem drawBoxSplit (w : World) (a : Option Addr) (len cap : Nat) (hc : Code8 w a len) (hl : len ≤ cap) (hm : len ≤ 1048576) :
    Calls Try.prog 22 #[.slice a len cap] w (BoxAtOut w) := by
  have hN := boxN (w.alloc (.cells #[.slice none 0 0] 41)) a len cap (hc.alloc _) hl hm
  have own0 := Own.new w #[.slice none 0 0] 41
  have hb0 := (Below.refl _ w).alloc (Nat.le_refl _) (.cells #[.slice none 0 0] 41)
  go_enter Try.func22, Try.ntmps22
  go_wp2_with (go_at_call 53; go_must (refine hN.mono ?_); clear hN; rintro e w1 ⟨n, a1, c1, ps, o1, rfl, h8, hc1, hh, g1, hg, q⟩; have hs1 := q.size; simp only [World.size_alloc] at hs1 g1)
  have hb1 := (hb0.trans (q.mono hb0.size)).alloc (by omega) (.cells #[.slice a1 ps.length c1] 41)
  have hO := opened _ a len cap (((hc.alloc (.cells #[.slice none 0 0] 41)).belowD q).alloc (.cells #[.slice a1 ps.length c1] 41)) hl hm
  have F : Facts (w1.alloc (.cells #[.slice a1 ps.length c1] 41)) [.has a1 ps o1, .own w1.heap.size [.slice a1 ps.length c1]] := ((Facts.nil _).pushHas hh).cells #[.slice a1 ps.length c1] 41
  have g2 : ∀ G, o1 = some G → w.heap.size + 1 ≤ G ∧ G < w1.heap.size := fun G hG => ⟨by have := g1 G hG; omega, hh.lt G hG⟩
  replace own0 := (own0.below q).alloc (.cells #[.slice a1 ps.length c1] 41)
  clear hc q hb0 hh g1 hg
  obtain ⟨m, hlen⟩ : ∃ m, ps.length = m := ⟨_, rfl⟩
  rw [hlen] at F h8 hc1 own0 hb1 hO ⊢
  have hL : Hid (ps.length = m) := hlen
  clear hlen
  go_wp2_with (go_at_call 41; go_must (refine hO.mono ?_); clear hO; rintro e w2 ⟨rfl, hr, hk⟩; simp only [World.size_alloc] at hr hk; obtain ⟨hrb, ra_, rl_, rc_, rp_, -, -, -, -, hp1, hp2, -⟩ := id hr)
  have hfree : ∀ c, c = w.heap.size ∨ c = w1.heap.size + 1 → ∀ f ∈ ([.has a1 ps o1, .own w1.heap.size [.slice a1 m c1]] : List Fact), f.free (some c) := by
    intro c hcc f hf
    simp only [List.mem_cons, List.not_mem_nil, or_false] at hf
    rcases hf with rfl | rfl
    · intro G hG e; have := Option.some.inj e; have := g2 G hG; omega
    · intro e; have := Option.some.inj e; omega
  have hfb := hfree (w1.heap.size + 1) (.inr rfl)
  have hf0 := hfree w.heap.size (.inl rfl)
  have hk3 : Keep (w1.heap.size + 1) (w1.alloc (.cells #[.slice a1 m c1] 41)) (w2.setCell ⟨w1.heap.size + 1, 1, none⟩ (.int .i64 500)) := hk.setCell rfl _
  have hr3 : Rd (w2.setCell ⟨w1.heap.size + 1, 1, none⟩ (.int .i64 500)) (w1.heap.size + 1) 500 := (hr.mono (by omega)).setCell (by omega) (by omega)
  have F3 : Hid (Facts (w2.setCell ⟨w1.heap.size + 1, 1, none⟩ (.int .i64 500)) [.has a1 ps o1, .own w1.heap.size [.slice a1 m c1]]) := Facts.keepB F hk3 hfb
  have own3 := own0.keep hk3 (by omega)
  have hbw := hb1.trans (hk3.below (by omega) hb1.size)
  have g2H : Hid (∀ G, o1 = some G → w.heap.size + 1 ≤ G ∧ G < w1.heap.size) := g2
  have pk1 := fun W (h : Rd W (w1.heap.size + 1) 500) => pick W (w1.heap.size + 1) 500 (IntKind.i64.wrap ((m : Int) + 1)) h (by omega)
  have hw1 : Hid (IntKind.i64.wrap ((m : Int) + 1) = (m : Int) + 1) := IntWalk.i64_in _ ⟨by omega, by omega⟩
  have pk2 := fun W (h : Rd W (w1.heap.size + 1) 501) => pick W (w1.heap.size + 1) 501 12 h (by omega)
  clear hfree hr hk hk3 hb1 own0 F g2 hp1 hp2
  generalize w2.setCell ⟨w1.heap.size + 1, 1, none⟩ (.int .i64 500) = w3 at *
  refine region_steps (by kernel_rfl) (by kernel_rfl) (by kernel_rfl) (fun A0 f act W => ∃ (x2 : Value) (x4 : Value) (x18 : Value) (x19 : Value) (x20 : Value) (x21 : Value) (x22 : Value) (x23 : Value) (x24 : Value) (x25 : Value) (x26 : Value) (x27 : Value) (x28 : Value) (x29 : Value) (ra : Int) (rb : Int), act = { tmps := #[.slice a len cap, undef, x2, .pointer (some ⟨w.heap.size, 0, none⟩), x4, .int .i64 n, .pointer (some ⟨w1.heap.size, 0, none⟩), .pointer (some ⟨w1.heap.size + 1, 0, none⟩), .tuple #[.int .i64 n, .agg #[.slice a1 m c1]], .slice a len cap, .tuple #[.int .i64 n, .agg #[.slice a1 m c1]], .int .i64 n, .agg #[.slice a1 m c1], .slice a len cap, .pointer (some ⟨w1.heap.size + 1, 0, none⟩), .pointer (some ⟨w1.heap.size + 1, 0, none⟩), .pointer (some ⟨w1.heap.size + 1, 0, none⟩), .pointer (some ⟨w1.heap.size + 1, 1, none⟩), x18, x19, x20, x21, x22, x23, x24, x25, x26, x27, x28, x29], defers := [] } ∧ (f 0 = true → x18 = .int .i64 n) ∧ (f 1 = true → x19 = .agg #[.slice a1 m c1]) ∧ (f 2 = true → x20 = .pointer (some ⟨w1.heap.size + 1, 0, none⟩)) ∧ (f 3 = true → x21 = .pointer (some ⟨w1.heap.size, 0, none⟩)) ∧ (f 4 = true → x22 = .slice a1 m c1) ∧ (f 5 = true → x23 = .int .i64 (m : Int)) ∧ (f 6 = true → x24 = .int .i64 (IntKind.i64.wrap ((m : Int) + 1))) ∧ (f 7 = true → x25 = .int .i64 ra) ∧ (f 8 = true → x26 = .pointer (some ⟨w1.heap.size + 1, 0, none⟩)) ∧ (f 9 = true → x27 = .int .i64 rb) ∧ (f 10 = true → x28 = .int .i64 (IntKind.i64.wrap (rb.tdiv 11))) ∧ (f 11 = true → x29 = .int .i64 (IntKind.i64.wrap (ra - IntKind.i64.wrap (rb.tdiv 11)))) ∧ (f 12 = true → x2 = .int .i64 n) ∧ (f 14 = true → x4 = .int .i64 (IntKind.i64.wrap (ra - IntKind.i64.wrap (rb.tdiv 11)))) ∧ (f 7 = true → 0 ≤ ra ∧ ra ≤ 8) ∧ (f 9 = true → 0 ≤ rb ∧ rb ≤ 11) ∧ ((f 13 = false → Own W w.heap.size [.slice none 0 0]) ∧ (f 13 = true → Own W w.heap.size [.slice a1 m c1])) ∧ (f 7 = false → Rd W (w1.heap.size + 1) (500)) ∧ (f 7 = true → f 9 = false → Rd W (w1.heap.size + 1) (501)) ∧ (f 12 = true → f 9 = true) ∧ (f 13 = true → f 9 = true) ∧ (f 14 = true → f 9 = true) ∧ (f 9 = true → f 7 = true) ∧ (f 10 = true → f 9 = true) ∧ (f 11 = true → f 7 = true) ∧ (f 11 = true → f 9 = true) ∧ Facts W [.has a1 ps o1, .own w1.heap.size [.slice a1 m c1]] ∧ Below w.heap.size w W) ?_ ⟨?_, ?_, ?_, ?_, ?_, ?_, ?_, ?_, ?_, ?_, ?_, ?_, ?_, ?_, ?_, trivial⟩ ?_
  · exact ⟨.int .i64 0, .int .i64 0, undef, undef, undef, undef, undef, undef, undef, undef, undef, undef, undef, undef, 0, 0, rfl, (fun h => (by cases h)), (fun h => (by cases h)), (fun h => (by cases h)), (fun h => (by cases h)), (fun h => (by cases h)), (fun h => (by cases h)), (fun h => (by cases h)), (fun h => (by cases h)), (fun h => (by cases h)), (fun h => (by cases h)), (fun h => (by cases h)), (fun h => (by cases h)), (fun h => (by cases h)), (fun h => (by cases h)), (fun h => (by cases h)), (fun h => (by cases h)), ⟨fun _ => (own3).drew, (fun h => (by cases h))⟩, fun _ => hr3, (fun h => (by cases h)), (fun h => (by cases h)), (fun h => (by cases h)), (fun h => (by cases h)), (fun h => (by cases h)), (fun h => (by cases h)), (fun h => (by cases h)), (fun h => (by cases h)), (F3.out).drew, (hbw).drew⟩
  · rintro f act W ⟨x2, x4, x18, x19, x20, x21, x22, x23, x24, x25, x26, x27, x28, x29, ra, rb, rfl, h0, h1, h2, h3, h4, h5, h6, h7, h8, h9, h10, h11, h12, h14, p0, p1, s0, r0, r1, l12, l13, l14, q1, i10_1, i11_0, i11_1, fx, hB⟩ hf hd K_ hK
    go_simp
    refine hK _ _ ?_
    exact ⟨x2, x4, _, x19, x20, x21, x22, x23, x24, x25, x26, x27, x28, x29, ra, rb, rfl, fun _ => rfl, fun h => h1 (upd_ne (by decide) h), fun h => h2 (upd_ne (by decide) h), fun h => h3 (upd_ne (by decide) h), fun h => h4 (upd_ne (by decide) h), fun h => h5 (upd_ne (by decide) h), fun h => h6 (upd_ne (by decide) h), fun h => h7 (upd_ne (by decide) h), fun h => h8 (upd_ne (by decide) h), fun h => h9 (upd_ne (by decide) h), fun h => h10 (upd_ne (by decide) h), fun h => h11 (upd_ne (by decide) h), fun h => h12 (upd_ne (by decide) h), fun h => h14 (upd_ne (by decide) h), fun h => p0 (upd_ne (by decide) h), fun h => p1 (upd_ne (by decide) h), ⟨fun h => s0.1 (by rw [upd_same (by decide)] at h; exact h), fun h => s0.2 (upd_ne (by decide) h)⟩, fun h => r0 (by rw [upd_same (by decide)] at h; exact h), fun h h' => r1 (upd_ne (by decide) h) (by rw [upd_same (by decide)] at h'; exact h'), fun h => upd_of (l12 (upd_ne (by decide) h)), fun h => upd_of (l13 (upd_ne (by decide) h)), fun h => upd_of (l14 (upd_ne (by decide) h)), fun h => upd_of (q1 (upd_ne (by decide) h)), fun h => upd_of (i10_1 (upd_ne (by decide) h)), fun h => upd_of (i11_0 (upd_ne (by decide) h)), fun h => upd_of (i11_1 (upd_ne (by decide) h)), fx, hB⟩
  · rintro f act W ⟨x2, x4, x18, x19, x20, x21, x22, x23, x24, x25, x26, x27, x28, x29, ra, rb, rfl, h0, h1, h2, h3, h4, h5, h6, h7, h8, h9, h10, h11, h12, h14, p0, p1, s0, r0, r1, l12, l13, l14, q1, i10_1, i11_0, i11_1, fx, hB⟩ hf hd K_ hK
    have y0 := (fx.own 1 rfl).cell 0 _ rfl
    go_simp
    refine hK _ _ ?_
    exact ⟨x2, x4, x18, _, x20, x21, x22, x23, x24, x25, x26, x27, x28, x29, ra, rb, rfl, fun h => h0 (upd_ne (by decide) h), fun _ => rfl, fun h => h2 (upd_ne (by decide) h), fun h => h3 (upd_ne (by decide) h), fun h => h4 (upd_ne (by decide) h), fun h => h5 (upd_ne (by decide) h), fun h => h6 (upd_ne (by decide) h), fun h => h7 (upd_ne (by decide) h), fun h => h8 (upd_ne (by decide) h), fun h => h9 (upd_ne (by decide) h), fun h => h10 (upd_ne (by decide) h), fun h => h11 (upd_ne (by decide) h), fun h => h12 (upd_ne (by decide) h), fun h => h14 (upd_ne (by decide) h), fun h => p0 (upd_ne (by decide) h), fun h => p1 (upd_ne (by decide) h), ⟨fun h => s0.1 (by rw [upd_same (by decide)] at h; exact h), fun h => s0.2 (upd_ne (by decide) h)⟩, fun h => r0 (by rw [upd_same (by decide)] at h; exact h), fun h h' => r1 (upd_ne (by decide) h) (by rw [upd_same (by decide)] at h'; exact h'), fun h => upd_of (l12 (upd_ne (by decide) h)), fun h => upd_of (l13 (upd_ne (by decide) h)), fun h => upd_of (l14 (upd_ne (by decide) h)), fun h => upd_of (q1 (upd_ne (by decide) h)), fun h => upd_of (i10_1 (upd_ne (by decide) h)), fun h => upd_of (i11_0 (upd_ne (by decide) h)), fun h => upd_of (i11_1 (upd_ne (by decide) h)), fx, hB⟩
  · rintro f act W ⟨x2, x4, x18, x19, x20, x21, x22, x23, x24, x25, x26, x27, x28, x29, ra, rb, rfl, h0, h1, h2, h3, h4, h5, h6, h7, h8, h9, h10, h11, h12, h14, p0, p1, s0, r0, r1, l12, l13, l14, q1, i10_1, i11_0, i11_1, fx, hB⟩ hf hd K_ hK
    go_simp
    refine hK _ _ ?_
    exact ⟨x2, x4, x18, x19, _, x21, x22, x23, x24, x25, x26, x27, x28, x29, ra, rb, rfl, fun h => h0 (upd_ne (by decide) h), fun h => h1 (upd_ne (by decide) h), fun _ => rfl, fun h => h3 (upd_ne (by decide) h), fun h => h4 (upd_ne (by decide) h), fun h => h5 (upd_ne (by decide) h), fun h => h6 (upd_ne (by decide) h), fun h => h7 (upd_ne (by decide) h), fun h => h8 (upd_ne (by decide) h), fun h => h9 (upd_ne (by decide) h), fun h => h10 (upd_ne (by decide) h), fun h => h11 (upd_ne (by decide) h), fun h => h12 (upd_ne (by decide) h), fun h => h14 (upd_ne (by decide) h), fun h => p0 (upd_ne (by decide) h), fun h => p1 (upd_ne (by decide) h), ⟨fun h => s0.1 (by rw [upd_same (by decide)] at h; exact h), fun h => s0.2 (upd_ne (by decide) h)⟩, fun h => r0 (by rw [upd_same (by decide)] at h; exact h), fun h h' => r1 (upd_ne (by decide) h) (by rw [upd_same (by decide)] at h'; exact h'), fun h => upd_of (l12 (upd_ne (by decide) h)), fun h => upd_of (l13 (upd_ne (by decide) h)), fun h => upd_of (l14 (upd_ne (by decide) h)), fun h => upd_of (q1 (upd_ne (by decide) h)), fun h => upd_of (i10_1 (upd_ne (by decide) h)), fun h => upd_of (i11_0 (upd_ne (by decide) h)), fun h => upd_of (i11_1 (upd_ne (by decide) h)), fx, hB⟩
  · rintro f act W ⟨x2, x4, x18, x19, x20, x21, x22, x23, x24, x25, x26, x27, x28, x29, ra, rb, rfl, h0, h1, h2, h3, h4, h5, h6, h7, h8, h9, h10, h11, h12, h14, p0, p1, s0, r0, r1, l12, l13, l14, q1, i10_1, i11_0, i11_1, fx, hB⟩ hf hd K_ hK
    go_simp
    refine hK _ _ ?_
    exact ⟨x2, x4, x18, x19, x20, _, x22, x23, x24, x25, x26, x27, x28, x29, ra, rb, rfl, fun h => h0 (upd_ne (by decide) h), fun h => h1 (upd_ne (by decide) h), fun h => h2 (upd_ne (by decide) h), fun _ => rfl, fun h => h4 (upd_ne (by decide) h), fun h => h5 (upd_ne (by decide) h), fun h => h6 (upd_ne (by decide) h), fun h => h7 (upd_ne (by decide) h), fun h => h8 (upd_ne (by decide) h), fun h => h9 (upd_ne (by decide) h), fun h => h10 (upd_ne (by decide) h), fun h => h11 (upd_ne (by decide) h), fun h => h12 (upd_ne (by decide) h), fun h => h14 (upd_ne (by decide) h), fun h => p0 (upd_ne (by decide) h), fun h => p1 (upd_ne (by decide) h), ⟨fun h => s0.1 (by rw [upd_same (by decide)] at h; exact h), fun h => s0.2 (upd_ne (by decide) h)⟩, fun h => r0 (by rw [upd_same (by decide)] at h; exact h), fun h h' => r1 (upd_ne (by decide) h) (by rw [upd_same (by decide)] at h'; exact h'), fun h => upd_of (l12 (upd_ne (by decide) h)), fun h => upd_of (l13 (upd_ne (by decide) h)), fun h => upd_of (l14 (upd_ne (by decide) h)), fun h => upd_of (q1 (upd_ne (by decide) h)), fun h => upd_of (i10_1 (upd_ne (by decide) h)), fun h => upd_of (i11_0 (upd_ne (by decide) h)), fun h => upd_of (i11_1 (upd_ne (by decide) h)), fx, hB⟩
  · rintro f act W ⟨x2, x4, x18, x19, x20, x21, x22, x23, x24, x25, x26, x27, x28, x29, ra, rb, rfl, h0, h1, h2, h3, h4, h5, h6, h7, h8, h9, h10, h11, h12, h14, p0, p1, s0, r0, r1, l12, l13, l14, q1, i10_1, i11_0, i11_1, fx, hB⟩ hf hd K_ hK
    have e3 := h3 (dep_of hd (e := ⟨3, .data⟩) (by simp) rfl)
    subst e3
    have y0 := (fx.own 1 rfl).cell 0 _ rfl
    go_simp
    refine hK _ _ ?_
    exact ⟨x2, x4, x18, x19, x20, _, _, x23, x24, x25, x26, x27, x28, x29, ra, rb, rfl, fun h => h0 (upd_ne (by decide) h), fun h => h1 (upd_ne (by decide) h), fun h => h2 (upd_ne (by decide) h), fun _ => rfl, fun _ => rfl, fun h => h5 (upd_ne (by decide) h), fun h => h6 (upd_ne (by decide) h), fun h => h7 (upd_ne (by decide) h), fun h => h8 (upd_ne (by decide) h), fun h => h9 (upd_ne (by decide) h), fun h => h10 (upd_ne (by decide) h), fun h => h11 (upd_ne (by decide) h), fun h => h12 (upd_ne (by decide) h), fun h => h14 (upd_ne (by decide) h), fun h => p0 (upd_ne (by decide) h), fun h => p1 (upd_ne (by decide) h), ⟨fun h => s0.1 (by rw [upd_same (by decide)] at h; exact h), fun h => s0.2 (upd_ne (by decide) h)⟩, fun h => r0 (by rw [upd_same (by decide)] at h; exact h), fun h h' => r1 (upd_ne (by decide) h) (by rw [upd_same (by decide)] at h'; exact h'), fun h => upd_of (l12 (upd_ne (by decide) h)), fun h => upd_of (l13 (upd_ne (by decide) h)), fun h => upd_of (l14 (upd_ne (by decide) h)), fun h => upd_of (q1 (upd_ne (by decide) h)), fun h => upd_of (i10_1 (upd_ne (by decide) h)), fun h => upd_of (i11_0 (upd_ne (by decide) h)), fun h => upd_of (i11_1 (upd_ne (by decide) h)), fx, hB⟩
  · rintro f act W ⟨x2, x4, x18, x19, x20, x21, x22, x23, x24, x25, x26, x27, x28, x29, ra, rb, rfl, h0, h1, h2, h3, h4, h5, h6, h7, h8, h9, h10, h11, h12, h14, p0, p1, s0, r0, r1, l12, l13, l14, q1, i10_1, i11_0, i11_1, fx, hB⟩ hf hd K_ hK
    have e4 := h4 (dep_of hd (e := ⟨4, .data⟩) (by simp) rfl)
    subst e4
    go_simp
    refine hK _ _ ?_
    exact ⟨x2, x4, x18, x19, x20, x21, _, _, x24, x25, x26, x27, x28, x29, ra, rb, rfl, fun h => h0 (upd_ne (by decide) h), fun h => h1 (upd_ne (by decide) h), fun h => h2 (upd_ne (by decide) h), fun h => h3 (upd_ne (by decide) h), fun _ => rfl, fun _ => rfl, fun h => h6 (upd_ne (by decide) h), fun h => h7 (upd_ne (by decide) h), fun h => h8 (upd_ne (by decide) h), fun h => h9 (upd_ne (by decide) h), fun h => h10 (upd_ne (by decide) h), fun h => h11 (upd_ne (by decide) h), fun h => h12 (upd_ne (by decide) h), fun h => h14 (upd_ne (by decide) h), fun h => p0 (upd_ne (by decide) h), fun h => p1 (upd_ne (by decide) h), ⟨fun h => s0.1 (by rw [upd_same (by decide)] at h; exact h), fun h => s0.2 (upd_ne (by decide) h)⟩, fun h => r0 (by rw [upd_same (by decide)] at h; exact h), fun h h' => r1 (upd_ne (by decide) h) (by rw [upd_same (by decide)] at h'; exact h'), fun h => upd_of (l12 (upd_ne (by decide) h)), fun h => upd_of (l13 (upd_ne (by decide) h)), fun h => upd_of (l14 (upd_ne (by decide) h)), fun h => upd_of (q1 (upd_ne (by decide) h)), fun h => upd_of (i10_1 (upd_ne (by decide) h)), fun h => upd_of (i11_0 (upd_ne (by decide) h)), fun h => upd_of (i11_1 (upd_ne (by decide) h)), fx, hB⟩
  · rintro f act W ⟨x2, x4, x18, x19, x20, x21, x22, x23, x24, x25, x26, x27, x28, x29, ra, rb, rfl, h0, h1, h2, h3, h4, h5, h6, h7, h8, h9, h10, h11, h12, h14, p0, p1, s0, r0, r1, l12, l13, l14, q1, i10_1, i11_0, i11_1, fx, hB⟩ hf hd K_ hK
    have e5 := h5 (dep_of hd (e := ⟨5, .data⟩) (by simp) rfl)
    subst e5
    go_simp
    refine hK _ _ ?_
    exact ⟨x2, x4, x18, x19, x20, x21, x22, _, _, x25, x26, x27, x28, x29, ra, rb, rfl, fun h => h0 (upd_ne (by decide) h), fun h => h1 (upd_ne (by decide) h), fun h => h2 (upd_ne (by decide) h), fun h => h3 (upd_ne (by decide) h), fun h => h4 (upd_ne (by decide) h), fun _ => rfl, fun _ => rfl, fun h => h7 (upd_ne (by decide) h), fun h => h8 (upd_ne (by decide) h), fun h => h9 (upd_ne (by decide) h), fun h => h10 (upd_ne (by decide) h), fun h => h11 (upd_ne (by decide) h), fun h => h12 (upd_ne (by decide) h), fun h => h14 (upd_ne (by decide) h), fun h => p0 (upd_ne (by decide) h), fun h => p1 (upd_ne (by decide) h), ⟨fun h => s0.1 (by rw [upd_same (by decide)] at h; exact h), fun h => s0.2 (upd_ne (by decide) h)⟩, fun h => r0 (by rw [upd_same (by decide)] at h; exact h), fun h h' => r1 (upd_ne (by decide) h) (by rw [upd_same (by decide)] at h'; exact h'), fun h => upd_of (l12 (upd_ne (by decide) h)), fun h => upd_of (l13 (upd_ne (by decide) h)), fun h => upd_of (l14 (upd_ne (by decide) h)), fun h => upd_of (q1 (upd_ne (by decide) h)), fun h => upd_of (i10_1 (upd_ne (by decide) h)), fun h => upd_of (i11_0 (upd_ne (by decide) h)), fun h => upd_of (i11_1 (upd_ne (by decide) h)), fx, hB⟩
  · rintro f act W ⟨x2, x4, x18, x19, x20, x21, x22, x23, x24, x25, x26, x27, x28, x29, ra, rb, rfl, h0, h1, h2, h3, h4, h5, h6, h7, h8, h9, h10, h11, h12, h14, p0, p1, s0, r0, r1, l12, l13, l14, q1, i10_1, i11_0, i11_1, fx, hB⟩ hf hd K_ hK
    have e2 := h2 (dep_of hd (e := ⟨2, .data⟩) (by simp) rfl)
    subst e2
    have e6 := h6 (dep_of hd (e := ⟨6, .data⟩) (by simp) rfl)
    subst e6
    have hr := r0 hf
    go_simp
    refine (pk1 _ hr).mono ?_
    rintro e W2 ⟨ra', rfl, ra0, ra1, -, hr', hk'⟩
    refine hK _ _ ?_
    exact ⟨x2, x4, x18, x19, _, x21, x22, x23, _, _, x26, x27, x28, x29, ra', rb, rfl, fun h => h0 (upd_ne (by decide) h), fun h => h1 (upd_ne (by decide) h), fun _ => rfl, fun h => h3 (upd_ne (by decide) h), fun h => h4 (upd_ne (by decide) h), fun h => h5 (upd_ne (by decide) h), fun _ => rfl, fun _ => rfl, fun h => h8 (upd_ne (by decide) h), fun h => h9 (upd_ne (by decide) h), fun h => h10 (upd_ne (by decide) h), fun h => absurd (i11_0 (upd_ne (by decide) h)) (by rw [hf]; decide), fun h => h12 (upd_ne (by decide) h), fun h => absurd ((q1 (l14 (upd_ne (by decide) h)))) (by rw [hf]; decide), fun _ => ⟨ra0, by rw [hw1.out] at ra1; have := ra1 (by omega); omega⟩, fun h => absurd ((q1 (upd_ne (by decide) h))) (by rw [hf]; decide), ⟨fun h => (s0.1 (by rw [upd_same (by decide)] at h; exact h)).keep hk' (by omega), fun h => absurd ((q1 (l13 (upd_ne (by decide) h)))) (by rw [hf]; decide)⟩, fun h => (by rw [upd_self] at h; cases h), fun _ _ => hr', fun h => absurd ((q1 (l12 (upd_ne (by decide) h)))) (by rw [hf]; decide), fun h => absurd ((q1 (l13 (upd_ne (by decide) h)))) (by rw [hf]; decide), fun h => absurd ((q1 (l14 (upd_ne (by decide) h)))) (by rw [hf]; decide), fun _ => upd_self, fun h => upd_of (i10_1 (upd_ne (by decide) h)), fun _ => upd_self, fun h => upd_of (i11_1 (upd_ne (by decide) h)), fx.keepB hk' hfb, hB.trans (hk'.below (by omega) hB.size)⟩
  · rintro f act W ⟨x2, x4, x18, x19, x20, x21, x22, x23, x24, x25, x26, x27, x28, x29, ra, rb, rfl, h0, h1, h2, h3, h4, h5, h6, h7, h8, h9, h10, h11, h12, h14, p0, p1, s0, r0, r1, l12, l13, l14, q1, i10_1, i11_0, i11_1, fx, hB⟩ hf hd K_ hK
    go_simp
    refine hK _ _ ?_
    exact ⟨x2, x4, x18, x19, x20, x21, x22, x23, x24, x25, _, x27, x28, x29, ra, rb, rfl, fun h => h0 (upd_ne (by decide) h), fun h => h1 (upd_ne (by decide) h), fun h => h2 (upd_ne (by decide) h), fun h => h3 (upd_ne (by decide) h), fun h => h4 (upd_ne (by decide) h), fun h => h5 (upd_ne (by decide) h), fun h => h6 (upd_ne (by decide) h), fun h => h7 (upd_ne (by decide) h), fun _ => rfl, fun h => h9 (upd_ne (by decide) h), fun h => h10 (upd_ne (by decide) h), fun h => h11 (upd_ne (by decide) h), fun h => h12 (upd_ne (by decide) h), fun h => h14 (upd_ne (by decide) h), fun h => p0 (upd_ne (by decide) h), fun h => p1 (upd_ne (by decide) h), ⟨fun h => s0.1 (by rw [upd_same (by decide)] at h; exact h), fun h => s0.2 (upd_ne (by decide) h)⟩, fun h => r0 (by rw [upd_same (by decide)] at h; exact h), fun h h' => r1 (upd_ne (by decide) h) (by rw [upd_same (by decide)] at h'; exact h'), fun h => upd_of (l12 (upd_ne (by decide) h)), fun h => upd_of (l13 (upd_ne (by decide) h)), fun h => upd_of (l14 (upd_ne (by decide) h)), fun h => upd_of (q1 (upd_ne (by decide) h)), fun h => upd_of (i10_1 (upd_ne (by decide) h)), fun h => upd_of (i11_0 (upd_ne (by decide) h)), fun h => upd_of (i11_1 (upd_ne (by decide) h)), fx, hB⟩
  · rintro f act W ⟨x2, x4, x18, x19, x20, x21, x22, x23, x24, x25, x26, x27, x28, x29, ra, rb, rfl, h0, h1, h2, h3, h4, h5, h6, h7, h8, h9, h10, h11, h12, h14, p0, p1, s0, r0, r1, l12, l13, l14, q1, i10_1, i11_0, i11_1, fx, hB⟩ hf hd K_ hK
    have e8 := h8 (dep_of hd (e := ⟨8, .data⟩) (by simp) rfl)
    subst e8
    have hr := r1 (dep_of hd (e := ⟨7, .chain⟩) (by simp) rfl) hf
    go_simp
    refine (pk2 _ hr).mono ?_
    rintro e W2 ⟨rb', rfl, rb0, rb1, -, hr', hk'⟩
    refine hK _ _ ?_
    exact ⟨x2, x4, x18, x19, x20, x21, x22, x23, x24, x25, _, _, x28, x29, ra, rb', rfl, fun h => h0 (upd_ne (by decide) h), fun h => h1 (upd_ne (by decide) h), fun h => h2 (upd_ne (by decide) h), fun h => h3 (upd_ne (by decide) h), fun h => h4 (upd_ne (by decide) h), fun h => h5 (upd_ne (by decide) h), fun h => h6 (upd_ne (by decide) h), fun h => h7 (upd_ne (by decide) h), fun _ => rfl, fun _ => rfl, fun h => absurd (i10_1 (upd_ne (by decide) h)) (by rw [hf]; decide), fun h => absurd (i11_1 (upd_ne (by decide) h)) (by rw [hf]; decide), fun h => h12 (upd_ne (by decide) h), fun h => absurd ((l14 (upd_ne (by decide) h))) (by rw [hf]; decide), fun h => p0 (upd_ne (by decide) h), fun _ => ⟨rb0, by have := rb1 (by omega); omega⟩, ⟨fun h => (s0.1 (by rw [upd_same (by decide)] at h; exact h)).keep hk' (by omega), fun h => absurd ((l13 (upd_ne (by decide) h))) (by rw [hf]; decide)⟩, fun h => (by rw [upd_same (by decide), (dep_of hd (e := ⟨7, .chain⟩) (by simp) rfl)] at h; cases h), fun _ h' => (by rw [upd_self] at h'; cases h'), fun _ => upd_self, fun _ => upd_self, fun _ => upd_self, fun _ => upd_of (dep_of hd (e := ⟨7, .chain⟩) (by simp) rfl), fun _ => upd_self, fun h => upd_of (i11_0 (upd_ne (by decide) h)), fun _ => upd_self, fx.keepB hk' hfb, hB.trans (hk'.below (by omega) hB.size)⟩
  · rintro f act W ⟨x2, x4, x18, x19, x20, x21, x22, x23, x24, x25, x26, x27, x28, x29, ra, rb, rfl, h0, h1, h2, h3, h4, h5, h6, h7, h8, h9, h10, h11, h12, h14, p0, p1, s0, r0, r1, l12, l13, l14, q1, i10_1, i11_0, i11_1, fx, hB⟩ hf hd K_ hK
    have e9 := h9 (dep_of hd (e := ⟨9, .data⟩) (by simp) rfl)
    subst e9
    go_simp
    refine hK _ _ ?_
    exact ⟨x2, x4, x18, x19, x20, x21, x22, x23, x24, x25, x26, _, _, x29, ra, rb, rfl, fun h => h0 (upd_ne (by decide) h), fun h => h1 (upd_ne (by decide) h), fun h => h2 (upd_ne (by decide) h), fun h => h3 (upd_ne (by decide) h), fun h => h4 (upd_ne (by decide) h), fun h => h5 (upd_ne (by decide) h), fun h => h6 (upd_ne (by decide) h), fun h => h7 (upd_ne (by decide) h), fun h => h8 (upd_ne (by decide) h), fun _ => rfl, fun _ => rfl, fun h => h11 (upd_ne (by decide) h), fun h => h12 (upd_ne (by decide) h), fun h => h14 (upd_ne (by decide) h), fun h => p0 (upd_ne (by decide) h), fun h => p1 (upd_ne (by decide) h), ⟨fun h => s0.1 (by rw [upd_same (by decide)] at h; exact h), fun h => s0.2 (upd_ne (by decide) h)⟩, fun h => r0 (by rw [upd_same (by decide)] at h; exact h), fun h h' => r1 (upd_ne (by decide) h) (by rw [upd_same (by decide)] at h'; exact h'), fun h => upd_of (l12 (upd_ne (by decide) h)), fun h => upd_of (l13 (upd_ne (by decide) h)), fun h => upd_of (l14 (upd_ne (by decide) h)), fun h => upd_of (q1 (upd_ne (by decide) h)), fun _ => upd_of (dep_of hd (e := ⟨9, .data⟩) (by simp) rfl), fun h => upd_of (i11_0 (upd_ne (by decide) h)), fun h => upd_of (i11_1 (upd_ne (by decide) h)), fx, hB⟩
  · rintro f act W ⟨x2, x4, x18, x19, x20, x21, x22, x23, x24, x25, x26, x27, x28, x29, ra, rb, rfl, h0, h1, h2, h3, h4, h5, h6, h7, h8, h9, h10, h11, h12, h14, p0, p1, s0, r0, r1, l12, l13, l14, q1, i10_1, i11_0, i11_1, fx, hB⟩ hf hd K_ hK
    have e7 := h7 (dep_of hd (e := ⟨7, .data⟩) (by simp) rfl)
    subst e7
    have e10 := h10 (dep_of hd (e := ⟨10, .data⟩) (by simp) rfl)
    subst e10
    go_simp
    refine hK _ _ ?_
    exact ⟨x2, x4, x18, x19, x20, x21, x22, x23, x24, _, x26, x27, _, _, ra, rb, rfl, fun h => h0 (upd_ne (by decide) h), fun h => h1 (upd_ne (by decide) h), fun h => h2 (upd_ne (by decide) h), fun h => h3 (upd_ne (by decide) h), fun h => h4 (upd_ne (by decide) h), fun h => h5 (upd_ne (by decide) h), fun h => h6 (upd_ne (by decide) h), fun _ => rfl, fun h => h8 (upd_ne (by decide) h), fun h => h9 (upd_ne (by decide) h), fun _ => rfl, fun _ => rfl, fun h => h12 (upd_ne (by decide) h), fun h => h14 (upd_ne (by decide) h), fun h => p0 (upd_ne (by decide) h), fun h => p1 (upd_ne (by decide) h), ⟨fun h => s0.1 (by rw [upd_same (by decide)] at h; exact h), fun h => s0.2 (upd_ne (by decide) h)⟩, fun h => r0 (by rw [upd_same (by decide)] at h; exact h), fun h h' => r1 (upd_ne (by decide) h) (by rw [upd_same (by decide)] at h'; exact h'), fun h => upd_of (l12 (upd_ne (by decide) h)), fun h => upd_of (l13 (upd_ne (by decide) h)), fun h => upd_of (l14 (upd_ne (by decide) h)), fun h => upd_of (q1 (upd_ne (by decide) h)), fun h => upd_of (i10_1 (upd_ne (by decide) h)), fun _ => upd_of (dep_of hd (e := ⟨7, .data⟩) (by simp) rfl), fun _ => upd_of (i10_1 (dep_of hd (e := ⟨10, .data⟩) (by simp) rfl)), fx, hB⟩
  · rintro f act W ⟨x2, x4, x18, x19, x20, x21, x22, x23, x24, x25, x26, x27, x28, x29, ra, rb, rfl, h0, h1, h2, h3, h4, h5, h6, h7, h8, h9, h10, h11, h12, h14, p0, p1, s0, r0, r1, l12, l13, l14, q1, i10_1, i11_0, i11_1, fx, hB⟩ hf hd K_ hK
    have e0 := h0 (dep_of hd (e := ⟨0, .data⟩) (by simp) rfl)
    subst e0
    go_simp
    refine hK _ _ ?_
    exact ⟨_, x4, _, x19, x20, x21, x22, x23, x24, x25, x26, x27, x28, x29, ra, rb, rfl, fun _ => rfl, fun h => h1 (upd_ne (by decide) h), fun h => h2 (upd_ne (by decide) h), fun h => h3 (upd_ne (by decide) h), fun h => h4 (upd_ne (by decide) h), fun h => h5 (upd_ne (by decide) h), fun h => h6 (upd_ne (by decide) h), fun h => h7 (upd_ne (by decide) h), fun h => h8 (upd_ne (by decide) h), fun h => h9 (upd_ne (by decide) h), fun h => h10 (upd_ne (by decide) h), fun h => h11 (upd_ne (by decide) h), fun _ => rfl, fun h => h14 (upd_ne (by decide) h), fun h => p0 (upd_ne (by decide) h), fun h => p1 (upd_ne (by decide) h), ⟨fun h => s0.1 (by rw [upd_same (by decide)] at h; exact h), fun h => s0.2 (upd_ne (by decide) h)⟩, fun h => r0 (by rw [upd_same (by decide)] at h; exact h), fun h h' => r1 (upd_ne (by decide) h) (by rw [upd_same (by decide)] at h'; exact h'), fun _ => upd_of (dep_of hd (e := ⟨9, .chain⟩) (by simp) rfl), fun h => upd_of (l13 (upd_ne (by decide) h)), fun h => upd_of (l14 (upd_ne (by decide) h)), fun h => upd_of (q1 (upd_ne (by decide) h)), fun h => upd_of (i10_1 (upd_ne (by decide) h)), fun h => upd_of (i11_0 (upd_ne (by decide) h)), fun h => upd_of (i11_1 (upd_ne (by decide) h)), fx, hB⟩
  · rintro f act W ⟨x2, x4, x18, x19, x20, x21, x22, x23, x24, x25, x26, x27, x28, x29, ra, rb, rfl, h0, h1, h2, h3, h4, h5, h6, h7, h8, h9, h10, h11, h12, h14, p0, p1, s0, r0, r1, l12, l13, l14, q1, i10_1, i11_0, i11_1, fx, hB⟩ hf hd K_ hK
    have e1 := h1 (dep_of hd (e := ⟨1, .data⟩) (by simp) rfl)
    subst e1
    have oz := s0.1 hf
    have y0 := oz.cell 0 _ rfl
    have z0 := oz.frz 0 _ rfl
    have fC : Hid (f 9 = true) := (l12 (dep_of hd (e := ⟨12, .chain⟩) (by simp) rfl))
    go_simp
    refine hK _ _ ?_
    exact ⟨x2, x4, x18, _, x20, x21, x22, x23, x24, x25, x26, x27, x28, x29, ra, rb, rfl, fun h => h0 (upd_ne (by decide) h), fun _ => rfl, fun h => h2 (upd_ne (by decide) h), fun h => h3 (upd_ne (by decide) h), fun h => h4 (upd_ne (by decide) h), fun h => h5 (upd_ne (by decide) h), fun h => h6 (upd_ne (by decide) h), fun h => h7 (upd_ne (by decide) h), fun h => h8 (upd_ne (by decide) h), fun h => h9 (upd_ne (by decide) h), fun h => h10 (upd_ne (by decide) h), fun h => h11 (upd_ne (by decide) h), fun h => h12 (upd_ne (by decide) h), fun h => h14 (upd_ne (by decide) h), fun h => p0 (upd_ne (by decide) h), fun h => p1 (upd_ne (by decide) h), ⟨fun h => (by rw [upd_self] at h; cases h), fun _ => oz.set (i := 0) _ (by simp)⟩, fun h => (by rw [upd_same (by decide)] at h; exact absurd h (by rw [(q1 fC.out)]; decide)), fun _ h' => (by rw [upd_same (by decide)] at h'; exact absurd h' (by rw [fC.out]; decide)), fun h => upd_of (l12 (upd_ne (by decide) h)), fun _ => upd_of fC.out, fun h => upd_of (l14 (upd_ne (by decide) h)), fun h => upd_of (q1 (upd_ne (by decide) h)), fun h => upd_of (i10_1 (upd_ne (by decide) h)), fun h => upd_of (i11_0 (upd_ne (by decide) h)), fun h => upd_of (i11_1 (upd_ne (by decide) h)), (fx).set (i := 0) _ hf0, (hB).setCell (p := ⟨w.heap.size, 0, none⟩) (show w.heap.size ≤ w.heap.size by omega) _⟩
  · rintro f act W ⟨x2, x4, x18, x19, x20, x21, x22, x23, x24, x25, x26, x27, x28, x29, ra, rb, rfl, h0, h1, h2, h3, h4, h5, h6, h7, h8, h9, h10, h11, h12, h14, p0, p1, s0, r0, r1, l12, l13, l14, q1, i10_1, i11_0, i11_1, fx, hB⟩ hf hd K_ hK
    have e11 := h11 (dep_of hd (e := ⟨11, .data⟩) (by simp) rfl)
    subst e11
    go_simp
    refine hK _ _ ?_
    exact ⟨x2, _, x18, x19, x20, x21, x22, x23, x24, x25, x26, x27, x28, _, ra, rb, rfl, fun h => h0 (upd_ne (by decide) h), fun h => h1 (upd_ne (by decide) h), fun h => h2 (upd_ne (by decide) h), fun h => h3 (upd_ne (by decide) h), fun h => h4 (upd_ne (by decide) h), fun h => h5 (upd_ne (by decide) h), fun h => h6 (upd_ne (by decide) h), fun h => h7 (upd_ne (by decide) h), fun h => h8 (upd_ne (by decide) h), fun h => h9 (upd_ne (by decide) h), fun h => h10 (upd_ne (by decide) h), fun _ => rfl, fun h => h12 (upd_ne (by decide) h), fun _ => rfl, fun h => p0 (upd_ne (by decide) h), fun h => p1 (upd_ne (by decide) h), ⟨fun h => s0.1 (by rw [upd_same (by decide)] at h; exact h), fun h => s0.2 (upd_ne (by decide) h)⟩, fun h => r0 (by rw [upd_same (by decide)] at h; exact h), fun h h' => r1 (upd_ne (by decide) h) (by rw [upd_same (by decide)] at h'; exact h'), fun h => upd_of (l12 (upd_ne (by decide) h)), fun h => upd_of (l13 (upd_ne (by decide) h)), fun _ => upd_of (dep_of hd (e := ⟨9, .phase⟩) (by simp) rfl), fun h => upd_of (q1 (upd_ne (by decide) h)), fun h => upd_of (i10_1 (upd_ne (by decide) h)), fun h => upd_of (i11_0 (upd_ne (by decide) h)), fun h => upd_of (i11_1 (upd_ne (by decide) h)), fx, hB⟩
  rintro f act WZ ⟨x2, x4, x18, x19, x20, x21, x22, x23, x24, x25, x26, x27, x28, x29, ra, rb, rfl, h0, h1, h2, h3, h4, h5, h6, h7, h8, h9, h10, h11, h12, h14, p0, p1, s0, r0, r1, l12, l13, l14, q1, i10_1, i11_0, i11_1, fx, hB⟩ hall
  have e0 := h0 (hall 0 (by decide))
  subst e0
  have e1 := h1 (hall 1 (by decide))
  subst e1
  have e2 := h2 (hall 2 (by decide))
  subst e2
  have e3 := h3 (hall 3 (by decide))
  subst e3
  have e4 := h4 (hall 4 (by decide))
  subst e4
  have e5 := h5 (hall 5 (by decide))
  subst e5
  have e6 := h6 (hall 6 (by decide))
  subst e6
  have e7 := h7 (hall 7 (by decide))
  subst e7
  have e8 := h8 (hall 8 (by decide))
  subst e8
  have e9 := h9 (hall 9 (by decide))
  subst e9
  have e10 := h10 (hall 10 (by decide))
  subst e10
  have e11 := h11 (hall 11 (by decide))
  subst e11
  have e12 := h12 (hall 12 (by decide))
  subst e12
  have e14 := h14 (hall 14 (by decide))
  subst e14
  have p0 := p0 (hall 7 (by decide))
  have p1 := p1 (hall 9 (by decide))
  have s0 := s0.2 (hall 13 (by decide))
  clear hall h0 h1 h2 h3 h4 h5 h6 h7 h8 h9 h10 h11 h12 h14 r0 r1 l12 l13 l14 q1 i10_1 i11_0 i11_1
  try dsimp only
  go_wp2
  exact boxAtEnd s0 hL.out h8 hc1 (fx.has 0 rfl) hB (wrapWf _) rfl rfl rfl

end Go.Proofs.Yteohgmmenlinbab
