/- The contract of the model's 'l5Boxes', and of 'DrawBoxMeet'. -/
import Derived.Test.YteohgmmenlinbabDrawIn
import Derived.Test.YteohgmmenlinbabDrawH
import Derived.Test.YteohgmmenlinbabOwns
import Derived.Test.YteohgmmenlinbabRegM
namespace Go.Proofs.Yteohgmmenlinbab
open Go.ChangeShapes Go.WideShapes Go.ChangeAt Go.RowKit
set_option linter.unusedVariables false

/-- A number and two new boxes. -/
def BoxesOut (w : World) (e : Ending) (w' : World) : Prop :=
  ∃ (n : Int) (a1 : Option Addr) (c1 : Nat) (ps : List (Int × Int)) (o1 : Option Nat) (a2 : Option Addr) (c2 : Nat) (qs : List (Int × Int)) (o2 : Option Nat), e = .returned (.tuple #[.int .i64 n, .agg #[.slice a1 ps.length c1], .agg #[.slice a2 qs.length c2]]) ∧
    ps.length ≤ 9 ∧ ps.length ≤ c1 ∧ qs.length ≤ 9 ∧ qs.length ≤ c2 ∧ HasO w' a1 ps o1 ∧ HasO w' a2 qs o2 ∧ (∀ G, o1 = some G → w.heap.size + 1 + 1 ≤ G) ∧ (∀ G, o2 = some G → w.heap.size + 1 + 1 ≤ G) ∧ Below w.heap.size w w'

theorem boxesEnd {fn : Func} (hres : fn.results = #[.tmp 2, .cell 3 41, .cell 4 41]) {w W : World} {T : Array Value} {n : Int} {a1 : Option Addr} {l1 c1 : Nat} {ps : List (Int × Int)} {o1 : Option Nat} {a2 : Option Addr} {l2 c2 : Nat} {qs : List (Int × Int)} {o2 : Option Nat}
    (rs : Own W w.heap.size [.slice a1 l1 c1]) (rs' : Own W (w.heap.size + 1) [.slice a2 l2 c2]) (e1 : ps.length = l1) (e2 : qs.length = l2) (h1 : l1 ≤ 9) (h2 : l1 ≤ c1) (h3 : l2 ≤ 9) (h4 : l2 ≤ c2) (hh1 : HasO W a1 ps o1) (hh2 : HasO W a2 qs o2)
    (g1 : ∀ G, o1 = some G → w.heap.size + 1 + 1 ≤ G) (g2 : ∀ G, o2 = some G → w.heap.size + 1 + 1 ≤ G) (hb : Below w.heap.size w W)
    (t2 : T.getD 2 undef = .int .i64 n) (t3 : T.getD 3 undef = .pointer (some ⟨w.heap.size, 0, none⟩)) (t4 : T.getD 4 undef = .pointer (some ⟨w.heap.size + 1, 0, none⟩)) :
    bodyPost Try.prog fn (BoxesOut w) Exit.ret { tmps := T, defers := [] } W := by
  subst e1 e2
  have c0 := rs.cell 0 _ rfl
  have d0 := rs'.cell 0 _ rfl
  refine bodyPost_ret (v := .tuple #[.int .i64 n, .agg #[.slice a1 ps.length c1], .agg #[.slice a2 qs.length c2]]) ?_ rfl ⟨n, a1, c1, ps, o1, a2, c2, qs, o2, rfl, h1, h2, h3, h4, hh1, hh2, g1, g2, hb⟩
  simp at t2 t3 t4
  simp [results, hres, go_sem, t2, t3, t4, c0, d0]

set_option maxRecDepth 100000 in
set_option maxHeartbeats 8000000 in
theorem boxes (w : World) (a : Option Addr) (len cap : Nat) (hc : Code8 w a len) (hl : len ≤ cap) (hm : len ≤ 1048576) :
    Calls Try.prog 65 #[.slice a len cap] w (BoxesOut w) := by
  have O := owns2 w #[.slice none 0 0] #[.slice none 0 0] 41
  have ho := opened _ a len cap ((hc.alloc (.cells #[.slice none 0 0] 41)).alloc (.cells #[.slice none 0 0] 41)) hl hm
  clear hc
  go_enter Try.func65, Try.ntmps65
  go_wp2_with first
    | (go_at_call 41; go_must (refine ho.mono ?_); clear ho; rintro e w1 ⟨rfl, hr, hk⟩)
  have hsz : ((w.alloc (.cells #[.slice none 0 0] 41)).alloc (.cells #[.slice none 0 0] 41)).heap.size = w.heap.size + 1 + 1 := by simp
  rw [hsz] at hr hk
  have hkw : Keep (w.heap.size + 1 + 1) w w1 := (((Keep.refl _ w).alloc _).alloc _).trans hk
  have p0 : Own w1 w.heap.size _ := (O.get 0 _ rfl).keep hk (by show w.heap.size + 0 ≠ _; omega)
  have p1 : Own w1 (w.heap.size + 1) _ := (O.get 1 _ rfl).keep hk (by show w.heap.size + 1 ≠ _; omega)
  clear hk O hsz
  go_wp2_with first
    | (go_at_call 83; refine (width _ _ _ hr (by omega)).mono ?_; clear hr; rintro e w2 ⟨n, rfl, n0, n1, hr, hk2⟩; replace hkw := hkw.trans hk2; replace p0 := p0.keep hk2 (by omega); replace p1 := p1.keep hk2 (by omega); clear hk2 n0 n1)
    | (go_at_call 78; have hb2 : w.heap.size + 1 + 1 < w2.heap.size := hr.1; refine (boxR _ _ _ _ hr (by omega)).mono ?_; clear hr; rintro e w3 ⟨a3, c3, ps, o3, rfl, h8, hc3, hh3, ho3, hg3, hr, hk3⟩; have ho3' : Hid (∀ G, o3 = some G → w.heap.size + 1 + 1 < G ∧ G < w3.heap.size) := fun G hG => ⟨by have := ho3 G hG; omega, hh3.lt G hG⟩; replace hkw := hkw.trans hk3; replace p0 := p0.keep hk3 (by omega); replace p1 := p1.keep hk3 (by omega); clear hk3 ho3 hb2; have hl3 : w.heap.size + 1 + 1 < w3.heap.size := hr.1; replace hr := hr.alloc (.cells #[.slice a3 ps.length c3] 41); replace p0 := p0.alloc (.cells #[.slice a3 ps.length c3] 41); replace p1 := p1.alloc (.cells #[.slice a3 ps.length c3] 41); have F : Facts (w3.alloc (.cells #[.slice a3 ps.length c3] 41)) [.has a3 ps o3, .own w3.heap.size [.slice a3 ps.length c3]] := ((Facts.nil _).pushHas hh3).cells #[.slice a3 ps.length c3] 41; clear hh3; replace hkw := hkw.alloc (.cells #[.slice a3 ps.length c3] 41))
  have hI := fun W (h : Rd W (w.heap.size + 1 + 1) 4003) (hq : HasO W a3 ps o3) => inner W (w.heap.size + 1 + 1) 4003 n a3 ps c3 o3 h (by omega) hq (fun G hG => (ho3'.out G hG).1) hc3 h8 hg3
  have hJ := fun W (h : Rd W (w.heap.size + 1 + 1) 4003) => boxR W (w.heap.size + 1 + 1) 4003 n h (by omega)
  obtain ⟨m, hlen⟩ : ∃ m, ps.length = m := ⟨_, rfl⟩
  rw [hlen] at hI F h8 hc3 hr p0 p1 hkw ⊢
  have hlenH : Hid (ps.length = m) := hlen
  clear hlen hg3
  obtain ⟨k3, hk3⟩ : ∃ k3, w3.heap.size = k3 := ⟨_, rfl⟩
  have hfree : ∀ c, c ≤ w.heap.size + 1 + 1 → ∀ f ∈ ([.has a3 ps o3, .own w3.heap.size [.slice a3 m c3]] : List Fact), f.free (some c) := by
    intro c hcc f hf
    simp only [List.mem_cons, List.not_mem_nil, or_false] at hf
    rcases hf with rfl | rfl
    · intro G hG e; have := Option.some.inj e; have := ho3'.out G hG; omega
    · intro e; have := Option.some.inj e; omega
  have hfb := hfree (w.heap.size + 1 + 1) (Nat.le_refl _)
  have hf0 := hfree w.heap.size (by omega)
  have hf1 := hfree (w.heap.size + 1) (by omega)
  clear hfree
  rw [hk3] at F hl3 hfb hf0 hf1 ⊢
  have F : Hid _ := F
  go_wp2_with (go_at_call 42; refine (pickSt (St.start hr) (by omega)).mono ?_; clear hr; rintro e w4 ⟨r, rfl, r0, r1, h4⟩; replace r1 := r1 (by omega); have hr : Rd w4 (w.heap.size + 1 + 1) 4003 := h4.1.mono (by omega); replace hkw := hkw.trans h4.2; replace p0 := p0.keep h4.2 (by omega); replace p1 := p1.keep h4.2 (by omega); have F4 : Hid (Facts w4 [.has a3 ps o3, .own k3 [.slice a3 m c3]]) := Facts.keepB F.out h4.2 hfb; clear h4 F)
  · have hbw := hkw.below (B := w.heap.size) (by omega) (Nat.le_refl _)
    have hz : decide (0 < r) = true := decide_eq_true (by omega)
    rw [hz]
    refine region_steps (by kernel_rfl) (by kernel_rfl) (by kernel_rfl) (fun A0 f act W => ∃ (x2 : Value) (x18 : Value) (x19 : Value) (x20 : Value) (x21 : Value) (x22 : Value) (x23 : Value) (va : Option Addr) (vc : Nat) (vq : List (Int × Int)) (vo : Option Nat), act = { tmps := #[.slice a len cap, undef, x2, .pointer (some ⟨w.heap.size, 0, none⟩), .pointer (some ⟨w.heap.size + 1, 0, none⟩), .pointer (some ⟨w.heap.size + 1 + 1, 0, none⟩), .int .i64 n, .pointer (some ⟨k3, 0, none⟩), .slice a len cap, .pointer (some ⟨w.heap.size + 1 + 1, 0, none⟩), .pointer (some ⟨w.heap.size + 1 + 1, 0, none⟩), .int .i64 n, .pointer (some ⟨w.heap.size + 1 + 1, 0, none⟩), .int .i64 n, .agg #[.slice a3 m c3], .pointer (some ⟨w.heap.size + 1 + 1, 0, none⟩), .int .i64 r, .bool true, x18, x19, x20, x21, x22, x23, undef, undef, undef, undef, undef], defers := [] } ∧ (f 0 = true → x18 = .int .i64 n) ∧ (f 1 = true → x19 = .pointer (some ⟨w.heap.size + 1 + 1, 0, none⟩)) ∧ (f 2 = true → x20 = .int .i64 n) ∧ (f 3 = true → x21 = .agg #[.slice a3 m c3]) ∧ (f 4 = true → x22 = .agg #[.slice va vq.length vc]) ∧ (f 5 = true → x23 = .agg #[.slice a3 m c3]) ∧ (f 6 = true → x2 = .int .i64 n) ∧ (f 4 = true → HasO W va vq vo ∧ vq.length ≤ 9 ∧ vq.length ≤ vc ∧ ∀ G, vo = some G → w.heap.size + 1 + 1 ≤ G) ∧ ((f 7 = false → Own W w.heap.size [.slice none 0 0]) ∧ (f 7 = true → Own W w.heap.size [.slice va vq.length vc])) ∧ ((f 8 = false → Own W (w.heap.size + 1) [.slice none 0 0]) ∧ (f 8 = true → Own W (w.heap.size + 1) [.slice a3 m c3])) ∧ (f 4 = false → Rd W (w.heap.size + 1 + 1) (4003)) ∧ (f 6 = true → f 4 = true) ∧ (f 7 = true → f 4 = true) ∧ (f 8 = true → f 4 = true) ∧ Facts W [.has a3 ps o3, .own k3 [.slice a3 m c3]] ∧ Below w.heap.size w W) ?_ ⟨?_, ?_, ?_, ?_, ?_, ?_, ?_, ?_, ?_, trivial⟩ ?_
    · exact ⟨.int .i64 0, undef, undef, undef, undef, undef, undef, none, 0, [], none, rfl, (fun h => (by cases h)), (fun h => (by cases h)), (fun h => (by cases h)), (fun h => (by cases h)), (fun h => (by cases h)), (fun h => (by cases h)), (fun h => (by cases h)), (fun h => (by cases h)), ⟨fun _ => (p0).drew, (fun h => (by cases h))⟩, ⟨fun _ => (p1).drew, (fun h => (by cases h))⟩, fun _ => hr, (fun h => (by cases h)), (fun h => (by cases h)), (fun h => (by cases h)), (F4.out).drew, (hbw).drew⟩
    · rintro f act W ⟨x2, x18, x19, x20, x21, x22, x23, va, vc, vq, vo, rfl, h0, h1, h2, h3, h4, h5, h6, p0, s0, s1, r0, l6, l7, l8, fx, hB⟩ hf hd K_ hK
      go_simp
      refine hK _ _ ?_
      exact ⟨x2, _, x19, x20, x21, x22, x23, va, vc, vq, vo, rfl, fun _ => rfl, fun h => h1 (upd_ne (by decide) h), fun h => h2 (upd_ne (by decide) h), fun h => h3 (upd_ne (by decide) h), fun h => h4 (upd_ne (by decide) h), fun h => h5 (upd_ne (by decide) h), fun h => h6 (upd_ne (by decide) h), fun h => p0 (upd_ne (by decide) h), ⟨fun h => s0.1 (by rw [upd_same (by decide)] at h; exact h), fun h => s0.2 (upd_ne (by decide) h)⟩, ⟨fun h => s1.1 (by rw [upd_same (by decide)] at h; exact h), fun h => s1.2 (upd_ne (by decide) h)⟩, fun h => r0 (by rw [upd_same (by decide)] at h; exact h), fun h => upd_of (l6 (upd_ne (by decide) h)), fun h => upd_of (l7 (upd_ne (by decide) h)), fun h => upd_of (l8 (upd_ne (by decide) h)), fx, hB⟩
    · rintro f act W ⟨x2, x18, x19, x20, x21, x22, x23, va, vc, vq, vo, rfl, h0, h1, h2, h3, h4, h5, h6, p0, s0, s1, r0, l6, l7, l8, fx, hB⟩ hf hd K_ hK
      go_simp
      refine hK _ _ ?_
      exact ⟨x2, x18, _, x20, x21, x22, x23, va, vc, vq, vo, rfl, fun h => h0 (upd_ne (by decide) h), fun _ => rfl, fun h => h2 (upd_ne (by decide) h), fun h => h3 (upd_ne (by decide) h), fun h => h4 (upd_ne (by decide) h), fun h => h5 (upd_ne (by decide) h), fun h => h6 (upd_ne (by decide) h), fun h => p0 (upd_ne (by decide) h), ⟨fun h => s0.1 (by rw [upd_same (by decide)] at h; exact h), fun h => s0.2 (upd_ne (by decide) h)⟩, ⟨fun h => s1.1 (by rw [upd_same (by decide)] at h; exact h), fun h => s1.2 (upd_ne (by decide) h)⟩, fun h => r0 (by rw [upd_same (by decide)] at h; exact h), fun h => upd_of (l6 (upd_ne (by decide) h)), fun h => upd_of (l7 (upd_ne (by decide) h)), fun h => upd_of (l8 (upd_ne (by decide) h)), fx, hB⟩
    · rintro f act W ⟨x2, x18, x19, x20, x21, x22, x23, va, vc, vq, vo, rfl, h0, h1, h2, h3, h4, h5, h6, p0, s0, s1, r0, l6, l7, l8, fx, hB⟩ hf hd K_ hK
      go_simp
      refine hK _ _ ?_
      exact ⟨x2, x18, x19, _, x21, x22, x23, va, vc, vq, vo, rfl, fun h => h0 (upd_ne (by decide) h), fun h => h1 (upd_ne (by decide) h), fun _ => rfl, fun h => h3 (upd_ne (by decide) h), fun h => h4 (upd_ne (by decide) h), fun h => h5 (upd_ne (by decide) h), fun h => h6 (upd_ne (by decide) h), fun h => p0 (upd_ne (by decide) h), ⟨fun h => s0.1 (by rw [upd_same (by decide)] at h; exact h), fun h => s0.2 (upd_ne (by decide) h)⟩, ⟨fun h => s1.1 (by rw [upd_same (by decide)] at h; exact h), fun h => s1.2 (upd_ne (by decide) h)⟩, fun h => r0 (by rw [upd_same (by decide)] at h; exact h), fun h => upd_of (l6 (upd_ne (by decide) h)), fun h => upd_of (l7 (upd_ne (by decide) h)), fun h => upd_of (l8 (upd_ne (by decide) h)), fx, hB⟩
    · rintro f act W ⟨x2, x18, x19, x20, x21, x22, x23, va, vc, vq, vo, rfl, h0, h1, h2, h3, h4, h5, h6, p0, s0, s1, r0, l6, l7, l8, fx, hB⟩ hf hd K_ hK
      have y0 := (fx.own 1 rfl).cell 0 _ rfl
      go_simp
      refine hK _ _ ?_
      exact ⟨x2, x18, x19, x20, _, x22, x23, va, vc, vq, vo, rfl, fun h => h0 (upd_ne (by decide) h), fun h => h1 (upd_ne (by decide) h), fun h => h2 (upd_ne (by decide) h), fun _ => rfl, fun h => h4 (upd_ne (by decide) h), fun h => h5 (upd_ne (by decide) h), fun h => h6 (upd_ne (by decide) h), fun h => p0 (upd_ne (by decide) h), ⟨fun h => s0.1 (by rw [upd_same (by decide)] at h; exact h), fun h => s0.2 (upd_ne (by decide) h)⟩, ⟨fun h => s1.1 (by rw [upd_same (by decide)] at h; exact h), fun h => s1.2 (upd_ne (by decide) h)⟩, fun h => r0 (by rw [upd_same (by decide)] at h; exact h), fun h => upd_of (l6 (upd_ne (by decide) h)), fun h => upd_of (l7 (upd_ne (by decide) h)), fun h => upd_of (l8 (upd_ne (by decide) h)), fx, hB⟩
    · rintro f act W ⟨x2, x18, x19, x20, x21, x22, x23, va, vc, vq, vo, rfl, h0, h1, h2, h3, h4, h5, h6, p0, s0, s1, r0, l6, l7, l8, fx, hB⟩ hf hd K_ hK
      have e1 := h1 (dep_of hd (e := ⟨1, .data⟩) (by simp) rfl)
      subst e1
      have e2 := h2 (dep_of hd (e := ⟨2, .data⟩) (by simp) rfl)
      subst e2
      have e3 := h3 (dep_of hd (e := ⟨3, .data⟩) (by simp) rfl)
      subst e3
      have hr := r0 hf
      go_simp
      refine (hI _ hr (fx.has 0 rfl)).mono ?_
      rintro e W2 ⟨va', vc', vq', vo', rfl, v9, vcc, vh, vo1, hr', hk'⟩
      refine hK _ _ ?_
      exact ⟨x2, x18, _, _, _, _, x23, va', vc', vq', vo', rfl, fun h => h0 (upd_ne (by decide) h), fun _ => rfl, fun _ => rfl, fun _ => rfl, fun _ => rfl, fun h => h5 (upd_ne (by decide) h), fun h => h6 (upd_ne (by decide) h), fun _ => ⟨vh, v9, vcc, fun G hG => by have := vo1 G hG; have := hr.1; omega⟩, ⟨fun h => (s0.1 (by rw [upd_same (by decide)] at h; exact h)).keep hk' (by omega), fun h => absurd ((l7 (upd_ne (by decide) h))) (by rw [hf]; decide)⟩, ⟨fun h => (s1.1 (by rw [upd_same (by decide)] at h; exact h)).keep hk' (by omega), fun h => absurd ((l8 (upd_ne (by decide) h))) (by rw [hf]; decide)⟩, fun h => (by rw [upd_self] at h; cases h), fun _ => upd_self, fun _ => upd_self, fun _ => upd_self, fx.keepB hk' hfb, hB.trans (hk'.below (by omega) hB.size)⟩
    · rintro f act W ⟨x2, x18, x19, x20, x21, x22, x23, va, vc, vq, vo, rfl, h0, h1, h2, h3, h4, h5, h6, p0, s0, s1, r0, l6, l7, l8, fx, hB⟩ hf hd K_ hK
      have y0 := (fx.own 1 rfl).cell 0 _ rfl
      go_simp
      refine hK _ _ ?_
      exact ⟨x2, x18, x19, x20, x21, x22, _, va, vc, vq, vo, rfl, fun h => h0 (upd_ne (by decide) h), fun h => h1 (upd_ne (by decide) h), fun h => h2 (upd_ne (by decide) h), fun h => h3 (upd_ne (by decide) h), fun h => h4 (upd_ne (by decide) h), fun _ => rfl, fun h => h6 (upd_ne (by decide) h), fun h => p0 (upd_ne (by decide) h), ⟨fun h => s0.1 (by rw [upd_same (by decide)] at h; exact h), fun h => s0.2 (upd_ne (by decide) h)⟩, ⟨fun h => s1.1 (by rw [upd_same (by decide)] at h; exact h), fun h => s1.2 (upd_ne (by decide) h)⟩, fun h => r0 (by rw [upd_same (by decide)] at h; exact h), fun h => upd_of (l6 (upd_ne (by decide) h)), fun h => upd_of (l7 (upd_ne (by decide) h)), fun h => upd_of (l8 (upd_ne (by decide) h)), fx, hB⟩
    · rintro f act W ⟨x2, x18, x19, x20, x21, x22, x23, va, vc, vq, vo, rfl, h0, h1, h2, h3, h4, h5, h6, p0, s0, s1, r0, l6, l7, l8, fx, hB⟩ hf hd K_ hK
      have e0 := h0 (dep_of hd (e := ⟨0, .data⟩) (by simp) rfl)
      subst e0
      go_simp
      refine hK _ _ ?_
      exact ⟨_, _, x19, x20, x21, x22, x23, va, vc, vq, vo, rfl, fun _ => rfl, fun h => h1 (upd_ne (by decide) h), fun h => h2 (upd_ne (by decide) h), fun h => h3 (upd_ne (by decide) h), fun h => h4 (upd_ne (by decide) h), fun h => h5 (upd_ne (by decide) h), fun _ => rfl, fun h => p0 (upd_ne (by decide) h), ⟨fun h => s0.1 (by rw [upd_same (by decide)] at h; exact h), fun h => s0.2 (upd_ne (by decide) h)⟩, ⟨fun h => s1.1 (by rw [upd_same (by decide)] at h; exact h), fun h => s1.2 (upd_ne (by decide) h)⟩, fun h => r0 (by rw [upd_same (by decide)] at h; exact h), fun _ => upd_of (dep_of hd (e := ⟨4, .chain⟩) (by simp) rfl), fun h => upd_of (l7 (upd_ne (by decide) h)), fun h => upd_of (l8 (upd_ne (by decide) h)), fx, hB⟩
    · rintro f act W ⟨x2, x18, x19, x20, x21, x22, x23, va, vc, vq, vo, rfl, h0, h1, h2, h3, h4, h5, h6, p0, s0, s1, r0, l6, l7, l8, fx, hB⟩ hf hd K_ hK
      have e4 := h4 (dep_of hd (e := ⟨4, .data⟩) (by simp) rfl)
      subst e4
      have oz := s0.1 hf
      have y0 := oz.cell 0 _ rfl
      have z0 := oz.frz 0 _ rfl
      have fC : Hid (f 4 = true) := (dep_of hd (e := ⟨4, .data⟩) (by simp) rfl)
      go_simp
      refine hK _ _ ?_
      exact ⟨x2, x18, x19, x20, x21, _, x23, va, vc, vq, vo, rfl, fun h => h0 (upd_ne (by decide) h), fun h => h1 (upd_ne (by decide) h), fun h => h2 (upd_ne (by decide) h), fun h => h3 (upd_ne (by decide) h), fun _ => rfl, fun h => h5 (upd_ne (by decide) h), fun h => h6 (upd_ne (by decide) h), fun h => ⟨(p0 (upd_ne (by decide) h)).1.keepO ((KeepO.of_below (some (w.heap.size)) (Below.refl _ W)).setCell _) (fun G hG e => by have := (p0 (upd_ne (by decide) h)).2.2.2 G hG; have := Option.some.inj e; omega), (p0 (upd_ne (by decide) h)).2⟩, ⟨fun h => (by rw [upd_self] at h; cases h), fun _ => oz.set (i := 0) _ (by simp)⟩, ⟨fun h => (s1.1 (by rw [upd_same (by decide)] at h; exact h)).other (j := w.heap.size) (i := 0) _ (by omega), fun h => (s1.2 (upd_ne (by decide) h)).other (j := w.heap.size) (i := 0) _ (by omega)⟩, fun h => (by rw [upd_same (by decide)] at h; exact absurd h (by rw [fC.out]; decide)), fun h => upd_of (l6 (upd_ne (by decide) h)), fun _ => upd_of fC.out, fun h => upd_of (l8 (upd_ne (by decide) h)), (fx).set (i := 0) _ hf0, (hB).setCell (p := ⟨w.heap.size, 0, none⟩) (show w.heap.size ≤ w.heap.size by omega) _⟩
    · rintro f act W ⟨x2, x18, x19, x20, x21, x22, x23, va, vc, vq, vo, rfl, h0, h1, h2, h3, h4, h5, h6, p0, s0, s1, r0, l6, l7, l8, fx, hB⟩ hf hd K_ hK
      have e5 := h5 (dep_of hd (e := ⟨5, .data⟩) (by simp) rfl)
      subst e5
      have oz := s1.1 hf
      have y0 := oz.cell 0 _ rfl
      have z0 := oz.frz 0 _ rfl
      have fC : Hid (f 4 = true) := (dep_of hd (e := ⟨4, .phase⟩) (by simp) rfl)
      go_simp
      refine hK _ _ ?_
      exact ⟨x2, x18, x19, x20, x21, x22, _, va, vc, vq, vo, rfl, fun h => h0 (upd_ne (by decide) h), fun h => h1 (upd_ne (by decide) h), fun h => h2 (upd_ne (by decide) h), fun h => h3 (upd_ne (by decide) h), fun h => h4 (upd_ne (by decide) h), fun _ => rfl, fun h => h6 (upd_ne (by decide) h), fun h => ⟨(p0 (upd_ne (by decide) h)).1.keepO ((KeepO.of_below (some ((w.heap.size + 1))) (Below.refl _ W)).setCell _) (fun G hG e => by have := (p0 (upd_ne (by decide) h)).2.2.2 G hG; have := Option.some.inj e; omega), (p0 (upd_ne (by decide) h)).2⟩, ⟨fun h => (s0.1 (by rw [upd_same (by decide)] at h; exact h)).other (j := (w.heap.size + 1)) (i := 0) _ (by omega), fun h => (s0.2 (upd_ne (by decide) h)).other (j := (w.heap.size + 1)) (i := 0) _ (by omega)⟩, ⟨fun h => (by rw [upd_self] at h; cases h), fun _ => oz.set (i := 0) _ (by simp)⟩, fun h => (by rw [upd_same (by decide)] at h; exact absurd h (by rw [fC.out]; decide)), fun h => upd_of (l6 (upd_ne (by decide) h)), fun h => upd_of (l7 (upd_ne (by decide) h)), fun _ => upd_of fC.out, (fx).set (i := 0) _ hf1, (hB).setCell (p := ⟨(w.heap.size + 1), 0, none⟩) (show w.heap.size ≤ (w.heap.size + 1) by omega) _⟩
    rintro f act WZ ⟨x2, x18, x19, x20, x21, x22, x23, va, vc, vq, vo, rfl, h0, h1, h2, h3, h4, h5, h6, p0, s0, s1, r0, l6, l7, l8, fx, hB⟩ hall
    have e0 := h0 (hall 0 (by decide))
    subst e0
    have e1 := h1 (hall 1 (by decide))
    subst e1
    have e2 := h2 (hall 2 (by decide))
    subst e2
    have e3 := h3 (hall 3 (by decide))
    subst e3
    have e4 := h4 (hall 4 (by decide))
    subst e4
    have e5 := h5 (hall 5 (by decide))
    subst e5
    have e6 := h6 (hall 6 (by decide))
    subst e6
    have p0 := p0 (hall 4 (by decide))
    have s0 := s0.2 (hall 7 (by decide))
    have s1 := s1.2 (hall 8 (by decide))
    clear hall h0 h1 h2 h3 h4 h5 h6 r0 l6 l7 l8
    try dsimp only
    go_wp2
    exact boxesEnd rfl s0 s1 rfl hlenH.out p0.2.1 p0.2.2.1 (by omega) hc3 p0.1 (fx.has 0 rfl) p0.2.2.2 (fun G hG => by have := ho3'.out G hG; omega) hB rfl rfl rfl
  · have hbw := hkw.below (B := w.heap.size) (by omega) (Nat.le_refl _)
    clear hkw
    have hz : decide (0 < r) = false := decide_eq_false (by omega)
    rw [hz]
    refine region_steps (by kernel_rfl) (by kernel_rfl) (by kernel_rfl) (fun A0 f act W => ∃ (x2 : Value) (x24 : Value) (x25 : Value) (x26 : Value) (x27 : Value) (x28 : Value) (va : Option Addr) (vc : Nat) (vq : List (Int × Int)) (vo : Option Nat), act = { tmps := #[.slice a len cap, undef, x2, .pointer (some ⟨w.heap.size, 0, none⟩), .pointer (some ⟨w.heap.size + 1, 0, none⟩), .pointer (some ⟨w.heap.size + 1 + 1, 0, none⟩), .int .i64 n, .pointer (some ⟨k3, 0, none⟩), .slice a len cap, .pointer (some ⟨w.heap.size + 1 + 1, 0, none⟩), .pointer (some ⟨w.heap.size + 1 + 1, 0, none⟩), .int .i64 n, .pointer (some ⟨w.heap.size + 1 + 1, 0, none⟩), .int .i64 n, .agg #[.slice a3 m c3], .pointer (some ⟨w.heap.size + 1 + 1, 0, none⟩), .int .i64 r, .bool false, undef, undef, undef, undef, undef, undef, x24, x25, x26, x27, x28], defers := [] } ∧ (f 0 = true → x24 = .int .i64 n) ∧ (f 1 = true → x25 = .pointer (some ⟨w.heap.size + 1 + 1, 0, none⟩)) ∧ (f 2 = true → x26 = .int .i64 n) ∧ (f 3 = true → x27 = .agg #[.slice va vq.length vc]) ∧ (f 4 = true → x28 = .agg #[.slice a3 m c3]) ∧ (f 5 = true → x2 = .int .i64 n) ∧ (f 3 = true → HasO W va vq vo ∧ vq.length ≤ 9 ∧ vq.length ≤ vc ∧ ∀ G, vo = some G → w.heap.size + 1 + 1 ≤ G) ∧ ((f 6 = false → Own W w.heap.size [.slice none 0 0]) ∧ (f 6 = true → Own W w.heap.size [.slice va vq.length vc])) ∧ ((f 7 = false → Own W (w.heap.size + 1) [.slice none 0 0]) ∧ (f 7 = true → Own W (w.heap.size + 1) [.slice a3 m c3])) ∧ (f 3 = false → Rd W (w.heap.size + 1 + 1) (4003)) ∧ (f 5 = true → f 3 = true) ∧ (f 6 = true → f 3 = true) ∧ (f 7 = true → f 3 = true) ∧ Facts W [.has a3 ps o3, .own k3 [.slice a3 m c3]] ∧ Below w.heap.size w W) ?_ ⟨?_, ?_, ?_, ?_, ?_, ?_, ?_, ?_, trivial⟩ ?_
    · exact ⟨.int .i64 0, undef, undef, undef, undef, undef, none, 0, [], none, rfl, (fun h => (by cases h)), (fun h => (by cases h)), (fun h => (by cases h)), (fun h => (by cases h)), (fun h => (by cases h)), (fun h => (by cases h)), (fun h => (by cases h)), ⟨fun _ => (p0).drew, (fun h => (by cases h))⟩, ⟨fun _ => (p1).drew, (fun h => (by cases h))⟩, fun _ => hr, (fun h => (by cases h)), (fun h => (by cases h)), (fun h => (by cases h)), (F4.out).drew, (hbw).drew⟩
    · rintro f act W ⟨x2, x24, x25, x26, x27, x28, va, vc, vq, vo, rfl, h0, h1, h2, h3, h4, h5, p0, s0, s1, r0, l5, l6, l7, fx, hB⟩ hf hd K_ hK
      go_simp
      refine hK _ _ ?_
      exact ⟨x2, _, x25, x26, x27, x28, va, vc, vq, vo, rfl, fun _ => rfl, fun h => h1 (upd_ne (by decide) h), fun h => h2 (upd_ne (by decide) h), fun h => h3 (upd_ne (by decide) h), fun h => h4 (upd_ne (by decide) h), fun h => h5 (upd_ne (by decide) h), fun h => p0 (upd_ne (by decide) h), ⟨fun h => s0.1 (by rw [upd_same (by decide)] at h; exact h), fun h => s0.2 (upd_ne (by decide) h)⟩, ⟨fun h => s1.1 (by rw [upd_same (by decide)] at h; exact h), fun h => s1.2 (upd_ne (by decide) h)⟩, fun h => r0 (by rw [upd_same (by decide)] at h; exact h), fun h => upd_of (l5 (upd_ne (by decide) h)), fun h => upd_of (l6 (upd_ne (by decide) h)), fun h => upd_of (l7 (upd_ne (by decide) h)), fx, hB⟩
    · rintro f act W ⟨x2, x24, x25, x26, x27, x28, va, vc, vq, vo, rfl, h0, h1, h2, h3, h4, h5, p0, s0, s1, r0, l5, l6, l7, fx, hB⟩ hf hd K_ hK
      go_simp
      refine hK _ _ ?_
      exact ⟨x2, x24, _, x26, x27, x28, va, vc, vq, vo, rfl, fun h => h0 (upd_ne (by decide) h), fun _ => rfl, fun h => h2 (upd_ne (by decide) h), fun h => h3 (upd_ne (by decide) h), fun h => h4 (upd_ne (by decide) h), fun h => h5 (upd_ne (by decide) h), fun h => p0 (upd_ne (by decide) h), ⟨fun h => s0.1 (by rw [upd_same (by decide)] at h; exact h), fun h => s0.2 (upd_ne (by decide) h)⟩, ⟨fun h => s1.1 (by rw [upd_same (by decide)] at h; exact h), fun h => s1.2 (upd_ne (by decide) h)⟩, fun h => r0 (by rw [upd_same (by decide)] at h; exact h), fun h => upd_of (l5 (upd_ne (by decide) h)), fun h => upd_of (l6 (upd_ne (by decide) h)), fun h => upd_of (l7 (upd_ne (by decide) h)), fx, hB⟩
    · rintro f act W ⟨x2, x24, x25, x26, x27, x28, va, vc, vq, vo, rfl, h0, h1, h2, h3, h4, h5, p0, s0, s1, r0, l5, l6, l7, fx, hB⟩ hf hd K_ hK
      go_simp
      refine hK _ _ ?_
      exact ⟨x2, x24, x25, _, x27, x28, va, vc, vq, vo, rfl, fun h => h0 (upd_ne (by decide) h), fun h => h1 (upd_ne (by decide) h), fun _ => rfl, fun h => h3 (upd_ne (by decide) h), fun h => h4 (upd_ne (by decide) h), fun h => h5 (upd_ne (by decide) h), fun h => p0 (upd_ne (by decide) h), ⟨fun h => s0.1 (by rw [upd_same (by decide)] at h; exact h), fun h => s0.2 (upd_ne (by decide) h)⟩, ⟨fun h => s1.1 (by rw [upd_same (by decide)] at h; exact h), fun h => s1.2 (upd_ne (by decide) h)⟩, fun h => r0 (by rw [upd_same (by decide)] at h; exact h), fun h => upd_of (l5 (upd_ne (by decide) h)), fun h => upd_of (l6 (upd_ne (by decide) h)), fun h => upd_of (l7 (upd_ne (by decide) h)), fx, hB⟩
    · rintro f act W ⟨x2, x24, x25, x26, x27, x28, va, vc, vq, vo, rfl, h0, h1, h2, h3, h4, h5, p0, s0, s1, r0, l5, l6, l7, fx, hB⟩ hf hd K_ hK
      have e1 := h1 (dep_of hd (e := ⟨1, .data⟩) (by simp) rfl)
      subst e1
      have e2 := h2 (dep_of hd (e := ⟨2, .data⟩) (by simp) rfl)
      subst e2
      have hr := r0 hf
      go_simp
      refine (hJ _ hr).mono ?_
      rintro e W2 ⟨va', vc', vq', vo', rfl, v9, vcc, vh, vo1, vg, hr', hk'⟩
      refine hK _ _ ?_
      exact ⟨x2, x24, _, _, _, x28, va', vc', vq', vo', rfl, fun h => h0 (upd_ne (by decide) h), fun _ => rfl, fun _ => rfl, fun _ => rfl, fun h => h4 (upd_ne (by decide) h), fun h => h5 (upd_ne (by decide) h), fun _ => ⟨vh, by omega, vcc, fun G hG => by have := vo1 G hG; have := hr.1; omega⟩, ⟨fun h => (s0.1 (by rw [upd_same (by decide)] at h; exact h)).keep hk' (by omega), fun h => absurd ((l6 (upd_ne (by decide) h))) (by rw [hf]; decide)⟩, ⟨fun h => (s1.1 (by rw [upd_same (by decide)] at h; exact h)).keep hk' (by omega), fun h => absurd ((l7 (upd_ne (by decide) h))) (by rw [hf]; decide)⟩, fun h => (by rw [upd_self] at h; cases h), fun _ => upd_self, fun _ => upd_self, fun _ => upd_self, fx.keepB hk' hfb, hB.trans (hk'.below (by omega) hB.size)⟩
    · rintro f act W ⟨x2, x24, x25, x26, x27, x28, va, vc, vq, vo, rfl, h0, h1, h2, h3, h4, h5, p0, s0, s1, r0, l5, l6, l7, fx, hB⟩ hf hd K_ hK
      have y0 := (fx.own 1 rfl).cell 0 _ rfl
      go_simp
      refine hK _ _ ?_
      exact ⟨x2, x24, x25, x26, x27, _, va, vc, vq, vo, rfl, fun h => h0 (upd_ne (by decide) h), fun h => h1 (upd_ne (by decide) h), fun h => h2 (upd_ne (by decide) h), fun h => h3 (upd_ne (by decide) h), fun _ => rfl, fun h => h5 (upd_ne (by decide) h), fun h => p0 (upd_ne (by decide) h), ⟨fun h => s0.1 (by rw [upd_same (by decide)] at h; exact h), fun h => s0.2 (upd_ne (by decide) h)⟩, ⟨fun h => s1.1 (by rw [upd_same (by decide)] at h; exact h), fun h => s1.2 (upd_ne (by decide) h)⟩, fun h => r0 (by rw [upd_same (by decide)] at h; exact h), fun h => upd_of (l5 (upd_ne (by decide) h)), fun h => upd_of (l6 (upd_ne (by decide) h)), fun h => upd_of (l7 (upd_ne (by decide) h)), fx, hB⟩
    · rintro f act W ⟨x2, x24, x25, x26, x27, x28, va, vc, vq, vo, rfl, h0, h1, h2, h3, h4, h5, p0, s0, s1, r0, l5, l6, l7, fx, hB⟩ hf hd K_ hK
      have e0 := h0 (dep_of hd (e := ⟨0, .data⟩) (by simp) rfl)
      subst e0
      go_simp
      refine hK _ _ ?_
      exact ⟨_, _, x25, x26, x27, x28, va, vc, vq, vo, rfl, fun _ => rfl, fun h => h1 (upd_ne (by decide) h), fun h => h2 (upd_ne (by decide) h), fun h => h3 (upd_ne (by decide) h), fun h => h4 (upd_ne (by decide) h), fun _ => rfl, fun h => p0 (upd_ne (by decide) h), ⟨fun h => s0.1 (by rw [upd_same (by decide)] at h; exact h), fun h => s0.2 (upd_ne (by decide) h)⟩, ⟨fun h => s1.1 (by rw [upd_same (by decide)] at h; exact h), fun h => s1.2 (upd_ne (by decide) h)⟩, fun h => r0 (by rw [upd_same (by decide)] at h; exact h), fun _ => upd_of (dep_of hd (e := ⟨3, .chain⟩) (by simp) rfl), fun h => upd_of (l6 (upd_ne (by decide) h)), fun h => upd_of (l7 (upd_ne (by decide) h)), fx, hB⟩
    · rintro f act W ⟨x2, x24, x25, x26, x27, x28, va, vc, vq, vo, rfl, h0, h1, h2, h3, h4, h5, p0, s0, s1, r0, l5, l6, l7, fx, hB⟩ hf hd K_ hK
      have e3 := h3 (dep_of hd (e := ⟨3, .data⟩) (by simp) rfl)
      subst e3
      have oz := s0.1 hf
      have y0 := oz.cell 0 _ rfl
      have z0 := oz.frz 0 _ rfl
      have fC : Hid (f 3 = true) := (dep_of hd (e := ⟨3, .data⟩) (by simp) rfl)
      go_simp
      refine hK _ _ ?_
      exact ⟨x2, x24, x25, x26, _, x28, va, vc, vq, vo, rfl, fun h => h0 (upd_ne (by decide) h), fun h => h1 (upd_ne (by decide) h), fun h => h2 (upd_ne (by decide) h), fun _ => rfl, fun h => h4 (upd_ne (by decide) h), fun h => h5 (upd_ne (by decide) h), fun h => ⟨(p0 (upd_ne (by decide) h)).1.keepO ((KeepO.of_below (some (w.heap.size)) (Below.refl _ W)).setCell _) (fun G hG e => by have := (p0 (upd_ne (by decide) h)).2.2.2 G hG; have := Option.some.inj e; omega), (p0 (upd_ne (by decide) h)).2⟩, ⟨fun h => (by rw [upd_self] at h; cases h), fun _ => oz.set (i := 0) _ (by simp)⟩, ⟨fun h => (s1.1 (by rw [upd_same (by decide)] at h; exact h)).other (j := w.heap.size) (i := 0) _ (by omega), fun h => (s1.2 (upd_ne (by decide) h)).other (j := w.heap.size) (i := 0) _ (by omega)⟩, fun h => (by rw [upd_same (by decide)] at h; exact absurd h (by rw [fC.out]; decide)), fun h => upd_of (l5 (upd_ne (by decide) h)), fun _ => upd_of fC.out, fun h => upd_of (l7 (upd_ne (by decide) h)), (fx).set (i := 0) _ hf0, (hB).setCell (p := ⟨w.heap.size, 0, none⟩) (show w.heap.size ≤ w.heap.size by omega) _⟩
    · rintro f act W ⟨x2, x24, x25, x26, x27, x28, va, vc, vq, vo, rfl, h0, h1, h2, h3, h4, h5, p0, s0, s1, r0, l5, l6, l7, fx, hB⟩ hf hd K_ hK
      have e4 := h4 (dep_of hd (e := ⟨4, .data⟩) (by simp) rfl)
      subst e4
      have oz := s1.1 hf
      have y0 := oz.cell 0 _ rfl
      have z0 := oz.frz 0 _ rfl
      have fC : Hid (f 3 = true) := (dep_of hd (e := ⟨3, .phase⟩) (by simp) rfl)
      go_simp
      refine hK _ _ ?_
      exact ⟨x2, x24, x25, x26, x27, _, va, vc, vq, vo, rfl, fun h => h0 (upd_ne (by decide) h), fun h => h1 (upd_ne (by decide) h), fun h => h2 (upd_ne (by decide) h), fun h => h3 (upd_ne (by decide) h), fun _ => rfl, fun h => h5 (upd_ne (by decide) h), fun h => ⟨(p0 (upd_ne (by decide) h)).1.keepO ((KeepO.of_below (some ((w.heap.size + 1))) (Below.refl _ W)).setCell _) (fun G hG e => by have := (p0 (upd_ne (by decide) h)).2.2.2 G hG; have := Option.some.inj e; omega), (p0 (upd_ne (by decide) h)).2⟩, ⟨fun h => (s0.1 (by rw [upd_same (by decide)] at h; exact h)).other (j := (w.heap.size + 1)) (i := 0) _ (by omega), fun h => (s0.2 (upd_ne (by decide) h)).other (j := (w.heap.size + 1)) (i := 0) _ (by omega)⟩, ⟨fun h => (by rw [upd_self] at h; cases h), fun _ => oz.set (i := 0) _ (by simp)⟩, fun h => (by rw [upd_same (by decide)] at h; exact absurd h (by rw [fC.out]; decide)), fun h => upd_of (l5 (upd_ne (by decide) h)), fun h => upd_of (l6 (upd_ne (by decide) h)), fun _ => upd_of fC.out, (fx).set (i := 0) _ hf1, (hB).setCell (p := ⟨(w.heap.size + 1), 0, none⟩) (show w.heap.size ≤ (w.heap.size + 1) by omega) _⟩
    rintro f act WZ ⟨x2, x24, x25, x26, x27, x28, va, vc, vq, vo, rfl, h0, h1, h2, h3, h4, h5, p0, s0, s1, r0, l5, l6, l7, fx, hB⟩ hall
    have e0 := h0 (hall 0 (by decide))
    subst e0
    have e1 := h1 (hall 1 (by decide))
    subst e1
    have e2 := h2 (hall 2 (by decide))
    subst e2
    have e3 := h3 (hall 3 (by decide))
    subst e3
    have e4 := h4 (hall 4 (by decide))
    subst e4
    have e5 := h5 (hall 5 (by decide))
    subst e5
    have p0 := p0 (hall 3 (by decide))
    have s0 := s0.2 (hall 6 (by decide))
    have s1 := s1.2 (hall 7 (by decide))
    clear hall h0 h1 h2 h3 h4 h5 r0 l5 l6 l7
    try dsimp only
    go_wp2
    exact boxesEnd rfl s0 s1 rfl hlenH.out p0.2.1 p0.2.2.1 (by omega) hc3 p0.1 (fx.has 0 rfl) p0.2.2.2 (fun G hG => by have := ho3'.out G hG; omega) hB rfl rfl rfl

set_option maxHeartbeats 1000000 in
theorem drawBoxMeet (w : World) (a : Option Addr) (len cap : Nat) (hc : Code8 w a len) (hl : len ≤ cap) (hm : len ≤ 1048576) :
    Calls Try.prog 31 #[.slice a len cap] w (BoxesOut w) := by
  have O := owns2 w #[.slice none 0 0] #[.slice none 0 0] 41
  have hb0 := ((Below.refl _ w).alloc (Nat.le_refl _) (.cells #[.slice none 0 0] 41)).alloc (by simp) (.cells #[.slice none 0 0] 41)
  have ho := boxes _ a len cap ((hc.alloc (.cells #[.slice none 0 0] 41)).alloc (.cells #[.slice none 0 0] 41)) hl hm
  clear hc
  go_enter Try.func31, Try.ntmps31
  go_wp2_with (go_at_call 65; go_must (refine ho.mono ?_); clear ho; rintro e w1 ⟨n, a1, c1, ps, o1, a2, c2, qs, o2, rfl, h1, h2, h3, h4, hh1, hh2, g1, g2, q⟩; have hs1 := q.size; simp only [World.size_alloc] at hs1 g1 g2)
  have F : Hid (Facts ((w1.alloc (.cells #[.slice a1 ps.length c1] 41)).alloc (.cells #[.slice a2 qs.length c2] 41)) [.has a1 ps o1, .has a2 qs o2, .own w1.heap.size [.slice a1 ps.length c1], .own (w1.heap.size + 1) [.slice a2 qs.length c2]]) := (((Facts.nil _).pushHas hh1).pushHas hh2).cells2 #[.slice a1 ps.length c1] #[.slice a2 qs.length c2] 41 41
  have p0 : Own _ w.heap.size _ := (((O.get 0 _ rfl).below q).alloc (.cells #[.slice a1 ps.length c1] 41)).alloc (.cells #[.slice a2 qs.length c2] 41)
  have p1 : Own _ (w.heap.size + 1) _ := (((O.get 1 _ rfl).below q).alloc (.cells #[.slice a1 ps.length c1] 41)).alloc (.cells #[.slice a2 qs.length c2] 41)
  have hbw := ((hb0.trans (q.mono hb0.size)).alloc (by omega) (.cells #[.slice a1 ps.length c1] 41)).alloc (by simp; omega) (.cells #[.slice a2 qs.length c2] 41)
  clear O q hb0 hh1 hh2
  obtain ⟨l1, hl1⟩ : ∃ l, ps.length = l := ⟨_, rfl⟩
  obtain ⟨l2, hl2⟩ : ∃ l, qs.length = l := ⟨_, rfl⟩
  rw [hl1, hl2] at F p0 p1 hbw ⊢
  rw [hl1] at h1 h2
  rw [hl2] at h3 h4
  have hL : Hid (ps.length = l1 ∧ qs.length = l2) := ⟨hl1, hl2⟩
  clear hl1 hl2
  have hfree : ∀ c, c ≤ w.heap.size + 1 → ∀ f ∈ ([.has a1 ps o1, .has a2 qs o2, .own w1.heap.size [.slice a1 l1 c1], .own (w1.heap.size + 1) [.slice a2 l2 c2]] : List Fact), f.free (some c) := by
    intro c hcc f hf
    simp only [List.mem_cons, List.not_mem_nil, or_false] at hf
    rcases hf with rfl | rfl | rfl | rfl
    · intro G hG e; have := Option.some.inj e; have := g1 G hG; omega
    · intro G hG e; have := Option.some.inj e; have := g2 G hG; omega
    · intro e; have := Option.some.inj e; omega
    · intro e; have := Option.some.inj e; omega
  have hf0 := hfree w.heap.size (by omega)
  have hf1 := hfree (w.heap.size + 1) (by omega)
  clear hfree
  have g1H : Hid (∀ G, o1 = some G → w.heap.size + 1 + 1 ≤ G) := fun G hG => by have := g1 G hG; omega
  have g2H : Hid (∀ G, o2 = some G → w.heap.size + 1 + 1 ≤ G) := fun G hG => by have := g2 G hG; omega
  clear g1 g2
  refine region_steps (by kernel_rfl) (by kernel_rfl) (by kernel_rfl) (fun A0 f act W => ∃ (x2 : Value) (x14 : Value) (x15 : Value) (x16 : Value) , act = { tmps := #[.slice a len cap, undef, x2, .pointer (some ⟨w.heap.size, 0, none⟩), .pointer (some ⟨w.heap.size + 1, 0, none⟩), .int .i64 n, .pointer (some ⟨w1.heap.size, 0, none⟩), .pointer (some ⟨w1.heap.size + 1, 0, none⟩), .tuple #[.int .i64 n, .agg #[.slice a1 l1 c1], .agg #[.slice a2 l2 c2]], .slice a len cap, .tuple #[.int .i64 n, .agg #[.slice a1 l1 c1], .agg #[.slice a2 l2 c2]], .int .i64 n, .agg #[.slice a1 l1 c1], .agg #[.slice a2 l2 c2], x14, x15, x16], defers := [] } ∧ (f 0 = true → x14 = .int .i64 n) ∧ (f 1 = true → x15 = .agg #[.slice a1 l1 c1]) ∧ (f 2 = true → x16 = .agg #[.slice a2 l2 c2]) ∧ (f 3 = true → x2 = .int .i64 n) ∧ ((f 4 = false → Own W w.heap.size [.slice none 0 0]) ∧ (f 4 = true → Own W w.heap.size [.slice a1 l1 c1])) ∧ ((f 5 = false → Own W (w.heap.size + 1) [.slice none 0 0]) ∧ (f 5 = true → Own W (w.heap.size + 1) [.slice a2 l2 c2])) ∧ Facts W [.has a1 ps o1, .has a2 qs o2, .own w1.heap.size [.slice a1 l1 c1], .own (w1.heap.size + 1) [.slice a2 l2 c2]] ∧ Below w.heap.size w W) ?_ ⟨?_, ?_, ?_, ?_, ?_, ?_, trivial⟩ ?_
  · exact ⟨.int .i64 0, undef, undef, undef, rfl, (fun h => (by cases h)), (fun h => (by cases h)), (fun h => (by cases h)), (fun h => (by cases h)), ⟨fun _ => (p0).drew, (fun h => (by cases h))⟩, ⟨fun _ => (p1).drew, (fun h => (by cases h))⟩, (F.out).drew, (hbw).drew⟩
  · rintro f act W ⟨x2, x14, x15, x16, rfl, h0, h1, h2, h3, s0, s1, fx, hB⟩ hf hd K_ hK
    go_simp
    refine hK _ _ ?_
    exact ⟨x2, _, x15, x16, rfl, fun _ => rfl, fun h => h1 (upd_ne (by decide) h), fun h => h2 (upd_ne (by decide) h), fun h => h3 (upd_ne (by decide) h), ⟨fun h => s0.1 (by rw [upd_same (by decide)] at h; exact h), fun h => s0.2 (upd_ne (by decide) h)⟩, ⟨fun h => s1.1 (by rw [upd_same (by decide)] at h; exact h), fun h => s1.2 (upd_ne (by decide) h)⟩, fx, hB⟩
  · rintro f act W ⟨x2, x14, x15, x16, rfl, h0, h1, h2, h3, s0, s1, fx, hB⟩ hf hd K_ hK
    have y0 := (fx.own 2 rfl).cell 0 _ rfl
    go_simp
    refine hK _ _ ?_
    exact ⟨x2, x14, _, x16, rfl, fun h => h0 (upd_ne (by decide) h), fun _ => rfl, fun h => h2 (upd_ne (by decide) h), fun h => h3 (upd_ne (by decide) h), ⟨fun h => s0.1 (by rw [upd_same (by decide)] at h; exact h), fun h => s0.2 (upd_ne (by decide) h)⟩, ⟨fun h => s1.1 (by rw [upd_same (by decide)] at h; exact h), fun h => s1.2 (upd_ne (by decide) h)⟩, fx, hB⟩
  · rintro f act W ⟨x2, x14, x15, x16, rfl, h0, h1, h2, h3, s0, s1, fx, hB⟩ hf hd K_ hK
    have y0 := (fx.own 3 rfl).cell 0 _ rfl
    go_simp
    refine hK _ _ ?_
    exact ⟨x2, x14, x15, _, rfl, fun h => h0 (upd_ne (by decide) h), fun h => h1 (upd_ne (by decide) h), fun _ => rfl, fun h => h3 (upd_ne (by decide) h), ⟨fun h => s0.1 (by rw [upd_same (by decide)] at h; exact h), fun h => s0.2 (upd_ne (by decide) h)⟩, ⟨fun h => s1.1 (by rw [upd_same (by decide)] at h; exact h), fun h => s1.2 (upd_ne (by decide) h)⟩, fx, hB⟩
  · rintro f act W ⟨x2, x14, x15, x16, rfl, h0, h1, h2, h3, s0, s1, fx, hB⟩ hf hd K_ hK
    have e0 := h0 (dep_of hd (e := ⟨0, .data⟩) (by simp) rfl)
    subst e0
    go_simp
    refine hK _ _ ?_
    exact ⟨_, _, x15, x16, rfl, fun _ => rfl, fun h => h1 (upd_ne (by decide) h), fun h => h2 (upd_ne (by decide) h), fun _ => rfl, ⟨fun h => s0.1 (by rw [upd_same (by decide)] at h; exact h), fun h => s0.2 (upd_ne (by decide) h)⟩, ⟨fun h => s1.1 (by rw [upd_same (by decide)] at h; exact h), fun h => s1.2 (upd_ne (by decide) h)⟩, fx, hB⟩
  · rintro f act W ⟨x2, x14, x15, x16, rfl, h0, h1, h2, h3, s0, s1, fx, hB⟩ hf hd K_ hK
    have e1 := h1 (dep_of hd (e := ⟨1, .data⟩) (by simp) rfl)
    subst e1
    have oz := s0.1 hf
    have y0 := oz.cell 0 _ rfl
    have z0 := oz.frz 0 _ rfl
    go_simp
    refine hK _ _ ?_
    exact ⟨x2, x14, _, x16, rfl, fun h => h0 (upd_ne (by decide) h), fun _ => rfl, fun h => h2 (upd_ne (by decide) h), fun h => h3 (upd_ne (by decide) h), ⟨fun h => (by rw [upd_self] at h; cases h), fun _ => oz.set (i := 0) _ (by simp)⟩, ⟨fun h => (s1.1 (by rw [upd_same (by decide)] at h; exact h)).other (j := w.heap.size) (i := 0) _ (by omega), fun h => (s1.2 (upd_ne (by decide) h)).other (j := w.heap.size) (i := 0) _ (by omega)⟩, (fx).set (i := 0) _ hf0, (hB).setCell (p := ⟨w.heap.size, 0, none⟩) (show w.heap.size ≤ w.heap.size by omega) _⟩
  · rintro f act W ⟨x2, x14, x15, x16, rfl, h0, h1, h2, h3, s0, s1, fx, hB⟩ hf hd K_ hK
    have e2 := h2 (dep_of hd (e := ⟨2, .data⟩) (by simp) rfl)
    subst e2
    have oz := s1.1 hf
    have y0 := oz.cell 0 _ rfl
    have z0 := oz.frz 0 _ rfl
    go_simp
    refine hK _ _ ?_
    exact ⟨x2, x14, x15, _, rfl, fun h => h0 (upd_ne (by decide) h), fun h => h1 (upd_ne (by decide) h), fun _ => rfl, fun h => h3 (upd_ne (by decide) h), ⟨fun h => (s0.1 (by rw [upd_same (by decide)] at h; exact h)).other (j := (w.heap.size + 1)) (i := 0) _ (by omega), fun h => (s0.2 (upd_ne (by decide) h)).other (j := (w.heap.size + 1)) (i := 0) _ (by omega)⟩, ⟨fun h => (by rw [upd_self] at h; cases h), fun _ => oz.set (i := 0) _ (by simp)⟩, (fx).set (i := 0) _ hf1, (hB).setCell (p := ⟨(w.heap.size + 1), 0, none⟩) (show w.heap.size ≤ (w.heap.size + 1) by omega) _⟩
  rintro f act WZ ⟨x2, x14, x15, x16, rfl, h0, h1, h2, h3, s0, s1, fx, hB⟩ hall
  have e0 := h0 (hall 0 (by decide))
  subst e0
  have e1 := h1 (hall 1 (by decide))
  subst e1
  have e2 := h2 (hall 2 (by decide))
  subst e2
  have e3 := h3 (hall 3 (by decide))
  subst e3
  have s0 := s0.2 (hall 4 (by decide))
  have s1 := s1.2 (hall 5 (by decide))
  clear hall h0 h1 h2 h3
  try dsimp only
  go_wp2
  exact boxesEnd rfl s0 s1 hL.out.1 hL.out.2 h1 h2 h3 h4 (fx.has 0 rfl) (fx.has 1 rfl) g1H.out g2H.out hB rfl rfl rfl

end Go.Proofs.Yteohgmmenlinbab
