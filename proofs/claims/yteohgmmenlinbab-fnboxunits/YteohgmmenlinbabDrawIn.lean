/- The contract of the reader's 'inner': a box within another one, mostly. -/
import Derived.Test.YteohgmmenlinbabDrawV
import Derived.Test.YteohgmmenlinbabJB
import Derived.Test.YteohgmmenlinbabJA
namespace Go.Proofs.Yteohgmmenlinbab
open Go.ChangeShapes Go.WideShapes Go.ChangeAt Go.RowKit
set_option linter.unusedVariables false

/-- A new box of at most so many pairs, drawn by a reader; its numbers may be any. -/
def DBoxW (w : World) (b N : Nat) (lim : Int) (e : Ending) (w' : World) : Prop :=
  ∃ (a : Option Addr) (cap : Nat) (ps : List (Int × Int)) (o : Option Nat), e = .returned (.agg #[.slice a ps.length cap]) ∧ ps.length ≤ N ∧ ps.length ≤ cap ∧ HasO w' a ps o ∧ (∀ G, o = some G → w.heap.size ≤ G) ∧ Rd w' b lim ∧ Keep b w w'

theorem HasO.some {W : World} {a : Option Addr} {ps : List (Int × Int)} {o : Option Nat} (h : HasO W a ps o) (hn : 0 < ps.length) : ∃ G, o = some G ∧ a = some ⟨G, 0, none⟩ := by
  rcases h.2 with ⟨e, _⟩ | ⟨G, e1, e2, _⟩
  · rw [e] at hn; simp at hn
  · exact ⟨G, e1, e2⟩

theorem innerEnd {w W : World} {b K : Nat} {fl : List Fact} {ps : List (Int × Int)} {v : Value} {lim l : Int} {T : Array Value} {N : Nat} (hb : b < w.heap.size) (h : ApSt w b (w.heap.size + 1) K fl ps v l W) (hl : l ≤ lim) (hN : ps.length ≤ N)
    (ht : T.getD 6 undef = .pointer (some ⟨w.heap.size + 1, 0, none⟩)) :
    bodyPost Try.prog Try.f91 (DBoxW w b N lim) Exit.ret { tmps := T, defers := [] } (W.setCell ⟨w.heap.size + 1, 0, none⟩ v) := by
  have hK := h.hRK
  obtain ⟨a, cap, o, rfl, hc, hh, ho⟩ := ownsRow_has h.row h.good
  refine boxAlone rfl h.res ht ⟨a, cap, ps, o, rfl, hN, hc, ?_, fun G hG => by have := ho G hG; omega, (h.rd.mono hl).own _ (by omega), h.keep.new (p := ⟨w.heap.size + 1, 0, none⟩) (by show w.heap.size ≤ w.heap.size + 1; omega) _⟩
  exact hh.keepO ((KeepO.of_below (some (w.heap.size + 1)) (Below.refl _ W)).setCell _) (fun G hG e => by have := ho G hG; have := Option.some.inj e; omega)

set_option maxRecDepth 100000 in
set_option maxHeartbeats 8000000 in
theorem inner (w : World) (b : Nat) (lim n : Int) (a : Option Addr) (qs : List (Int × Int)) (cap : Nat) (o : Option Nat) (h : Rd w b lim) (hl : lim ≤ 900000) (hq : HasO w a qs o) (ho : ∀ G, o = some G → b < G) (hc : qs.length ≤ cap) (h8 : qs.length ≤ 8) (hnr : ∀ p ∈ qs, Nr p.1 ∧ Nr p.2) :
    Calls Try.prog 91 #[.pointer (some ⟨b, 0, none⟩), .int .i64 n, .agg #[.slice a qs.length cap]] w (DBoxW w b 9 (lim + 2000)) := by
  have hb := h.1
  obtain ⟨m, hm⟩ : ∃ m, qs.length = m := ⟨_, rfl⟩
  have hoB : Hid (∀ G, o = some G → G < w.heap.size) := hq.lt
  have f0 : Hid (ApSt w b (w.heap.size + 1) (w.heap.size + 1 + 1) [.own w.heap.size [.slice a m cap], .has a qs o] [] (.slice none 0 0) lim (((w.alloc (.cells #[.slice a m cap] 41)).alloc (.cells #[.slice none 0 0] 41)).alloc (.cells #[.slice none 0 0] 41))) := by
    have q : Below w.heap.size w (((w.alloc (.cells #[.slice a m cap] 41)).alloc (.cells #[.slice none 0 0] 41)).alloc (.cells #[.slice none 0 0] 41)) := (((Below.refl _ w).alloc (Nat.le_refl _) _).alloc (by simp) _).alloc (by simp; omega) _
    refine ⟨((h.alloc _).alloc _).alloc _, (((Keep.refl b w).alloc _).alloc _).alloc _, ?_, ?_, World.ownsRow_nil _ _ _ _, by simp, ?_, by omega, by omega, by omega, by omega, ?_, ?_⟩
    · have := (Own.new (w.alloc (.cells #[.slice a m cap] 41)) #[.slice none 0 0] 41).alloc (.cells #[.slice none 0 0] 41)
      simpa using this
    · have := Own.new ((w.alloc (.cells #[.slice a m cap] 41)).alloc (.cells #[.slice none 0 0] 41)) #[.slice none 0 0] 41
      simpa using this
    · exact ((Facts.nil _).pushOwn (((Own.new w #[.slice a m cap] 41).alloc _).alloc _)).pushHas (hq.below q)
    · intro f hf
      simp only [List.mem_cons, List.not_mem_nil, or_false] at hf
      rcases hf with rfl | rfl
      · intro e; have := Option.some.inj e; omega
      · intro G hG e; have := Option.some.inj e; have := ho G hG; omega
    · intro f hf c hc
      simp only [List.mem_cons, List.not_mem_nil, or_false] at hf
      rcases hf with rfl | rfl
      · intro e; have := Option.some.inj e; omega
      · intro G hG e; have := Option.some.inj e; have := hoB.out G hG; omega
  rw [hm] at hc h8 ⊢
  clear h hq
  obtain ⟨i0, hi, hz0, hz1, hz2⟩ := info_parts infoPair
  go_enter Try.func91, Try.ntmps91
  go_wp2
  go_loopg [8] m (fun g iv wr => ∃ (i : Nat) (v : Value) (ps : List (Int × Int)), ps.length = i ∧ i + g = m ∧ iv = .int .i64 i ∧ Hid (ApSt w b (w.heap.size + 1) (w.heap.size + 1 + 1) [.own w.heap.size [.slice a m cap], .has a qs o] ps v (lim + 100 * i) wr))
  case atStart => exact ⟨0, _, [], rfl, by omega, rfl, f0.out.mono (by omega)⟩
  case round =>
    clear f0
    obtain ⟨i, v, ps, hlen, hg, rfl, F⟩ := hrel
    have eA := (F.out.facts.own 0 rfl).cell 0 _ rfl
    have hlenH : Hid (ps.length = i) := hlen
    by_cases c : ¬ i < m
    · have c' : ¬ (i : Int) < m := by omega
      have hiH : Hid (i ≤ 8 ∧ i = m) := ⟨by omega, by omega⟩
      have hl8 : ps.length ≤ 8 := by omega
      obtain ⟨l, hl0⟩ : ∃ l, lim + 100 * (i : Int) + 1 = l := ⟨_, rfl⟩
      have hlH : Hid (l ≤ lim + 801) := by show l ≤ lim + 801; omega
      have hl9 : l ≤ 950000 := by omega
      clear hlen c hg
      obtain ⟨s0, c0, o0, hv, -, -, -⟩ := ownsRow_has F.out.row F.out.good
      obtain ⟨L0, hL0⟩ : ∃ L0, ps.length = L0 := ⟨_, rfl⟩
      have hvH : Hid (v = .slice s0 L0 c0) := by rw [← hL0]; exact hv
      clear hv hL0
      have hp := fun W (h : Rd W b l) => (pair W b l n h (by omega)).mono fun _ _ h => DPairOut.within h
      go_wp2_with (go_at_call 42; refine (pick _ _ _ _ F.out.rd (by omega)).mono ?_; rintro e w4 ⟨rr, rfl, rr0, rr1, -, hr, hk⟩; have B0 : ApSt w b (w.heap.size + 1) (w.heap.size + 1 + 1) [.own w.heap.size [.slice a m cap], .has a qs o] ps v l w4 := (ApSt.next F.out hr hk).mono (by omega); clear hr hk F; have e0 := B0.box.cell 0 _ rfl; rw [hvH.out] at e0; have e1 := B0.res.cell 0 _ rfl; have e2 := B0.res.frz 0 _ rfl)
      · have hrr : (rr == 0) = true := by assumption
        rw [hrr]
        clear e0 e1 e2
        refine region_steps (by kernel_rfl) (by kernel_rfl) (by kernel_rfl) (fun A0 f act W => ∃ (x32 : Value) (x33 : Value) (x34 : Value) (x35 : Value) (x36 : Value) (x37 : Value) (x38 : Value) (x39 : Value) (x y : Int) (k : Nat) (v1 : Value), act = { tmps := #[.pointer (some ⟨b, 0, none⟩), .int .i64 n, .agg #[.slice a m cap], undef, undef, .pointer (some ⟨w.heap.size, 0, none⟩), .pointer (some ⟨w.heap.size + 1, 0, none⟩), .pointer (some ⟨w.heap.size + 1 + 1, 0, none⟩), .int .i64 (i : Int), .int .i64 (i : Int), .pointer (some ⟨w.heap.size, 0, none⟩), .slice a m cap, .int .i64 (m : Int), .bool false, u14, u15, u16, u17, u18, u19, u20, u21, u22, u23, u24, u25, u26, u27, u28, .pointer (some ⟨b, 0, none⟩), .int .i64 rr, .bool true, x32, x33, x34, x35, x36, x37, x38, x39, undef], defers := [] } ∧ (f 0 = true → x32 = .pointer (some ⟨(w.heap.size + 1 + 1), 0, none⟩)) ∧ (f 1 = true → x33 = v) ∧ (f 2 = true → x34 = .pointer (some ⟨b, 0, none⟩)) ∧ (f 3 = true → x35 = .int .i64 n) ∧ (f 4 = true → x36 = .agg #[.int .i64 x, .int .i64 y] ∧ (Lit.int .i64 x).wf = true ∧ (Lit.int .i64 y).wf = true) ∧ (f 5 = true → x37 = .slice (some ⟨k, 0, none⟩) 1 1 ∧ (f 6 = false → ∀ j u, [Value.int .i64 x, .int .i64 y][j]? = some u → W.cell? ((⟨k, 0, none⟩ : Addr).add j) = some u)) ∧ (f 6 = true → x38 = v1 ∧ ∃ g c, v1 = .slice (some ⟨g, 0, none⟩) (ps.length + 1) c) ∧ (f 7 = true → x39 = .pointer (some ⟨(w.heap.size + 1 + 1), 0, none⟩)) ∧ (f 4 = false → ApSt w b (w.heap.size + 1) (w.heap.size + 1 + 1) [.own w.heap.size [.slice a m cap], .has a qs o] ps v l W) ∧ (f 4 = true → f 6 = false → ApSt w b (w.heap.size + 1) (w.heap.size + 1 + 1) [.own w.heap.size [.slice a m cap], .has a qs o] ps v (l + 50) W) ∧ (f 6 = true → f 8 = false → ApMid w b (w.heap.size + 1) (w.heap.size + 1 + 1) [.own w.heap.size [.slice a m cap], .has a qs o] ps v (l + 50) v1 x y W) ∧ (f 8 = true → ApSt w b (w.heap.size + 1) (w.heap.size + 1 + 1) [.own w.heap.size [.slice a m cap], .has a qs o] (ps ++ [(x, y)]) v1 (l + 50) W) ∧ (f 5 = true → f 4 = true) ∧ (f 6 = true → f 5 = true) ∧ (f 6 = true → f 1 = true) ∧ (f 8 = true → f 6 = true) ∧ Facts W [.own w.heap.size [.slice a m cap], .has a qs o]) ?_ ⟨?_, ?_, ?_, ?_, ?_, ?_, ?_, ?_, ?_, trivial⟩ ?_
        · exact ⟨undef, undef, undef, undef, undef, undef, undef, undef, 0, 0, 0, undef, rfl, (fun h => (by cases h)), (fun h => (by cases h)), (fun h => (by cases h)), (fun h => (by cases h)), (fun h => (by cases h)), (fun h => (by cases h)), (fun h => (by cases h)), (fun h => (by cases h)), fun _ => B0.drew, (fun h => (by cases h)), (fun h => (by cases h)), (fun h => (by cases h)), (fun h => (by cases h)), (fun h => (by cases h)), (fun h => (by cases h)), (fun h => (by cases h)), B0.facts.drew⟩
        · rintro f act W ⟨x32, x33, x34, x35, x36, x37, x38, x39, x, y, k, v1, rfl, h0, h1, h2, h3, h4, h5, h6, h7, m0, m1, m2, m3, i5, i6, i1, i8, fx⟩ hf hd K_ hK
          go_simp
          refine hK _ _ ?_
          exact ⟨_, x33, x34, x35, x36, x37, x38, x39, x, y, k, v1, rfl, fun _ => rfl, fun h => h1 (upd_ne (by decide) h), fun h => h2 (upd_ne (by decide) h), fun h => h3 (upd_ne (by decide) h), fun h => h4 (upd_ne (by decide) h), fun h => ⟨(h5 (upd_ne (by decide) h)).1, fun h' => (h5 (upd_ne (by decide) h)).2 (by rw [upd_same (by decide)] at h'; exact h')⟩, fun h => h6 (upd_ne (by decide) h), fun h => h7 (upd_ne (by decide) h), fun h => m0 (by rw [upd_same (by decide)] at h; exact h), fun h h' => m1 (upd_ne (by decide) h) (by rw [upd_same (by decide)] at h'; exact h'), fun h h' => m2 (upd_ne (by decide) h) (by rw [upd_same (by decide)] at h'; exact h'), fun h => m3 (upd_ne (by decide) h), fun h => upd_of (i5 (upd_ne (by decide) h)), fun h => upd_of (i6 (upd_ne (by decide) h)), fun h => upd_of (i1 (upd_ne (by decide) h)), fun h => upd_of (i8 (upd_ne (by decide) h)), fx⟩
        · rintro f act W ⟨x32, x33, x34, x35, x36, x37, x38, x39, x, y, k, v1, rfl, h0, h1, h2, h3, h4, h5, h6, h7, m0, m1, m2, m3, i5, i6, i1, i8, fx⟩ hf hd K_ hK
          have e0 := h0 (dep_of hd (e := ⟨0, .data⟩) (by simp) rfl)
          subst e0
          have f6 : f 6 = false := by cases h : f 6; rfl; exact absurd (i1 h) (by rw [hf]; decide)
          have cur : ∃ l', ApSt w b (w.heap.size + 1) (w.heap.size + 1 + 1) [.own w.heap.size [.slice a m cap], .has a qs o] ps v l' W := by cases h : f 4; exact ⟨_, m0 h⟩; exact ⟨_, m1 h f6⟩
          obtain ⟨l', B⟩ := cur
          have r0 := B.box.cell 0 _ rfl
          go_simp
          refine hK _ _ ?_
          exact ⟨_, _, x34, x35, x36, x37, x38, x39, x, y, k, v1, rfl, fun _ => rfl, fun _ => rfl, fun h => h2 (upd_ne (by decide) h), fun h => h3 (upd_ne (by decide) h), fun h => h4 (upd_ne (by decide) h), fun h => ⟨(h5 (upd_ne (by decide) h)).1, fun h' => (h5 (upd_ne (by decide) h)).2 (by rw [upd_same (by decide)] at h'; exact h')⟩, fun h => h6 (upd_ne (by decide) h), fun h => h7 (upd_ne (by decide) h), fun h => m0 (by rw [upd_same (by decide)] at h; exact h), fun h h' => m1 (upd_ne (by decide) h) (by rw [upd_same (by decide)] at h'; exact h'), fun h h' => m2 (upd_ne (by decide) h) (by rw [upd_same (by decide)] at h'; exact h'), fun h => m3 (upd_ne (by decide) h), fun h => upd_of (i5 (upd_ne (by decide) h)), fun h => upd_of (i6 (upd_ne (by decide) h)), fun _ => upd_self, fun h => upd_of (i8 (upd_ne (by decide) h)), fx⟩
        · rintro f act W ⟨x32, x33, x34, x35, x36, x37, x38, x39, x, y, k, v1, rfl, h0, h1, h2, h3, h4, h5, h6, h7, m0, m1, m2, m3, i5, i6, i1, i8, fx⟩ hf hd K_ hK
          go_simp
          refine hK _ _ ?_
          exact ⟨x32, x33, _, x35, x36, x37, x38, x39, x, y, k, v1, rfl, fun h => h0 (upd_ne (by decide) h), fun h => h1 (upd_ne (by decide) h), fun _ => rfl, fun h => h3 (upd_ne (by decide) h), fun h => h4 (upd_ne (by decide) h), fun h => ⟨(h5 (upd_ne (by decide) h)).1, fun h' => (h5 (upd_ne (by decide) h)).2 (by rw [upd_same (by decide)] at h'; exact h')⟩, fun h => h6 (upd_ne (by decide) h), fun h => h7 (upd_ne (by decide) h), fun h => m0 (by rw [upd_same (by decide)] at h; exact h), fun h h' => m1 (upd_ne (by decide) h) (by rw [upd_same (by decide)] at h'; exact h'), fun h h' => m2 (upd_ne (by decide) h) (by rw [upd_same (by decide)] at h'; exact h'), fun h => m3 (upd_ne (by decide) h), fun h => upd_of (i5 (upd_ne (by decide) h)), fun h => upd_of (i6 (upd_ne (by decide) h)), fun h => upd_of (i1 (upd_ne (by decide) h)), fun h => upd_of (i8 (upd_ne (by decide) h)), fx⟩
        · rintro f act W ⟨x32, x33, x34, x35, x36, x37, x38, x39, x, y, k, v1, rfl, h0, h1, h2, h3, h4, h5, h6, h7, m0, m1, m2, m3, i5, i6, i1, i8, fx⟩ hf hd K_ hK
          go_simp
          refine hK _ _ ?_
          exact ⟨x32, x33, x34, _, x36, x37, x38, x39, x, y, k, v1, rfl, fun h => h0 (upd_ne (by decide) h), fun h => h1 (upd_ne (by decide) h), fun h => h2 (upd_ne (by decide) h), fun _ => rfl, fun h => h4 (upd_ne (by decide) h), fun h => ⟨(h5 (upd_ne (by decide) h)).1, fun h' => (h5 (upd_ne (by decide) h)).2 (by rw [upd_same (by decide)] at h'; exact h')⟩, fun h => h6 (upd_ne (by decide) h), fun h => h7 (upd_ne (by decide) h), fun h => m0 (by rw [upd_same (by decide)] at h; exact h), fun h h' => m1 (upd_ne (by decide) h) (by rw [upd_same (by decide)] at h'; exact h'), fun h h' => m2 (upd_ne (by decide) h) (by rw [upd_same (by decide)] at h'; exact h'), fun h => m3 (upd_ne (by decide) h), fun h => upd_of (i5 (upd_ne (by decide) h)), fun h => upd_of (i6 (upd_ne (by decide) h)), fun h => upd_of (i1 (upd_ne (by decide) h)), fun h => upd_of (i8 (upd_ne (by decide) h)), fx⟩
        · rintro f act W ⟨x32, x33, x34, x35, x36, x37, x38, x39, x, y, k, v1, rfl, h0, h1, h2, h3, h4, h5, h6, h7, m0, m1, m2, m3, i5, i6, i1, i8, fx⟩ hf hd K_ hK
          have e2 := h2 (dep_of hd (e := ⟨2, .data⟩) (by simp) rfl)
          subst e2
          have e3 := h3 (dep_of hd (e := ⟨3, .data⟩) (by simp) rfl)
          subst e3
          have B := m0 hf
          go_simp
          refine (hp _ B.rd).mono ?_
          rintro e W2 ⟨x', y', rfl, nx, ny, hr, hk⟩
          have B2 : ApSt w b (w.heap.size + 1) (w.heap.size + 1 + 1) [.own w.heap.size [.slice a m cap], .has a qs o] ps v (l + 50) W2 := (ApSt.next B hr hk).mono (by omega)
          refine hK _ _ ?_
          exact ⟨x32, x33, _, _, _, x37, x38, x39, x', y', k, v1, rfl, fun h => h0 (upd_ne (by decide) h), fun h => h1 (upd_ne (by decide) h), fun _ => rfl, fun _ => rfl, fun _ => ⟨rfl, nx, ny⟩, fun h => absurd (i5 (upd_ne (by decide) h)) (by rw [hf]; decide), fun h => absurd (i5 (i6 (upd_ne (by decide) h))) (by rw [hf]; decide), fun h => h7 (upd_ne (by decide) h), fun h => (by rw [upd_self] at h; cases h), fun _ _ => B2, fun h _ => absurd (i5 (i6 (upd_ne (by decide) h))) (by rw [hf]; decide), fun h => absurd (i5 (i6 (i8 (upd_ne (by decide) h)))) (by rw [hf]; decide), fun h => upd_self, fun h => upd_of (i6 (upd_ne (by decide) h)), fun h => upd_of (i1 (upd_ne (by decide) h)), fun h => upd_of (i8 (upd_ne (by decide) h)), B2.facts⟩
        · rintro f act W ⟨x32, x33, x34, x35, x36, x37, x38, x39, x, y, k, v1, rfl, h0, h1, h2, h3, h4, h5, h6, h7, m0, m1, m2, m3, i5, i6, i1, i8, fx⟩ hf hd K_ hK
          have d4 := (dep_of hd (e := ⟨4, .data⟩) (by simp) rfl)
          obtain ⟨e4, nx, ny⟩ := h4 d4
          subst e4
          have f6 : f 6 = false := by cases h : f 6; rfl; exact absurd (i6 h) (by rw [hf]; decide)
          have B := m1 d4 f6
          go_simp
          refine hK _ _ ?_
          exact ⟨x32, x33, x34, x35, _, _, x38, x39, x, y, W.heap.size, v1, rfl, fun h => h0 (upd_ne (by decide) h), fun h => h1 (upd_ne (by decide) h), fun h => h2 (upd_ne (by decide) h), fun h => h3 (upd_ne (by decide) h), fun _ => ⟨rfl, nx, ny⟩, fun _ => ⟨rfl, fun _ => cell_two_new W _ _ _⟩, fun h => absurd (i6 (upd_ne (by decide) h)) (by rw [hf]; decide), fun h => h7 (upd_ne (by decide) h), fun h => (by rw [upd_same (by decide), d4] at h; cases h), fun _ _ => B.alloc _, fun h _ => absurd (i6 (upd_ne (by decide) h)) (by rw [hf]; decide), fun h => absurd (i6 (i8 (upd_ne (by decide) h))) (by rw [hf]; decide), fun _ => upd_of d4, fun _ => upd_self, fun h => upd_of (i1 (upd_ne (by decide) h)), fun h => upd_of (i8 (upd_ne (by decide) h)), (B.alloc _).facts⟩
        · rintro f act W ⟨x32, x33, x34, x35, x36, x37, x38, x39, x, y, k, v1, rfl, h0, h1, h2, h3, h4, h5, h6, h7, m0, m1, m2, m3, i5, i6, i1, i8, fx⟩ hf hd K_ hK
          have e1 := (h1 (dep_of hd (e := ⟨1, .data⟩) (by simp) rfl)).symm
          subst e1
          have d5 := (dep_of hd (e := ⟨5, .data⟩) (by simp) rfl)
          obtain ⟨e5, hcl⟩ := h5 d5
          subst e5
          have d4 := i5 d5
          obtain ⟨e4, nx, ny⟩ := h4 d4
          have B := m1 d4 hf
          refine oper_append_own (.tmp 33) (.tmp 37) 39 rfl ((w.heap.size + 1 + 1) + 1) 24 i0 (.agg #[.int .i64 0, .int .i64 0]) 2 16 Try.underlying39 hi hz0 hz1 hz2 rfl (by decide) v _ _ rfl B.row ⟨k, 0, none⟩ 1 1 [_, _] rfl rfl (hcl hf) (fun u hu => by simp at hu; rcases hu with rfl | rfl <;> rfl) (by unfold maxLen; omega) (by omega) B.box.lt ?_
          intro v2 W2 r1 r2
          have M : ApMid w b (w.heap.size + 1) (w.heap.size + 1 + 1) [.own w.heap.size [.slice a m cap], .has a qs o] ps v (l + 50) v2 x y W2 := ⟨W, B, r2, r1, nx, ny⟩
          refine hK _ _ ?_
          exact ⟨x32, _, x34, x35, x36, _, _, x39, x, y, k, v2, rfl, fun h => h0 (upd_ne (by decide) h), fun _ => rfl, fun h => h2 (upd_ne (by decide) h), fun h => h3 (upd_ne (by decide) h), fun h => h4 (upd_ne (by decide) h), fun _ => ⟨rfl, fun h' => (by rw [upd_self] at h'; cases h')⟩, fun _ => ⟨rfl, grown_form r1⟩, fun h => h7 (upd_ne (by decide) h), fun h => (by rw [upd_same (by decide), d4] at h; cases h), fun _ h' => (by rw [upd_self] at h'; cases h'), fun _ _ => M, fun h => absurd (i8 (upd_ne (by decide) h)) (by rw [hf]; decide), fun h => upd_of (i5 (upd_ne (by decide) h)), fun _ => upd_of d5, fun _ => upd_of (dep_of hd (e := ⟨1, .data⟩) (by simp) rfl), fun _ => upd_self, M.facts⟩
        · rintro f act W ⟨x32, x33, x34, x35, x36, x37, x38, x39, x, y, k, v1, rfl, h0, h1, h2, h3, h4, h5, h6, h7, m0, m1, m2, m3, i5, i6, i1, i8, fx⟩ hf hd K_ hK
          go_simp
          refine hK _ _ ?_
          exact ⟨x32, x33, x34, x35, x36, x37, x38, _, x, y, k, v1, rfl, fun h => h0 (upd_ne (by decide) h), fun h => h1 (upd_ne (by decide) h), fun h => h2 (upd_ne (by decide) h), fun h => h3 (upd_ne (by decide) h), fun h => h4 (upd_ne (by decide) h), fun h => ⟨(h5 (upd_ne (by decide) h)).1, fun h' => (h5 (upd_ne (by decide) h)).2 (by rw [upd_same (by decide)] at h'; exact h')⟩, fun h => h6 (upd_ne (by decide) h), fun _ => rfl, fun h => m0 (by rw [upd_same (by decide)] at h; exact h), fun h h' => m1 (upd_ne (by decide) h) (by rw [upd_same (by decide)] at h'; exact h'), fun h h' => m2 (upd_ne (by decide) h) (by rw [upd_same (by decide)] at h'; exact h'), fun h => m3 (upd_ne (by decide) h), fun h => upd_of (i5 (upd_ne (by decide) h)), fun h => upd_of (i6 (upd_ne (by decide) h)), fun h => upd_of (i1 (upd_ne (by decide) h)), fun h => upd_of (i8 (upd_ne (by decide) h)), fx⟩
        · rintro f act W ⟨x32, x33, x34, x35, x36, x37, x38, x39, x, y, k, v1, rfl, h0, h1, h2, h3, h4, h5, h6, h7, m0, m1, m2, m3, i5, i6, i1, i8, fx⟩ hf hd K_ hK
          have e7 := h7 (dep_of hd (e := ⟨7, .data⟩) (by simp) rfl)
          subst e7
          have d6 : Hid (f 6 = true) := (dep_of hd (e := ⟨6, .data⟩) (by simp) rfl)
          obtain ⟨e6, g, c, ev⟩ := h6 d6.out
          have M := m2 d6.out hf
          subst e6
          subst ev
          have r0 := M.box.cell 0 _ rfl
          have r1 := M.box.frz 0 _ rfl
          go_simp
          refine hK _ _ ?_
          exact ⟨x32, x33, x34, x35, x36, x37, _, _, x, y, k, _, rfl, fun h => h0 (upd_ne (by decide) h), fun h => h1 (upd_ne (by decide) h), fun h => h2 (upd_ne (by decide) h), fun h => h3 (upd_ne (by decide) h), fun h => h4 (upd_ne (by decide) h), fun h => ⟨(h5 (upd_ne (by decide) h)).1, fun h' => (by rw [upd_same (by decide), d6.out] at h'; cases h')⟩, fun _ => ⟨rfl, g, c, rfl⟩, fun _ => rfl, fun h => (by rw [upd_same (by decide), i5 (i6 d6.out)] at h; cases h), fun _ h' => (by rw [upd_same (by decide), d6.out] at h'; cases h'), fun _ h' => (by rw [upd_self] at h'; cases h'), fun _ => M.append, fun h => upd_of (i5 (upd_ne (by decide) h)), fun h => upd_of (i6 (upd_ne (by decide) h)), fun h => upd_of (i1 (upd_ne (by decide) h)), fun _ => upd_of d6.out, M.append.facts⟩
        rintro f act w5 ⟨x32, x33, x34, x35, x36, x37, x38, x39, x, y, k, v1, rfl, h0, h1, h2, h3, h4, h5, h6, h7, m0, m1, m2, m3, i5, i6, i1, i8, fx⟩ hall
        have B1 := m3 (hall 8 (by decide))
        obtain ⟨e6, g, c, ev⟩ := h6 (hall 6 (by decide))
        have e0 := h0 (hall 0 (by decide))
        subst e0
        have e1 := (h1 (hall 1 (by decide))).symm
        subst e1
        have e2 := h2 (hall 2 (by decide))
        subst e2
        have e3 := h3 (hall 3 (by decide))
        subst e3
        have e7 := h7 (hall 7 (by decide))
        subst e7
        obtain ⟨e4, nx, ny⟩ := h4 (hall 4 (by decide))
        subst e4
        obtain ⟨e5, -⟩ := h5 (hall 5 (by decide))
        subst e5
        subst e6
        clear hall h0 h1 h2 h3 h4 h5 h6 h7 m0 m1 m2 m3 i5 i6 i1 i8 fx
        try dsimp only
        rw [ev] at B1 ⊢
        have e0 := B1.box.cell 0 _ rfl
        have e1 := B1.res.cell 0 _ rfl
        have e2 := B1.res.frz 0 _ rfl
        have hBH : Hid _ := B1
        clear B1
        go_wp2
        exact innerEnd (ps := ps ++ [(x, y)]) hb (by have f := hBH.out; exact f) (by have := hlH.out; omega) (by rw [List.length_append]; have := hiH.out; have := hlenH.out; simp; omega) rfl
      · rw [hvH.out] at B0
        exact innerEnd (ps := ps) hb B0 (by have := hlH.out; omega) (by omega) rfl
    · replace c : i < m := by omega
      have c' : (i : Int) < m := by omega
      obtain ⟨l, hl0⟩ : ∃ l, lim + 100 * (i : Int) = l := ⟨_, rfl⟩
      have hl8 : ps.length ≤ 8 := by omega
      have hl9 : l ≤ 950000 := by omega
      have hiq : i < qs.length := by omega
      obtain ⟨G, hoG, haG⟩ := (F.out.facts.has 1 rfl).some (by omega)
      have hN := hnr (at2 qs i) (List.mem_of_getElem? (at2_get hiq))
      have B0 : ApSt w b (w.heap.size + 1) (w.heap.size + 1 + 1) [.own w.heap.size [.slice a m cap], .has a qs o] ps v l wr := F.out.mono (by omega)
      subst hoG haG
      have hat : ∀ W, Facts W [.own w.heap.size [.slice (Option.some ⟨G, 0, none⟩) m cap], .has (Option.some ⟨G, 0, none⟩) qs (Option.some G)] → W.cell? ⟨G, i * 2, none⟩ = Option.some (.int .i64 (at2 qs i).1) ∧ W.cell? ⟨G, i * 2 + 1, none⟩ = Option.some (.int .i64 (at2 qs i).2) := by
        intro W hF
        obtain ⟨rb, ro, ha, -, c0, c1⟩ := (hF.has 1 rfl).at.atD hiq
        injection ha with ha
        injection ha with e1 e2
        subst e1 e2
        exact ⟨by simpa using c0, by simpa using c1⟩
      generalize at2 qs i = pq at *
      obtain ⟨x0, y0⟩ := pq
      have hp := fun W (h : Rd W b l) => within W b l n x0 y0 h (by omega) hN.1 hN.2
      clear F hlen hN hiq
      go_wp2
      refine region_steps (by kernel_rfl) (by kernel_rfl) (by kernel_rfl) (fun A0 f act W => ∃ (x16 : Value) (x17 : Value) (x18 : Value) (x19 : Value) (x20 : Value) (x21 : Value) (x22 : Value) (x23 : Value) (x24 : Value) (x25 : Value) (x26 : Value) (x27 : Value) (x28 : Value) (x y : Int) (k : Nat) (v1 : Value), act = { tmps := #[.pointer (some ⟨b, 0, none⟩), .int .i64 n, .agg #[.slice (some ⟨G, 0, none⟩) m cap], undef, undef, .pointer (some ⟨w.heap.size, 0, none⟩), .pointer (some ⟨w.heap.size + 1, 0, none⟩), .pointer (some ⟨w.heap.size + 1 + 1, 0, none⟩), .int .i64 (i : Int), .int .i64 (i : Int), .pointer (some ⟨w.heap.size, 0, none⟩), .slice (some ⟨G, 0, none⟩) m cap, .int .i64 (m : Int), .bool true, u14, u15, x16, x17, x18, x19, x20, x21, x22, x23, x24, x25, x26, x27, x28, undef, undef, undef, undef, undef, undef, undef, undef, undef, undef, undef, undef], defers := [] } ∧ (f 0 = true → x16 = .pointer (some ⟨(w.heap.size + 1 + 1), 0, none⟩)) ∧ (f 1 = true → x17 = v) ∧ (f 2 = true → x18 = .pointer (some ⟨b, 0, none⟩)) ∧ (f 3 = true → x19 = .int .i64 n) ∧ (f 4 = true → x20 = .pointer (some ⟨w.heap.size, 0, none⟩)) ∧ (f 5 = true → x21 = .slice (some ⟨G, 0, none⟩) m cap) ∧ (f 6 = true → x22 = .int .i64 i) ∧ (f 7 = true → x23 = .pointer (some ⟨G, i * 2, none⟩)) ∧ (f 8 = true → x24 = .agg #[.int .i64 x0, .int .i64 y0]) ∧ (f 9 = true → x25 = .agg #[.int .i64 x, .int .i64 y] ∧ (Lit.int .i64 x).wf = true ∧ (Lit.int .i64 y).wf = true) ∧ (f 10 = true → x26 = .slice (some ⟨k, 0, none⟩) 1 1 ∧ (f 11 = false → ∀ j u, [Value.int .i64 x, .int .i64 y][j]? = some u → W.cell? ((⟨k, 0, none⟩ : Addr).add j) = some u)) ∧ (f 11 = true → x27 = v1 ∧ ∃ g c, v1 = .slice (some ⟨g, 0, none⟩) (ps.length + 1) c) ∧ (f 12 = true → x28 = .pointer (some ⟨(w.heap.size + 1 + 1), 0, none⟩)) ∧ (f 9 = false → ApSt w b (w.heap.size + 1) (w.heap.size + 1 + 1) [.own w.heap.size [.slice (Option.some ⟨G, 0, none⟩) m cap], .has (Option.some ⟨G, 0, none⟩) qs (Option.some G)] ps v l W) ∧ (f 9 = true → f 11 = false → ApSt w b (w.heap.size + 1) (w.heap.size + 1 + 1) [.own w.heap.size [.slice (Option.some ⟨G, 0, none⟩) m cap], .has (Option.some ⟨G, 0, none⟩) qs (Option.some G)] ps v (l + 100) W) ∧ (f 11 = true → f 13 = false → ApMid w b (w.heap.size + 1) (w.heap.size + 1 + 1) [.own w.heap.size [.slice (Option.some ⟨G, 0, none⟩) m cap], .has (Option.some ⟨G, 0, none⟩) qs (Option.some G)] ps v (l + 100) v1 x y W) ∧ (f 13 = true → ApSt w b (w.heap.size + 1) (w.heap.size + 1 + 1) [.own w.heap.size [.slice (Option.some ⟨G, 0, none⟩) m cap], .has (Option.some ⟨G, 0, none⟩) qs (Option.some G)] (ps ++ [(x, y)]) v1 (l + 100) W) ∧ (f 10 = true → f 9 = true) ∧ (f 11 = true → f 10 = true) ∧ (f 11 = true → f 1 = true) ∧ (f 13 = true → f 11 = true) ∧ Facts W [.own w.heap.size [.slice (Option.some ⟨G, 0, none⟩) m cap], .has (Option.some ⟨G, 0, none⟩) qs (Option.some G)]) ?_ ⟨?_, ?_, ?_, ?_, ?_, ?_, ?_, ?_, ?_, ?_, ?_, ?_, ?_, ?_, trivial⟩ ?_
      · exact ⟨u16, u17, u18, u19, u20, u21, u22, u23, u24, u25, u26, u27, u28, 0, 0, 0, undef, rfl, (fun h => (by cases h)), (fun h => (by cases h)), (fun h => (by cases h)), (fun h => (by cases h)), (fun h => (by cases h)), (fun h => (by cases h)), (fun h => (by cases h)), (fun h => (by cases h)), (fun h => (by cases h)), (fun h => (by cases h)), (fun h => (by cases h)), (fun h => (by cases h)), (fun h => (by cases h)), fun _ => B0.drew, (fun h => (by cases h)), (fun h => (by cases h)), (fun h => (by cases h)), (fun h => (by cases h)), (fun h => (by cases h)), (fun h => (by cases h)), (fun h => (by cases h)), B0.facts.drew⟩
      · rintro f act W ⟨x16, x17, x18, x19, x20, x21, x22, x23, x24, x25, x26, x27, x28, x, y, k, v1, rfl, h0, h1, h2, h3, h4, h5, h6, h7, h8, h9, h10, h11, h12, m0, m1, m2, m3, i5, i6, i1, i8, fx⟩ hf hd K_ hK
        go_simp
        refine hK _ _ ?_
        exact ⟨_, x17, x18, x19, x20, x21, x22, x23, x24, x25, x26, x27, x28, x, y, k, v1, rfl, fun _ => rfl, fun h => h1 (upd_ne (by decide) h), fun h => h2 (upd_ne (by decide) h), fun h => h3 (upd_ne (by decide) h), fun h => h4 (upd_ne (by decide) h), fun h => h5 (upd_ne (by decide) h), fun h => h6 (upd_ne (by decide) h), fun h => h7 (upd_ne (by decide) h), fun h => h8 (upd_ne (by decide) h), fun h => h9 (upd_ne (by decide) h), fun h => ⟨(h10 (upd_ne (by decide) h)).1, fun h' => (h10 (upd_ne (by decide) h)).2 (by rw [upd_same (by decide)] at h'; exact h')⟩, fun h => h11 (upd_ne (by decide) h), fun h => h12 (upd_ne (by decide) h), fun h => m0 (by rw [upd_same (by decide)] at h; exact h), fun h h' => m1 (upd_ne (by decide) h) (by rw [upd_same (by decide)] at h'; exact h'), fun h h' => m2 (upd_ne (by decide) h) (by rw [upd_same (by decide)] at h'; exact h'), fun h => m3 (upd_ne (by decide) h), fun h => upd_of (i5 (upd_ne (by decide) h)), fun h => upd_of (i6 (upd_ne (by decide) h)), fun h => upd_of (i1 (upd_ne (by decide) h)), fun h => upd_of (i8 (upd_ne (by decide) h)), fx⟩
      · rintro f act W ⟨x16, x17, x18, x19, x20, x21, x22, x23, x24, x25, x26, x27, x28, x, y, k, v1, rfl, h0, h1, h2, h3, h4, h5, h6, h7, h8, h9, h10, h11, h12, m0, m1, m2, m3, i5, i6, i1, i8, fx⟩ hf hd K_ hK
        have e0 := h0 (dep_of hd (e := ⟨0, .data⟩) (by simp) rfl)
        subst e0
        have f6 : f 11 = false := by cases h : f 11; rfl; exact absurd (i1 h) (by rw [hf]; decide)
        have cur : ∃ l', ApSt w b (w.heap.size + 1) (w.heap.size + 1 + 1) [.own w.heap.size [.slice (Option.some ⟨G, 0, none⟩) m cap], .has (Option.some ⟨G, 0, none⟩) qs (Option.some G)] ps v l' W := by cases h : f 9; exact ⟨_, m0 h⟩; exact ⟨_, m1 h f6⟩
        obtain ⟨l', B⟩ := cur
        have r0 := B.box.cell 0 _ rfl
        go_simp
        refine hK _ _ ?_
        exact ⟨_, _, x18, x19, x20, x21, x22, x23, x24, x25, x26, x27, x28, x, y, k, v1, rfl, fun _ => rfl, fun _ => rfl, fun h => h2 (upd_ne (by decide) h), fun h => h3 (upd_ne (by decide) h), fun h => h4 (upd_ne (by decide) h), fun h => h5 (upd_ne (by decide) h), fun h => h6 (upd_ne (by decide) h), fun h => h7 (upd_ne (by decide) h), fun h => h8 (upd_ne (by decide) h), fun h => h9 (upd_ne (by decide) h), fun h => ⟨(h10 (upd_ne (by decide) h)).1, fun h' => (h10 (upd_ne (by decide) h)).2 (by rw [upd_same (by decide)] at h'; exact h')⟩, fun h => h11 (upd_ne (by decide) h), fun h => h12 (upd_ne (by decide) h), fun h => m0 (by rw [upd_same (by decide)] at h; exact h), fun h h' => m1 (upd_ne (by decide) h) (by rw [upd_same (by decide)] at h'; exact h'), fun h h' => m2 (upd_ne (by decide) h) (by rw [upd_same (by decide)] at h'; exact h'), fun h => m3 (upd_ne (by decide) h), fun h => upd_of (i5 (upd_ne (by decide) h)), fun h => upd_of (i6 (upd_ne (by decide) h)), fun _ => upd_self, fun h => upd_of (i8 (upd_ne (by decide) h)), fx⟩
      · rintro f act W ⟨x16, x17, x18, x19, x20, x21, x22, x23, x24, x25, x26, x27, x28, x, y, k, v1, rfl, h0, h1, h2, h3, h4, h5, h6, h7, h8, h9, h10, h11, h12, m0, m1, m2, m3, i5, i6, i1, i8, fx⟩ hf hd K_ hK
        go_simp
        refine hK _ _ ?_
        exact ⟨x16, x17, _, x19, x20, x21, x22, x23, x24, x25, x26, x27, x28, x, y, k, v1, rfl, fun h => h0 (upd_ne (by decide) h), fun h => h1 (upd_ne (by decide) h), fun _ => rfl, fun h => h3 (upd_ne (by decide) h), fun h => h4 (upd_ne (by decide) h), fun h => h5 (upd_ne (by decide) h), fun h => h6 (upd_ne (by decide) h), fun h => h7 (upd_ne (by decide) h), fun h => h8 (upd_ne (by decide) h), fun h => h9 (upd_ne (by decide) h), fun h => ⟨(h10 (upd_ne (by decide) h)).1, fun h' => (h10 (upd_ne (by decide) h)).2 (by rw [upd_same (by decide)] at h'; exact h')⟩, fun h => h11 (upd_ne (by decide) h), fun h => h12 (upd_ne (by decide) h), fun h => m0 (by rw [upd_same (by decide)] at h; exact h), fun h h' => m1 (upd_ne (by decide) h) (by rw [upd_same (by decide)] at h'; exact h'), fun h h' => m2 (upd_ne (by decide) h) (by rw [upd_same (by decide)] at h'; exact h'), fun h => m3 (upd_ne (by decide) h), fun h => upd_of (i5 (upd_ne (by decide) h)), fun h => upd_of (i6 (upd_ne (by decide) h)), fun h => upd_of (i1 (upd_ne (by decide) h)), fun h => upd_of (i8 (upd_ne (by decide) h)), fx⟩
      · rintro f act W ⟨x16, x17, x18, x19, x20, x21, x22, x23, x24, x25, x26, x27, x28, x, y, k, v1, rfl, h0, h1, h2, h3, h4, h5, h6, h7, h8, h9, h10, h11, h12, m0, m1, m2, m3, i5, i6, i1, i8, fx⟩ hf hd K_ hK
        go_simp
        refine hK _ _ ?_
        exact ⟨x16, x17, x18, _, x20, x21, x22, x23, x24, x25, x26, x27, x28, x, y, k, v1, rfl, fun h => h0 (upd_ne (by decide) h), fun h => h1 (upd_ne (by decide) h), fun h => h2 (upd_ne (by decide) h), fun _ => rfl, fun h => h4 (upd_ne (by decide) h), fun h => h5 (upd_ne (by decide) h), fun h => h6 (upd_ne (by decide) h), fun h => h7 (upd_ne (by decide) h), fun h => h8 (upd_ne (by decide) h), fun h => h9 (upd_ne (by decide) h), fun h => ⟨(h10 (upd_ne (by decide) h)).1, fun h' => (h10 (upd_ne (by decide) h)).2 (by rw [upd_same (by decide)] at h'; exact h')⟩, fun h => h11 (upd_ne (by decide) h), fun h => h12 (upd_ne (by decide) h), fun h => m0 (by rw [upd_same (by decide)] at h; exact h), fun h h' => m1 (upd_ne (by decide) h) (by rw [upd_same (by decide)] at h'; exact h'), fun h h' => m2 (upd_ne (by decide) h) (by rw [upd_same (by decide)] at h'; exact h'), fun h => m3 (upd_ne (by decide) h), fun h => upd_of (i5 (upd_ne (by decide) h)), fun h => upd_of (i6 (upd_ne (by decide) h)), fun h => upd_of (i1 (upd_ne (by decide) h)), fun h => upd_of (i8 (upd_ne (by decide) h)), fx⟩
      · rintro f act W ⟨x16, x17, x18, x19, x20, x21, x22, x23, x24, x25, x26, x27, x28, x, y, k, v1, rfl, h0, h1, h2, h3, h4, h5, h6, h7, h8, h9, h10, h11, h12, m0, m1, m2, m3, i5, i6, i1, i8, fx⟩ hf hd K_ hK
        go_simp
        refine hK _ _ ?_
        exact ⟨x16, x17, x18, x19, _, x21, x22, x23, x24, x25, x26, x27, x28, x, y, k, v1, rfl, fun h => h0 (upd_ne (by decide) h), fun h => h1 (upd_ne (by decide) h), fun h => h2 (upd_ne (by decide) h), fun h => h3 (upd_ne (by decide) h), fun _ => rfl, fun h => h5 (upd_ne (by decide) h), fun h => h6 (upd_ne (by decide) h), fun h => h7 (upd_ne (by decide) h), fun h => h8 (upd_ne (by decide) h), fun h => h9 (upd_ne (by decide) h), fun h => ⟨(h10 (upd_ne (by decide) h)).1, fun h' => (h10 (upd_ne (by decide) h)).2 (by rw [upd_same (by decide)] at h'; exact h')⟩, fun h => h11 (upd_ne (by decide) h), fun h => h12 (upd_ne (by decide) h), fun h => m0 (by rw [upd_same (by decide)] at h; exact h), fun h h' => m1 (upd_ne (by decide) h) (by rw [upd_same (by decide)] at h'; exact h'), fun h h' => m2 (upd_ne (by decide) h) (by rw [upd_same (by decide)] at h'; exact h'), fun h => m3 (upd_ne (by decide) h), fun h => upd_of (i5 (upd_ne (by decide) h)), fun h => upd_of (i6 (upd_ne (by decide) h)), fun h => upd_of (i1 (upd_ne (by decide) h)), fun h => upd_of (i8 (upd_ne (by decide) h)), fx⟩
      · rintro f act W ⟨x16, x17, x18, x19, x20, x21, x22, x23, x24, x25, x26, x27, x28, x, y, k, v1, rfl, h0, h1, h2, h3, h4, h5, h6, h7, h8, h9, h10, h11, h12, m0, m1, m2, m3, i5, i6, i1, i8, fx⟩ hf hd K_ hK
        have e4 := h4 (dep_of hd (e := ⟨4, .data⟩) (by simp) rfl)
        subst e4
        have r0 := (fx.own 0 rfl).cell 0 _ rfl
        go_simp
        refine hK _ _ ?_
        exact ⟨x16, x17, x18, x19, _, _, x22, x23, x24, x25, x26, x27, x28, x, y, k, v1, rfl, fun h => h0 (upd_ne (by decide) h), fun h => h1 (upd_ne (by decide) h), fun h => h2 (upd_ne (by decide) h), fun h => h3 (upd_ne (by decide) h), fun _ => rfl, fun _ => rfl, fun h => h6 (upd_ne (by decide) h), fun h => h7 (upd_ne (by decide) h), fun h => h8 (upd_ne (by decide) h), fun h => h9 (upd_ne (by decide) h), fun h => ⟨(h10 (upd_ne (by decide) h)).1, fun h' => (h10 (upd_ne (by decide) h)).2 (by rw [upd_same (by decide)] at h'; exact h')⟩, fun h => h11 (upd_ne (by decide) h), fun h => h12 (upd_ne (by decide) h), fun h => m0 (by rw [upd_same (by decide)] at h; exact h), fun h h' => m1 (upd_ne (by decide) h) (by rw [upd_same (by decide)] at h'; exact h'), fun h h' => m2 (upd_ne (by decide) h) (by rw [upd_same (by decide)] at h'; exact h'), fun h => m3 (upd_ne (by decide) h), fun h => upd_of (i5 (upd_ne (by decide) h)), fun h => upd_of (i6 (upd_ne (by decide) h)), fun h => upd_of (i1 (upd_ne (by decide) h)), fun h => upd_of (i8 (upd_ne (by decide) h)), fx⟩
      · rintro f act W ⟨x16, x17, x18, x19, x20, x21, x22, x23, x24, x25, x26, x27, x28, x, y, k, v1, rfl, h0, h1, h2, h3, h4, h5, h6, h7, h8, h9, h10, h11, h12, m0, m1, m2, m3, i5, i6, i1, i8, fx⟩ hf hd K_ hK
        go_simp
        refine hK _ _ ?_
        exact ⟨x16, x17, x18, x19, x20, x21, _, x23, x24, x25, x26, x27, x28, x, y, k, v1, rfl, fun h => h0 (upd_ne (by decide) h), fun h => h1 (upd_ne (by decide) h), fun h => h2 (upd_ne (by decide) h), fun h => h3 (upd_ne (by decide) h), fun h => h4 (upd_ne (by decide) h), fun h => h5 (upd_ne (by decide) h), fun _ => rfl, fun h => h7 (upd_ne (by decide) h), fun h => h8 (upd_ne (by decide) h), fun h => h9 (upd_ne (by decide) h), fun h => ⟨(h10 (upd_ne (by decide) h)).1, fun h' => (h10 (upd_ne (by decide) h)).2 (by rw [upd_same (by decide)] at h'; exact h')⟩, fun h => h11 (upd_ne (by decide) h), fun h => h12 (upd_ne (by decide) h), fun h => m0 (by rw [upd_same (by decide)] at h; exact h), fun h h' => m1 (upd_ne (by decide) h) (by rw [upd_same (by decide)] at h'; exact h'), fun h h' => m2 (upd_ne (by decide) h) (by rw [upd_same (by decide)] at h'; exact h'), fun h => m3 (upd_ne (by decide) h), fun h => upd_of (i5 (upd_ne (by decide) h)), fun h => upd_of (i6 (upd_ne (by decide) h)), fun h => upd_of (i1 (upd_ne (by decide) h)), fun h => upd_of (i8 (upd_ne (by decide) h)), fx⟩
      · rintro f act W ⟨x16, x17, x18, x19, x20, x21, x22, x23, x24, x25, x26, x27, x28, x, y, k, v1, rfl, h0, h1, h2, h3, h4, h5, h6, h7, h8, h9, h10, h11, h12, m0, m1, m2, m3, i5, i6, i1, i8, fx⟩ hf hd K_ hK
        have e5 := h5 (dep_of hd (e := ⟨5, .data⟩) (by simp) rfl)
        subst e5
        have e6 := h6 (dep_of hd (e := ⟨6, .data⟩) (by simp) rfl)
        subst e6
        go_simp
        refine hK _ _ ?_
        exact ⟨x16, x17, x18, x19, x20, _, _, _, x24, x25, x26, x27, x28, x, y, k, v1, rfl, fun h => h0 (upd_ne (by decide) h), fun h => h1 (upd_ne (by decide) h), fun h => h2 (upd_ne (by decide) h), fun h => h3 (upd_ne (by decide) h), fun h => h4 (upd_ne (by decide) h), fun _ => rfl, fun _ => rfl, fun _ => rfl, fun h => h8 (upd_ne (by decide) h), fun h => h9 (upd_ne (by decide) h), fun h => ⟨(h10 (upd_ne (by decide) h)).1, fun h' => (h10 (upd_ne (by decide) h)).2 (by rw [upd_same (by decide)] at h'; exact h')⟩, fun h => h11 (upd_ne (by decide) h), fun h => h12 (upd_ne (by decide) h), fun h => m0 (by rw [upd_same (by decide)] at h; exact h), fun h h' => m1 (upd_ne (by decide) h) (by rw [upd_same (by decide)] at h'; exact h'), fun h h' => m2 (upd_ne (by decide) h) (by rw [upd_same (by decide)] at h'; exact h'), fun h => m3 (upd_ne (by decide) h), fun h => upd_of (i5 (upd_ne (by decide) h)), fun h => upd_of (i6 (upd_ne (by decide) h)), fun h => upd_of (i1 (upd_ne (by decide) h)), fun h => upd_of (i8 (upd_ne (by decide) h)), fx⟩
      · rintro f act W ⟨x16, x17, x18, x19, x20, x21, x22, x23, x24, x25, x26, x27, x28, x, y, k, v1, rfl, h0, h1, h2, h3, h4, h5, h6, h7, h8, h9, h10, h11, h12, m0, m1, m2, m3, i5, i6, i1, i8, fx⟩ hf hd K_ hK
        have e7 := h7 (dep_of hd (e := ⟨7, .data⟩) (by simp) rfl)
        subst e7
        obtain ⟨r0, r1⟩ := hat W fx
        go_simp
        refine hK _ _ ?_
        exact ⟨x16, x17, x18, x19, x20, x21, x22, _, _, x25, x26, x27, x28, x, y, k, v1, rfl, fun h => h0 (upd_ne (by decide) h), fun h => h1 (upd_ne (by decide) h), fun h => h2 (upd_ne (by decide) h), fun h => h3 (upd_ne (by decide) h), fun h => h4 (upd_ne (by decide) h), fun h => h5 (upd_ne (by decide) h), fun h => h6 (upd_ne (by decide) h), fun _ => rfl, fun _ => rfl, fun h => h9 (upd_ne (by decide) h), fun h => ⟨(h10 (upd_ne (by decide) h)).1, fun h' => (h10 (upd_ne (by decide) h)).2 (by rw [upd_same (by decide)] at h'; exact h')⟩, fun h => h11 (upd_ne (by decide) h), fun h => h12 (upd_ne (by decide) h), fun h => m0 (by rw [upd_same (by decide)] at h; exact h), fun h h' => m1 (upd_ne (by decide) h) (by rw [upd_same (by decide)] at h'; exact h'), fun h h' => m2 (upd_ne (by decide) h) (by rw [upd_same (by decide)] at h'; exact h'), fun h => m3 (upd_ne (by decide) h), fun h => upd_of (i5 (upd_ne (by decide) h)), fun h => upd_of (i6 (upd_ne (by decide) h)), fun h => upd_of (i1 (upd_ne (by decide) h)), fun h => upd_of (i8 (upd_ne (by decide) h)), fx⟩
      · rintro f act W ⟨x16, x17, x18, x19, x20, x21, x22, x23, x24, x25, x26, x27, x28, x, y, k, v1, rfl, h0, h1, h2, h3, h4, h5, h6, h7, h8, h9, h10, h11, h12, m0, m1, m2, m3, i5, i6, i1, i8, fx⟩ hf hd K_ hK
        have e2 := h2 (dep_of hd (e := ⟨2, .data⟩) (by simp) rfl)
        subst e2
        have e3 := h3 (dep_of hd (e := ⟨3, .data⟩) (by simp) rfl)
        subst e3
        have e8 := h8 (dep_of hd (e := ⟨8, .data⟩) (by simp) rfl)
        subst e8
        have B := m0 hf
        go_simp
        refine (hp _ B.rd).mono ?_
        rintro e W2 ⟨x', y', rfl, nx, ny, hr, hk⟩
        have B2 : ApSt w b (w.heap.size + 1) (w.heap.size + 1 + 1) [.own w.heap.size [.slice (Option.some ⟨G, 0, none⟩) m cap], .has (Option.some ⟨G, 0, none⟩) qs (Option.some G)] ps v (l + 100) W2 := (ApSt.next B hr hk).mono (by omega)
        refine hK _ _ ?_
        exact ⟨x16, x17, _, _, x20, x21, x22, x23, _, _, x26, x27, x28, x', y', k, v1, rfl, fun h => h0 (upd_ne (by decide) h), fun h => h1 (upd_ne (by decide) h), fun _ => rfl, fun _ => rfl, fun h => h4 (upd_ne (by decide) h), fun h => h5 (upd_ne (by decide) h), fun h => h6 (upd_ne (by decide) h), fun h => h7 (upd_ne (by decide) h), fun _ => rfl, fun _ => ⟨rfl, nx, ny⟩, fun h => absurd (i5 (upd_ne (by decide) h)) (by rw [hf]; decide), fun h => absurd (i5 (i6 (upd_ne (by decide) h))) (by rw [hf]; decide), fun h => h12 (upd_ne (by decide) h), fun h => (by rw [upd_self] at h; cases h), fun _ _ => B2, fun h _ => absurd (i5 (i6 (upd_ne (by decide) h))) (by rw [hf]; decide), fun h => absurd (i5 (i6 (i8 (upd_ne (by decide) h)))) (by rw [hf]; decide), fun h => upd_self, fun h => upd_of (i6 (upd_ne (by decide) h)), fun h => upd_of (i1 (upd_ne (by decide) h)), fun h => upd_of (i8 (upd_ne (by decide) h)), B2.facts⟩
      · rintro f act W ⟨x16, x17, x18, x19, x20, x21, x22, x23, x24, x25, x26, x27, x28, x, y, k, v1, rfl, h0, h1, h2, h3, h4, h5, h6, h7, h8, h9, h10, h11, h12, m0, m1, m2, m3, i5, i6, i1, i8, fx⟩ hf hd K_ hK
        have d4 := (dep_of hd (e := ⟨9, .data⟩) (by simp) rfl)
        obtain ⟨e4, nx, ny⟩ := h9 d4
        subst e4
        have f6 : f 11 = false := by cases h : f 11; rfl; exact absurd (i6 h) (by rw [hf]; decide)
        have B := m1 d4 f6
        go_simp
        refine hK _ _ ?_
        exact ⟨x16, x17, x18, x19, x20, x21, x22, x23, x24, _, _, x27, x28, x, y, W.heap.size, v1, rfl, fun h => h0 (upd_ne (by decide) h), fun h => h1 (upd_ne (by decide) h), fun h => h2 (upd_ne (by decide) h), fun h => h3 (upd_ne (by decide) h), fun h => h4 (upd_ne (by decide) h), fun h => h5 (upd_ne (by decide) h), fun h => h6 (upd_ne (by decide) h), fun h => h7 (upd_ne (by decide) h), fun h => h8 (upd_ne (by decide) h), fun _ => ⟨rfl, nx, ny⟩, fun _ => ⟨rfl, fun _ => cell_two_new W _ _ _⟩, fun h => absurd (i6 (upd_ne (by decide) h)) (by rw [hf]; decide), fun h => h12 (upd_ne (by decide) h), fun h => (by rw [upd_same (by decide), d4] at h; cases h), fun _ _ => B.alloc _, fun h _ => absurd (i6 (upd_ne (by decide) h)) (by rw [hf]; decide), fun h => absurd (i6 (i8 (upd_ne (by decide) h))) (by rw [hf]; decide), fun _ => upd_of d4, fun _ => upd_self, fun h => upd_of (i1 (upd_ne (by decide) h)), fun h => upd_of (i8 (upd_ne (by decide) h)), (B.alloc _).facts⟩
      · rintro f act W ⟨x16, x17, x18, x19, x20, x21, x22, x23, x24, x25, x26, x27, x28, x, y, k, v1, rfl, h0, h1, h2, h3, h4, h5, h6, h7, h8, h9, h10, h11, h12, m0, m1, m2, m3, i5, i6, i1, i8, fx⟩ hf hd K_ hK
        have e1 := (h1 (dep_of hd (e := ⟨1, .data⟩) (by simp) rfl)).symm
        subst e1
        have d5 := (dep_of hd (e := ⟨10, .data⟩) (by simp) rfl)
        obtain ⟨e5, hcl⟩ := h10 d5
        subst e5
        have d4 := i5 d5
        obtain ⟨e4, nx, ny⟩ := h9 d4
        have B := m1 d4 hf
        refine oper_append_own (.tmp 17) (.tmp 26) 39 rfl ((w.heap.size + 1 + 1) + 1) 24 i0 (.agg #[.int .i64 0, .int .i64 0]) 2 16 Try.underlying39 hi hz0 hz1 hz2 rfl (by decide) v _ _ rfl B.row ⟨k, 0, none⟩ 1 1 [_, _] rfl rfl (hcl hf) (fun u hu => by simp at hu; rcases hu with rfl | rfl <;> rfl) (by unfold maxLen; omega) (by omega) B.box.lt ?_
        intro v2 W2 r1 r2
        have M : ApMid w b (w.heap.size + 1) (w.heap.size + 1 + 1) [.own w.heap.size [.slice (Option.some ⟨G, 0, none⟩) m cap], .has (Option.some ⟨G, 0, none⟩) qs (Option.some G)] ps v (l + 100) v2 x y W2 := ⟨W, B, r2, r1, nx, ny⟩
        refine hK _ _ ?_
        exact ⟨x16, _, x18, x19, x20, x21, x22, x23, x24, x25, _, _, x28, x, y, k, v2, rfl, fun h => h0 (upd_ne (by decide) h), fun _ => rfl, fun h => h2 (upd_ne (by decide) h), fun h => h3 (upd_ne (by decide) h), fun h => h4 (upd_ne (by decide) h), fun h => h5 (upd_ne (by decide) h), fun h => h6 (upd_ne (by decide) h), fun h => h7 (upd_ne (by decide) h), fun h => h8 (upd_ne (by decide) h), fun h => h9 (upd_ne (by decide) h), fun _ => ⟨rfl, fun h' => (by rw [upd_self] at h'; cases h')⟩, fun _ => ⟨rfl, grown_form r1⟩, fun h => h12 (upd_ne (by decide) h), fun h => (by rw [upd_same (by decide), d4] at h; cases h), fun _ h' => (by rw [upd_self] at h'; cases h'), fun _ _ => M, fun h => absurd (i8 (upd_ne (by decide) h)) (by rw [hf]; decide), fun h => upd_of (i5 (upd_ne (by decide) h)), fun _ => upd_of d5, fun _ => upd_of (dep_of hd (e := ⟨1, .data⟩) (by simp) rfl), fun _ => upd_self, M.facts⟩
      · rintro f act W ⟨x16, x17, x18, x19, x20, x21, x22, x23, x24, x25, x26, x27, x28, x, y, k, v1, rfl, h0, h1, h2, h3, h4, h5, h6, h7, h8, h9, h10, h11, h12, m0, m1, m2, m3, i5, i6, i1, i8, fx⟩ hf hd K_ hK
        go_simp
        refine hK _ _ ?_
        exact ⟨x16, x17, x18, x19, x20, x21, x22, x23, x24, x25, x26, x27, _, x, y, k, v1, rfl, fun h => h0 (upd_ne (by decide) h), fun h => h1 (upd_ne (by decide) h), fun h => h2 (upd_ne (by decide) h), fun h => h3 (upd_ne (by decide) h), fun h => h4 (upd_ne (by decide) h), fun h => h5 (upd_ne (by decide) h), fun h => h6 (upd_ne (by decide) h), fun h => h7 (upd_ne (by decide) h), fun h => h8 (upd_ne (by decide) h), fun h => h9 (upd_ne (by decide) h), fun h => ⟨(h10 (upd_ne (by decide) h)).1, fun h' => (h10 (upd_ne (by decide) h)).2 (by rw [upd_same (by decide)] at h'; exact h')⟩, fun h => h11 (upd_ne (by decide) h), fun _ => rfl, fun h => m0 (by rw [upd_same (by decide)] at h; exact h), fun h h' => m1 (upd_ne (by decide) h) (by rw [upd_same (by decide)] at h'; exact h'), fun h h' => m2 (upd_ne (by decide) h) (by rw [upd_same (by decide)] at h'; exact h'), fun h => m3 (upd_ne (by decide) h), fun h => upd_of (i5 (upd_ne (by decide) h)), fun h => upd_of (i6 (upd_ne (by decide) h)), fun h => upd_of (i1 (upd_ne (by decide) h)), fun h => upd_of (i8 (upd_ne (by decide) h)), fx⟩
      · rintro f act W ⟨x16, x17, x18, x19, x20, x21, x22, x23, x24, x25, x26, x27, x28, x, y, k, v1, rfl, h0, h1, h2, h3, h4, h5, h6, h7, h8, h9, h10, h11, h12, m0, m1, m2, m3, i5, i6, i1, i8, fx⟩ hf hd K_ hK
        have e7 := h12 (dep_of hd (e := ⟨12, .data⟩) (by simp) rfl)
        subst e7
        have d6 : Hid (f 11 = true) := (dep_of hd (e := ⟨11, .data⟩) (by simp) rfl)
        obtain ⟨e6, g, c, ev⟩ := h11 d6.out
        have M := m2 d6.out hf
        subst e6
        subst ev
        have r0 := M.box.cell 0 _ rfl
        have r1 := M.box.frz 0 _ rfl
        go_simp
        refine hK _ _ ?_
        exact ⟨x16, x17, x18, x19, x20, x21, x22, x23, x24, x25, x26, _, _, x, y, k, _, rfl, fun h => h0 (upd_ne (by decide) h), fun h => h1 (upd_ne (by decide) h), fun h => h2 (upd_ne (by decide) h), fun h => h3 (upd_ne (by decide) h), fun h => h4 (upd_ne (by decide) h), fun h => h5 (upd_ne (by decide) h), fun h => h6 (upd_ne (by decide) h), fun h => h7 (upd_ne (by decide) h), fun h => h8 (upd_ne (by decide) h), fun h => h9 (upd_ne (by decide) h), fun h => ⟨(h10 (upd_ne (by decide) h)).1, fun h' => (by rw [upd_same (by decide), d6.out] at h'; cases h')⟩, fun _ => ⟨rfl, g, c, rfl⟩, fun _ => rfl, fun h => (by rw [upd_same (by decide), i5 (i6 d6.out)] at h; cases h), fun _ h' => (by rw [upd_same (by decide), d6.out] at h'; cases h'), fun _ h' => (by rw [upd_self] at h'; cases h'), fun _ => M.append, fun h => upd_of (i5 (upd_ne (by decide) h)), fun h => upd_of (i6 (upd_ne (by decide) h)), fun h => upd_of (i1 (upd_ne (by decide) h)), fun _ => upd_of d6.out, M.append.facts⟩
      rintro f act w5 ⟨x16, x17, x18, x19, x20, x21, x22, x23, x24, x25, x26, x27, x28, x, y, k, v1, rfl, h0, h1, h2, h3, h4, h5, h6, h7, h8, h9, h10, h11, h12, m0, m1, m2, m3, i5, i6, i1, i8, fx⟩ hall
      have B1 := m3 (hall 13 (by decide))
      obtain ⟨e6, g, c, ev⟩ := h11 (hall 11 (by decide))
      have e0 := h0 (hall 0 (by decide))
      subst e0
      have e1 := (h1 (hall 1 (by decide))).symm
      subst e1
      have e2 := h2 (hall 2 (by decide))
      subst e2
      have e3 := h3 (hall 3 (by decide))
      subst e3
      have e4 := h4 (hall 4 (by decide))
      subst e4
      have e5 := h5 (hall 5 (by decide))
      subst e5
      have e6 := h6 (hall 6 (by decide))
      subst e6
      have e7 := h7 (hall 7 (by decide))
      subst e7
      have e8 := h8 (hall 8 (by decide))
      subst e8
      have e12 := h12 (hall 12 (by decide))
      subst e12
      obtain ⟨e4, nx, ny⟩ := h9 (hall 9 (by decide))
      subst e4
      obtain ⟨e5, -⟩ := h10 (hall 10 (by decide))
      subst e5
      subst e6
      clear hall h0 h1 h2 h3 h4 h5 h6 h7 h8 h9 h10 h11 h12 m0 m1 m2 m3 i5 i6 i1 i8 fx
      try dsimp only
      rw [ev] at B1 ⊢
      go_wp2
      go_roundg (m - (i + 1))
      case measure => omega
      case rel => exact ⟨i + 1, _, ps ++ [(x, y)], by rw [List.length_append, hlenH.out]; rfl, by omega, by go_num, B1.mono (by omega)⟩

end Go.Proofs.Yteohgmmenlinbab
