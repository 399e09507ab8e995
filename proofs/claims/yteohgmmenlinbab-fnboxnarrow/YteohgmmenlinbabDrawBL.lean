/- The contract of the model's 'DrawBoxLess'. -/
import Derived.Test.YteohgmmenlinbabDrawV
import Derived.Test.YteohgmmenlinbabDrawZ
import Derived.Test.YteohgmmenlinbabJA
namespace Go.Proofs.Yteohgmmenlinbab
open Go.ChangeShapes Go.WideShapes Go.ChangeAt Go.RowKit
set_option linter.unusedVariables false

theorem grown_len {w : World} {base : Nat} {e : TypeId} {size n : Nat} {v : Value} {xs : List Value} (h : w.ownsRow base e size v n xs) (hn : 0 < n) : ∃ g c, v = .slice (some ⟨g, 0, none⟩) n c := by
  rcases h.2 with ⟨_, q⟩ | ⟨g, cap, _, q, _⟩
  · omega
  · exact ⟨g, cap, q⟩

set_option maxRecDepth 100000 in
set_option maxHeartbeats 8000000 in
theorem drawBoxLess (w : World) (a : Option Addr) (len cap : Nat) (hc : Code8 w a len) (hl : len ≤ cap) (hm : len ≤ 1048576) :
    Calls Try.prog 37 #[.slice a len cap] w (DBox w 8) := by
  have ho := opened (w.alloc (.cells #[.slice none 0 0] 41)) a len cap (hc.alloc _) hl hm
  have own0 := Own.new w #[.slice none 0 0] 41
  clear hc
  obtain ⟨i0, hi, hz0, hz1, hz2⟩ := info_parts infoPair
  go_enter Try.func37, Try.ntmps37
  go_wp2_with (go_at_call 41; go_must (refine ho.mono ?_); clear ho; rintro e w1 ⟨rfl, hr, hk⟩)
  have hsz : (w.alloc (.cells #[.slice none 0 0] 41)).heap.size = w.heap.size + 1 := by simp
  rw [hsz] at hr hk
  have hb1 := hr.1
  replace own0 := own0.keep hk (by omega)
  have hkw : Keep (w.heap.size + 1) w w1 := ((Keep.refl _ w).alloc _).trans hk
  clear hk
  have f0 : Hid (ApSt w1 (w.heap.size + 1) w.heap.size w1.heap.size [] [] (.slice none 0 0) 0 (w1.alloc (.cells #[.slice none 0 0] 41))) :=
    ⟨hr.alloc _, (Keep.refl _ w1).alloc _, own0.alloc _, Own.new w1 #[.slice none 0 0] 41, World.ownsRow_nil _ _ _ _, by simp, Facts.nil _, Nat.le_refl _, by omega, by omega, hb1, by simp, by simp⟩
  clear hr own0
  go_wp2_with (go_at_call 42; refine (pick _ _ _ _ f0.out.rd (by omega)).mono ?_; rintro e w2 ⟨r, rfl, r0, r1, -, hr, hk⟩; replace r1 := r1 (by omega); replace f0 : Hid (ApSt w1 (w.heap.size + 1) w.heap.size w1.heap.size [] [] (.slice none 0 0) 1 w2) := (ApSt.next f0.out hr hk).mono (by omega); clear hr hk)
  generalize hR : w.heap.size = R at *
  generalize w1.heap.size = K at *
  obtain ⟨b, hb⟩ : ∃ b, R + 1 = b := ⟨_, rfl⟩
  have HB : Hid (R + 1 = b ∧ w.heap.size = R) := ⟨hb, hR⟩
  rw [hb] at f0 hkw hb1 ⊢
  clear hb hR
  go_loopg [6] ((1 + r)).toNat (fun g iv wr => ∃ (i : Nat) (v : Value) (ps : List (Int × Int)), ps.length = i ∧ (i : Int) + g = (1 + r) ∧ iv = .int .i64 i ∧ Hid (ApSt w1 b R K [] ps v (1 + 200 * i) wr))
  case atStart => exact ⟨0, _, [], rfl, by omega, rfl, f0.out.mono (by omega)⟩
  case round =>
    clear f0
    obtain ⟨i, v, ps, hlen, hg, rfl, F⟩ := hrel
    by_cases c : ¬ (i : Int) < (1 + r)
    · have e0 := F.out.box.cell 0 v rfl
      have e1 := F.out.res.cell 0 _ rfl
      have e2 := F.out.res.frz 0 _ rfl
      obtain ⟨a3, cap3, o3, hv, hc3, hh, ho3⟩ := ownsRow_has F.out.row F.out.good
      obtain ⟨g5, c5, hv5⟩ := grown_len F.out.row (by omega)
      have hvv := hv.symm.trans hv5
      injection hvv with a5 _ c5'
      subst a5 c5'
      rw [hv5] at e0 F
      have hRw := HB.out.2
      have hbw := HB.out.1
      have hK1 := F.out.hRK
      have hK2 := F.out.hbK
      have hown := F.out.res
      have hgood := F.out.good
      have hkk := hkw.trans F.out.keep
      clear F hv hv5
      go_wp2
      subst hRw
      exact dboxEnd rfl hown (by first | rfl | exact hlen) (by omega) (by omega) hh (fun G hG => by have := ho3 G hG; omega) hgood (hkk.below (by omega) (Nat.le_refl _)) rfl
    · replace c : (i : Int) < (1 + r) := by omega
      obtain ⟨l, hl0⟩ : ∃ l, 1 + 200 * (i : Int) = l := ⟨_, rfl⟩
      have hl8 : ps.length ≤ 8 := by omega
      have hlenH : Hid (ps.length = i) := hlen
      clear hlen
      obtain ⟨w0, hw0⟩ : ∃ w0, w1 = w0 := ⟨_, rfl⟩
      obtain ⟨fl, hfl⟩ : ∃ fl : List Fact, [] = fl := ⟨_, rfl⟩
      have B0 : ApSt w0 b R K fl ps v l wr := by rw [← hw0, ← hfl, ← hl0]; exact F.out
      have hp := fun W (h : Rd W b l) => (widePair W b l h (by omega)).mono fun _ _ h => DPairOut.within h
      clear F
      go_wp2
      refine region_steps (by kernel_rfl) (by kernel_rfl) (by kernel_rfl) (fun A0 f act W => ∃ (x17 : Value) (x18 : Value) (x19 : Value) (x20 : Value) (x21 : Value) (x22 : Value) (x23 : Value) (x y : Int) (k : Nat) (v1 : Value), act = { tmps := #[.slice a len cap, undef, .pointer (some ⟨R, 0, none⟩), .pointer (some ⟨b, 0, none⟩), .pointer (some ⟨K, 0, none⟩), .int .i64 (1 + r), .int .i64 (i : Int), .slice a len cap, .pointer (some ⟨b, 0, none⟩), .pointer (some ⟨b, 0, none⟩), .int .i64 r, .int .i64 (1 + r), .int .i64 (i : Int), .int .i64 (1 + r), .bool true, u15, u16, x17, x18, x19, x20, x21, x22, x23, undef], defers := [] } ∧ (f 0 = true → x17 = .pointer (some ⟨K, 0, none⟩)) ∧ (f 1 = true → x18 = v) ∧ (f 2 = true → x19 = .pointer (some ⟨b, 0, none⟩)) ∧ (f 3 = true → x20 = .agg #[.int .i64 x, .int .i64 y] ∧ (Lit.int .i64 x).wf = true ∧ (Lit.int .i64 y).wf = true) ∧ (f 4 = true → x21 = .slice (some ⟨k, 0, none⟩) 1 1 ∧ (f 5 = false → ∀ j u, [Value.int .i64 x, .int .i64 y][j]? = some u → W.cell? ((⟨k, 0, none⟩ : Addr).add j) = some u)) ∧ (f 5 = true → x22 = v1 ∧ ∃ g c, v1 = .slice (some ⟨g, 0, none⟩) (ps.length + 1) c) ∧ (f 6 = true → x23 = .pointer (some ⟨K, 0, none⟩)) ∧ (f 3 = false → ApSt w0 b R K fl ps v l W) ∧ (f 3 = true → f 5 = false → ApSt w0 b R K fl ps v (l + 200) W) ∧ (f 5 = true → f 7 = false → ApMid w0 b R K fl ps v (l + 200) v1 x y W) ∧ (f 7 = true → ApSt w0 b R K fl (ps ++ [(x, y)]) v1 (l + 200) W) ∧ (f 4 = true → f 3 = true) ∧ (f 5 = true → f 4 = true) ∧ (f 5 = true → f 1 = true) ∧ (f 7 = true → f 5 = true) ∧ Facts W fl) ?_ ⟨?_, ?_, ?_, ?_, ?_, ?_, ?_, ?_, trivial⟩ ?_
      · exact ⟨u17, u18, u19, u20, u21, u22, u23, 0, 0, 0, undef, rfl, (fun h => (by cases h)), (fun h => (by cases h)), (fun h => (by cases h)), (fun h => (by cases h)), (fun h => (by cases h)), (fun h => (by cases h)), (fun h => (by cases h)), fun _ => B0.drew, (fun h => (by cases h)), (fun h => (by cases h)), (fun h => (by cases h)), (fun h => (by cases h)), (fun h => (by cases h)), (fun h => (by cases h)), (fun h => (by cases h)), B0.facts.drew⟩
      · rintro f act W ⟨x17, x18, x19, x20, x21, x22, x23, x, y, k, v1, rfl, h0, h1, h2, h3, h4, h5, h6, m0, m1, m2, m3, i5, i6, i1, i8, fx⟩ hf hd K_ hK
        go_simp
        refine hK _ _ ?_
        exact ⟨_, x18, x19, x20, x21, x22, x23, x, y, k, v1, rfl, fun _ => rfl, fun h => h1 (upd_ne (by decide) h), fun h => h2 (upd_ne (by decide) h), fun h => h3 (upd_ne (by decide) h), fun h => ⟨(h4 (upd_ne (by decide) h)).1, fun h' => (h4 (upd_ne (by decide) h)).2 (by rw [upd_same (by decide)] at h'; exact h')⟩, fun h => h5 (upd_ne (by decide) h), fun h => h6 (upd_ne (by decide) h), fun h => m0 (by rw [upd_same (by decide)] at h; exact h), fun h h' => m1 (upd_ne (by decide) h) (by rw [upd_same (by decide)] at h'; exact h'), fun h h' => m2 (upd_ne (by decide) h) (by rw [upd_same (by decide)] at h'; exact h'), fun h => m3 (upd_ne (by decide) h), fun h => upd_of (i5 (upd_ne (by decide) h)), fun h => upd_of (i6 (upd_ne (by decide) h)), fun h => upd_of (i1 (upd_ne (by decide) h)), fun h => upd_of (i8 (upd_ne (by decide) h)), fx⟩
      · rintro f act W ⟨x17, x18, x19, x20, x21, x22, x23, x, y, k, v1, rfl, h0, h1, h2, h3, h4, h5, h6, m0, m1, m2, m3, i5, i6, i1, i8, fx⟩ hf hd K_ hK
        have e0 := h0 (dep_of hd (e := ⟨0, .data⟩) (by simp) rfl)
        subst e0
        have f6 : f 5 = false := by cases h : f 5; rfl; exact absurd (i1 h) (by rw [hf]; decide)
        have cur : ∃ l', ApSt w0 b R K fl ps v l' W := by cases h : f 3; exact ⟨_, m0 h⟩; exact ⟨_, m1 h f6⟩
        obtain ⟨l', B⟩ := cur
        have r0 := B.box.cell 0 _ rfl
        go_simp
        refine hK _ _ ?_
        exact ⟨_, _, x19, x20, x21, x22, x23, x, y, k, v1, rfl, fun _ => rfl, fun _ => rfl, fun h => h2 (upd_ne (by decide) h), fun h => h3 (upd_ne (by decide) h), fun h => ⟨(h4 (upd_ne (by decide) h)).1, fun h' => (h4 (upd_ne (by decide) h)).2 (by rw [upd_same (by decide)] at h'; exact h')⟩, fun h => h5 (upd_ne (by decide) h), fun h => h6 (upd_ne (by decide) h), fun h => m0 (by rw [upd_same (by decide)] at h; exact h), fun h h' => m1 (upd_ne (by decide) h) (by rw [upd_same (by decide)] at h'; exact h'), fun h h' => m2 (upd_ne (by decide) h) (by rw [upd_same (by decide)] at h'; exact h'), fun h => m3 (upd_ne (by decide) h), fun h => upd_of (i5 (upd_ne (by decide) h)), fun h => upd_of (i6 (upd_ne (by decide) h)), fun _ => upd_self, fun h => upd_of (i8 (upd_ne (by decide) h)), fx⟩
      · rintro f act W ⟨x17, x18, x19, x20, x21, x22, x23, x, y, k, v1, rfl, h0, h1, h2, h3, h4, h5, h6, m0, m1, m2, m3, i5, i6, i1, i8, fx⟩ hf hd K_ hK
        go_simp
        refine hK _ _ ?_
        exact ⟨x17, x18, _, x20, x21, x22, x23, x, y, k, v1, rfl, fun h => h0 (upd_ne (by decide) h), fun h => h1 (upd_ne (by decide) h), fun _ => rfl, fun h => h3 (upd_ne (by decide) h), fun h => ⟨(h4 (upd_ne (by decide) h)).1, fun h' => (h4 (upd_ne (by decide) h)).2 (by rw [upd_same (by decide)] at h'; exact h')⟩, fun h => h5 (upd_ne (by decide) h), fun h => h6 (upd_ne (by decide) h), fun h => m0 (by rw [upd_same (by decide)] at h; exact h), fun h h' => m1 (upd_ne (by decide) h) (by rw [upd_same (by decide)] at h'; exact h'), fun h h' => m2 (upd_ne (by decide) h) (by rw [upd_same (by decide)] at h'; exact h'), fun h => m3 (upd_ne (by decide) h), fun h => upd_of (i5 (upd_ne (by decide) h)), fun h => upd_of (i6 (upd_ne (by decide) h)), fun h => upd_of (i1 (upd_ne (by decide) h)), fun h => upd_of (i8 (upd_ne (by decide) h)), fx⟩
      · rintro f act W ⟨x17, x18, x19, x20, x21, x22, x23, x, y, k, v1, rfl, h0, h1, h2, h3, h4, h5, h6, m0, m1, m2, m3, i5, i6, i1, i8, fx⟩ hf hd K_ hK
        have e2 := h2 (dep_of hd (e := ⟨2, .data⟩) (by simp) rfl)
        subst e2
        have B := m0 hf
        go_simp
        refine (hp _ B.rd).mono ?_
        rintro e W2 ⟨x', y', rfl, nx, ny, hr, hk⟩
        have B2 : ApSt w0 b R K fl ps v (l + 200) W2 := (ApSt.next B hr hk).mono (by omega)
        refine hK _ _ ?_
        exact ⟨x17, x18, _, _, x21, x22, x23, x', y', k, v1, rfl, fun h => h0 (upd_ne (by decide) h), fun h => h1 (upd_ne (by decide) h), fun _ => rfl, fun _ => ⟨rfl, nx, ny⟩, fun h => absurd (i5 (upd_ne (by decide) h)) (by rw [hf]; decide), fun h => absurd (i5 (i6 (upd_ne (by decide) h))) (by rw [hf]; decide), fun h => h6 (upd_ne (by decide) h), fun h => (by rw [upd_self] at h; cases h), fun _ _ => B2, fun h _ => absurd (i5 (i6 (upd_ne (by decide) h))) (by rw [hf]; decide), fun h => absurd (i5 (i6 (i8 (upd_ne (by decide) h)))) (by rw [hf]; decide), fun h => upd_self, fun h => upd_of (i6 (upd_ne (by decide) h)), fun h => upd_of (i1 (upd_ne (by decide) h)), fun h => upd_of (i8 (upd_ne (by decide) h)), B2.facts⟩
      · rintro f act W ⟨x17, x18, x19, x20, x21, x22, x23, x, y, k, v1, rfl, h0, h1, h2, h3, h4, h5, h6, m0, m1, m2, m3, i5, i6, i1, i8, fx⟩ hf hd K_ hK
        have d4 := (dep_of hd (e := ⟨3, .data⟩) (by simp) rfl)
        obtain ⟨e4, nx, ny⟩ := h3 d4
        subst e4
        have f6 : f 5 = false := by cases h : f 5; rfl; exact absurd (i6 h) (by rw [hf]; decide)
        have B := m1 d4 f6
        go_simp
        refine hK _ _ ?_
        exact ⟨x17, x18, x19, _, _, x22, x23, x, y, W.heap.size, v1, rfl, fun h => h0 (upd_ne (by decide) h), fun h => h1 (upd_ne (by decide) h), fun h => h2 (upd_ne (by decide) h), fun _ => ⟨rfl, nx, ny⟩, fun _ => ⟨rfl, fun _ => cell_two_new W _ _ _⟩, fun h => absurd (i6 (upd_ne (by decide) h)) (by rw [hf]; decide), fun h => h6 (upd_ne (by decide) h), fun h => (by rw [upd_same (by decide), d4] at h; cases h), fun _ _ => B.alloc _, fun h _ => absurd (i6 (upd_ne (by decide) h)) (by rw [hf]; decide), fun h => absurd (i6 (i8 (upd_ne (by decide) h))) (by rw [hf]; decide), fun _ => upd_of d4, fun _ => upd_self, fun h => upd_of (i1 (upd_ne (by decide) h)), fun h => upd_of (i8 (upd_ne (by decide) h)), (B.alloc _).facts⟩
      · rintro f act W ⟨x17, x18, x19, x20, x21, x22, x23, x, y, k, v1, rfl, h0, h1, h2, h3, h4, h5, h6, m0, m1, m2, m3, i5, i6, i1, i8, fx⟩ hf hd K_ hK
        have e1 := (h1 (dep_of hd (e := ⟨1, .data⟩) (by simp) rfl)).symm
        subst e1
        have d5 := (dep_of hd (e := ⟨4, .data⟩) (by simp) rfl)
        obtain ⟨e5, hcl⟩ := h4 d5
        subst e5
        have d4 := i5 d5
        obtain ⟨e4, nx, ny⟩ := h3 d4
        have B := m1 d4 hf
        refine oper_append_own (.tmp 18) (.tmp 21) 39 rfl (K + 1) 24 i0 (.agg #[.int .i64 0, .int .i64 0]) 2 16 Try.underlying39 hi hz0 hz1 hz2 rfl (by decide) v _ _ rfl B.row ⟨k, 0, none⟩ 1 1 [_, _] rfl rfl (hcl hf) (fun u hu => by simp at hu; rcases hu with rfl | rfl <;> rfl) (by unfold maxLen; omega) (by omega) B.box.lt ?_
        intro v2 W2 r1 r2
        have M : ApMid w0 b R K fl ps v (l + 200) v2 x y W2 := ⟨W, B, r2, r1, nx, ny⟩
        refine hK _ _ ?_
        exact ⟨x17, _, x19, x20, _, _, x23, x, y, k, v2, rfl, fun h => h0 (upd_ne (by decide) h), fun _ => rfl, fun h => h2 (upd_ne (by decide) h), fun h => h3 (upd_ne (by decide) h), fun _ => ⟨rfl, fun h' => (by rw [upd_self] at h'; cases h')⟩, fun _ => ⟨rfl, grown_form r1⟩, fun h => h6 (upd_ne (by decide) h), fun h => (by rw [upd_same (by decide), d4] at h; cases h), fun _ h' => (by rw [upd_self] at h'; cases h'), fun _ _ => M, fun h => absurd (i8 (upd_ne (by decide) h)) (by rw [hf]; decide), fun h => upd_of (i5 (upd_ne (by decide) h)), fun _ => upd_of d5, fun _ => upd_of (dep_of hd (e := ⟨1, .data⟩) (by simp) rfl), fun _ => upd_self, M.facts⟩
      · rintro f act W ⟨x17, x18, x19, x20, x21, x22, x23, x, y, k, v1, rfl, h0, h1, h2, h3, h4, h5, h6, m0, m1, m2, m3, i5, i6, i1, i8, fx⟩ hf hd K_ hK
        go_simp
        refine hK _ _ ?_
        exact ⟨x17, x18, x19, x20, x21, x22, _, x, y, k, v1, rfl, fun h => h0 (upd_ne (by decide) h), fun h => h1 (upd_ne (by decide) h), fun h => h2 (upd_ne (by decide) h), fun h => h3 (upd_ne (by decide) h), fun h => ⟨(h4 (upd_ne (by decide) h)).1, fun h' => (h4 (upd_ne (by decide) h)).2 (by rw [upd_same (by decide)] at h'; exact h')⟩, fun h => h5 (upd_ne (by decide) h), fun _ => rfl, fun h => m0 (by rw [upd_same (by decide)] at h; exact h), fun h h' => m1 (upd_ne (by decide) h) (by rw [upd_same (by decide)] at h'; exact h'), fun h h' => m2 (upd_ne (by decide) h) (by rw [upd_same (by decide)] at h'; exact h'), fun h => m3 (upd_ne (by decide) h), fun h => upd_of (i5 (upd_ne (by decide) h)), fun h => upd_of (i6 (upd_ne (by decide) h)), fun h => upd_of (i1 (upd_ne (by decide) h)), fun h => upd_of (i8 (upd_ne (by decide) h)), fx⟩
      · rintro f act W ⟨x17, x18, x19, x20, x21, x22, x23, x, y, k, v1, rfl, h0, h1, h2, h3, h4, h5, h6, m0, m1, m2, m3, i5, i6, i1, i8, fx⟩ hf hd K_ hK
        have e7 := h6 (dep_of hd (e := ⟨6, .data⟩) (by simp) rfl)
        subst e7
        have d6 : Hid (f 5 = true) := (dep_of hd (e := ⟨5, .data⟩) (by simp) rfl)
        obtain ⟨e6, g, c, ev⟩ := h5 d6.out
        have M := m2 d6.out hf
        subst e6
        subst ev
        have r0 := M.box.cell 0 _ rfl
        have r1 := M.box.frz 0 _ rfl
        go_simp
        refine hK _ _ ?_
        exact ⟨x17, x18, x19, x20, x21, _, _, x, y, k, _, rfl, fun h => h0 (upd_ne (by decide) h), fun h => h1 (upd_ne (by decide) h), fun h => h2 (upd_ne (by decide) h), fun h => h3 (upd_ne (by decide) h), fun h => ⟨(h4 (upd_ne (by decide) h)).1, fun h' => (by rw [upd_same (by decide), d6.out] at h'; cases h')⟩, fun _ => ⟨rfl, g, c, rfl⟩, fun _ => rfl, fun h => (by rw [upd_same (by decide), i5 (i6 d6.out)] at h; cases h), fun _ h' => (by rw [upd_same (by decide), d6.out] at h'; cases h'), fun _ h' => (by rw [upd_self] at h'; cases h'), fun _ => M.append, fun h => upd_of (i5 (upd_ne (by decide) h)), fun h => upd_of (i6 (upd_ne (by decide) h)), fun h => upd_of (i1 (upd_ne (by decide) h)), fun _ => upd_of d6.out, M.append.facts⟩
      rintro f act w5 ⟨x17, x18, x19, x20, x21, x22, x23, x, y, k, v1, rfl, h0, h1, h2, h3, h4, h5, h6, m0, m1, m2, m3, i5, i6, i1, i8, fx⟩ hall
      have B1 := m3 (hall 7 (by decide))
      obtain ⟨e6, g, c, ev⟩ := h5 (hall 5 (by decide))
      have e0 := h0 (hall 0 (by decide))
      subst e0
      have e1 := (h1 (hall 1 (by decide))).symm
      subst e1
      have e2 := h2 (hall 2 (by decide))
      subst e2
      have e6 := h6 (hall 6 (by decide))
      subst e6
      obtain ⟨e4, nx, ny⟩ := h3 (hall 3 (by decide))
      subst e4
      obtain ⟨e5, -⟩ := h4 (hall 4 (by decide))
      subst e5
      subst e6
      clear hall h0 h1 h2 h3 h4 h5 h6 m0 m1 m2 m3 i5 i6 i1 i8 fx
      try dsimp only
      rw [ev] at B1 ⊢
      go_wp2
      go_roundg ((1 + r) - (i + 1)).toNat
      case measure => omega
      case rel => exact ⟨i + 1, _, ps ++ [(x, y)], by rw [List.length_append, hlenH.out]; rfl, by omega, by go_num, by rw [← hw0, ← hfl] at B1; exact B1.mono (by omega)⟩

end Go.Proofs.Yteohgmmenlinbab
