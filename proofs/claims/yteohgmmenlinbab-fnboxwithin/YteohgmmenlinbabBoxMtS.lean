/- BoxMeet of the model: its contract. -/
import Derived.Test.YteohgmmenlinbabMeetI
import Derived.Test.YteohgmmenlinbabApp
import Derived.Test.YteohgmmenlinbabRegM
namespace Go.Proofs.Yteohgmmenlinbab
open Go.ChangeShapes Go.WideShapes Go.ChangeAt Go.RowKit
set_option linter.unusedVariables false

theorem take_made {f : Nat → (Int × Int) × Bool} {n i : Nat} (h : i < n) : (madeL f n).take (i + 1) = (madeL f n).take i ++ [((f i).1.1, (f i).1.2)] := by
  rw [List.take_add_one, madeL_get h]
  rfl

set_option maxRecDepth 100000 in
set_option maxHeartbeats 2000000 in
theorem specBoxMeet (w : World) (n : Int) (a b : Option Addr) (ps qs : List (Int × Int)) (cap cap' : Nat) (h : PairsAt w a ps) (h' : PairsAt w b qs) (hl : ps.length ≤ cap) (hl' : qs.length ≤ cap') (hm : ps.length ≤ 1048576) (hm' : qs.length ≤ 1048576) :
    Calls Try.prog 33 #[.int .i64 n, .agg #[.slice a ps.length cap], .agg #[.slice b qs.length cap']] w (BoxOut w (meetL n ps qs) (meetK n ps qs)) := by
  have q0 : Below w.heap.size w (((w.alloc (.cells #[.slice a ps.length cap] 41)).alloc (.cells #[.slice b qs.length cap'] 41)).alloc (.cells #[.slice none 0 0] 41)) := (((Below.refl _ w).alloc (Nat.le_refl _) _).alloc (by simp) _).alloc (by simp; omega) _
  have oA := ((Own.new w #[.slice a ps.length cap] 41).alloc (.cells #[.slice b qs.length cap'] 41)).alloc (.cells #[.slice none 0 0] 41)
  have oB := (Own.new (w.alloc (.cells #[.slice a ps.length cap] 41)) #[.slice b qs.length cap'] 41).alloc (.cells #[.slice none 0 0] 41)
  have oR := Own.new ((w.alloc (.cells #[.slice a ps.length cap] 41)).alloc (.cells #[.slice b qs.length cap'] 41)) #[.slice none 0 0] 41
  simp only [World.size_alloc] at oB oR
  have k1 := fun W (q : Below w.heap.size w W) => specBoxOk W n a ps cap (h.below q) hl hm
  have k2 := fun W (q : Below w.heap.size w W) => specBoxOk W n b qs cap' (h'.below q) hl' hm'
  have no : meetG n ps qs = false → Hid (meetK n ps qs = false ∧ meetL n ps qs = []) := fun e => ⟨meet_noG e, meet_no (meet_noG e)⟩
  cases h1 : bokI n ps
  · have E := no (by unfold meetG; rw [h1]; rfl)
    rw [h1] at k1
    clear k2 no
    generalize ps.length = len at *
    generalize qs.length = len' at *
    have c1 := oA.cell 0 _ rfl
    go_enter Try.func33, Try.ntmps33
    go_wp2_with (go_at_call 23; refine (k1 _ q0).mono ?_; clear k1; rintro e w2 ⟨rfl, q⟩; replace oR := oR.below q; replace q0 := q0.trans (q.mono q0.size); clear q; have d0 := oR.cell 0 _ rfl; have d1 := oR.frz 0 _ rfl)
    refine boxEnd (ps := meetL n ps qs) (o := none) rfl (by rw [E.out.2]; rfl) oR q0 (by omega) (Nat.le_refl _) ?_ (fun G hG => by cases hG) (fun e => by cases e) rfl (by rw [E.out.1]; rfl)
    rw [E.out.2]
    exact ⟨fun p hp => by simp at hp, .inl ⟨rfl, rfl⟩⟩
  cases h2 : bokI n qs
  · have E := no (by unfold meetG; rw [h1, h2]; rfl)
    rw [h1] at k1
    rw [h2] at k2
    clear no
    generalize ps.length = len at *
    generalize qs.length = len' at *
    have c1 := oA.cell 0 _ rfl
    go_enter Try.func33, Try.ntmps33
    go_wp2_with first
      | (go_at_call 23; refine (k1 _ q0).mono ?_; clear k1 c1; rintro e w2 ⟨rfl, q⟩; replace oB := oB.below q; replace oR := oR.below q; replace q0 := q0.trans (q.mono q0.size); clear q; have c1 := oB.cell 0 _ rfl)
      | (go_at_call 23; refine (k2 _ q0).mono ?_; clear k2 c1; rintro e w3 ⟨rfl, q⟩; replace oR := oR.below q; replace q0 := q0.trans (q.mono q0.size); clear q; have d0 := oR.cell 0 _ rfl; have d1 := oR.frz 0 _ rfl)
    refine boxEnd (ps := meetL n ps qs) (o := none) rfl (by rw [E.out.2]; rfl) oR q0 (by omega) (Nat.le_refl _) ?_ (fun G hG => by cases hG) (fun e => by cases e) rfl (by rw [E.out.1]; rfl)
    rw [E.out.2]
    exact ⟨fun p hp => by simp at hp, .inl ⟨rfl, rfl⟩⟩
  by_cases hlen : ps.length = qs.length
  · have Gy := meet_yes (n := n) (ps := ps) (qs := qs) (by unfold meetG; rw [h1, h2, decide_eq_true hlen]; rfl)
    rw [h1] at k1
    rw [h2] at k2
    have hlen' : 1 ≤ ps.length := by unfold bokI at h1; simp only [Bool.and_eq_true, decide_eq_true_eq] at h1; exact h1.1
    obtain ⟨rb, ro, ha, hlt, hc⟩ := h.2.resolve_left (by intro e; rw [e] at hlen'; simp at hlen')
    obtain ⟨sb, so, hb, hlt', hc'⟩ := h'.2.resolve_left (by intro e; rw [hlen, e] at hlen'; simp at hlen')
    subst ha hb
    clear hc hc' no h1 h2
    obtain ⟨len, hL1⟩ : ∃ len, ps.length = len := ⟨_, rfl⟩
    have hL2 : qs.length = len := by omega
    rw [hL1] at q0 oA oB oR k1 hl hm hlen'
    rw [hL1, hL2]
    rw [hL2] at q0 oA oB oR k2 hl' hm'
    have F0 : Facts (((w.alloc (.cells #[.slice (some ⟨rb, ro, none⟩) len cap] 41)).alloc (.cells #[.slice (some ⟨sb, so, none⟩) len cap'] 41)).alloc (.cells #[.slice none 0 0] 41)) [.bel w, .own w.heap.size [.slice (some ⟨rb, ro, none⟩) len cap], .own (w.heap.size + 1) [.slice (some ⟨sb, so, none⟩) len cap'], .args w.heap.size (some ⟨rb, ro, none⟩) ps, .args w.heap.size (some ⟨sb, so, none⟩) qs] :=
      (((((Facts.nil _).push (f := .bel w) q0).push (f := .own _ _) oA).push (f := .own _ _) oB).push (f := .args _ _ _) (Fact.below (.args w.heap.size (some ⟨rb, ro, none⟩) ps) (args_of h rfl) q0)).push (f := .args _ _ _) (Fact.below (.args w.heap.size (some ⟨sb, so, none⟩) qs) (args_of h' rfl) q0)
    have hgw : ∀ i, i < len → (Lit.int .i64 (meetF n ps qs i).1.1).wf = true ∧ (Lit.int .i64 (meetF n ps qs i).1.2).wf = true := fun i hi => meet_wf n (h.wfD (by omega)) (h'.wfD (by omega))
    have HW : Hid (ps.length = len ∧ qs.length = len ∧ ∀ i, i < len → (Lit.int .i64 (meetF n ps qs i).1.1).wf = true ∧ (Lit.int .i64 (meetF n ps qs i).1.2).wf = true) := ⟨hL1, hL2, hgw⟩
    have GY : Hid (meetK n ps qs = madeB (meetF n ps qs) len ∧ meetL n ps qs = madeR (meetF n ps qs) len) := by rw [hL1] at Gy; exact Gy
    clear h h' hlen Gy hgw hL1 hL2 oA hlt hlt'
    obtain ⟨i0, hi, hz0, hz1, hz2⟩ := info_parts infoPair
    have c1 := (F0.own 1 rfl).cell 0 _ rfl
    go_enter Try.func33, Try.ntmps33
    go_wp2_with first
      | (go_at_call 23; refine (k1 _ q0).mono ?_; clear k1 c1; rintro e w2 ⟨rfl, q⟩; replace F0 := F0.below q; replace oR := oR.below q; replace q0 := q0.trans (q.mono q0.size); clear q; have c1 := (F0.own 2 rfl).cell 0 _ rfl)
      | (go_at_call 23; refine (k2 _ q0).mono ?_; clear k2 c1; rintro e w3 ⟨rfl, q⟩; replace F0 := F0.below q; replace oR := oR.below q; replace q0 := q0.trans (q.mono q0.size); clear q; have c1 := (F0.own 1 rfl).cell 0 _ rfl; have c2 := (F0.own 2 rfl).cell 0 _ rfl)
    clear c1 c2 oB
    have hs := q0.size
    have A0 : Hid (App [.bel w, .own w.heap.size [.slice (some ⟨rb, ro, none⟩) len cap], .own (w.heap.size + 1) [.slice (some ⟨sb, so, none⟩) len cap'], .args w.heap.size (some ⟨rb, ro, none⟩) ps, .args w.heap.size (some ⟨sb, so, none⟩) qs] (w.heap.size + 1 + 1) w3.heap.size [] (.slice none 0 0) (w3.alloc (.cells #[.slice none 0 0] 41))) := App.start F0 (fun f hf c hc => by
      have hl2 := oR.lt
      simp only [List.mem_cons, List.not_mem_nil, or_false] at hf
      rcases hf with rfl | rfl | rfl | rfl | rfl
      · intro G hG; have := Option.some.inj hG; omega
      · intro hG; have := Option.some.inj hG; omega
      · intro hG; have := Option.some.inj hG; omega
      · intro G hG; have := Option.some.inj hG; omega
      · intro G hG; have := Option.some.inj hG; omega) oR
    clear F0 oR q0
    go_loopg [9] len (fun gq iv wr => ∃ (i : Nat) (v : Value), i + gq = len ∧ iv = .int .i64 i ∧ Hid (∀ j, j < i → (meetF n ps qs j).2 = true) ∧ Hid (App [.bel w, .own w.heap.size [.slice (some ⟨rb, ro, none⟩) len cap], .own (w.heap.size + 1) [.slice (some ⟨sb, so, none⟩) len cap'], .args w.heap.size (some ⟨rb, ro, none⟩) ps, .args w.heap.size (some ⟨sb, so, none⟩) qs] (w.heap.size + 1 + 1) w3.heap.size ((madeL (meetF n ps qs) len).take i) v wr))
    case atStart => exact ⟨0, _, by omega, rfl, fun j hj => absurd hj (by omega), A0⟩
    case round =>
      clear A0
      obtain ⟨i, v, hi', rfl, hall, A⟩ := hrel
      have b0 := (A.out.facts.own 1 rfl).cell 0 _ rfl
      have b1 := (A.out.facts.own 2 rfl).cell 0 _ rfl
      by_cases hlast : len ≤ i
      · have hil : ¬ (i : Int) < len := by omega
        obtain rfl : i = len := by omega
        have e1 := madeB_true hall.out
        have ht : (madeL (meetF n ps qs) i).take i = madeL (meetF n ps qs) i := by rw [List.take_of_length_le (by rw [madeL_length]; omega)]
        rw [ht] at A
        have eK : Hid (meetK n ps qs = true ∧ meetL n ps qs = madeL (meetF n ps qs) i) := ⟨by rw [GY.out.1]; exact e1, by rw [GY.out.2]; unfold madeR; rw [if_pos e1]⟩
        clear ht e1
        have hLL : Hid ((meetL n ps qs).length = i) := by show (meetL n ps qs).length = i; rw [eK.out.2]; exact madeL_length _ _
        rw [← eK.out.2] at A
        have e0 := A.out.box.cell 0 v rfl
        have e1 := A.out.res.cell 0 _ rfl
        have e2 := A.out.res.frz 0 _ rfl
        rcases A.out.row.2 with ⟨hv, hz⟩ | ⟨g, cap'', cur, hv, _⟩
        · exfalso
          rw [hLL.out] at hz
          omega
        · rw [hv] at e0 A
          clear hv
          go_wp2
          exact appEnd rfl A.out (A.out.facts.bel 0 rfl) (by omega) rfl (by rw [eK.out.1]; rfl)
      · replace hlast : i < len := by omega
        have hil : (i : Int) < len := by omega
        have hA := A.out.facts.args 3 rfl
        have hB := A.out.facts.args 4 rfl
        have wa := hA.wfD (i := i) (by rw [HW.out.1]; exact hlast)
        have wb := hB.wfD (i := i) (by rw [HW.out.2.1]; exact hlast)
        obtain ⟨rb', ro', ea, hlta, p0, p1⟩ := hA.atD (i := i) (by rw [HW.out.1]; exact hlast)
        injection ea with ea
        injection ea with ea1 ea2
        subst ea1 ea2
        obtain ⟨sb', so', eb, hltb, p2, p3⟩ := hB.atD (i := i) (by rw [HW.out.2.1]; exact hlast)
        injection eb with eb
        injection eb with eb1 eb2
        subst eb1 eb2
        have hg : ∀ W, Calls Try.prog 68 #[.int .i64 n, .agg #[.int .i64 (at2 ps i).1, .int .i64 (at2 ps i).2], .agg #[.int .i64 (at2 qs i).1, .int .i64 (at2 qs i).2]] W (PairOut W (meetF n ps qs i).1.1 (meetF n ps qs i).1.2 (meetF n ps qs i).2) := fun W => specMeet W n _ _ _ _ wa.1 wa.2 wb.1 wb.2
        have hgw := HW.out.2.2 i hlast
        have hnx : Hid ((madeL (meetF n ps qs) len).take (i + 1) = (madeL (meetF n ps qs) len).take i ++ [((meetF n ps qs i).1.1, (meetF n ps qs i).1.2)]) := take_made hlast
        have hlt2 : ((madeL (meetF n ps qs) len).take i).length = i := by rw [List.length_take, madeL_length]; omega
        have hno : Hid ((meetF n ps qs i).2 = false → meetK n ps qs = false ∧ meetL n ps qs = []) := fun e => by
          have e1 := madeB_false hlast e
          exact ⟨by rw [GY.out.1]; exact e1, by rw [GY.out.2]; unfold madeR; rw [e1]; rfl⟩
        have hyes : Hid ((meetF n ps qs i).2 = true → ∀ j, j < i + 1 → (meetF n ps qs j).2 = true) := fun e j hj => by
          by_cases ej : j = i
          · subst ej; exact e
          · exact hall.out j (by omega)
        generalize (madeL (meetF n ps qs) len).take i = out at *
        generalize (at2 ps i).1 = x at *
        generalize (at2 ps i).2 = y at *
        generalize (at2 qs i).1 = x' at *
        generalize (at2 qs i).2 = y' at *
        generalize (meetF n ps qs i).1.1 = r0 at *
        generalize (meetF n ps qs i).1.2 = r1 at *
        generalize (meetF n ps qs i).2 = rk at *
        have la := (A.out.facts.own 1 rfl).lt
        have lb := (A.out.facts.own 2 rfl).lt
        clear hA hB wa wb hall GY HW
        unfold PairOut at hg
        go_wp2
        refine region_steps (by kernel_rfl) (by kernel_rfl) (by kernel_rfl) (fun A0 f a W => ∃ (x40 : Value) (x41 : Value) (x42 : Value) (x43 : Value) (x44 : Value) (x45 : Value) (x46 : Value) (x47 : Value) (x48 : Value) (x49 : Value) (x50 : Value) (x51 : Value) (x39 : Value) (x52 : Value) (x53 : Value) (x10 : Value) (x11 : Value) (k15 : Nat), a = { tmps := #[.int .i64 n, .agg #[.slice (some ⟨rb, ro, none⟩) len cap], .agg #[.slice (some ⟨sb, so, none⟩) len cap'], undef, .pointer (some ⟨w.heap.size, 0, none⟩), .pointer (some ⟨w.heap.size + 1, 0, none⟩), .pointer (some ⟨w.heap.size + 1 + 1, 0, none⟩), u7, .pointer (some ⟨w3.heap.size, 0, none⟩), .int .i64 (i : Int), x10, x11, .int .i64 n, .agg #[.slice (some ⟨rb, ro, none⟩) len cap], .bool true, .bool false, .bool false, .int .i64 n, .agg #[.slice (some ⟨sb, so, none⟩) len cap'], .bool true, .bool false, .bool false, .bool false, .pointer (some ⟨w.heap.size, 0, none⟩), .slice (some ⟨rb, ro, none⟩) len cap, .int .i64 (len : Int), .pointer (some ⟨w.heap.size + 1, 0, none⟩), .slice (some ⟨sb, so, none⟩) len cap', .int .i64 (len : Int), .bool false, .bool false, undef, .int .i64 (i : Int), .pointer (some ⟨w.heap.size, 0, none⟩), .slice (some ⟨rb, ro, none⟩) len cap, .int .i64 (len : Int), .bool true, u37, u38, x39, x40, x41, x42, x43, x44, x45, x46, x47, x48, x49, x50, x51, x52, x53, u54, u55, u56, u57, u58, u59, u60, u61, u62, undef], defers := [] } ∧ (f 0 = true → x40 = .int .i64 n) ∧ (f 1 = true → x41 = .pointer (some ⟨w.heap.size, 0, none⟩)) ∧ (f 2 = true → x42 = .slice (some ⟨rb, ro, none⟩) len cap) ∧ (f 3 = true → x43 = .int .i64 (i : Int)) ∧ (f 4 = true → x44 = .pointer (some ⟨rb, ro + i * 2, none⟩)) ∧ (f 5 = true → x45 = .agg #[.int .i64 x, .int .i64 y]) ∧ (f 6 = true → x46 = .pointer (some ⟨w.heap.size + 1, 0, none⟩)) ∧ (f 7 = true → x47 = .slice (some ⟨sb, so, none⟩) len cap') ∧ (f 8 = true → x48 = .int .i64 (i : Int)) ∧ (f 9 = true → x49 = .pointer (some ⟨sb, so + i * 2, none⟩)) ∧ (f 10 = true → x50 = .agg #[.int .i64 x', .int .i64 y']) ∧ (f 11 = true → x51 = .tuple #[.agg #[.int .i64 r0, .int .i64 r1], .bool rk]) ∧ (f 12 = true → x39 = .tuple #[.agg #[.int .i64 r0, .int .i64 r1], .bool rk]) ∧ (f 13 = true → x52 = .agg #[.int .i64 r0, .int .i64 r1]) ∧ (f 14 = true → x53 = .bool rk) ∧ (f 15 = true → x10 = .pointer (some ⟨k15, 0, none⟩) ∧ wr.heap.size ≤ k15 ∧ k15 < W.heap.size ∧ (f 16 = false → Own W k15 [.int .i64 0, .int .i64 0]) ∧ (f 16 = true → Own W k15 [.int .i64 r0, .int .i64 r1])) ∧ (f 17 = true → x11 = .bool rk) ∧ (f 16 = true → f 15 = true) ∧ Below wr.heap.size wr W) ?_ ⟨?_, ?_, ?_, ?_, ?_, ?_, ?_, ?_, ?_, ?_, ?_, ?_, ?_, ?_, ?_, ?_, ?_, ?_, trivial⟩ ?_
        · exact ⟨u40, u41, u42, u43, u44, u45, u46, u47, u48, u49, u50, u51, u39, u52, u53, u10, u11, 0, rfl, (fun h => (by cases h)), (fun h => (by cases h)), (fun h => (by cases h)), (fun h => (by cases h)), (fun h => (by cases h)), (fun h => (by cases h)), (fun h => (by cases h)), (fun h => (by cases h)), (fun h => (by cases h)), (fun h => (by cases h)), (fun h => (by cases h)), (fun h => (by cases h)), (fun h => (by cases h)), (fun h => (by cases h)), (fun h => (by cases h)), (fun h => (by cases h)), (fun h => (by cases h)), (fun h => (by cases h)), (Below.refl _ _).drew⟩
        · rintro f a W ⟨x40, x41, x42, x43, x44, x45, x46, x47, x48, x49, x50, x51, x39, x52, x53, x10, x11, k15, rfl, H⟩ hf hd K hK
          have h0 := H.1
          replace H := H.2
          have h1 := H.1
          replace H := H.2
          have h2 := H.1
          replace H := H.2
          have h3 := H.1
          replace H := H.2
          have h4 := H.1
          replace H := H.2
          have h5 := H.1
          replace H := H.2
          have h6 := H.1
          replace H := H.2
          have h7 := H.1
          replace H := H.2
          have h8 := H.1
          replace H := H.2
          have h9 := H.1
          replace H := H.2
          have h10 := H.1
          replace H := H.2
          have h11 := H.1
          replace H := H.2
          have h12 := H.1
          replace H := H.2
          have h13 := H.1
          replace H := H.2
          have h14 := H.1
          replace H := H.2
          have h15 := H.1
          replace H := H.2
          have h17 := H.1
          replace H := H.2
          have n15 := H.1
          replace H := H.2
          have hB := H
          clear H
          go_simp
          refine hK _ _ ?_
          exact ⟨_, x41, x42, x43, x44, x45, x46, x47, x48, x49, x50, x51, x39, x52, x53, x10, x11, k15, rfl, fun _ => rfl, fun h => h1 (upd_ne (by decide) h), fun h => h2 (upd_ne (by decide) h), fun h => h3 (upd_ne (by decide) h), fun h => h4 (upd_ne (by decide) h), fun h => h5 (upd_ne (by decide) h), fun h => h6 (upd_ne (by decide) h), fun h => h7 (upd_ne (by decide) h), fun h => h8 (upd_ne (by decide) h), fun h => h9 (upd_ne (by decide) h), fun h => h10 (upd_ne (by decide) h), fun h => h11 (upd_ne (by decide) h), fun h => h12 (upd_ne (by decide) h), fun h => h13 (upd_ne (by decide) h), fun h => h14 (upd_ne (by decide) h), fun h => (by obtain ⟨p1, p2, p3, p4, p5⟩ := h15 (upd_ne (by decide) h); exact ⟨p1, p2, p3, fun h' => p4 (by rw [upd_same (by decide)] at h'; exact h'), fun h' => p5 (upd_ne (by decide) h')⟩), fun h => h17 (upd_ne (by decide) h), fun h => upd_of (n15 (upd_ne (by decide) h)), hB⟩
        · rintro f a W ⟨x40, x41, x42, x43, x44, x45, x46, x47, x48, x49, x50, x51, x39, x52, x53, x10, x11, k15, rfl, H⟩ hf hd K hK
          have h0 := H.1
          replace H := H.2
          have h1 := H.1
          replace H := H.2
          have h2 := H.1
          replace H := H.2
          have h3 := H.1
          replace H := H.2
          have h4 := H.1
          replace H := H.2
          have h5 := H.1
          replace H := H.2
          have h6 := H.1
          replace H := H.2
          have h7 := H.1
          replace H := H.2
          have h8 := H.1
          replace H := H.2
          have h9 := H.1
          replace H := H.2
          have h10 := H.1
          replace H := H.2
          have h11 := H.1
          replace H := H.2
          have h12 := H.1
          replace H := H.2
          have h13 := H.1
          replace H := H.2
          have h14 := H.1
          replace H := H.2
          have h15 := H.1
          replace H := H.2
          have h17 := H.1
          replace H := H.2
          have n15 := H.1
          replace H := H.2
          have hB := H
          clear H
          go_simp
          refine hK _ _ ?_
          exact ⟨x40, _, x42, x43, x44, x45, x46, x47, x48, x49, x50, x51, x39, x52, x53, x10, x11, k15, rfl, fun h => h0 (upd_ne (by decide) h), fun _ => rfl, fun h => h2 (upd_ne (by decide) h), fun h => h3 (upd_ne (by decide) h), fun h => h4 (upd_ne (by decide) h), fun h => h5 (upd_ne (by decide) h), fun h => h6 (upd_ne (by decide) h), fun h => h7 (upd_ne (by decide) h), fun h => h8 (upd_ne (by decide) h), fun h => h9 (upd_ne (by decide) h), fun h => h10 (upd_ne (by decide) h), fun h => h11 (upd_ne (by decide) h), fun h => h12 (upd_ne (by decide) h), fun h => h13 (upd_ne (by decide) h), fun h => h14 (upd_ne (by decide) h), fun h => (by obtain ⟨p1, p2, p3, p4, p5⟩ := h15 (upd_ne (by decide) h); exact ⟨p1, p2, p3, fun h' => p4 (by rw [upd_same (by decide)] at h'; exact h'), fun h' => p5 (upd_ne (by decide) h')⟩), fun h => h17 (upd_ne (by decide) h), fun h => upd_of (n15 (upd_ne (by decide) h)), hB⟩
        · rintro f a W ⟨x40, x41, x42, x43, x44, x45, x46, x47, x48, x49, x50, x51, x39, x52, x53, x10, x11, k15, rfl, H⟩ hf hd K hK
          have h0 := H.1
          replace H := H.2
          have h1 := H.1
          replace H := H.2
          have h2 := H.1
          replace H := H.2
          have h3 := H.1
          replace H := H.2
          have h4 := H.1
          replace H := H.2
          have h5 := H.1
          replace H := H.2
          have h6 := H.1
          replace H := H.2
          have h7 := H.1
          replace H := H.2
          have h8 := H.1
          replace H := H.2
          have h9 := H.1
          replace H := H.2
          have h10 := H.1
          replace H := H.2
          have h11 := H.1
          replace H := H.2
          have h12 := H.1
          replace H := H.2
          have h13 := H.1
          replace H := H.2
          have h14 := H.1
          replace H := H.2
          have h15 := H.1
          replace H := H.2
          have h17 := H.1
          replace H := H.2
          have n15 := H.1
          replace H := H.2
          have hB := H
          clear H
          have e1 := h1 (dep_of hd (e := ⟨1, .data⟩) (by simp) rfl)
          subst e1
          have r0 := (hB.cell (p := ⟨w.heap.size, 0, none⟩) la).trans b0
          go_simp
          refine hK _ _ ?_
          exact ⟨x40, _, _, x43, x44, x45, x46, x47, x48, x49, x50, x51, x39, x52, x53, x10, x11, k15, rfl, fun h => h0 (upd_ne (by decide) h), fun _ => rfl, fun _ => rfl, fun h => h3 (upd_ne (by decide) h), fun h => h4 (upd_ne (by decide) h), fun h => h5 (upd_ne (by decide) h), fun h => h6 (upd_ne (by decide) h), fun h => h7 (upd_ne (by decide) h), fun h => h8 (upd_ne (by decide) h), fun h => h9 (upd_ne (by decide) h), fun h => h10 (upd_ne (by decide) h), fun h => h11 (upd_ne (by decide) h), fun h => h12 (upd_ne (by decide) h), fun h => h13 (upd_ne (by decide) h), fun h => h14 (upd_ne (by decide) h), fun h => (by obtain ⟨p1, p2, p3, p4, p5⟩ := h15 (upd_ne (by decide) h); exact ⟨p1, p2, p3, fun h' => p4 (by rw [upd_same (by decide)] at h'; exact h'), fun h' => p5 (upd_ne (by decide) h')⟩), fun h => h17 (upd_ne (by decide) h), fun h => upd_of (n15 (upd_ne (by decide) h)), hB⟩
        · rintro f a W ⟨x40, x41, x42, x43, x44, x45, x46, x47, x48, x49, x50, x51, x39, x52, x53, x10, x11, k15, rfl, H⟩ hf hd K hK
          have h0 := H.1
          replace H := H.2
          have h1 := H.1
          replace H := H.2
          have h2 := H.1
          replace H := H.2
          have h3 := H.1
          replace H := H.2
          have h4 := H.1
          replace H := H.2
          have h5 := H.1
          replace H := H.2
          have h6 := H.1
          replace H := H.2
          have h7 := H.1
          replace H := H.2
          have h8 := H.1
          replace H := H.2
          have h9 := H.1
          replace H := H.2
          have h10 := H.1
          replace H := H.2
          have h11 := H.1
          replace H := H.2
          have h12 := H.1
          replace H := H.2
          have h13 := H.1
          replace H := H.2
          have h14 := H.1
          replace H := H.2
          have h15 := H.1
          replace H := H.2
          have h17 := H.1
          replace H := H.2
          have n15 := H.1
          replace H := H.2
          have hB := H
          clear H
          go_simp
          refine hK _ _ ?_
          exact ⟨x40, x41, x42, _, x44, x45, x46, x47, x48, x49, x50, x51, x39, x52, x53, x10, x11, k15, rfl, fun h => h0 (upd_ne (by decide) h), fun h => h1 (upd_ne (by decide) h), fun h => h2 (upd_ne (by decide) h), fun _ => rfl, fun h => h4 (upd_ne (by decide) h), fun h => h5 (upd_ne (by decide) h), fun h => h6 (upd_ne (by decide) h), fun h => h7 (upd_ne (by decide) h), fun h => h8 (upd_ne (by decide) h), fun h => h9 (upd_ne (by decide) h), fun h => h10 (upd_ne (by decide) h), fun h => h11 (upd_ne (by decide) h), fun h => h12 (upd_ne (by decide) h), fun h => h13 (upd_ne (by decide) h), fun h => h14 (upd_ne (by decide) h), fun h => (by obtain ⟨p1, p2, p3, p4, p5⟩ := h15 (upd_ne (by decide) h); exact ⟨p1, p2, p3, fun h' => p4 (by rw [upd_same (by decide)] at h'; exact h'), fun h' => p5 (upd_ne (by decide) h')⟩), fun h => h17 (upd_ne (by decide) h), fun h => upd_of (n15 (upd_ne (by decide) h)), hB⟩
        · rintro f a W ⟨x40, x41, x42, x43, x44, x45, x46, x47, x48, x49, x50, x51, x39, x52, x53, x10, x11, k15, rfl, H⟩ hf hd K hK
          have h0 := H.1
          replace H := H.2
          have h1 := H.1
          replace H := H.2
          have h2 := H.1
          replace H := H.2
          have h3 := H.1
          replace H := H.2
          have h4 := H.1
          replace H := H.2
          have h5 := H.1
          replace H := H.2
          have h6 := H.1
          replace H := H.2
          have h7 := H.1
          replace H := H.2
          have h8 := H.1
          replace H := H.2
          have h9 := H.1
          replace H := H.2
          have h10 := H.1
          replace H := H.2
          have h11 := H.1
          replace H := H.2
          have h12 := H.1
          replace H := H.2
          have h13 := H.1
          replace H := H.2
          have h14 := H.1
          replace H := H.2
          have h15 := H.1
          replace H := H.2
          have h17 := H.1
          replace H := H.2
          have n15 := H.1
          replace H := H.2
          have hB := H
          clear H
          have e2 := h2 (dep_of hd (e := ⟨2, .data⟩) (by simp) rfl)
          subst e2
          have e3 := h3 (dep_of hd (e := ⟨3, .data⟩) (by simp) rfl)
          subst e3
          go_simp
          refine hK _ _ ?_
          exact ⟨x40, x41, _, _, _, x45, x46, x47, x48, x49, x50, x51, x39, x52, x53, x10, x11, k15, rfl, fun h => h0 (upd_ne (by decide) h), fun h => h1 (upd_ne (by decide) h), fun _ => rfl, fun _ => rfl, fun _ => rfl, fun h => h5 (upd_ne (by decide) h), fun h => h6 (upd_ne (by decide) h), fun h => h7 (upd_ne (by decide) h), fun h => h8 (upd_ne (by decide) h), fun h => h9 (upd_ne (by decide) h), fun h => h10 (upd_ne (by decide) h), fun h => h11 (upd_ne (by decide) h), fun h => h12 (upd_ne (by decide) h), fun h => h13 (upd_ne (by decide) h), fun h => h14 (upd_ne (by decide) h), fun h => (by obtain ⟨p1, p2, p3, p4, p5⟩ := h15 (upd_ne (by decide) h); exact ⟨p1, p2, p3, fun h' => p4 (by rw [upd_same (by decide)] at h'; exact h'), fun h' => p5 (upd_ne (by decide) h')⟩), fun h => h17 (upd_ne (by decide) h), fun h => upd_of (n15 (upd_ne (by decide) h)), hB⟩
        · rintro f a W ⟨x40, x41, x42, x43, x44, x45, x46, x47, x48, x49, x50, x51, x39, x52, x53, x10, x11, k15, rfl, H⟩ hf hd K hK
          have h0 := H.1
          replace H := H.2
          have h1 := H.1
          replace H := H.2
          have h2 := H.1
          replace H := H.2
          have h3 := H.1
          replace H := H.2
          have h4 := H.1
          replace H := H.2
          have h5 := H.1
          replace H := H.2
          have h6 := H.1
          replace H := H.2
          have h7 := H.1
          replace H := H.2
          have h8 := H.1
          replace H := H.2
          have h9 := H.1
          replace H := H.2
          have h10 := H.1
          replace H := H.2
          have h11 := H.1
          replace H := H.2
          have h12 := H.1
          replace H := H.2
          have h13 := H.1
          replace H := H.2
          have h14 := H.1
          replace H := H.2
          have h15 := H.1
          replace H := H.2
          have h17 := H.1
          replace H := H.2
          have n15 := H.1
          replace H := H.2
          have hB := H
          clear H
          have e4 := h4 (dep_of hd (e := ⟨4, .data⟩) (by simp) rfl)
          subst e4
          have r0 := (hB.cell (p := ⟨rb, ro + i * 2, none⟩) hlta).trans p0
          have r1 := (hB.cell (p := ⟨rb, ro + i * 2 + 1, none⟩) hlta).trans p1
          go_simp
          refine hK _ _ ?_
          exact ⟨x40, x41, x42, x43, _, _, x46, x47, x48, x49, x50, x51, x39, x52, x53, x10, x11, k15, rfl, fun h => h0 (upd_ne (by decide) h), fun h => h1 (upd_ne (by decide) h), fun h => h2 (upd_ne (by decide) h), fun h => h3 (upd_ne (by decide) h), fun _ => rfl, fun _ => rfl, fun h => h6 (upd_ne (by decide) h), fun h => h7 (upd_ne (by decide) h), fun h => h8 (upd_ne (by decide) h), fun h => h9 (upd_ne (by decide) h), fun h => h10 (upd_ne (by decide) h), fun h => h11 (upd_ne (by decide) h), fun h => h12 (upd_ne (by decide) h), fun h => h13 (upd_ne (by decide) h), fun h => h14 (upd_ne (by decide) h), fun h => (by obtain ⟨p1, p2, p3, p4, p5⟩ := h15 (upd_ne (by decide) h); exact ⟨p1, p2, p3, fun h' => p4 (by rw [upd_same (by decide)] at h'; exact h'), fun h' => p5 (upd_ne (by decide) h')⟩), fun h => h17 (upd_ne (by decide) h), fun h => upd_of (n15 (upd_ne (by decide) h)), hB⟩
        · rintro f a W ⟨x40, x41, x42, x43, x44, x45, x46, x47, x48, x49, x50, x51, x39, x52, x53, x10, x11, k15, rfl, H⟩ hf hd K hK
          have h0 := H.1
          replace H := H.2
          have h1 := H.1
          replace H := H.2
          have h2 := H.1
          replace H := H.2
          have h3 := H.1
          replace H := H.2
          have h4 := H.1
          replace H := H.2
          have h5 := H.1
          replace H := H.2
          have h6 := H.1
          replace H := H.2
          have h7 := H.1
          replace H := H.2
          have h8 := H.1
          replace H := H.2
          have h9 := H.1
          replace H := H.2
          have h10 := H.1
          replace H := H.2
          have h11 := H.1
          replace H := H.2
          have h12 := H.1
          replace H := H.2
          have h13 := H.1
          replace H := H.2
          have h14 := H.1
          replace H := H.2
          have h15 := H.1
          replace H := H.2
          have h17 := H.1
          replace H := H.2
          have n15 := H.1
          replace H := H.2
          have hB := H
          clear H
          go_simp
          refine hK _ _ ?_
          exact ⟨x40, x41, x42, x43, x44, x45, _, x47, x48, x49, x50, x51, x39, x52, x53, x10, x11, k15, rfl, fun h => h0 (upd_ne (by decide) h), fun h => h1 (upd_ne (by decide) h), fun h => h2 (upd_ne (by decide) h), fun h => h3 (upd_ne (by decide) h), fun h => h4 (upd_ne (by decide) h), fun h => h5 (upd_ne (by decide) h), fun _ => rfl, fun h => h7 (upd_ne (by decide) h), fun h => h8 (upd_ne (by decide) h), fun h => h9 (upd_ne (by decide) h), fun h => h10 (upd_ne (by decide) h), fun h => h11 (upd_ne (by decide) h), fun h => h12 (upd_ne (by decide) h), fun h => h13 (upd_ne (by decide) h), fun h => h14 (upd_ne (by decide) h), fun h => (by obtain ⟨p1, p2, p3, p4, p5⟩ := h15 (upd_ne (by decide) h); exact ⟨p1, p2, p3, fun h' => p4 (by rw [upd_same (by decide)] at h'; exact h'), fun h' => p5 (upd_ne (by decide) h')⟩), fun h => h17 (upd_ne (by decide) h), fun h => upd_of (n15 (upd_ne (by decide) h)), hB⟩
        · rintro f a W ⟨x40, x41, x42, x43, x44, x45, x46, x47, x48, x49, x50, x51, x39, x52, x53, x10, x11, k15, rfl, H⟩ hf hd K hK
          have h0 := H.1
          replace H := H.2
          have h1 := H.1
          replace H := H.2
          have h2 := H.1
          replace H := H.2
          have h3 := H.1
          replace H := H.2
          have h4 := H.1
          replace H := H.2
          have h5 := H.1
          replace H := H.2
          have h6 := H.1
          replace H := H.2
          have h7 := H.1
          replace H := H.2
          have h8 := H.1
          replace H := H.2
          have h9 := H.1
          replace H := H.2
          have h10 := H.1
          replace H := H.2
          have h11 := H.1
          replace H := H.2
          have h12 := H.1
          replace H := H.2
          have h13 := H.1
          replace H := H.2
          have h14 := H.1
          replace H := H.2
          have h15 := H.1
          replace H := H.2
          have h17 := H.1
          replace H := H.2
          have n15 := H.1
          replace H := H.2
          have hB := H
          clear H
          have e6 := h6 (dep_of hd (e := ⟨6, .data⟩) (by simp) rfl)
          subst e6
          have r0 := (hB.cell (p := ⟨w.heap.size + 1, 0, none⟩) lb).trans b1
          go_simp
          refine hK _ _ ?_
          exact ⟨x40, x41, x42, x43, x44, x45, _, _, x48, x49, x50, x51, x39, x52, x53, x10, x11, k15, rfl, fun h => h0 (upd_ne (by decide) h), fun h => h1 (upd_ne (by decide) h), fun h => h2 (upd_ne (by decide) h), fun h => h3 (upd_ne (by decide) h), fun h => h4 (upd_ne (by decide) h), fun h => h5 (upd_ne (by decide) h), fun _ => rfl, fun _ => rfl, fun h => h8 (upd_ne (by decide) h), fun h => h9 (upd_ne (by decide) h), fun h => h10 (upd_ne (by decide) h), fun h => h11 (upd_ne (by decide) h), fun h => h12 (upd_ne (by decide) h), fun h => h13 (upd_ne (by decide) h), fun h => h14 (upd_ne (by decide) h), fun h => (by obtain ⟨p1, p2, p3, p4, p5⟩ := h15 (upd_ne (by decide) h); exact ⟨p1, p2, p3, fun h' => p4 (by rw [upd_same (by decide)] at h'; exact h'), fun h' => p5 (upd_ne (by decide) h')⟩), fun h => h17 (upd_ne (by decide) h), fun h => upd_of (n15 (upd_ne (by decide) h)), hB⟩
        · rintro f a W ⟨x40, x41, x42, x43, x44, x45, x46, x47, x48, x49, x50, x51, x39, x52, x53, x10, x11, k15, rfl, H⟩ hf hd K hK
          have h0 := H.1
          replace H := H.2
          have h1 := H.1
          replace H := H.2
          have h2 := H.1
          replace H := H.2
          have h3 := H.1
          replace H := H.2
          have h4 := H.1
          replace H := H.2
          have h5 := H.1
          replace H := H.2
          have h6 := H.1
          replace H := H.2
          have h7 := H.1
          replace H := H.2
          have h8 := H.1
          replace H := H.2
          have h9 := H.1
          replace H := H.2
          have h10 := H.1
          replace H := H.2
          have h11 := H.1
          replace H := H.2
          have h12 := H.1
          replace H := H.2
          have h13 := H.1
          replace H := H.2
          have h14 := H.1
          replace H := H.2
          have h15 := H.1
          replace H := H.2
          have h17 := H.1
          replace H := H.2
          have n15 := H.1
          replace H := H.2
          have hB := H
          clear H
          go_simp
          refine hK _ _ ?_
          exact ⟨x40, x41, x42, x43, x44, x45, x46, x47, _, x49, x50, x51, x39, x52, x53, x10, x11, k15, rfl, fun h => h0 (upd_ne (by decide) h), fun h => h1 (upd_ne (by decide) h), fun h => h2 (upd_ne (by decide) h), fun h => h3 (upd_ne (by decide) h), fun h => h4 (upd_ne (by decide) h), fun h => h5 (upd_ne (by decide) h), fun h => h6 (upd_ne (by decide) h), fun h => h7 (upd_ne (by decide) h), fun _ => rfl, fun h => h9 (upd_ne (by decide) h), fun h => h10 (upd_ne (by decide) h), fun h => h11 (upd_ne (by decide) h), fun h => h12 (upd_ne (by decide) h), fun h => h13 (upd_ne (by decide) h), fun h => h14 (upd_ne (by decide) h), fun h => (by obtain ⟨p1, p2, p3, p4, p5⟩ := h15 (upd_ne (by decide) h); exact ⟨p1, p2, p3, fun h' => p4 (by rw [upd_same (by decide)] at h'; exact h'), fun h' => p5 (upd_ne (by decide) h')⟩), fun h => h17 (upd_ne (by decide) h), fun h => upd_of (n15 (upd_ne (by decide) h)), hB⟩
        · rintro f a W ⟨x40, x41, x42, x43, x44, x45, x46, x47, x48, x49, x50, x51, x39, x52, x53, x10, x11, k15, rfl, H⟩ hf hd K hK
          have h0 := H.1
          replace H := H.2
          have h1 := H.1
          replace H := H.2
          have h2 := H.1
          replace H := H.2
          have h3 := H.1
          replace H := H.2
          have h4 := H.1
          replace H := H.2
          have h5 := H.1
          replace H := H.2
          have h6 := H.1
          replace H := H.2
          have h7 := H.1
          replace H := H.2
          have h8 := H.1
          replace H := H.2
          have h9 := H.1
          replace H := H.2
          have h10 := H.1
          replace H := H.2
          have h11 := H.1
          replace H := H.2
          have h12 := H.1
          replace H := H.2
          have h13 := H.1
          replace H := H.2
          have h14 := H.1
          replace H := H.2
          have h15 := H.1
          replace H := H.2
          have h17 := H.1
          replace H := H.2
          have n15 := H.1
          replace H := H.2
          have hB := H
          clear H
          have e7 := h7 (dep_of hd (e := ⟨7, .data⟩) (by simp) rfl)
          subst e7
          have e8 := h8 (dep_of hd (e := ⟨8, .data⟩) (by simp) rfl)
          subst e8
          go_simp
          refine hK _ _ ?_
          exact ⟨x40, x41, x42, x43, x44, x45, x46, _, _, _, x50, x51, x39, x52, x53, x10, x11, k15, rfl, fun h => h0 (upd_ne (by decide) h), fun h => h1 (upd_ne (by decide) h), fun h => h2 (upd_ne (by decide) h), fun h => h3 (upd_ne (by decide) h), fun h => h4 (upd_ne (by decide) h), fun h => h5 (upd_ne (by decide) h), fun h => h6 (upd_ne (by decide) h), fun _ => rfl, fun _ => rfl, fun _ => rfl, fun h => h10 (upd_ne (by decide) h), fun h => h11 (upd_ne (by decide) h), fun h => h12 (upd_ne (by decide) h), fun h => h13 (upd_ne (by decide) h), fun h => h14 (upd_ne (by decide) h), fun h => (by obtain ⟨p1, p2, p3, p4, p5⟩ := h15 (upd_ne (by decide) h); exact ⟨p1, p2, p3, fun h' => p4 (by rw [upd_same (by decide)] at h'; exact h'), fun h' => p5 (upd_ne (by decide) h')⟩), fun h => h17 (upd_ne (by decide) h), fun h => upd_of (n15 (upd_ne (by decide) h)), hB⟩
        · rintro f a W ⟨x40, x41, x42, x43, x44, x45, x46, x47, x48, x49, x50, x51, x39, x52, x53, x10, x11, k15, rfl, H⟩ hf hd K hK
          have h0 := H.1
          replace H := H.2
          have h1 := H.1
          replace H := H.2
          have h2 := H.1
          replace H := H.2
          have h3 := H.1
          replace H := H.2
          have h4 := H.1
          replace H := H.2
          have h5 := H.1
          replace H := H.2
          have h6 := H.1
          replace H := H.2
          have h7 := H.1
          replace H := H.2
          have h8 := H.1
          replace H := H.2
          have h9 := H.1
          replace H := H.2
          have h10 := H.1
          replace H := H.2
          have h11 := H.1
          replace H := H.2
          have h12 := H.1
          replace H := H.2
          have h13 := H.1
          replace H := H.2
          have h14 := H.1
          replace H := H.2
          have h15 := H.1
          replace H := H.2
          have h17 := H.1
          replace H := H.2
          have n15 := H.1
          replace H := H.2
          have hB := H
          clear H
          have e9 := h9 (dep_of hd (e := ⟨9, .data⟩) (by simp) rfl)
          subst e9
          have r0 := (hB.cell (p := ⟨sb, so + i * 2, none⟩) hltb).trans p2
          have r1 := (hB.cell (p := ⟨sb, so + i * 2 + 1, none⟩) hltb).trans p3
          go_simp
          refine hK _ _ ?_
          exact ⟨x40, x41, x42, x43, x44, x45, x46, x47, x48, _, _, x51, x39, x52, x53, x10, x11, k15, rfl, fun h => h0 (upd_ne (by decide) h), fun h => h1 (upd_ne (by decide) h), fun h => h2 (upd_ne (by decide) h), fun h => h3 (upd_ne (by decide) h), fun h => h4 (upd_ne (by decide) h), fun h => h5 (upd_ne (by decide) h), fun h => h6 (upd_ne (by decide) h), fun h => h7 (upd_ne (by decide) h), fun h => h8 (upd_ne (by decide) h), fun _ => rfl, fun _ => rfl, fun h => h11 (upd_ne (by decide) h), fun h => h12 (upd_ne (by decide) h), fun h => h13 (upd_ne (by decide) h), fun h => h14 (upd_ne (by decide) h), fun h => (by obtain ⟨p1, p2, p3, p4, p5⟩ := h15 (upd_ne (by decide) h); exact ⟨p1, p2, p3, fun h' => p4 (by rw [upd_same (by decide)] at h'; exact h'), fun h' => p5 (upd_ne (by decide) h')⟩), fun h => h17 (upd_ne (by decide) h), fun h => upd_of (n15 (upd_ne (by decide) h)), hB⟩
        · rintro f a W ⟨x40, x41, x42, x43, x44, x45, x46, x47, x48, x49, x50, x51, x39, x52, x53, x10, x11, k15, rfl, H⟩ hf hd K hK
          have h0 := H.1
          replace H := H.2
          have h1 := H.1
          replace H := H.2
          have h2 := H.1
          replace H := H.2
          have h3 := H.1
          replace H := H.2
          have h4 := H.1
          replace H := H.2
          have h5 := H.1
          replace H := H.2
          have h6 := H.1
          replace H := H.2
          have h7 := H.1
          replace H := H.2
          have h8 := H.1
          replace H := H.2
          have h9 := H.1
          replace H := H.2
          have h10 := H.1
          replace H := H.2
          have h11 := H.1
          replace H := H.2
          have h12 := H.1
          replace H := H.2
          have h13 := H.1
          replace H := H.2
          have h14 := H.1
          replace H := H.2
          have h15 := H.1
          replace H := H.2
          have h17 := H.1
          replace H := H.2
          have n15 := H.1
          replace H := H.2
          have hB := H
          clear H
          have e0 := h0 (dep_of hd (e := ⟨0, .data⟩) (by simp) rfl)
          subst e0
          have e5 := h5 (dep_of hd (e := ⟨5, .data⟩) (by simp) rfl)
          subst e5
          have e10 := h10 (dep_of hd (e := ⟨10, .data⟩) (by simp) rfl)
          subst e10
          go_simp
          refine (hg _).mono ?_
          rintro e W2 ⟨rfl, q⟩
          refine hK _ _ ?_
          exact ⟨_, x41, x42, x43, x44, _, x46, x47, x48, x49, _, _, x39, x52, x53, x10, x11, k15, rfl, fun _ => rfl, fun h => h1 (upd_ne (by decide) h), fun h => h2 (upd_ne (by decide) h), fun h => h3 (upd_ne (by decide) h), fun h => h4 (upd_ne (by decide) h), fun _ => rfl, fun h => h6 (upd_ne (by decide) h), fun h => h7 (upd_ne (by decide) h), fun h => h8 (upd_ne (by decide) h), fun h => h9 (upd_ne (by decide) h), fun _ => rfl, fun _ => rfl, fun h => h12 (upd_ne (by decide) h), fun h => h13 (upd_ne (by decide) h), fun h => h14 (upd_ne (by decide) h), fun h => (by obtain ⟨p1, p2, p3, p4, p5⟩ := h15 (upd_ne (by decide) h); exact ⟨p1, p2, Nat.lt_of_lt_of_le (p3) q.size, fun h' => (p4 (by rw [upd_same (by decide)] at h'; exact h')).below q, fun h' => (p5 (upd_ne (by decide) h')).below q⟩), fun h => h17 (upd_ne (by decide) h), fun h => upd_of (n15 (upd_ne (by decide) h)), hB.trans (q.mono hB.size)⟩
        · rintro f a W ⟨x40, x41, x42, x43, x44, x45, x46, x47, x48, x49, x50, x51, x39, x52, x53, x10, x11, k15, rfl, H⟩ hf hd K hK
          have h0 := H.1
          replace H := H.2
          have h1 := H.1
          replace H := H.2
          have h2 := H.1
          replace H := H.2
          have h3 := H.1
          replace H := H.2
          have h4 := H.1
          replace H := H.2
          have h5 := H.1
          replace H := H.2
          have h6 := H.1
          replace H := H.2
          have h7 := H.1
          replace H := H.2
          have h8 := H.1
          replace H := H.2
          have h9 := H.1
          replace H := H.2
          have h10 := H.1
          replace H := H.2
          have h11 := H.1
          replace H := H.2
          have h12 := H.1
          replace H := H.2
          have h13 := H.1
          replace H := H.2
          have h14 := H.1
          replace H := H.2
          have h15 := H.1
          replace H := H.2
          have h17 := H.1
          replace H := H.2
          have n15 := H.1
          replace H := H.2
          have hB := H
          clear H
          have e11 := h11 (dep_of hd (e := ⟨11, .data⟩) (by simp) rfl)
          subst e11
          go_simp
          refine hK _ _ ?_
          exact ⟨x40, x41, x42, x43, x44, x45, x46, x47, x48, x49, x50, _, _, x52, x53, x10, x11, k15, rfl, fun h => h0 (upd_ne (by decide) h), fun h => h1 (upd_ne (by decide) h), fun h => h2 (upd_ne (by decide) h), fun h => h3 (upd_ne (by decide) h), fun h => h4 (upd_ne (by decide) h), fun h => h5 (upd_ne (by decide) h), fun h => h6 (upd_ne (by decide) h), fun h => h7 (upd_ne (by decide) h), fun h => h8 (upd_ne (by decide) h), fun h => h9 (upd_ne (by decide) h), fun h => h10 (upd_ne (by decide) h), fun _ => rfl, fun _ => rfl, fun h => h13 (upd_ne (by decide) h), fun h => h14 (upd_ne (by decide) h), fun h => (by obtain ⟨p1, p2, p3, p4, p5⟩ := h15 (upd_ne (by decide) h); exact ⟨p1, p2, p3, fun h' => p4 (by rw [upd_same (by decide)] at h'; exact h'), fun h' => p5 (upd_ne (by decide) h')⟩), fun h => h17 (upd_ne (by decide) h), fun h => upd_of (n15 (upd_ne (by decide) h)), hB⟩
        · rintro f a W ⟨x40, x41, x42, x43, x44, x45, x46, x47, x48, x49, x50, x51, x39, x52, x53, x10, x11, k15, rfl, H⟩ hf hd K hK
          have h0 := H.1
          replace H := H.2
          have h1 := H.1
          replace H := H.2
          have h2 := H.1
          replace H := H.2
          have h3 := H.1
          replace H := H.2
          have h4 := H.1
          replace H := H.2
          have h5 := H.1
          replace H := H.2
          have h6 := H.1
          replace H := H.2
          have h7 := H.1
          replace H := H.2
          have h8 := H.1
          replace H := H.2
          have h9 := H.1
          replace H := H.2
          have h10 := H.1
          replace H := H.2
          have h11 := H.1
          replace H := H.2
          have h12 := H.1
          replace H := H.2
          have h13 := H.1
          replace H := H.2
          have h14 := H.1
          replace H := H.2
          have h15 := H.1
          replace H := H.2
          have h17 := H.1
          replace H := H.2
          have n15 := H.1
          replace H := H.2
          have hB := H
          clear H
          have e12 := h12 (dep_of hd (e := ⟨12, .data⟩) (by simp) rfl)
          subst e12
          go_simp
          refine hK _ _ ?_
          exact ⟨x40, x41, x42, x43, x44, x45, x46, x47, x48, x49, x50, x51, _, _, x53, x10, x11, k15, rfl, fun h => h0 (upd_ne (by decide) h), fun h => h1 (upd_ne (by decide) h), fun h => h2 (upd_ne (by decide) h), fun h => h3 (upd_ne (by decide) h), fun h => h4 (upd_ne (by decide) h), fun h => h5 (upd_ne (by decide) h), fun h => h6 (upd_ne (by decide) h), fun h => h7 (upd_ne (by decide) h), fun h => h8 (upd_ne (by decide) h), fun h => h9 (upd_ne (by decide) h), fun h => h10 (upd_ne (by decide) h), fun h => h11 (upd_ne (by decide) h), fun _ => rfl, fun _ => rfl, fun h => h14 (upd_ne (by decide) h), fun h => (by obtain ⟨p1, p2, p3, p4, p5⟩ := h15 (upd_ne (by decide) h); exact ⟨p1, p2, p3, fun h' => p4 (by rw [upd_same (by decide)] at h'; exact h'), fun h' => p5 (upd_ne (by decide) h')⟩), fun h => h17 (upd_ne (by decide) h), fun h => upd_of (n15 (upd_ne (by decide) h)), hB⟩
        · rintro f a W ⟨x40, x41, x42, x43, x44, x45, x46, x47, x48, x49, x50, x51, x39, x52, x53, x10, x11, k15, rfl, H⟩ hf hd K hK
          have h0 := H.1
          replace H := H.2
          have h1 := H.1
          replace H := H.2
          have h2 := H.1
          replace H := H.2
          have h3 := H.1
          replace H := H.2
          have h4 := H.1
          replace H := H.2
          have h5 := H.1
          replace H := H.2
          have h6 := H.1
          replace H := H.2
          have h7 := H.1
          replace H := H.2
          have h8 := H.1
          replace H := H.2
          have h9 := H.1
          replace H := H.2
          have h10 := H.1
          replace H := H.2
          have h11 := H.1
          replace H := H.2
          have h12 := H.1
          replace H := H.2
          have h13 := H.1
          replace H := H.2
          have h14 := H.1
          replace H := H.2
          have h15 := H.1
          replace H := H.2
          have h17 := H.1
          replace H := H.2
          have n15 := H.1
          replace H := H.2
          have hB := H
          clear H
          have e12 := h12 (dep_of hd (e := ⟨12, .data⟩) (by simp) rfl)
          subst e12
          go_simp
          refine hK _ _ ?_
          exact ⟨x40, x41, x42, x43, x44, x45, x46, x47, x48, x49, x50, x51, _, x52, _, x10, x11, k15, rfl, fun h => h0 (upd_ne (by decide) h), fun h => h1 (upd_ne (by decide) h), fun h => h2 (upd_ne (by decide) h), fun h => h3 (upd_ne (by decide) h), fun h => h4 (upd_ne (by decide) h), fun h => h5 (upd_ne (by decide) h), fun h => h6 (upd_ne (by decide) h), fun h => h7 (upd_ne (by decide) h), fun h => h8 (upd_ne (by decide) h), fun h => h9 (upd_ne (by decide) h), fun h => h10 (upd_ne (by decide) h), fun h => h11 (upd_ne (by decide) h), fun _ => rfl, fun h => h13 (upd_ne (by decide) h), fun _ => rfl, fun h => (by obtain ⟨p1, p2, p3, p4, p5⟩ := h15 (upd_ne (by decide) h); exact ⟨p1, p2, p3, fun h' => p4 (by rw [upd_same (by decide)] at h'; exact h'), fun h' => p5 (upd_ne (by decide) h')⟩), fun h => h17 (upd_ne (by decide) h), fun h => upd_of (n15 (upd_ne (by decide) h)), hB⟩
        · rintro f a W ⟨x40, x41, x42, x43, x44, x45, x46, x47, x48, x49, x50, x51, x39, x52, x53, x10, x11, k15, rfl, H⟩ hf hd K hK
          have h0 := H.1
          replace H := H.2
          have h1 := H.1
          replace H := H.2
          have h2 := H.1
          replace H := H.2
          have h3 := H.1
          replace H := H.2
          have h4 := H.1
          replace H := H.2
          have h5 := H.1
          replace H := H.2
          have h6 := H.1
          replace H := H.2
          have h7 := H.1
          replace H := H.2
          have h8 := H.1
          replace H := H.2
          have h9 := H.1
          replace H := H.2
          have h10 := H.1
          replace H := H.2
          have h11 := H.1
          replace H := H.2
          have h12 := H.1
          replace H := H.2
          have h13 := H.1
          replace H := H.2
          have h14 := H.1
          replace H := H.2
          have h15 := H.1
          replace H := H.2
          have h17 := H.1
          replace H := H.2
          have n15 := H.1
          replace H := H.2
          have hB := H
          clear H
          go_simp
          refine hK _ _ ?_
          exact ⟨x40, x41, x42, x43, x44, x45, x46, x47, x48, x49, x50, x51, x39, x52, x53, _, x11, W.heap.size, rfl, fun h => h0 (upd_ne (by decide) h), fun h => h1 (upd_ne (by decide) h), fun h => h2 (upd_ne (by decide) h), fun h => h3 (upd_ne (by decide) h), fun h => h4 (upd_ne (by decide) h), fun h => h5 (upd_ne (by decide) h), fun h => h6 (upd_ne (by decide) h), fun h => h7 (upd_ne (by decide) h), fun h => h8 (upd_ne (by decide) h), fun h => h9 (upd_ne (by decide) h), fun h => h10 (upd_ne (by decide) h), fun h => h11 (upd_ne (by decide) h), fun h => h12 (upd_ne (by decide) h), fun h => h13 (upd_ne (by decide) h), fun h => h14 (upd_ne (by decide) h), fun _ => ⟨rfl, hB.size, (by simp), fun _ => Own.new W _ _, fun h' => absurd (n15 (upd_ne (by decide) h')) (by rw [hf]; decide)⟩, fun h => h17 (upd_ne (by decide) h), fun _ => upd_self, hB.alloc hB.size _⟩
        · rintro f a W ⟨x40, x41, x42, x43, x44, x45, x46, x47, x48, x49, x50, x51, x39, x52, x53, x10, x11, k15, rfl, H⟩ hf hd K hK
          have h0 := H.1
          replace H := H.2
          have h1 := H.1
          replace H := H.2
          have h2 := H.1
          replace H := H.2
          have h3 := H.1
          replace H := H.2
          have h4 := H.1
          replace H := H.2
          have h5 := H.1
          replace H := H.2
          have h6 := H.1
          replace H := H.2
          have h7 := H.1
          replace H := H.2
          have h8 := H.1
          replace H := H.2
          have h9 := H.1
          replace H := H.2
          have h10 := H.1
          replace H := H.2
          have h11 := H.1
          replace H := H.2
          have h12 := H.1
          replace H := H.2
          have h13 := H.1
          replace H := H.2
          have h14 := H.1
          replace H := H.2
          have h15 := H.1
          replace H := H.2
          have h17 := H.1
          replace H := H.2
          have n15 := H.1
          replace H := H.2
          have hB := H
          clear H
          obtain ⟨e15, u15, t15, z15, s15⟩ := h15 (dep_of hd (e := ⟨15, .data⟩) (by simp) rfl)
          subst e15
          have e13 := h13 (dep_of hd (e := ⟨13, .data⟩) (by simp) rfl)
          subst e13
          have oz := z15 hf
          have r0 := oz.cell 0 _ rfl
          have o0_ := oz.frz 0 _ rfl
          have r1 := oz.cell 1 _ rfl
          have o1_ := oz.frz 1 _ rfl
          go_simp
          refine hK _ _ ?_
          exact ⟨x40, x41, x42, x43, x44, x45, x46, x47, x48, x49, x50, x51, x39, _, x53, _, x11, k15, rfl, fun h => h0 (upd_ne (by decide) h), fun h => h1 (upd_ne (by decide) h), fun h => h2 (upd_ne (by decide) h), fun h => h3 (upd_ne (by decide) h), fun h => h4 (upd_ne (by decide) h), fun h => h5 (upd_ne (by decide) h), fun h => h6 (upd_ne (by decide) h), fun h => h7 (upd_ne (by decide) h), fun h => h8 (upd_ne (by decide) h), fun h => h9 (upd_ne (by decide) h), fun h => h10 (upd_ne (by decide) h), fun h => h11 (upd_ne (by decide) h), fun h => h12 (upd_ne (by decide) h), fun _ => rfl, fun h => h14 (upd_ne (by decide) h), fun _ => ⟨rfl, u15, (by simpa [World.setCell] using t15), fun h' => (by rw [upd_self] at h'; cases h'), fun _ => Own.set (i := 1) (Own.set (i := 0) (oz) _ (by simp)) _ (by simp)⟩, fun h => h17 (upd_ne (by decide) h), fun _ => upd_of (dep_of hd (e := ⟨15, .data⟩) (by simp) rfl), ((hB.setCell (p := ⟨k15, 0, none⟩) u15 _).setCell (p := ⟨k15, 1, none⟩) u15 _)⟩
        · rintro f a W ⟨x40, x41, x42, x43, x44, x45, x46, x47, x48, x49, x50, x51, x39, x52, x53, x10, x11, k15, rfl, H⟩ hf hd K hK
          have h0 := H.1
          replace H := H.2
          have h1 := H.1
          replace H := H.2
          have h2 := H.1
          replace H := H.2
          have h3 := H.1
          replace H := H.2
          have h4 := H.1
          replace H := H.2
          have h5 := H.1
          replace H := H.2
          have h6 := H.1
          replace H := H.2
          have h7 := H.1
          replace H := H.2
          have h8 := H.1
          replace H := H.2
          have h9 := H.1
          replace H := H.2
          have h10 := H.1
          replace H := H.2
          have h11 := H.1
          replace H := H.2
          have h12 := H.1
          replace H := H.2
          have h13 := H.1
          replace H := H.2
          have h14 := H.1
          replace H := H.2
          have h15 := H.1
          replace H := H.2
          have h17 := H.1
          replace H := H.2
          have n15 := H.1
          replace H := H.2
          have hB := H
          clear H
          have e14 := h14 (dep_of hd (e := ⟨14, .data⟩) (by simp) rfl)
          subst e14
          go_simp
          refine hK _ _ ?_
          exact ⟨x40, x41, x42, x43, x44, x45, x46, x47, x48, x49, x50, x51, x39, x52, _, x10, _, k15, rfl, fun h => h0 (upd_ne (by decide) h), fun h => h1 (upd_ne (by decide) h), fun h => h2 (upd_ne (by decide) h), fun h => h3 (upd_ne (by decide) h), fun h => h4 (upd_ne (by decide) h), fun h => h5 (upd_ne (by decide) h), fun h => h6 (upd_ne (by decide) h), fun h => h7 (upd_ne (by decide) h), fun h => h8 (upd_ne (by decide) h), fun h => h9 (upd_ne (by decide) h), fun h => h10 (upd_ne (by decide) h), fun h => h11 (upd_ne (by decide) h), fun h => h12 (upd_ne (by decide) h), fun h => h13 (upd_ne (by decide) h), fun _ => rfl, fun h => (by obtain ⟨p1, p2, p3, p4, p5⟩ := h15 (upd_ne (by decide) h); exact ⟨p1, p2, p3, fun h' => p4 (by rw [upd_same (by decide)] at h'; exact h'), fun h' => p5 (upd_ne (by decide) h')⟩), fun _ => rfl, fun h => upd_of (n15 (upd_ne (by decide) h)), hB⟩
        rintro f a w4 ⟨x40, x41, x42, x43, x44, x45, x46, x47, x48, x49, x50, x51, x39, x52, x53, x10, x11, k15, rfl, H⟩ hall
        have h0 := H.1
        replace H := H.2
        have h1 := H.1
        replace H := H.2
        have h2 := H.1
        replace H := H.2
        have h3 := H.1
        replace H := H.2
        have h4 := H.1
        replace H := H.2
        have h5 := H.1
        replace H := H.2
        have h6 := H.1
        replace H := H.2
        have h7 := H.1
        replace H := H.2
        have h8 := H.1
        replace H := H.2
        have h9 := H.1
        replace H := H.2
        have h10 := H.1
        replace H := H.2
        have h11 := H.1
        replace H := H.2
        have h12 := H.1
        replace H := H.2
        have h13 := H.1
        replace H := H.2
        have h14 := H.1
        replace H := H.2
        have h15 := H.1
        replace H := H.2
        have h17 := H.1
        replace H := H.2
        have n15 := H.1
        replace H := H.2
        have qB := H
        clear H
        have e0 := h0 (hall 0 (by decide))
        subst e0
        have e1 := h1 (hall 1 (by decide))
        subst e1
        have e2 := h2 (hall 2 (by decide))
        subst e2
        have e3 := h3 (hall 3 (by decide))
        subst e3
        have e4 := h4 (hall 4 (by decide))
        subst e4
        have e5 := h5 (hall 5 (by decide))
        subst e5
        have e6 := h6 (hall 6 (by decide))
        subst e6
        have e7 := h7 (hall 7 (by decide))
        subst e7
        have e8 := h8 (hall 8 (by decide))
        subst e8
        have e9 := h9 (hall 9 (by decide))
        subst e9
        have e10 := h10 (hall 10 (by decide))
        subst e10
        have e11 := h11 (hall 11 (by decide))
        subst e11
        have e12 := h12 (hall 12 (by decide))
        subst e12
        have e13 := h13 (hall 13 (by decide))
        subst e13
        have e14 := h14 (hall 14 (by decide))
        subst e14
        obtain ⟨e15, u15, -, -, s15⟩ := h15 (hall 15 (by decide))
        replace s15 := s15 (hall 16 (by decide))
        subst e15
        have e17 := h17 (hall 17 (by decide))
        subst e17
        clear hall h0 h1 h2 h3 h4 h5 h6 h7 h8 h9 h10 h11 h12 h13 h14 h15 h17 n15
        try dsimp only
        have A4 : Hid (App _ _ _ out v w4) := App.below A.out qB
        clear A b0 b1 p0 p1 p2 p3 la lb hlta hltb hg
        cases rk
        · have E := hno.out rfl
          have EH : Hid (meetK n ps qs = false ∧ meetL n ps qs = []) := E
          clear E hno hyes hnx
          have oR := A4.out.res
          have bel := A4.out.facts.bel 0 rfl
          have d0 := oR.cell 0 _ rfl
          have d1 := oR.frz 0 _ rfl
          go_wp2
          refine boxEnd (ps := meetL n ps qs) (o := none) rfl (by rw [EH.out.2]; rfl) oR bel (by omega) (Nat.le_refl _) ?_ (fun G hG => by cases hG) (fun e => by cases e) rfl (by rw [EH.out.1]; rfl)
          rw [EH.out.2]
          exact ⟨fun p hp => by simp at hp, .inl ⟨rfl, rfl⟩⟩
        · have hy : Hid (∀ j, j < i + 1 → (meetF n ps qs j).2 = true) := hyes.out rfl
          clear hno hyes
          have e0 := A4.out.box.cell 0 v rfl
          have t0 := s15.cell 0 _ rfl
          have t1 := s15.cell 1 _ rfl
          have A6 : Hid _ := App.below A4.out ((Below.refl _ _).alloc (Nat.le_refl _) (.cells #[.int .i64 r0, .int .i64 r1] 24))
          go_wp2_with first
            | (at_builtin; (refine wpList_append_own _ rfl _ _ 39 rfl (w3.heap.size + 1) 24 i0 (.agg #[.int .i64 0, .int .i64 0]) 2 16 Try.underlying39 hi hz0 hz1 hz2 rfl (by decide) _ _ _ rfl A6.out.row ⟨_, 0, none⟩ 1 1 [_, _] rfl rfl (cell_two_at (by first | rfl | simp)) (fun u hu => by simp at hu; rcases hu with rfl | rfl <;> rfl) (by rw [hlt2]; unfold maxLen; omega) (by rw [hlt2]; omega) A6.out.box.lt ?_); intro v' w7 hown' hgrow hnil
               have o7 := A6.out.boxKeep hgrow
               have g0 := o7.cell 0 v rfl
               have g1 := o7.frz 0 v rfl
               have FA : Hid _ := App.append A6.out hgrow hown' hgw
               have hex : ∃ g cap, v' = .slice (some ⟨g, 0, none⟩) (out.length + 1) cap := (by rcases hown'.2 with ⟨_, q⟩ | ⟨g, cap, _, q, _⟩ <;> first | omega | exact ⟨_, _, q⟩)
               obtain ⟨g7, cap7, hv7⟩ := hex
               rw [hv7]
               rw [hv7] at FA
               clear hown' hgrow hnil A6 o7)
          go_roundg (len - (i + 1))
          case measure => omega
          case rel => exact ⟨i + 1, _, by omega, by go_num, hy, by rw [hnx.out]; have f := FA.out; rw [hlt2] at f; exact f⟩
  · have E := no (by unfold meetG; rw [h1, h2, decide_eq_false hlen]; rfl)
    rw [h1] at k1
    rw [h2] at k2
    clear no
    have hne : ¬ (ps.length : Int) = qs.length := by omega
    generalize ps.length = len at *
    generalize qs.length = len' at *
    have c1 := oA.cell 0 _ rfl
    go_enter Try.func33, Try.ntmps33
    go_wp2_with first
      | (go_at_call 23; refine (k1 _ q0).mono ?_; clear k1 c1; rintro e w2 ⟨rfl, q⟩; replace oA := oA.below q; replace oB := oB.below q; replace oR := oR.below q; replace q0 := q0.trans (q.mono q0.size); clear q; have c1 := oB.cell 0 _ rfl)
      | (go_at_call 23; refine (k2 _ q0).mono ?_; clear k2 c1; rintro e w3 ⟨rfl, q⟩; replace oA := oA.below q; replace oB := oB.below q; replace oR := oR.below q; replace q0 := q0.trans (q.mono q0.size); clear q; have c0 := oA.cell 0 _ rfl; have c1 := oB.cell 0 _ rfl; have d0 := oR.cell 0 _ rfl; have d1 := oR.frz 0 _ rfl)
    refine boxEnd (ps := meetL n ps qs) (o := none) rfl (by rw [E.out.2]; rfl) oR q0 (by omega) (Nat.le_refl _) ?_ (fun G hG => by cases hG) (fun e => by cases e) rfl (by rw [E.out.1]; rfl)
    rw [E.out.2]
    exact ⟨fun p hp => by simp at hp, .inl ⟨rfl, rfl⟩⟩

end Go.Proofs.Yteohgmmenlinbab
