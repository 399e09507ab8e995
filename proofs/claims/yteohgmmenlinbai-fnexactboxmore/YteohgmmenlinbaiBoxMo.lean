/- BoxMore of the program and of the model: contracts. -/
import Derived.Test.YteohgmmenlinbaiMoreI
import Derived.Test.YteohgmmenlinbaiBoxK
import Derived.Test.YteohgmmenlinbaiAt2
import Derived.Test.YteohgmmenlinbaiApp
namespace Go.Proofs.Yteohgmmenlinbai
open Go.ChangeShapes Go.WideShapes Go.ChangeAt Go.RowKit
set_option linter.unusedVariables false

/-- What BoxMore makes of a box. -/
def boxMoreL (ps : List (Int × Int)) : List (Int × Int) := if bokI 32 ps = true then ps.map fun p => (moreI p).1 else []

theorem More.madeL (ps : List (Int × Int)) : madeL (fun i => moreI (at2 ps i)) ps.length = ps.map fun p => (moreI p).1 := by
  apply List.ext_getElem?
  intro i
  by_cases hi : i < ps.length
  · rw [madeL_get hi, List.getElem?_map, at2_get hi]
    rfl
  · rw [List.getElem?_eq_none (by rw [madeL_length]; omega), List.getElem?_eq_none (by simp; omega)]

theorem More.at_ok {ps : List (Int × Int)} (h : bokI 32 ps = true) {i : Nat} (hi : i < ps.length) : (moreI (at2 ps i)).2 = true := bok_at h hi

set_option maxHeartbeats 1000000 in
theorem More.fits (w : World) (i : Nat) (x y : Int) (C sb so len cap : Nat) (hil : i < len) (hlc : len ≤ cap) (hm : len ≤ 1048576) (wx : (Lit.int .i64 x).wf = true) (wy : (Lit.int .i64 y).wf = true) (hc : w.cell? ⟨C, 0, none⟩ = some (.slice (some ⟨sb, so, none⟩) len cap)) (hC : C < w.heap.size) (hs : sb < w.heap.size)
    (h0 : w.cell? ⟨sb, so + i * 2, none⟩ = some (.int .i64 x)) (h1 : w.cell? ⟨sb, so + i * 2 + 1, none⟩ = some (.int .i64 y)) :
    Calls Try.prog 17 (#[.int .i64 (i : Int)] ++ #[.pointer (some ⟨C, 0, none⟩)]) w (PairOut w (moreI (x, y)).1.1 (moreI (x, y)).1.2 (moreI (x, y)).2) := by
  have hil' : (i : Int) < len := by omega
  have q0 : Below w.heap.size w (w.alloc (.cells #[.int .i64 0, .int .i64 0] 38)) := (Below.refl _ w).alloc (Nat.le_refl _) _
  have o0 := Own.new w #[.int .i64 0, .int .i64 0] 38
  have k0 := (q0.cell (p := ⟨C, 0, none⟩) hC).trans hc
  have k1 := (q0.cell (p := ⟨sb, so + i * 2, none⟩) hs).trans h0
  have k2 := (q0.cell (p := ⟨sb, so + i * 2 + 1, none⟩) hs).trans h1
  have hk := fun W => implMoreI W x y wx wy
  clear hc h0 h1
  generalize moreI (x, y) = r at *
  obtain ⟨⟨r0, r1⟩, rk⟩ := r
  show Calls Try.prog 17 #[.int .i64 (i : Int), .pointer (some ⟨C, 0, none⟩)] w _
  go_enter Try.func17, Try.ntmps17
  go_wp2_with (go_at_call 18; refine (hk _).mono ?_; clear hk; rintro e w2 ⟨rfl, q⟩; replace o0 := o0.below q; replace q0 := q0.trans (q.mono q0.size); clear q; have c0 := o0.cell 0 _ rfl; have c1 := o0.cell 1 _ rfl; have f0 := o0.frz 0 _ rfl; have f1 := o0.frz 1 _ rfl)
  exact pairEnd rfl o0 q0 (Nat.le_refl _) rfl rfl

set_option maxHeartbeats 1000000 in
theorem implBoxMore (w : World) (a : Option Addr) (ps : List (Int × Int)) (cap : Nat) (h : PairsAt w a ps) (hl : ps.length ≤ cap) (hm : ps.length ≤ 1048576) :
    Calls Try.prog 7 #[.agg #[.slice a ps.length cap]] w (BoxOut w (boxMoreL ps) (bokI 32 ps)) := by
  have q0 : Below w.heap.size w ((w.alloc (.cells #[.slice a ps.length cap] 28)).alloc (.cells #[.slice none 0 0] 28)) := ((Below.refl _ w).alloc (Nat.le_refl _) _).alloc (by simp) _
  have oA := (Own.new w #[.slice a ps.length cap] 28).alloc (.cells #[.slice none 0 0] 28)
  have oR := Own.new (w.alloc (.cells #[.slice a ps.length cap] 28)) #[.slice none 0 0] 28
  simp only [World.size_alloc] at oR
  have hk := fun W (q : Below w.heap.size w W) => implBoxOk W 32 a ps cap (h.below q) hl hm
  have hM := fun W (q : Below w.heap.size w W) (oW : Own W w.heap.size [.slice a ps.length cap]) => boxMade W ps.length hm 17 #[.pointer (some ⟨w.heap.size, 0, none⟩)] (fun i => moreI (at2 ps i)) (enters_of Try.func17 (by kernel_rfl) rfl)
    (fun i hi => more_wf _ _) (fun i V hi hV => by
      have hB := (h.below q).below hV
      have wq := hB.wfD hi
      obtain ⟨sb, so, hb, hlt, c0, c1⟩ := hB.atD hi
      subst hb
      exact More.fits V i _ _ w.heap.size sb so ps.length cap hi hl hm wq.1 wq.2 ((hV.cell (p := ⟨w.heap.size, 0, none⟩) oW.lt).trans (oW.cell 0 _ rfl)) (Nat.lt_of_lt_of_le oW.lt hV.size) hlt c0 c1)
  cases hbk : bokI 32 ps
  · have e : boxMoreL ps = [] := by unfold boxMoreL; rw [hbk]; rfl
    rw [hbk] at hk
    clear hM
    have eH : Hid (boxMoreL ps = []) := e
    clear e
    obtain ⟨len, hlen⟩ : ∃ len, ps.length = len := ⟨_, rfl⟩
    rw [hlen] at q0 oA oR hk ⊢
    go_enter Try.func7, Try.ntmps7
    go_wp2_with (go_at_call 15; refine (hk _ q0).mono ?_; clear hk; rintro e w2 ⟨rfl, q⟩; replace oR := oR.below q; replace q0 := q0.trans (q.mono q0.size); clear q; have c0 := oR.cell 0 _ rfl; have f0 := oR.frz 0 _ rfl)
    refine boxEnd (ps := boxMoreL ps) (o := none) rfl (by rw [eH.out]; rfl) oR q0 (by omega) (Nat.le_refl _) ?_ (fun G hG => by cases hG) (fun e => by cases e) rfl rfl
    rw [eH.out]
    exact ⟨fun p hp => by simp at hp, .inl ⟨rfl, rfl⟩⟩
  · have eB : madeB (fun i => moreI (at2 ps i)) ps.length = true := madeB_true fun i hi => More.at_ok hbk hi
    have e : madeR (fun i => moreI (at2 ps i)) ps.length = boxMoreL ps := by unfold madeR boxMoreL; rw [if_pos eB, if_pos hbk, More.madeL ]
    rw [hbk] at hk
    rw [e, eB] at hM
    clear e eB
    have hL : Hid ((boxMoreL ps).length = ps.length) := by show (boxMoreL ps).length = ps.length; unfold boxMoreL; rw [if_pos hbk]; simp
    clear hbk
    obtain ⟨len, hlen⟩ : ∃ len, ps.length = len := ⟨_, rfl⟩
    rw [hlen] at q0 oA oR hk hL ⊢
    simp only [hlen] at hM
    generalize boxMoreL ps = L at *
    clear h hlen
    go_enter Try.func7, Try.ntmps7
    go_wp2_with first
      | (go_at_call 15; refine (hk _ q0).mono ?_; clear hk; rintro e w2 ⟨rfl, q⟩; replace oA := oA.below q; replace oR := oR.below q; replace q0 := q0.trans (q.mono q0.size); clear q; have c0 := oA.cell 0 _ rfl)
      | (go_at_call 16; refine (hM _ q0 oA).mono ?_; clear hM; rintro e w3 ⟨a3, cap3, o3, rfl, hc3, hp3, ho3, q⟩; have lR : Hid (w.heap.size + 1 < w2.heap.size) := oR.lt; replace oR := oR.below q; have q1 := q0.trans (q.mono q0.size); have d0 := oR.cell 0 _ rfl; have f0 := oR.frz 0 _ rfl; rw [hL.out] at hc3)
    have hs := q0.size
    exact boxEnd rfl rfl oR q1 (by omega) (by rw [hL.out]; exact hc3) hp3 (fun G hG => by have := ho3 G hG; omega) (fun e => by have := ho3 _ e; have := lR.out; omega) rfl rfl

set_option maxHeartbeats 1000000 in
theorem specBoxMore (w : World) (a : Option Addr) (ps : List (Int × Int)) (cap : Nat) (h : PairsAt w a ps) (hl : ps.length ≤ cap) (hm : ps.length ≤ 1048576) :
    Calls Try.prog 5 #[.agg #[.slice a ps.length cap]] w (BoxOut w (boxMoreL ps) (bokI 32 ps)) := by
  have q0 : Below w.heap.size w ((w.alloc (.cells #[.slice a ps.length cap] 28)).alloc (.cells #[.slice none 0 0] 28)) := ((Below.refl _ w).alloc (Nat.le_refl _) _).alloc (by simp) _
  have oA := (Own.new w #[.slice a ps.length cap] 28).alloc (.cells #[.slice none 0 0] 28)
  have oR := Own.new (w.alloc (.cells #[.slice a ps.length cap] 28)) #[.slice none 0 0] 28
  simp only [World.size_alloc] at oR
  have hk := fun W (q : Below w.heap.size w W) => specBoxOk W 32 a ps cap (h.below q) hl hm
  cases hbk : bokI 32 ps
  · have e : boxMoreL ps = [] := by unfold boxMoreL; rw [hbk]; rfl
    rw [hbk] at hk
    have eH : Hid (boxMoreL ps = []) := e
    clear e
    obtain ⟨len, hlen⟩ : ∃ len, ps.length = len := ⟨_, rfl⟩
    rw [hlen] at q0 oA oR hk ⊢
    go_enter Try.func5, Try.ntmps5
    go_wp2_with (go_at_call 12; refine (hk _ q0).mono ?_; clear hk; rintro e w2 ⟨rfl, q⟩; replace oR := oR.below q; replace q0 := q0.trans (q.mono q0.size); clear q; have c0 := oR.cell 0 _ rfl; have f0 := oR.frz 0 _ rfl)
    refine boxEnd (ps := boxMoreL ps) (o := none) rfl (by rw [eH.out]; rfl) oR q0 (by omega) (Nat.le_refl _) ?_ (fun G hG => by cases hG) (fun e => by cases e) rfl rfl
    rw [eH.out]
    exact ⟨fun p hp => by simp at hp, .inl ⟨rfl, rfl⟩⟩
  · have e : boxMoreL ps = ps.map fun p => (moreI p).1 := by unfold boxMoreL; rw [hbk]; rfl
    rw [hbk] at hk
    have hlen' : 1 ≤ ps.length := by unfold bokI at hbk; simp only [Bool.and_eq_true, decide_eq_true_eq] at hbk; exact hbk.1
    obtain ⟨rb, ro, ha, hlt, hc⟩ := h.2.resolve_left (by intro e; rw [e] at hlen'; simp at hlen')
    subst ha
    clear hc hbk
    obtain ⟨len, hlen⟩ : ∃ len, ps.length = len := ⟨_, rfl⟩
    rw [hlen] at q0 oA oR hk hl hm hlen' ⊢
    have F0 : Facts ((w.alloc (.cells #[.slice (some ⟨rb, ro, none⟩) len cap] 28)).alloc (.cells #[.slice none 0 0] 28)) [.bel w, .own w.heap.size [.slice (some ⟨rb, ro, none⟩) len cap], .args w.heap.size (some ⟨rb, ro, none⟩) ps] :=
      (((Facts.nil _).push (f := .bel w) q0).push (f := .own _ _) oA).push (f := .args _ _ _) (Fact.below (.args w.heap.size (some ⟨rb, ro, none⟩) ps) (args_of h rfl) q0)
    have eH : Hid (boxMoreL ps = ps.map fun p => (moreI p).1) := e
    clear e oA h
    obtain ⟨i0, hi, hz0, hz1, hz2⟩ := info_parts infoPair
    go_enter Try.func5, Try.ntmps5
    go_wp2_with (go_at_call 12; refine (hk _ q0).mono ?_; clear hk; rintro e w2 ⟨rfl, q⟩; replace F0 := F0.below q; replace oR := oR.below q; replace q0 := q0.trans (q.mono q0.size); clear q)
    have hs := q0.size
    have A0 : Hid (App [.bel w, .own w.heap.size [.slice (some ⟨rb, ro, none⟩) len cap], .args w.heap.size (some ⟨rb, ro, none⟩) ps] (w.heap.size + 1) w2.heap.size [] (.slice none 0 0) (w2.alloc (.cells #[.slice none 0 0] 28))) := App.start F0 (fun f hf c hc => by
      have hl2 := oR.lt
      simp only [List.mem_cons, List.not_mem_nil, or_false] at hf
      rcases hf with rfl | rfl | rfl
      · intro G hG; have := Option.some.inj hG; omega
      · intro hG; have := Option.some.inj hG; omega
      · intro G hG; have := Option.some.inj hG; omega) oR
    clear F0 oR q0
    go_loopg [5] len (fun gq iv wr => ∃ (i : Nat) (v : Value), i + gq = len ∧ iv = .int .i64 i ∧ Hid (App [.bel w, .own w.heap.size [.slice (some ⟨rb, ro, none⟩) len cap], .args w.heap.size (some ⟨rb, ro, none⟩) ps] (w.heap.size + 1) w2.heap.size ((ps.take i).map fun p => (moreI p).1) v wr))
    case atStart => exact ⟨0, _, by omega, rfl, A0⟩
    case round =>
      clear A0
      obtain ⟨i, v, hi', rfl, A⟩ := hrel
      have b0 := (A.out.facts.own 1 rfl).cell 0 _ rfl
      by_cases hlast : i < len
      · have hil : (i : Int) < len := by omega
        have hA := A.out.facts.args 2 rfl
        have wq := hA.wfD (i := i) (by omega)
        obtain ⟨sb, so, hb, hlt', c0, c1⟩ := hA.atD (i := i) (by omega)
        injection hb with hb
        injection hb with e1 e2
        subst e1 e2
        have hg := fun W => specMoreI W _ _ wq.1 wq.2
        have hgw := more_wf (at2 ps i).1 (at2 ps i).2
        have hnx : Hid ((ps.take (i + 1)).map (fun p => (moreI p).1) = ((ps.take i).map fun p => (moreI p).1) ++ [((moreI (at2 ps i)).1.1, (moreI (at2 ps i)).1.2)]) := by
          show (ps.take (i + 1)).map (fun p => (moreI p).1) = _
          rw [List.take_add_one, List.map_append, at2_get (ps := ps) (i := i) (by omega)]
          rfl
        have hlt2 : ((ps.take i).map fun p => (moreI p).1).length = i := by simp; omega
        generalize ((ps.take i).map fun p => (moreI p).1) = out at *
        have e3 : ((at2 ps i).1, (at2 ps i).2) = at2 ps i := rfl
        rw [e3] at hgw hg
        generalize (at2 ps i).1 = x at *
        generalize (at2 ps i).2 = y at *
        generalize moreI (at2 ps i) = r at *
        obtain ⟨⟨r0, r1⟩, rk⟩ := r
        dsimp only at hgw hg hnx
        clear hA wq e3
        go_wp2_with first
          | (go_at_call 13; refine (hg _).mono ?_; clear hg; rintro e w3 ⟨rfl, q⟩
             have A5 : App _ _ _ _ _ _ := (A.out.below q).below ((Below.refl _ _).alloc (Nat.le_refl _) (.cells #[.int .i64 r0, .int .i64 r1] 38))
             have e0 := A5.box.cell 0 v rfl
             have A6 : Hid _ := App.below A5 ((Below.refl _ _).alloc (Nat.le_refl _) (.cells #[.int .i64 r0, .int .i64 r1] 38))
             clear A5 q)
          | (at_builtin; (refine wpList_append_own _ rfl _ _ 26 rfl (w2.heap.size + 1) 38 i0 (.agg #[.int .i64 0, .int .i64 0]) 2 16 Try.underlying26 hi hz0 hz1 hz2 rfl (by decide) _ _ _ rfl A6.out.row ⟨_, 0, none⟩ 1 1 [_, _] rfl rfl (cell_two_at (by first | rfl | simp)) (fun u hu => by simp at hu; rcases hu with rfl | rfl <;> rfl) (by rw [hlt2]; unfold maxLen; omega) (by rw [hlt2]; omega) (by have := A6.out.box.lt; omega) ?_); intro v' w7 hown' hgrow hnil
             have o7 := A6.out.boxKeep hgrow
             have g0 := o7.cell 0 v rfl
             have g1 := o7.frz 0 v rfl
             have FA : Hid _ := App.append A6.out hgrow hown' hgw
             have hex : ∃ g cap, v' = .slice (some ⟨g, 0, none⟩) (out.length + 1) cap := (by rcases hown'.2 with ⟨_, q⟩ | ⟨g, cap, _, q, _⟩ <;> first | omega | exact ⟨_, _, q⟩)
             obtain ⟨g7, cap7, hv7⟩ := hex
             rw [hv7]
             rw [hv7] at FA
             clear hown' hgrow hnil A6 o7)
        go_roundg (len - (i + 1))
        case measure => omega
        case rel => exact ⟨i + 1, _, by omega, by go_num, by rw [hnx.out]; have f := FA.out; rw [hlt2] at f; exact f⟩
      · have hil : ¬ (i : Int) < len := by omega
        obtain rfl : i = len := by omega
        have ht : ps.take i = ps := by rw [List.take_of_length_le (by omega)]
        rw [ht, ← eH.out] at A
        have hL : Hid ((boxMoreL ps).length = i) := by show (boxMoreL ps).length = i; rw [eH.out]; simp; omega
        clear ht eH
        generalize boxMoreL ps = L at *
        have e0 := A.out.box.cell 0 v rfl
        have e1 := A.out.res.cell 0 _ rfl
        have e2 := A.out.res.frz 0 _ rfl
        rcases A.out.row.2 with ⟨hv, hz⟩ | ⟨g, cap', cur, hv, _⟩
        · exfalso
          rw [hL.out] at hz
          omega
        · rw [hv] at e0 A
          clear hv
          go_wp2
          exact appEnd rfl A.out (A.out.facts.bel 0 rfl) (by omega) rfl rfl

end Go.Proofs.Yteohgmmenlinbai
