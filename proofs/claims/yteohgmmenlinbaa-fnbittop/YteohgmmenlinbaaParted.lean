/- BoxSplit and BoxCut of the program: boxParted's contract, for whatever function it is handed. -/
import Derived.Test.YteohgmmenlinbaaWith
import Derived.Test.YteohgmmenlinbaaJB
import Derived.Test.YteohgmmenlinbaaRegM
namespace Go.Proofs.Yteohgmmenlinbaa
open Go.ChangeShapes Go.WideShapes Go.ChangeAt Go.RowKit
set_option linter.unusedVariables false

/-- Two new boxes and a bool. -/
def TwoBox (w : World) (ps qs : List (Int × Int)) (k : Bool) (e : Ending) (w' : World) : Prop :=
  ∃ (a : Option Addr) (cap : Nat) (o : Option Nat) (a' : Option Addr) (cap' : Nat) (o' : Option Nat), e = .returned (.tuple #[.agg #[.slice a ps.length cap], .agg #[.slice a' qs.length cap'], .bool k]) ∧ (ps.length ≤ cap ∧ HasO w' a ps o ∧ ∀ G, o = some G → w.heap.size ≤ G) ∧ (qs.length ≤ cap' ∧ HasO w' a' qs o' ∧ ∀ G, o' = some G → w.heap.size ≤ G) ∧ (∀ G, o = some G → o' ≠ some G) ∧ Below w.heap.size w w'

/-- The end of a function that returns two boxes and a bool. -/
theorem twoBoxEnd {fn : Func} {p p' u : Tmp} (hres : fn.results = #[.cell p 25, .cell p' 25, .tmp u]) {w W : World} {T : Array Value} {R R' : Nat} {ps qs : List (Int × Int)} {a a' : Option Addr} {len len' cap cap' : Nat} {o o' : Option Nat} {ok : Bool} (hlen : ps.length = len) (hlen' : qs.length = len')
    (rs : Own W R [.slice a len cap]) (rs' : Own W R' [.slice a' len' cap']) (hb : Below w.heap.size w W) (hc : len ≤ cap) (hc' : len' ≤ cap') (hp : HasO W a ps o) (hp' : HasO W a' qs o') (ho : ∀ G, o = some G → w.heap.size ≤ G) (ho' : ∀ G, o' = some G → w.heap.size ≤ G) (hoo : ∀ G, o = some G → o' ≠ some G)
    (ht : T.getD p undef = .pointer (some ⟨R, 0, none⟩)) (ht' : T.getD p' undef = .pointer (some ⟨R', 0, none⟩)) (hk : T.getD u undef = .bool ok) :
    bodyPost Try.prog fn (TwoBox w ps qs ok) Exit.ret { tmps := T, defers := [] } W := by
  have c0 := rs.cell 0 _ rfl
  have d0 := rs'.cell 0 _ rfl
  subst hlen hlen'
  refine bodyPost_ret (v := .tuple #[.agg #[.slice a ps.length cap], .agg #[.slice a' qs.length cap'], .bool ok]) ?_ rfl ⟨a, cap, o, a', cap', o', rfl, ⟨hc, hp, ho⟩, ⟨hc', hp', ho'⟩, hoo, hb⟩
  simp at ht ht' hk
  simp [results, hres, go_sem, ht, ht', hk, c0, d0]

theorem HasO.nil (W : World) (a : Option Addr) : HasO W a [] none := ⟨fun p hp => by simp at hp, .inl ⟨rfl, rfl⟩⟩

/-- Nothing was made: two boxes of no pairs, and false. -/
theorem twoNone {fn : Func} {p p' u : Tmp} (hres : fn.results = #[.cell p 25, .cell p' 25, .tmp u]) {w W : World} {T : Array Value} {R R' : Nat} {v v' : Value} {ps qs : List (Int × Int)} (hps : ps = []) (hqs : qs = []) (rs : Own W R [v]) (rs' : Own W R' [v']) (hne : R ≠ R') (hb : Below w.heap.size w W) (hR : w.heap.size ≤ R) (hR' : w.heap.size ≤ R')
    (ht : T.getD p undef = .pointer (some ⟨R, 0, none⟩)) (ht' : T.getD p' undef = .pointer (some ⟨R', 0, none⟩)) (hk : T.getD u undef = .bool false) :
    bodyPost Try.prog fn (TwoBox w ps qs false) Exit.ret { tmps := T, defers := [] } ((W.setCell ⟨R, 0, none⟩ (.slice none 0 0)).setCell ⟨R', 0, none⟩ (.slice none 0 0)) := by
  subst hps hqs
  exact twoBoxEnd hres rfl rfl ((rs.set (i := 0) (.slice none 0 0) (by simp)).other (j := R') (i := 0) _ (Ne.symm hne)) ((rs'.other (j := R) (i := 0) _ hne).set (i := 0) (.slice none 0 0) (by simp))
    ((hb.setCell (p := ⟨R, 0, none⟩) hR _).setCell (p := ⟨R', 0, none⟩) hR' _) (Nat.le_refl _) (Nat.le_refl _) (HasO.nil _ _) (HasO.nil _ _) (fun G hG => by cases hG) (fun G hG => by cases hG) (fun G hG => by cases hG) ht ht' hk

/-- What parting gives: the first box, the second one, and whether there are any. -/
abbrev PartF := Int × Int → (Int × Int) × (Int × Int) × Bool
def partK (n : Int) (f : PartF) (ps : List (Int × Int)) (k : Int) : Bool := bokI n ps && (decide (0 ≤ k) && (decide (k < ps.length) && (f (at2 ps k.toNat)).2.2))
def partA (n : Int) (f : PartF) (ps : List (Int × Int)) (k : Int) : List (Int × Int) := if partK n f ps k = true then ps.set k.toNat (f (at2 ps k.toNat)).1 else []
def partB (n : Int) (f : PartF) (ps : List (Int × Int)) (k : Int) : List (Int × Int) := if partK n f ps k = true then ps.set k.toNat (f (at2 ps k.toNat)).2.1 else []

theorem part_no {n : Int} {f : PartF} {ps : List (Int × Int)} {k : Int} (h : partK n f ps k = false) : partA n f ps k = [] ∧ partB n f ps k = [] := by
  unfold partA partB
  rw [h]
  exact ⟨rfl, rfl⟩

set_option maxRecDepth 100000 in
set_option maxHeartbeats 4000000 in
theorem boxParted (w : World) (n : Int) (a : Option Addr) (ps : List (Int × Int)) (cap : Nat) (k : Int) (wk : (Lit.int .i64 k).wf = true) (h : PairsAt w a ps) (hl : ps.length ≤ cap) (hm : ps.length ≤ 1048576) (g : Nat) (caps : Array Value) (f : PartF)
    (eg : ∀ (args : Array Value) (w : World), Sem.run Try.prog (callFunc g args) w = Result.ok (Next.enter g args) w)
    (hf : ∀ p, (Lit.int .i64 p.1).wf = true ∧ (Lit.int .i64 p.2).wf = true → ((Lit.int .i64 (f p).1.1).wf = true ∧ (Lit.int .i64 (f p).1.2).wf = true) ∧ (Lit.int .i64 (f p).2.1.1).wf = true ∧ (Lit.int .i64 (f p).2.1.2).wf = true)
    (hg : ∀ (p : Int × Int) W, (Lit.int .i64 p.1).wf = true ∧ (Lit.int .i64 p.2).wf = true → Below w.heap.size w W → Calls Try.prog g (#[.agg #[.int .i64 p.1, .int .i64 p.2]] ++ caps) W (TwoOut2 W (f p).1.1 (f p).1.2 (f p).2.1.1 (f p).2.1.2 (f p).2.2)) :
    Calls Try.prog 51 #[.int .i64 n, .agg #[.slice a ps.length cap], .int .i64 k, .func (.func g) #[] caps] w (TwoBox w (partA n f ps k) (partB n f ps k) (partK n f ps k)) := by
  have q0 : Below w.heap.size w (((w.alloc (.cells #[.slice a ps.length cap] 25)).alloc (.cells #[.slice none 0 0] 25)).alloc (.cells #[.slice none 0 0] 25)) := (((Below.refl _ w).alloc (Nat.le_refl _) _).alloc (by simp) _).alloc (by simp; omega) _
  have oA := ((Own.new w #[.slice a ps.length cap] 25).alloc (.cells #[.slice none 0 0] 25)).alloc (.cells #[.slice none 0 0] 25)
  have oR := (Own.new (w.alloc (.cells #[.slice a ps.length cap] 25)) #[.slice none 0 0] 25).alloc (.cells #[.slice none 0 0] 25)
  have oS := Own.new ((w.alloc (.cells #[.slice a ps.length cap] 25)).alloc (.cells #[.slice none 0 0] 25)) #[.slice none 0 0] 25
  simp only [World.size_alloc] at oR oS
  have hk := fun W (q : Below w.heap.size w W) => implBoxOk W n a ps cap (h.below q) hl hm
  have kb := i64_bounds wk
  cases hK : partK n f ps k
  · obtain ⟨eA, eB⟩ := part_no hK
    have E : Hid (partA n f ps k = [] ∧ partB n f ps k = []) := ⟨eA, eB⟩
    clear eA eB
    unfold partK at hK
    cases hbk : bokI n ps
    · rw [hbk] at hk
      obtain ⟨len, hlen⟩ : ∃ len, ps.length = len := ⟨_, rfl⟩
      rw [hlen] at q0 oA oR oS hk ⊢
      clear hK hg hf
      go_enter Try.func51, Try.ntmps51
      go_wp2_with first
        | (go_at_call 38; refine (hk _ q0).mono ?_; clear hk; rintro e w2 ⟨rfl, q⟩; replace oR := oR.below q; replace oS := oS.below q; replace q0 := q0.trans (q.mono q0.size); clear q; have c0 := oR.cell 0 _ rfl; have f0 := oR.frz 0 _ rfl; have c1 := oS.cell 0 _ rfl; have f1 := oS.frz 0 _ rfl)
      exact twoNone rfl E.out.1 E.out.2 oR oS (by omega) q0 (by omega) (by omega) rfl rfl rfl
    · rw [hbk] at hk
      by_cases h0 : 0 ≤ k
      · by_cases h1 : k < ps.length
        · rw [hbk, decide_eq_true h0, decide_eq_true h1] at hK
          simp only [Bool.true_and] at hK
          obtain ⟨j, rfl⟩ : ∃ j : Nat, k = j := ⟨k.toNat, by omega⟩
          simp only [Int.toNat_natCast] at hK
          have hj : j < ps.length := by omega
          have wj := h.wfD hj
          have hgj := fun W q => hg (at2 ps j) W wj q
          obtain ⟨rb, ro, ha, hlt, x0, x1⟩ := h.atD hj
          subst ha
          rw [hK] at hgj
          generalize (at2 ps j).1 = x at *
          generalize (at2 ps j).2 = y at *
          generalize (f (at2 ps j)).1.1 = r0 at *
          generalize (f (at2 ps j)).1.2 = r1 at *
          generalize (f (at2 ps j)).2.1.1 = r2 at *
          generalize (f (at2 ps j)).2.1.2 = r3 at *
          have X : Hid (rb < w.heap.size ∧ w.cell? ⟨rb, ro + j * 2, none⟩ = some (.int .i64 x) ∧ w.cell? ⟨rb, ro + j * 2 + 1, none⟩ = some (.int .i64 y)) := ⟨hlt, x0, x1⟩
          obtain ⟨len, hlen⟩ : ∃ len, ps.length = len := ⟨_, rfl⟩
          rw [hlen] at q0 oA oR oS hk hl hm h1 ⊢
          clear hK hg hf x0 x1 hlt h wj kb
          unfold TwoOut2 at hgj
          go_enter Try.func51, Try.ntmps51
          go_wp2_with first
            | (go_at_call 38; refine (hk _ q0).mono ?_; clear hk; rintro e w2 ⟨rfl, q⟩; replace oA := oA.below q; replace oR := oR.below q; replace oS := oS.below q; replace q0 := q0.trans (q.mono q0.size); clear q; have cA := oA.cell 0 _ rfl; have x0 := (q0.cell (p := ⟨rb, ro + j * 2, none⟩) X.out.1).trans X.out.2.1; have x1 := (q0.cell (p := ⟨rb, ro + j * 2 + 1, none⟩) X.out.1).trans X.out.2.2)
          refine (hgj _ q0).mono ?_
          clear hgj
          rintro e w3 ⟨rfl, q⟩
          have qa : Below w3.heap.size w3 ((w3.alloc (.cells #[.int .i64 r0, .int .i64 r1] 33)).alloc (.cells #[.int .i64 r2, .int .i64 r3] 33)) := ((Below.refl _ _).alloc (Nat.le_refl _) _).alloc (by simp) _
          replace oR := (oR.below q).below qa
          replace oS := (oS.below q).below qa
          replace q0 := q0.trans (q.mono q0.size)
          replace q0 := q0.trans (qa.mono q0.size)
          have c0 := oR.cell 0 _ rfl
          have f0 := oR.frz 0 _ rfl
          have c1 := oS.cell 0 _ rfl
          have f1 := oS.frz 0 _ rfl
          go_wp2
          exact twoNone rfl E.out.1 E.out.2 oR oS (by omega) q0 (by omega) (by omega) rfl rfl rfl
        · obtain ⟨len, hlen⟩ : ∃ len, ps.length = len := ⟨_, rfl⟩
          rw [hlen] at q0 oA oR oS hk h1 ⊢
          clear hK hg hf
          go_enter Try.func51, Try.ntmps51
          go_wp2_with first
            | (go_at_call 38; refine (hk _ q0).mono ?_; clear hk; rintro e w2 ⟨rfl, q⟩; replace oA := oA.below q; replace oR := oR.below q; replace oS := oS.below q; replace q0 := q0.trans (q.mono q0.size); clear q; have cA := oA.cell 0 _ rfl; have c0 := oR.cell 0 _ rfl; have f0 := oR.frz 0 _ rfl; have c1 := oS.cell 0 _ rfl; have f1 := oS.frz 0 _ rfl)
          exact twoNone rfl E.out.1 E.out.2 oR oS (by omega) q0 (by omega) (by omega) rfl rfl rfl
      · obtain ⟨len, hlen⟩ : ∃ len, ps.length = len := ⟨_, rfl⟩
        rw [hlen] at q0 oA oR oS hk ⊢
        clear hK hg hf
        go_enter Try.func51, Try.ntmps51
        go_wp2_with first
          | (go_at_call 38; refine (hk _ q0).mono ?_; clear hk; rintro e w2 ⟨rfl, q⟩; replace oA := oA.below q; replace oR := oR.below q; replace oS := oS.below q; replace q0 := q0.trans (q.mono q0.size); clear q; have cA := oA.cell 0 _ rfl; have c0 := oR.cell 0 _ rfl; have f0 := oR.frz 0 _ rfl; have c1 := oS.cell 0 _ rfl; have f1 := oS.frz 0 _ rfl)
        exact twoNone rfl E.out.1 E.out.2 oR oS (by omega) q0 (by omega) (by omega) rfl rfl rfl
  · have eA : partA n f ps k = ps.set k.toNat (f (at2 ps k.toNat)).1 := by unfold partA; rw [if_pos hK]
    have eB : partB n f ps k = ps.set k.toNat (f (at2 ps k.toNat)).2.1 := by unfold partB; rw [if_pos hK]
    unfold partK at hK
    simp only [Bool.and_eq_true, decide_eq_true_eq] at hK
    obtain ⟨hbk, h0, h1, hk2⟩ := hK
    rw [hbk] at hk
    obtain ⟨j, rfl⟩ : ∃ j : Nat, k = j := ⟨k.toNat, by omega⟩
    simp only [Int.toNat_natCast] at hk2 eA eB
    have hj : j < ps.length := by omega
    have wj := h.wfD hj
    have hgj := fun W q => hg (at2 ps j) W wj q
    have hfj := hf (at2 ps j) wj
    obtain ⟨rb, ro, ha, hlt, x0, x1⟩ := h.atD hj
    subst ha
    rw [hk2] at hgj
    rw [eA, eB]
    generalize (at2 ps j).1 = x at *
    generalize (at2 ps j).2 = y at *
    obtain ⟨⟨r0, r1⟩, hr⟩ : ∃ r, (f (at2 ps j)).1 = r := ⟨_, rfl⟩
    obtain ⟨⟨r2, r3⟩, hr'⟩ : ∃ r, (f (at2 ps j)).2.1 = r := ⟨_, rfl⟩
    rw [hr, hr'] at hgj hfj
    rw [hr, hr']
    clear hr hr' eA eB hk2 hbk hg hf
    have X : Hid (rb < w.heap.size ∧ w.cell? ⟨rb, ro + j * 2, none⟩ = some (.int .i64 x) ∧ w.cell? ⟨rb, ro + j * 2 + 1, none⟩ = some (.int .i64 y)) := ⟨hlt, x0, x1⟩
    have wA : Hid (∀ p ∈ ps.set j (r0, r1), (Lit.int .i64 p.1).wf = true ∧ (Lit.int .i64 p.2).wf = true) := fun p hp => by
      rcases at2_set (x := r0) (y := r1) hj p hp with e | e
      · exact h.1 p e
      · rw [e]; exact hfj.1
    have wB : Hid (∀ p ∈ ps.set j (r2, r3), (Lit.int .i64 p.1).wf = true ∧ (Lit.int .i64 p.2).wf = true) := fun p hp => by
      rcases at2_set (x := r2) (y := r3) hj p hp with e | e
      · exact h.1 p e
      · rw [e]; exact hfj.2
    have hW := fun W (q : Below w.heap.size w W) (x y : Int) => withPair W rb ro ps cap j x y (h.below q) hj hl hm
    have lA : Hid ((ps.set j (r0, r1)).length = ps.length) := by show (ps.set j (r0, r1)).length = ps.length; rw [List.length_set]
    have lB : Hid ((ps.set j (r2, r3)).length = ps.length) := by show (ps.set j (r2, r3)).length = ps.length; rw [List.length_set]
    unfold BoxNewC at hW
    simp only [List.length_set] at hW
    obtain ⟨len, hlen⟩ : ∃ len, ps.length = len := ⟨_, rfl⟩
    rw [hlen] at q0 oA oR oS hk hl hm h1 lA lB ⊢
    simp only [hlen] at hW
    clear x0 x1 hlt wj kb hfj h
    unfold TwoOut2 at hgj
    go_enter Try.func51, Try.ntmps51
    go_wp2_with first
      | (go_at_call 38; refine (hk _ q0).mono ?_; clear hk; rintro e w2 ⟨rfl, q⟩; replace oA := oA.below q; replace oR := oR.below q; replace oS := oS.below q; replace q0 := q0.trans (q.mono q0.size); clear q; have cA := oA.cell 0 _ rfl; have x0 := (q0.cell (p := ⟨rb, ro + j * 2, none⟩) X.out.1).trans X.out.2.1; have x1 := (q0.cell (p := ⟨rb, ro + j * 2 + 1, none⟩) X.out.1).trans X.out.2.2)
    refine (hgj _ q0).mono ?_
    clear hgj
    rintro e w3 ⟨rfl, q⟩
    have qa : Below w3.heap.size w3 ((w3.alloc (.cells #[.int .i64 r0, .int .i64 r1] 33)).alloc (.cells #[.int .i64 r2, .int .i64 r3] 33)) := ((Below.refl _ _).alloc (Nat.le_refl _) _).alloc (by simp) _
    have oF := (Own.new w3 #[.int .i64 r0, .int .i64 r1] 33).alloc (.cells #[.int .i64 r2, .int .i64 r3] 33)
    have oG := Own.new (w3.alloc (.cells #[.int .i64 r0, .int .i64 r1] 33)) #[.int .i64 r2, .int .i64 r3] 33
    simp only [World.size_alloc] at oG
    replace oA := (oA.below q).below qa
    replace oR := (oR.below q).below qa
    have l3 := (oS.below q).lt
    replace oS := (oS.below q).below qa
    replace q0 := q0.trans (q.mono q0.size)
    replace q0 := q0.trans (qa.mono q0.size)
    clear q qa x0 x1 cA
    go_wp2
    generalize (w3.alloc (.cells #[.int .i64 r0, .int .i64 r1] 33)).alloc (.cells #[.int .i64 r2, .int .i64 r3] 33) = WA at *
    have a0 := oA.cell 0 _ rfl
    have la := oA.lt
    have p0 := oF.cell 0 _ rfl
    have p1 := oF.cell 1 _ rfl
    have lf := oF.lt
    have g0 := oG.cell 0 _ rfl
    have g1 := oG.cell 1 _ rfl
    have lg := oG.lt
    have lR := oR.lt
    have lS := oS.lt
    refine region_steps (by kernel_rfl) (by kernel_rfl) (by kernel_rfl) (fun A0 f a W => ∃ (x46 : Value) (x47 : Value) (x48 : Value) (x49 : Value) (x50 : Value) (x51 : Value) (x52 : Value) (x53 : Value) (x10 : Value) (kG3 : Nat) (kC3 : Nat) (kG7 : Nat) (kC7 : Nat), a = { tmps := #[.int .i64 n, .agg #[.slice (some ⟨rb, ro, none⟩) len cap], .int .i64 j, .func (Fn.func g) #[] caps, undef, .pointer (some ⟨w.heap.size, 0, none⟩), undef, undef, .pointer (some ⟨w.heap.size + 1, 0, none⟩), .pointer (some ⟨w.heap.size + 1 + 1, 0, none⟩), x10, .pointer (some ⟨w3.heap.size, 0, none⟩), .pointer (some ⟨w3.heap.size + 1, 0, none⟩), .bool true, .int .i64 n, .agg #[.slice (some ⟨rb, ro, none⟩) len cap], .bool true, .bool false, .bool false, .int .i64 j, .bool (decide (j < 0)), .bool (decide (j < 0)), .bool (decide (j < 0)), .int .i64 j, .pointer (some ⟨w.heap.size, 0, none⟩), .slice (some ⟨rb, ro, none⟩) len cap, .int .i64 len, .bool false, .bool (decide (j < 0)), undef, undef, .tuple #[.agg #[.int .i64 r0, .int .i64 r1], .agg #[.int .i64 r2, .int .i64 r3], .bool true], .func (Fn.func g) #[] caps, .pointer (some ⟨w.heap.size, 0, none⟩), .slice (some ⟨rb, ro, none⟩) len cap, .int .i64 j, .pointer (some ⟨rb, ro + j * 2, none⟩), .agg #[.int .i64 x, .int .i64 y], .tuple #[.agg #[.int .i64 r0, .int .i64 r1], .agg #[.int .i64 r2, .int .i64 r3], .bool true], .agg #[.int .i64 r0, .int .i64 r1], .agg #[.int .i64 r2, .int .i64 r3], .bool true, .bool true, .bool false, undef, undef, x46, x47, x48, x49, x50, x51, x52, x53], defers := [] } ∧ (f 0 = true → x46 = .agg #[.slice (some ⟨rb, ro, none⟩) len cap]) ∧ (f 1 = true → x47 = .int .i64 j) ∧ (f 2 = true → x48 = .agg #[.int .i64 r0, .int .i64 r1]) ∧ (f 3 = true → x49 = .agg #[.slice (some ⟨kG3, 0, none⟩) len kC3] ∧ WA.heap.size ≤ kG3 ∧ OwnP W kG3 (ps.set j (r0, r1)) ∧ len ≤ kC3) ∧ (f 4 = true → x50 = .agg #[.slice (some ⟨rb, ro, none⟩) len cap]) ∧ (f 5 = true → x51 = .int .i64 j) ∧ (f 6 = true → x52 = .agg #[.int .i64 r2, .int .i64 r3]) ∧ (f 7 = true → x53 = .agg #[.slice (some ⟨kG7, 0, none⟩) len kC7] ∧ WA.heap.size ≤ kG7 ∧ OwnP W kG7 (ps.set j (r2, r3)) ∧ len ≤ kC7) ∧ (f 10 = true → x10 = .bool true) ∧ (f 8 = true → f 3 = true) ∧ (f 9 = true → f 7 = true) ∧ (f 3 = true → f 7 = true → kG3 ≠ kG7) ∧ ((f 8 = false → Own W (w.heap.size + 1) [.slice none 0 0]) ∧ (f 8 = true → Own W (w.heap.size + 1) [.slice (some ⟨kG3, 0, none⟩) len kC3])) ∧ ((f 9 = false → Own W (w.heap.size + 1 + 1) [.slice none 0 0]) ∧ (f 9 = true → Own W (w.heap.size + 1 + 1) [.slice (some ⟨kG7, 0, none⟩) len kC7])) ∧ KeepL [w.heap.size + 1, w.heap.size + 1 + 1] WA W) ?_ ⟨?_, ?_, ?_, ?_, ?_, ?_, ?_, ?_, ?_, ?_, ?_, trivial⟩ ?_
    · exact ⟨undef, undef, undef, undef, undef, undef, undef, undef, .bool false, 0, 0, 0, 0, rfl, (fun h => (by cases h)), (fun h => (by cases h)), (fun h => (by cases h)), (fun h => (by cases h)), (fun h => (by cases h)), (fun h => (by cases h)), (fun h => (by cases h)), (fun h => (by cases h)), (fun h => (by cases h)), (fun h => (by cases h)), (fun h => (by cases h)), (fun h => (by cases h)), ⟨fun _ => oR.drew, (fun h => (by cases h))⟩, ⟨fun _ => oS.drew, (fun h => (by cases h))⟩, (KeepL.refl _ _).drew⟩
    · rintro f a W ⟨x46, x47, x48, x49, x50, x51, x52, x53, x10, kG3, kC3, kG7, kC7, rfl, h0, h1, h2, h3, h4, h5, h6, h7, h10, d8_3, d9_7, m3_7, rz0, rz1, hB⟩ hf hd K hK
      have r0 := (hB.cell (p := ⟨w.heap.size, 0, none⟩) la (by simp only [List.mem_cons, List.not_mem_nil, or_false, not_or]; omega)).trans a0
      go_simp
      refine hK _ _ ?_
      exact ⟨_, x47, x48, x49, x50, x51, x52, x53, x10, kG3, kC3, kG7, kC7, rfl, fun _ => rfl, fun h => h1 (upd_ne (by decide) h), fun h => h2 (upd_ne (by decide) h), fun h => h3 (upd_ne (by decide) h), fun h => h4 (upd_ne (by decide) h), fun h => h5 (upd_ne (by decide) h), fun h => h6 (upd_ne (by decide) h), fun h => h7 (upd_ne (by decide) h), fun h => h10 (upd_ne (by decide) h), fun h => upd_of (d8_3 (upd_ne (by decide) h)), fun h => upd_of (d9_7 (upd_ne (by decide) h)), fun h h' => m3_7 (upd_ne (by decide) h) (upd_ne (by decide) h'), (by obtain ⟨p4, p5⟩ := rz0; exact ⟨fun h' => p4 (by rw [upd_same (by decide)] at h'; exact h'), fun h' => p5 (upd_ne (by decide) h')⟩), (by obtain ⟨p4, p5⟩ := rz1; exact ⟨fun h' => p4 (by rw [upd_same (by decide)] at h'; exact h'), fun h' => p5 (upd_ne (by decide) h')⟩), hB⟩
    · rintro f a W ⟨x46, x47, x48, x49, x50, x51, x52, x53, x10, kG3, kC3, kG7, kC7, rfl, h0, h1, h2, h3, h4, h5, h6, h7, h10, d8_3, d9_7, m3_7, rz0, rz1, hB⟩ hf hd K hK
      go_simp
      refine hK _ _ ?_
      exact ⟨x46, _, x48, x49, x50, x51, x52, x53, x10, kG3, kC3, kG7, kC7, rfl, fun h => h0 (upd_ne (by decide) h), fun _ => rfl, fun h => h2 (upd_ne (by decide) h), fun h => h3 (upd_ne (by decide) h), fun h => h4 (upd_ne (by decide) h), fun h => h5 (upd_ne (by decide) h), fun h => h6 (upd_ne (by decide) h), fun h => h7 (upd_ne (by decide) h), fun h => h10 (upd_ne (by decide) h), fun h => upd_of (d8_3 (upd_ne (by decide) h)), fun h => upd_of (d9_7 (upd_ne (by decide) h)), fun h h' => m3_7 (upd_ne (by decide) h) (upd_ne (by decide) h'), (by obtain ⟨p4, p5⟩ := rz0; exact ⟨fun h' => p4 (by rw [upd_same (by decide)] at h'; exact h'), fun h' => p5 (upd_ne (by decide) h')⟩), (by obtain ⟨p4, p5⟩ := rz1; exact ⟨fun h' => p4 (by rw [upd_same (by decide)] at h'; exact h'), fun h' => p5 (upd_ne (by decide) h')⟩), hB⟩
    · rintro f a W ⟨x46, x47, x48, x49, x50, x51, x52, x53, x10, kG3, kC3, kG7, kC7, rfl, h0, h1, h2, h3, h4, h5, h6, h7, h10, d8_3, d9_7, m3_7, rz0, rz1, hB⟩ hf hd K hK
      have r0 := (hB.cell (p := ⟨w3.heap.size, 0, none⟩) lf (by simp only [List.mem_cons, List.not_mem_nil, or_false, not_or]; omega)).trans p0
      have r1 := (hB.cell (p := ⟨w3.heap.size, 1, none⟩) lf (by simp only [List.mem_cons, List.not_mem_nil, or_false, not_or]; omega)).trans p1
      go_simp
      refine hK _ _ ?_
      exact ⟨x46, x47, _, x49, x50, x51, x52, x53, x10, kG3, kC3, kG7, kC7, rfl, fun h => h0 (upd_ne (by decide) h), fun h => h1 (upd_ne (by decide) h), fun _ => rfl, fun h => h3 (upd_ne (by decide) h), fun h => h4 (upd_ne (by decide) h), fun h => h5 (upd_ne (by decide) h), fun h => h6 (upd_ne (by decide) h), fun h => h7 (upd_ne (by decide) h), fun h => h10 (upd_ne (by decide) h), fun h => upd_of (d8_3 (upd_ne (by decide) h)), fun h => upd_of (d9_7 (upd_ne (by decide) h)), fun h h' => m3_7 (upd_ne (by decide) h) (upd_ne (by decide) h'), (by obtain ⟨p4, p5⟩ := rz0; exact ⟨fun h' => p4 (by rw [upd_same (by decide)] at h'; exact h'), fun h' => p5 (upd_ne (by decide) h')⟩), (by obtain ⟨p4, p5⟩ := rz1; exact ⟨fun h' => p4 (by rw [upd_same (by decide)] at h'; exact h'), fun h' => p5 (upd_ne (by decide) h')⟩), hB⟩
    · rintro f a W ⟨x46, x47, x48, x49, x50, x51, x52, x53, x10, kG3, kC3, kG7, kC7, rfl, h0, h1, h2, h3, h4, h5, h6, h7, h10, d8_3, d9_7, m3_7, rz0, rz1, hB⟩ hf hd K hK
      have e0 := h0 (dep_of hd (e := ⟨0, .data⟩) (by simp) rfl)
      subst e0
      have e1 := h1 (dep_of hd (e := ⟨1, .data⟩) (by simp) rfl)
      subst e1
      have e2 := h2 (dep_of hd (e := ⟨2, .data⟩) (by simp) rfl)
      subst e2
      go_simp
      refine (hW _ (q0.trans (hB.below (B := w.heap.size) (by simp; omega) (by omega))) r0 r1).mono ?_
      rintro e W2 ⟨G_, C_, rfl, hc, hG, on, q⟩
      refine hK _ _ ?_
      exact ⟨_, _, _, _, x50, x51, x52, x53, x10, G_, C_, kG7, kC7, rfl, fun _ => rfl, fun _ => rfl, fun _ => rfl, fun _ => ⟨rfl, Nat.le_trans hB.size hG, on, hc⟩, fun h => h4 (upd_ne (by decide) h), fun h => h5 (upd_ne (by decide) h), fun h => h6 (upd_ne (by decide) h), fun h => (by obtain ⟨p1, p2, p3, p4⟩ := h7 (upd_ne (by decide) h); exact ⟨p1, p2, p3.below q, p4⟩), fun h => h10 (upd_ne (by decide) h), fun _ => upd_self, fun h => upd_of (d9_7 (upd_ne (by decide) h)), fun _ h => (by obtain ⟨-, -, p3, -⟩ := h7 (upd_ne (by decide) h); have p4 := p3.lt; omega), (by obtain ⟨p4, p5⟩ := rz0; exact ⟨fun h' => (p4 (by rw [upd_same (by decide)] at h'; exact h')).below q, fun h' => absurd (d8_3 (upd_ne (by decide) h')) (by rw [hf]; decide)⟩), (by obtain ⟨p4, p5⟩ := rz1; exact ⟨fun h' => (p4 (by rw [upd_same (by decide)] at h'; exact h')).below q, fun h' => (p5 (upd_ne (by decide) h')).below q⟩), hB.bel q⟩
    · rintro f a W ⟨x46, x47, x48, x49, x50, x51, x52, x53, x10, kG3, kC3, kG7, kC7, rfl, h0, h1, h2, h3, h4, h5, h6, h7, h10, d8_3, d9_7, m3_7, rz0, rz1, hB⟩ hf hd K hK
      have r0 := (hB.cell (p := ⟨w.heap.size, 0, none⟩) la (by simp only [List.mem_cons, List.not_mem_nil, or_false, not_or]; omega)).trans a0
      go_simp
      refine hK _ _ ?_
      exact ⟨x46, x47, x48, x49, _, x51, x52, x53, x10, kG3, kC3, kG7, kC7, rfl, fun h => h0 (upd_ne (by decide) h), fun h => h1 (upd_ne (by decide) h), fun h => h2 (upd_ne (by decide) h), fun h => h3 (upd_ne (by decide) h), fun _ => rfl, fun h => h5 (upd_ne (by decide) h), fun h => h6 (upd_ne (by decide) h), fun h => h7 (upd_ne (by decide) h), fun h => h10 (upd_ne (by decide) h), fun h => upd_of (d8_3 (upd_ne (by decide) h)), fun h => upd_of (d9_7 (upd_ne (by decide) h)), fun h h' => m3_7 (upd_ne (by decide) h) (upd_ne (by decide) h'), (by obtain ⟨p4, p5⟩ := rz0; exact ⟨fun h' => p4 (by rw [upd_same (by decide)] at h'; exact h'), fun h' => p5 (upd_ne (by decide) h')⟩), (by obtain ⟨p4, p5⟩ := rz1; exact ⟨fun h' => p4 (by rw [upd_same (by decide)] at h'; exact h'), fun h' => p5 (upd_ne (by decide) h')⟩), hB⟩
    · rintro f a W ⟨x46, x47, x48, x49, x50, x51, x52, x53, x10, kG3, kC3, kG7, kC7, rfl, h0, h1, h2, h3, h4, h5, h6, h7, h10, d8_3, d9_7, m3_7, rz0, rz1, hB⟩ hf hd K hK
      go_simp
      refine hK _ _ ?_
      exact ⟨x46, x47, x48, x49, x50, _, x52, x53, x10, kG3, kC3, kG7, kC7, rfl, fun h => h0 (upd_ne (by decide) h), fun h => h1 (upd_ne (by decide) h), fun h => h2 (upd_ne (by decide) h), fun h => h3 (upd_ne (by decide) h), fun h => h4 (upd_ne (by decide) h), fun _ => rfl, fun h => h6 (upd_ne (by decide) h), fun h => h7 (upd_ne (by decide) h), fun h => h10 (upd_ne (by decide) h), fun h => upd_of (d8_3 (upd_ne (by decide) h)), fun h => upd_of (d9_7 (upd_ne (by decide) h)), fun h h' => m3_7 (upd_ne (by decide) h) (upd_ne (by decide) h'), (by obtain ⟨p4, p5⟩ := rz0; exact ⟨fun h' => p4 (by rw [upd_same (by decide)] at h'; exact h'), fun h' => p5 (upd_ne (by decide) h')⟩), (by obtain ⟨p4, p5⟩ := rz1; exact ⟨fun h' => p4 (by rw [upd_same (by decide)] at h'; exact h'), fun h' => p5 (upd_ne (by decide) h')⟩), hB⟩
    · rintro f a W ⟨x46, x47, x48, x49, x50, x51, x52, x53, x10, kG3, kC3, kG7, kC7, rfl, h0, h1, h2, h3, h4, h5, h6, h7, h10, d8_3, d9_7, m3_7, rz0, rz1, hB⟩ hf hd K hK
      have r0 := (hB.cell (p := ⟨w3.heap.size + 1, 0, none⟩) lg (by simp only [List.mem_cons, List.not_mem_nil, or_false, not_or]; omega)).trans g0
      have r1 := (hB.cell (p := ⟨w3.heap.size + 1, 1, none⟩) lg (by simp only [List.mem_cons, List.not_mem_nil, or_false, not_or]; omega)).trans g1
      go_simp
      refine hK _ _ ?_
      exact ⟨x46, x47, x48, x49, x50, x51, _, x53, x10, kG3, kC3, kG7, kC7, rfl, fun h => h0 (upd_ne (by decide) h), fun h => h1 (upd_ne (by decide) h), fun h => h2 (upd_ne (by decide) h), fun h => h3 (upd_ne (by decide) h), fun h => h4 (upd_ne (by decide) h), fun h => h5 (upd_ne (by decide) h), fun _ => rfl, fun h => h7 (upd_ne (by decide) h), fun h => h10 (upd_ne (by decide) h), fun h => upd_of (d8_3 (upd_ne (by decide) h)), fun h => upd_of (d9_7 (upd_ne (by decide) h)), fun h h' => m3_7 (upd_ne (by decide) h) (upd_ne (by decide) h'), (by obtain ⟨p4, p5⟩ := rz0; exact ⟨fun h' => p4 (by rw [upd_same (by decide)] at h'; exact h'), fun h' => p5 (upd_ne (by decide) h')⟩), (by obtain ⟨p4, p5⟩ := rz1; exact ⟨fun h' => p4 (by rw [upd_same (by decide)] at h'; exact h'), fun h' => p5 (upd_ne (by decide) h')⟩), hB⟩
    · rintro f a W ⟨x46, x47, x48, x49, x50, x51, x52, x53, x10, kG3, kC3, kG7, kC7, rfl, h0, h1, h2, h3, h4, h5, h6, h7, h10, d8_3, d9_7, m3_7, rz0, rz1, hB⟩ hf hd K hK
      have e4 := h4 (dep_of hd (e := ⟨4, .data⟩) (by simp) rfl)
      subst e4
      have e5 := h5 (dep_of hd (e := ⟨5, .data⟩) (by simp) rfl)
      subst e5
      have e6 := h6 (dep_of hd (e := ⟨6, .data⟩) (by simp) rfl)
      subst e6
      go_simp
      refine (hW _ (q0.trans (hB.below (B := w.heap.size) (by simp; omega) (by omega))) r2 r3).mono ?_
      rintro e W2 ⟨G_, C_, rfl, hc, hG, on, q⟩
      refine hK _ _ ?_
      exact ⟨x46, x47, x48, x49, _, _, _, _, x10, kG3, kC3, G_, C_, rfl, fun h => h0 (upd_ne (by decide) h), fun h => h1 (upd_ne (by decide) h), fun h => h2 (upd_ne (by decide) h), fun h => (by obtain ⟨p1, p2, p3, p4⟩ := h3 (upd_ne (by decide) h); exact ⟨p1, p2, p3.below q, p4⟩), fun _ => rfl, fun _ => rfl, fun _ => rfl, fun _ => ⟨rfl, Nat.le_trans hB.size hG, on, hc⟩, fun h => h10 (upd_ne (by decide) h), fun h => upd_of (d8_3 (upd_ne (by decide) h)), fun _ => upd_self, fun h _ => (by obtain ⟨-, -, p3, -⟩ := h3 (upd_ne (by decide) h); have p4 := p3.lt; omega), (by obtain ⟨p4, p5⟩ := rz0; exact ⟨fun h' => (p4 (by rw [upd_same (by decide)] at h'; exact h')).below q, fun h' => (p5 (upd_ne (by decide) h')).below q⟩), (by obtain ⟨p4, p5⟩ := rz1; exact ⟨fun h' => (p4 (by rw [upd_same (by decide)] at h'; exact h')).below q, fun h' => absurd (d9_7 (upd_ne (by decide) h')) (by rw [hf]; decide)⟩), hB.bel q⟩
    · rintro f a W ⟨x46, x47, x48, x49, x50, x51, x52, x53, x10, kG3, kC3, kG7, kC7, rfl, h0, h1, h2, h3, h4, h5, h6, h7, h10, d8_3, d9_7, m3_7, rz0, rz1, hB⟩ hf hd K hK
      obtain ⟨e3, u3, o3, c3⟩ := h3 (dep_of hd (e := ⟨3, .data⟩) (by simp) rfl)
      subst e3
      have oz := rz0.1 hf
      have r0 := oz.cell 0 _ rfl
      have o0_ := oz.frz 0 _ rfl
      go_simp
      refine hK _ _ ?_
      exact ⟨x46, x47, x48, _, x50, x51, x52, x53, x10, kG3, kC3, kG7, kC7, rfl, fun h => h0 (upd_ne (by decide) h), fun h => h1 (upd_ne (by decide) h), fun h => h2 (upd_ne (by decide) h), fun h => (by obtain ⟨p1, p2, p3, p4⟩ := h3 (upd_ne (by decide) h); have hl_ := lR; exact ⟨p1, p2, p3.keepO ((KeepO.of_below (some (w.heap.size + 1)) (Below.refl _ _)).setCell (i := 0) _) (fun e => by have := Option.some.inj e; omega), p4⟩), fun h => h4 (upd_ne (by decide) h), fun h => h5 (upd_ne (by decide) h), fun h => h6 (upd_ne (by decide) h), fun h => (by obtain ⟨p1, p2, p3, p4⟩ := h7 (upd_ne (by decide) h); have hl_ := lR; exact ⟨p1, p2, p3.keepO ((KeepO.of_below (some (w.heap.size + 1)) (Below.refl _ _)).setCell (i := 0) _) (fun e => by have := Option.some.inj e; omega), p4⟩), fun h => h10 (upd_ne (by decide) h), fun _ => upd_of (dep_of hd (e := ⟨3, .data⟩) (by simp) rfl), fun h => upd_of (d9_7 (upd_ne (by decide) h)), fun h h' => m3_7 (upd_ne (by decide) h) (upd_ne (by decide) h'), ⟨fun h' => (by rw [upd_self] at h'; cases h'), fun _ => Own.set (i := 0) (oz) _ (by simp)⟩, (by obtain ⟨p4, p5⟩ := rz1; have hne : (w.heap.size + 1) ≠ w.heap.size + 1 + 1 := (by omega); exact ⟨fun h' => Own.other (i := 0) (p4 (by rw [upd_same (by decide)] at h'; exact h')) _ hne, fun h' => Own.other (i := 0) (p5 (upd_ne (by decide) h')) _ hne⟩), (hB.set (p := ⟨w.heap.size + 1, 0, none⟩) (by simp) _)⟩
    · rintro f a W ⟨x46, x47, x48, x49, x50, x51, x52, x53, x10, kG3, kC3, kG7, kC7, rfl, h0, h1, h2, h3, h4, h5, h6, h7, h10, d8_3, d9_7, m3_7, rz0, rz1, hB⟩ hf hd K hK
      obtain ⟨e7, u7, o7, c7⟩ := h7 (dep_of hd (e := ⟨7, .data⟩) (by simp) rfl)
      subst e7
      have oz := rz1.1 hf
      have r0 := oz.cell 0 _ rfl
      have o0_ := oz.frz 0 _ rfl
      go_simp
      refine hK _ _ ?_
      exact ⟨x46, x47, x48, x49, x50, x51, x52, _, x10, kG3, kC3, kG7, kC7, rfl, fun h => h0 (upd_ne (by decide) h), fun h => h1 (upd_ne (by decide) h), fun h => h2 (upd_ne (by decide) h), fun h => (by obtain ⟨p1, p2, p3, p4⟩ := h3 (upd_ne (by decide) h); have hl_ := lS; exact ⟨p1, p2, p3.keepO ((KeepO.of_below (some (w.heap.size + 1 + 1)) (Below.refl _ _)).setCell (i := 0) _) (fun e => by have := Option.some.inj e; omega), p4⟩), fun h => h4 (upd_ne (by decide) h), fun h => h5 (upd_ne (by decide) h), fun h => h6 (upd_ne (by decide) h), fun h => (by obtain ⟨p1, p2, p3, p4⟩ := h7 (upd_ne (by decide) h); have hl_ := lS; exact ⟨p1, p2, p3.keepO ((KeepO.of_below (some (w.heap.size + 1 + 1)) (Below.refl _ _)).setCell (i := 0) _) (fun e => by have := Option.some.inj e; omega), p4⟩), fun h => h10 (upd_ne (by decide) h), fun h => upd_of (d8_3 (upd_ne (by decide) h)), fun _ => upd_of (dep_of hd (e := ⟨7, .data⟩) (by simp) rfl), fun h h' => m3_7 (upd_ne (by decide) h) (upd_ne (by decide) h'), (by obtain ⟨p4, p5⟩ := rz0; have hne : (w.heap.size + 1 + 1) ≠ w.heap.size + 1 := (by omega); exact ⟨fun h' => Own.other (i := 0) (p4 (by rw [upd_same (by decide)] at h'; exact h')) _ hne, fun h' => Own.other (i := 0) (p5 (upd_ne (by decide) h')) _ hne⟩), ⟨fun h' => (by rw [upd_self] at h'; cases h'), fun _ => Own.set (i := 0) (oz) _ (by simp)⟩, (hB.set (p := ⟨w.heap.size + 1 + 1, 0, none⟩) (by simp) _)⟩
    · rintro f a W ⟨x46, x47, x48, x49, x50, x51, x52, x53, x10, kG3, kC3, kG7, kC7, rfl, h0, h1, h2, h3, h4, h5, h6, h7, h10, d8_3, d9_7, m3_7, rz0, rz1, hB⟩ hf hd K hK
      go_simp
      refine hK _ _ ?_
      exact ⟨x46, x47, x48, x49, x50, x51, x52, x53, _, kG3, kC3, kG7, kC7, rfl, fun h => h0 (upd_ne (by decide) h), fun h => h1 (upd_ne (by decide) h), fun h => h2 (upd_ne (by decide) h), fun h => h3 (upd_ne (by decide) h), fun h => h4 (upd_ne (by decide) h), fun h => h5 (upd_ne (by decide) h), fun h => h6 (upd_ne (by decide) h), fun h => h7 (upd_ne (by decide) h), fun _ => rfl, fun h => upd_of (d8_3 (upd_ne (by decide) h)), fun h => upd_of (d9_7 (upd_ne (by decide) h)), fun h h' => m3_7 (upd_ne (by decide) h) (upd_ne (by decide) h'), (by obtain ⟨p4, p5⟩ := rz0; exact ⟨fun h' => p4 (by rw [upd_same (by decide)] at h'; exact h'), fun h' => p5 (upd_ne (by decide) h')⟩), (by obtain ⟨p4, p5⟩ := rz1; exact ⟨fun h' => p4 (by rw [upd_same (by decide)] at h'; exact h'), fun h' => p5 (upd_ne (by decide) h')⟩), hB⟩
    rintro f a w4 ⟨x46, x47, x48, x49, x50, x51, x52, x53, x10, kG3, kC3, kG7, kC7, rfl, h0, h1, h2, h3, h4, h5, h6, h7, h10, d8_3, d9_7, m3_7, rz0, rz1, qB⟩ hall
    have e0 := h0 (hall 0 (by decide))
    subst e0
    have e1 := h1 (hall 1 (by decide))
    subst e1
    have e2 := h2 (hall 2 (by decide))
    subst e2
    obtain ⟨e3, u3, s3, c3_⟩ := h3 (hall 3 (by decide))
    subst e3
    have e4 := h4 (hall 4 (by decide))
    subst e4
    have e5 := h5 (hall 5 (by decide))
    subst e5
    have e6 := h6 (hall 6 (by decide))
    subst e6
    obtain ⟨e7, u7, s7, c7_⟩ := h7 (hall 7 (by decide))
    subst e7
    have e10 := h10 (hall 10 (by decide))
    subst e10
    replace rz0 := rz0.2 (hall 8 (by decide))
    replace rz1 := rz1.2 (hall 9 (by decide))
    replace m3_7 := m3_7 (hall 3 (by decide)) (hall 7 (by decide))
    clear hall h0 h1 h2 h3 h4 h5 h6 h7 h10 d8_3 d9_7
    try dsimp only
    go_wp2
    exact twoBoxEnd rfl lA.out lB.out rz0 rz1 (q0.trans (qB.below (by simp; omega) (by omega))) c3_ c7_ (s3.has wA.out) (s7.has wB.out) (fun G hG => by have := Option.some.inj hG; omega) (fun G hG => by have := Option.some.inj hG; omega) (fun G hG e => m3_7 (by have := Option.some.inj hG; have := Option.some.inj e; omega)) rfl rfl rfl

end Go.Proofs.Yteohgmmenlinbaa
