/- FnBitTop's walk: it returns true, whatever bytes come in. -/
import Derived.Test.YteohgmmenlinbaaTopM
import Derived.Test.YteohgmmenlinbaaBoxV
import Derived.Test.YteohgmmenlinbaaBoxSp
import Derived.Test.YteohgmmenlinbaaJB
import Derived.Test.YteohgmmenlinbaaWithS
import Derived.Deep.QuietTactic
import Derived.BigQuiet
namespace Go.Proofs.Yteohgmmenlinbaa
open Go.ChangeShapes Go.WideShapes Go.ChangeAt Go.RowKit
set_option linter.unusedVariables false

theorem Code8.belowT {w w' : World} {a : Option Addr} {len : Nat} (h : Code8 w a len) (q : Below w.heap.size w w') : Code8 w' a len := by
  rcases h with h | ⟨rb, ro, ha, hlt, hcell⟩
  · exact .inl h
  · refine .inr ⟨rb, ro, ha, Nat.lt_of_lt_of_le hlt q.size, fun j hj => ?_⟩
    obtain ⟨z, z0, z1, hz⟩ := hcell j hj
    exact ⟨z, z0, z1, (q.cell (p := ⟨rb, ro + j, none⟩) hlt).trans hz⟩

theorem pok_wf {n : Int} {p : Int × Int} (h : pokI n p.1 p.2 = true) : Wf p := by
  unfold pokI okI at h
  simp only [Bool.and_eq_true, decide_eq_true_eq] at h
  obtain ⟨⟨_, a1, a2⟩, ⟨_, a3, a4⟩, _⟩ := h
  have ht : topI n ≤ 9218868437227405312 := by
    unfold topI
    split
    · omega
    · split <;> omega
  exact ⟨i64_wf (by omega) (by omega), i64_wf (by omega) (by omega)⟩

theorem pok_le {n lo hi : Int} (h : pokI n lo hi = true) : lo ≤ hi := by
  unfold pokI at h
  simp only [Bool.and_eq_true, decide_eq_true_eq] at h
  exact h.2.2.1

/-- Three rows of no boxes. -/
theorem R3.start {w W : World} {kb : Nat} {bv : Value} {ps : List (Int × Int)} {a : Option Addr} {c : Nat} {o : Option Nat} (q : Below w.heap.size w W) (hv : bv = .slice a ps.length c) (hc : ps.length ≤ c) (h1 : 1 ≤ ps.length) (ob : Own W kb [bv]) (hh : HasO W a ps o) :
    R3 w W [(kb, [bv])] [(bv, ps)] (.slice none 0 0) (.slice none 0 0) (.slice none 0 0) [] [] [] := by
  refine ⟨q, World.ownsRow_nil _ _ _ _, World.ownsRow_nil _ _ _ _, World.ownsRow_nil _ _ _ _, fun g hg => by simp [Value.ownBlock] at hg, fun g hg => by simp [Value.ownBlock] at hg, fun g hg => by simp [Value.ownBlock] at hg, fun d hd => ?_, fun x hx => ?_⟩
  · simp at hd
    subst hd
    exact ⟨ob, by simp [Value.ownBlock], by simp [Value.ownBlock], by simp [Value.ownBlock]⟩
  · have e : x = (bv, ps) := by simpa using hx
    subst e
    rcases hh.2 with ⟨e, _⟩ | ⟨G, _, ha, oP⟩
    · rw [e] at h1; simp at h1
    · subst ha
      exact ⟨G, c, hv, hc, oP, hh.1, by simp [Value.ownBlock], by simp [Value.ownBlock], by simp [Value.ownBlock]⟩

/-- What a round of the stack keeps. -/
def TopSt (w : World) (n : Int) (b : BV) (kb : Nat) (k : Nat) (v1 v2 v3 : Value) (S T G : List BV) (W : World) : Prop :=
  R3 w W [(kb, [b.1])] [b] v1 v2 v3 S T G ∧ Used n b.2 (unL b.2) (paL b.2) k S T G

theorem cell_one_at {w : World} {k : Nat} {a : Value} {t : TypeId} (hk : w.heap.size = k) : ∀ j u, [a][j]? = some u → (w.alloc (.cells #[a] t)).cell? ((⟨k, 0, none⟩ : Addr).add j) = some u := by
  subst hk
  intro j u hj
  match j, hj with
  | 0, hj => simp at hj; subst hj; simp [Addr.add]
  | j + 1, hj => simp at hj

/-- The point that a round of the last loop draws. -/
def ptI (ps : PS) (mb : Nat → Int) (t i : Nat) : Int := (at2 ps i).1 + mb (3 * t + i) % ((at2 ps i).2 - (at2 ps i).1 + 1)
def ptsI (ps : PS) (mb : Nat → Int) (t : Nat) : PS := (List.range ps.length).map fun i => (ptI ps mb t i, ptI ps mb t i)

theorem pts_len (ps : PS) (mb : Nat → Int) (t : Nat) : (ptsI ps mb t).length = ps.length := by unfold ptsI; simp
theorem pts_at {ps : PS} {mb : Nat → Int} {t i : Nat} (h : i < ps.length) : at2 (ptsI ps mb t) i = (ptI ps mb t i, ptI ps mb t i) := by
  apply at2_of
  unfold ptsI
  rw [List.getElem?_map, List.getElem?_range h]
  rfl
theorem pts_pt (ps : PS) (mb : Nat → Int) (t : Nat) : Pt (ptsI ps mb t) := by
  intro p hp
  unfold ptsI at hp
  obtain ⟨i, _, rfl⟩ := List.mem_map.1 hp
  rfl
theorem rem_in {z d : Int} (h0 : 0 ≤ z) (hd : 1 ≤ d) : 0 ≤ z % d ∧ z % d < d := ⟨Int.emod_nonneg _ (by omega), Int.emod_lt_of_pos _ (by omega)⟩
theorem pts_in {ps : PS} {mb : Nat → Int} {t : Nat} (h : ∀ p ∈ ps, p.1 ≤ p.2 ∧ p.2 - p.1 ≤ 8) (hm : ∀ j, 0 ≤ mb j ∧ mb j ≤ 255) : isbI (ptsI ps mb t) ps = true := by
  refine isb_true (pts_len _ _ _) fun i hi => ?_
  rw [pts_len] at hi
  rw [pts_at hi]
  have h1 := h _ (List.mem_of_getElem? (at2_get hi))
  have h2 := rem_in (hm (3 * t + i)).1 (show 1 ≤ (at2 ps i).2 - (at2 ps i).1 + 1 by omega)
  refine isP_iff.2 ⟨?_, ?_⟩ <;> dsimp only <;> unfold ptI <;> omega

theorem cov_any {b q : PS} {T G : List BV} (h : Cov b [] T G) (hq : Pt q) (hi : isbI q b = true) : ((T.any fun x => isbI q x.2) || (G.any fun x => isbI q x.2)) = true := by
  obtain ⟨x, hx, he⟩ := h q hq hi
  rcases hx with e | e | e
  · simp at e
  · rw [List.any_eq_true.2 ⟨x, e, he⟩]; rfl
  · rw [List.any_eq_true.2 ⟨x, e, he⟩, Bool.or_true]

theorem any_snoc {q : PS} {T : List BV} {i : Nat} {x : BV} (h : T[i]? = some x) : ((T.take (i + 1)).any fun x => isbI q x.2) = (((T.take i).any fun x => isbI q x.2) || isbI q x.2) := by
  rw [List.take_add_one, h]
  simp [List.any_append]

theorem row_at {W : World} {base : Nat} {e : TypeId} {o : Option Addr} {n c : Nat} {xs : List Value} (h : W.ownsRow base e 1 (.slice o n c) n xs) {i : Nat} {u : Value} (hi : i < n) (hu : xs[i]? = some u) : ∃ g, o = some ⟨g, 0, none⟩ ∧ g < W.heap.size ∧ W.cell? ⟨g, i, none⟩ = some u := by
  obtain ⟨o', c', e1, _, hs⟩ := row_slice h
  injection e1 with e1 e2 e3
  subst e1 e3
  obtain ⟨g, h1, h2, h3⟩ := hs (by omega)
  exact ⟨g, h1, h2, h3 i u hu⟩

/-- Two boxes that have grown, one behind the other, with their cells. -/
theorem R3.two {w W1 W5 W : World} {C : List (Nat × List Value)} {X : List BV} {v1 v2 v3 : Value} {L1 L2 L3 : List BV} (h : R3 w W1 C X v1 v2 v3 L1 L2 L3) (q : Below W1.heap.size W1 W5) {ys zs : List (Int × Int)} {ky Gy cy Gz cz lb : Nat}
    (ly : ys.length = lb) (hcy : lb ≤ cy) (hGy : W1.heap.size ≤ Gy) (oY : OwnP W5 Gy ys) (wy : ∀ p ∈ ys, Wf p) (oy : Own W5 ky [.slice (some ⟨Gy, 0, none⟩) lb cy]) (hky : W1.heap.size ≤ ky)
    (lz : zs.length = lb) (hcz : lb ≤ cz) (hGz : W5.heap.size ≤ Gz) (cp : Cp W5 zs (.slice (some ⟨Gz, 0, none⟩) lb cz) W) (oZ : OwnP W Gz zs) :
    R3 w W (C ++ [(ky, [.slice (some ⟨Gy, 0, none⟩) lb cy])] ++ [(W5.heap.size, [.slice (some ⟨Gz, 0, none⟩) lb cz])]) (X ++ [(.slice (some ⟨Gy, 0, none⟩) lb cy, ys)] ++ [(.slice (some ⟨Gz, 0, none⟩) lb cz, zs)]) v1 v2 v3 L1 L2 L3 := by
  have h1 := h.made q (x := (.slice (some ⟨Gy, 0, none⟩) lb cy, ys)) (by rw [ly]) (by rw [ly]; exact hcy) hGy oY wy
  have h2 := h1.addC h oy hky
  have h3 := h2.made cp.bel (x := (.slice (some ⟨Gz, 0, none⟩) lb cz, zs)) (by rw [lz]) (by rw [lz]; exact hcz) hGz oZ cp.wf
  exact h3.addC h2 cp.box (Nat.le_refl _)

set_option maxRecDepth 100000 in
set_option maxHeartbeats 8000000 in
theorem walkTop (w : World) (a : Option Addr) (len cap : Nat) (hc : len ≤ 1048576 → Code8 w a len) (hl : len ≤ cap) (hm : len ≤ maxLen)
    (a2 : Option Addr) (len2 cap2 : Nat) (hc2 : len2 ≤ 1048576 → Code8 w a2 len2) (hl2 : len2 ≤ cap2) (hm2 : len2 ≤ maxLen) :
    Calls Try.prog 3 #[.slice a len cap, .slice a2 len2 cap2] w fun e w' => e = .returned (.bool true) ∧ Below w.heap.size w w' := by
  unfold maxLen at hm hm2
  by_cases hbig : 1048576 < len
  · have hbig' : 1048576 < (len : Int) := by omega
    go_enter Try.func3, Try.ntmps3
    go_wp2
    go_ret
    exact ⟨rfl, Below.refl _ _⟩
  by_cases hbig2 : 1048576 < len2
  · have hbig' : 1048576 < (len2 : Int) := by omega
    have hb3 : ¬ 1048576 < (len : Int) := by omega
    go_enter Try.func3, Try.ntmps3
    go_wp2
    go_ret
    exact ⟨rfl, Below.refl _ _⟩
  have ho := fewBox w a len cap (hc (by omega)) hl (by omega)
  have hC2 := hc2 (by omega)
  have hb3 : ¬ 1048576 < (len : Int) := by omega
  have hb4 : ¬ 1048576 < (len2 : Int) := by omega
  obtain ⟨mb, hmb⟩ := bytes_fn hC2
  have BY := fun W (q : Below w.heap.size w W) (j : Nat) (hj : j ≤ 1000000) => pbByte w W a2 len2 cap2 hl2 (by omega) mb hmb q j hj
  have HMB : Hid (∀ j, 0 ≤ mb j ∧ mb j ≤ 255) := fun j => ⟨(hmb j).1, (hmb j).2.1⟩
  clear hc hm hc2 hm2 hC2 hmb hbig hbig2
  go_enter Try.func3, Try.ntmps3
  go_wp2_with (go_at_call 8; refine ho.mono ?_; clear ho; rintro e w1 ⟨n, v, ps, rfl, hn, l1, l3, hrow, hgood, q⟩; obtain ⟨a1, c1, o1, rfl, hc1, hh, hbase⟩ := ownsRow_has hrow (fun p hp => pok_wf (hgood p hp).1); have hb : bokI n ps = true := bok_true l1 (by omega) (fun j p hj => (hgood p (List.mem_of_getElem? hj)).1); have F : Hid (Facts (w1.alloc (.cells #[.slice a1 ps.length c1] 25)) [.bel w, .has a1 ps o1, .own w1.heap.size [.slice a1 ps.length c1]]) := (((Facts.nil _).push (f := .bel w) q).pushHas hh).cells #[.slice a1 ps.length c1] 25; have H8 : Hid (∀ p ∈ ps, p.1 ≤ p.2 ∧ p.2 - p.1 ≤ 8) := (fun p hp => ⟨pok_le (hgood p hp).1, (hgood p hp).2⟩); clear q hh hrow hgood hbase)
  have U1 := fun W (h : PairsAt W a1 ps) => implBoxUnits W n a1 ps c1 h hc1 (by omega)
  have P1 := fun W (h : PairsAt W a1 ps) => implBoxPath W n a1 ps c1 h hc1 (by omega)
  have U2 := fun W (h : PairsAt W a1 ps) => specBoxUnits W n a1 ps c1 h hc1 (by omega)
  have P2 := fun W (h : PairsAt W a1 ps) => specBoxPath W n a1 ps c1 h hc1 (by omega)
  have eu : unitsI n ps = unL ps := by unfold unitsI; rw [if_pos hb]
  have ep : pathI n ps = paL ps := by unfold pathI; rw [if_pos hb]
  rw [eu] at U1 U2
  rw [ep] at P1 P2
  clear eu ep
  have hU1 := un_pos ps
  have HP : Hid (bokI n ps = true ∧ 1 ≤ ps.length ∧ ps.length ≤ 3 ∧ ps.length ≤ c1) := ⟨hb, l1, l3, hc1⟩
  clear hb l1 l3 hc1
  obtain ⟨U, hUe⟩ : ∃ U, unL ps = U := ⟨_, rfl⟩
  obtain ⟨PA, hPe⟩ : ∃ P, paL ps = P := ⟨_, rfl⟩
  obtain ⟨lb, hlb⟩ : ∃ l, ps.length = l := ⟨_, rfl⟩
  simp only [hUe] at U1 U2 hU1
  simp only [hPe] at P1 P2
  simp only [hlb] at U1 U2 P1 P2 F ⊢
  have HE : Hid (unL ps = U ∧ paL ps = PA ∧ ps.length = lb) := ⟨hUe, hPe, hlb⟩
  clear hUe hPe hlb
  have hub : Hid (1 ≤ U) := hU1
  by_cases hU : 3000 < U
  · go_wp2_with first
      | (go_at_call 9; refine (U1 _ (F.out.has 1 rfl).at).mono ?_; rintro e w2 ⟨rfl, q⟩; replace F : Hid (Facts w2 [.bel w, .has a1 ps o1, .own w1.heap.size [.slice a1 lb c1]]) := F.out.below q; clear q; clear U1; have d1 := (F.out.own 2 rfl).cell 0 _ rfl)
      | (go_at_call 10; refine (P1 _ (F.out.has 1 rfl).at).mono ?_; rintro e w3 ⟨rfl, q⟩; replace F : Hid (Facts w3 [.bel w, .has a1 ps o1, .own w1.heap.size [.slice a1 lb c1]]) := F.out.below q; clear q; clear P1 d1; have d2 := (F.out.own 2 rfl).cell 0 _ rfl)
      | (go_at_call 11; refine (U2 _ (F.out.has 1 rfl).at).mono ?_; rintro e w4 ⟨rfl, q⟩; replace F : Hid (Facts w4 [.bel w, .has a1 ps o1, .own w1.heap.size [.slice a1 lb c1]]) := F.out.below q; clear q; clear U2 d2; have d3 := (F.out.own 2 rfl).cell 0 _ rfl)
      | (go_at_call 12; refine (P2 _ (F.out.has 1 rfl).at).mono ?_; rintro e w5 ⟨rfl, q⟩; replace F : Hid (Facts w5 [.bel w, .has a1 ps o1, .own w1.heap.size [.slice a1 lb c1]]) := F.out.below q; clear q; clear P2 d3; have d4 := (F.out.own 2 rfl).cell 0 _ rfl)
    go_ret
    exact ⟨rfl, F.out.bel 0 rfl⟩
  obtain ⟨i0, hi, hz0, hz1, hz2⟩ := info_parts infoBox
  go_wp2_with first
    | (go_at_call 9; refine (U1 _ (F.out.has 1 rfl).at).mono ?_; rintro e w2 ⟨rfl, q⟩; replace F : Hid (Facts w2 [.bel w, .has a1 ps o1, .own w1.heap.size [.slice a1 lb c1]]) := F.out.below q; clear q; clear U1; have d1 := (F.out.own 2 rfl).cell 0 _ rfl)
    | (go_at_call 10; refine (P1 _ (F.out.has 1 rfl).at).mono ?_; rintro e w3 ⟨rfl, q⟩; replace F : Hid (Facts w3 [.bel w, .has a1 ps o1, .own w1.heap.size [.slice a1 lb c1]]) := F.out.below q; clear q; clear P1 d1; have d2 := (F.out.own 2 rfl).cell 0 _ rfl)
    | (go_at_call 11; refine (U2 _ (F.out.has 1 rfl).at).mono ?_; rintro e w4 ⟨rfl, q⟩; replace F : Hid (Facts w4 [.bel w, .has a1 ps o1, .own w1.heap.size [.slice a1 lb c1]]) := F.out.below q; clear q; clear U2 d2; have d3 := (F.out.own 2 rfl).cell 0 _ rfl)
    | (go_at_call 12; refine (P2 _ (F.out.has 1 rfl).at).mono ?_; rintro e w5 ⟨rfl, q⟩; replace F : Hid (Facts w5 [.bel w, .has a1 ps o1, .own w1.heap.size [.slice a1 lb c1]]) := F.out.below q; clear q; clear P2 d3; have d4 := (F.out.own 2 rfl).cell 0 _ rfl; have RS : Hid (R3 w (w5.alloc (.cells #[.slice a1 lb c1] 25)) [(w1.heap.size, [.slice a1 lb c1])] [(.slice a1 lb c1, ps)] (.slice none 0 0) (.slice none 0 0) (.slice none 0 0) [] [] []) := (R3.start (F.out.bel 0 rfl) (by rw [HE.out.2.2]) HP.out.2.2.2 HP.out.2.1 (F.out.own 2 rfl) (F.out.has 1 rfl)).alloc _)
    | (at_builtin; (refine wpList_append_own_at _ rfl _ _ 29 rfl w.heap.size 25 i0 (.agg #[.slice none 0 0]) 1 24 Try.underlying29 hi hz0 hz1 hz2 rfl (by decide) _ _ _ rfl RS.out.r1 ⟨_, 0, none⟩ 1 1 [_] rfl rfl (cell_one_at (by first | rfl | simp)) (fun u hu => by simp at hu; rcases hu with rfl; rfl) (by simp [maxLen]) (by simp) RS.out.bel.size ?_); intro v' w6 hown hgrow hnil hat
       have R1 : Hid (R3 w w6 [(w1.heap.size, [.slice a1 lb c1])] [(.slice a1 lb c1, ps)] v' (.slice none 0 0) (.slice none 0 0) [(.slice a1 lb c1, ps)] [] []) := RS.out.app1 (x := (.slice a1 lb c1, ps)) (by simp) hgrow hown hat
       clear hown hgrow hnil hat RS d4)
  have bw : ∀ p ∈ ps, Wf p := by obtain ⟨G, c, _, _, _, hw, _⟩ := R1.out.box (.slice a1 lb c1, ps) (by simp); exact hw
  have U0 : Hid (Used n ps U PA 0 [(.slice a1 lb c1, ps)] [] []) := by have := Used.start (x := (.slice a1 lb c1, ps)) HP.out.1 bw; dsimp only at this; rw [HE.out.1, HE.out.2.1] at this; exact this
  clear hn hU1 F bw
  go_loopg [9, 10, 11, 12] (U.toNat) (fun gq v9 v10 v11 v12 wr => ∃ (k : Nat) (S T G : List BV), k + gq = U.toNat ∧ v12 = .int .i64 (k : Nat) ∧ Hid (R3 w wr [(w1.heap.size, [.slice a1 lb c1])] [(.slice a1 lb c1, ps)] v9 v10 v11 S T G) ∧ Hid (Used n ps U PA k S T G))
  case atStart => exact ⟨0, _, [], [], by omega, rfl, R1, U0⟩
  case round =>
    clear R1 U0
    obtain ⟨k, S, T, G, hk, rfl, R, Us⟩ := hrel
    obtain ⟨o9, c9, rfl, hc9, hs9⟩ := row_slice R.out.r1
    rcases List.eq_nil_or_concat S with rfl | ⟨S, x, rfl⟩
    · as_aux_lemma =>
        have HC : Hid (Cov ps [] T G) := Us.out.cov
        obtain ⟨o10, c10, rfl, hc10, -⟩ := row_slice R.out.r2
        obtain ⟨o11, c11, rfl, hc11, -⟩ := row_slice R.out.r3
        obtain ⟨Gb, cb, eb, hcb, oB, wB, -⟩ := R.out.box (.slice a1 lb c1, ps) (by simp)
        injection eb with eb1 eb2 eb3
        subst eb1
        obtain ⟨lt, hlt⟩ : ∃ l, T.length = l := ⟨_, rfl⟩
        obtain ⟨lg, hlg⟩ : ∃ l, G.length = l := ⟨_, rfl⟩
        have l1 := Us.out.lt
        have l2 := Us.out.lg
        have HT : Hid (T.length = lt ∧ G.length = lg ∧ ∀ x : BV, (x ∈ T ∨ x ∈ G) → x.2.length = lb) := ⟨hlt, hlg, fun x hx => (Us.out.len x hx).trans HE.out.2.2⟩
        have hkU := Us.out.sum
        replace hkU : (k : Int) ≤ U := by have e : sumU [] = 0 := rfl; rw [e] at hkU; omega
        simp only [hlt, hlg, List.length_nil] at R hc10 hc11 l1 l2 ⊢
        have lb6 : lb ≤ 6 := by have := HP.out.2.2.1; rw [HE.out.2.2] at this; omega
        have lb1 : 1 ≤ lb := by have := HP.out.2.1; rw [HE.out.2.2] at this; exact this
        have lbc : lb ≤ c1 := by have := HP.out.2.2.2; rw [HE.out.2.2] at this; exact this
        have kbl := (R.out.own 0 rfl).lt
        obtain ⟨i2, ip, ip0, ip1, ip2⟩ := info_parts infoPair
        replace R : Hid (R3 w wr [(w1.heap.size, [.slice (some ⟨Gb, 0, none⟩) lb c1])] [(Value.slice (some ⟨Gb, 0, none⟩) lb c1, ps)] (.slice o9 0 c9) (.slice o10 lt c10) (.slice o11 lg c11) [] T G) := R
        clear Us oB eb2 eb3 hcb cb hlt hlg hs9
        go_wp2
        go_loopg [25] 5 (fun gq iv wr => ∃ (t : Nat), t + gq = 5 ∧ iv = .int .i64 t ∧ Hid (R3 w wr [(w1.heap.size, [.slice (some ⟨Gb, 0, none⟩) lb c1])] [(Value.slice (some ⟨Gb, 0, none⟩) lb c1, ps)] (.slice o9 0 c9) (.slice o10 lt c10) (.slice o11 lg c11) [] T G))
        case atStart => exact ⟨0, by omega, rfl, R⟩
        case round =>
          clear R kbl
          obtain ⟨t, htq, rfl, R⟩ := hrel
          by_cases ht : t < 5
          · have ht2 : (t : Int) < 5 := by omega
            have HV : Hid (((T.any fun x => isbI (ptsI ps mb t) x.2) || (G.any fun x => isbI (ptsI ps mb t) x.2)) = true) := cov_any HC.out (pts_pt _ _ _) (pts_in H8.out HMB.out)
            have HQ : Hid ((ptsI ps mb t).length = lb ∧ ∀ i, i < lb → at2 (ptsI ps mb t) i = (ptI ps mb t i, ptI ps mb t i)) := ⟨(pts_len _ _ _).trans HE.out.2.2, fun i hi => pts_at (by rw [HE.out.2.2]; exact hi)⟩
            generalize ptsI ps mb t = Q at *
            rename World => W4
            have ob : Hid (Own W4 w1.heap.size [.slice (some ⟨Gb, 0, none⟩) lb c1]) := R.out.own 0 rfl
            have kbl := ob.out.lt
            have PB : Hid (PairsAt W4 (some ⟨Gb, 0, none⟩) ps) := R.out.pairs 0 rfl
            have A0 : Hid (Cp W4 (Q.take 0) (.slice none 0 0) (W4.alloc (.cells #[.slice none 0 0] 25))) := Cp.start W4
            go_wp2
            go_loopg [27] lb (fun gq iv wr => ∃ (i : Nat) (v : Value), i + gq = lb ∧ iv = .int .i64 i ∧ Hid (Cp W4 (Q.take i) v wr))
            case atStart => exact ⟨0, _, by omega, rfl, A0⟩
            case round =>
              clear A0
              obtain ⟨i, v, hiq, rfl, A⟩ := hrel
              have b0 := (A.out.bel.cell (p := ⟨w1.heap.size, 0, none⟩) kbl).trans (ob.out.cell 0 _ rfl)
              by_cases hlast : i < lb
              · have hil : (i : Int) < lb := by omega
                have hlt2 : (Q.take i).length = i := by rw [List.length_take, HQ.out.1]; omega
                obtain ⟨sb, so, hb, hlt', c0, c1'⟩ := (PB.out.below A.out.bel).atD (i := i) (by rw [HE.out.2.2]; exact hlast)
                injection hb with hb
                injection hb with ea eb
                subst ea eb
                simp only [Nat.zero_add] at c0 c1'
                have hgw := PB.out.wfD (i := i) (by rw [HE.out.2.2]; exact hlast)
                have h8 := H8.out _ (List.mem_of_getElem? (at2_get (ps := ps) (i := i) (by rw [HE.out.2.2]; exact hlast)))
                have hnx : Hid (Q.take (i + 1) = Q.take i ++ [(ptI ps mb t i, ptI ps mb t i)]) := by show Q.take (i + 1) = _; rw [take_set (by rw [HQ.out.1]; exact hlast), HQ.out.2 i hlast]
                have BZ := fun W (q : Below w.heap.size w W) => (BY W q (3 * t + i) (by omega)).mono (fun e w' (h : _ ∧ W = w') => (⟨h.1, h.2.symm⟩ : _ ∧ w' = W))
                have ej : ((3 * t + i : Nat) : Int) = 3 * (t : Int) + (i : Int) := by omega
                rw [ej] at BZ
                have hz := HMB.out (3 * t + i)
                have hr := rem_in hz.1 (show 1 ≤ (at2 ps i).2 - (at2 ps i).1 + 1 by omega)
                have QW : Hid (∀ m, Below w.heap.size w (wr.drewN m)) := fun m => (R.out.bel.trans ((A.out.drewN m).bel.mono R.out.bel.size))
                unfold ptI at hnx
                have bl := i64_bounds hgw.1
                have bh := i64_bounds hgw.2
                clear ej hgw
                generalize (at2 ps i).1 = lo at *
                generalize (at2 ps i).2 = hi' at *
                generalize mb (3 * t + i) = zz at *
                generalize Q.take i = out at *
                have hd : hi' - lo + 1 ≠ 0 := by omega
                go_wp2
                go_quiet (first | (go_at_call 15; exact Calls.quiet_of_same (BZ _ (QW.out _))))
                try rw [IntWalk.wrap64_in (lo + zz % (hi' - lo + 1)) (by omega)]
                obtain ⟨rr, hrr⟩ : ∃ r, zz % (hi' - lo + 1) = r := ⟨_, rfl⟩
                rw [hrr] at hr hnx ⊢
                obtain ⟨xx, hxx⟩ : ∃ x, lo + rr = x := ⟨_, rfl⟩
                rw [hxx] at hnx ⊢
                have wq : Wf (xx, xx) := ⟨i64_wf (by omega) (by omega), i64_wf (by omega) (by omega)⟩
                have e0 := (A.out.drewN nq).box.cell 0 v rfl
                have A6 : Hid _ := (A.out.drewN nq).below ((Below.refl _ _).alloc (Nat.le_refl _) (.cells #[.int .i64 xx, .int .i64 xx] 33))
                clear BZ QW hrr hxx hr hd h8 b0 c0 c1'
                go_wp2_with first
                  | (at_builtin; (refine wpList_append_own _ rfl _ _ 23 rfl (W4.heap.size + 1) 33 i2 (.agg #[.int .i64 0, .int .i64 0]) 2 16 Try.underlying23 ip ip0 ip1 ip2 rfl (by decide) _ _ _ rfl A6.out.row ⟨_, 0, none⟩ 1 1 [_, _] rfl rfl (cell_two_at (by first | rfl | simp)) (fun u hu => by simp at hu; rcases hu with rfl | rfl <;> rfl) (by rw [hlt2]; unfold maxLen; omega) (by rw [hlt2]; omega) (by have := A6.out.box.lt; omega) ?_); intro v' w9 hown' hgrow hnil; have o7 := A6.out.boxKeep hgrow; have g0 := o7.cell 0 v rfl; have g1 := o7.frz 0 v rfl; have FA : Hid _ := A6.out.append hgrow hown' wq; have hex : ∃ g cap, v' = .slice (some ⟨g, 0, none⟩) (out.length + 1) cap := (by rcases hown'.2 with ⟨_, q⟩ | ⟨g, cap, _, q, _⟩ <;> first | omega | exact ⟨_, _, q⟩); obtain ⟨g7, cap7, hv7⟩ := hex; rw [hv7]; rw [hv7] at FA; clear hown' hgrow hnil A6 o7)
                go_roundg (lb - (i + 1))
                case measure => omega
                case rel => exact ⟨i + 1, _, by omega, by go_num, by rw [hnx.out]; have f := FA.out; rw [hlt2] at f; exact f⟩
              · have hil : ¬ (i : Int) < lb := by omega
                have ei : lb = i := by omega
                subst ei
                rw [List.take_of_length_le (by rw [HQ.out.1]; omega)] at A
                obtain ⟨Gp, cp, rfl, hcp, oQ, hGp⟩ := A.out.done (by rw [HQ.out.1]; exact lb1)
                rw [HQ.out.1] at A hcp
                have RP : Hid (R3 w wr [(w1.heap.size, [Value.slice (some ⟨Gb, 0, none⟩) lb c1]), (W4.heap.size, [(Value.slice (some ⟨Gp, 0, none⟩) lb cp)])] [(Value.slice (some ⟨Gb, 0, none⟩) lb c1, ps), ((Value.slice (some ⟨Gp, 0, none⟩) lb cp), Q)] (.slice o9 0 c9) (.slice o10 lt c10) (.slice o11 lg c11) [] T G) := (R.out.made A.out.bel (x := ((Value.slice (some ⟨Gp, 0, none⟩) lb cp), Q)) (by rw [HQ.out.1]) (by rw [HQ.out.1]; exact hcp) (by omega) oQ A.out.wf).addC R.out A.out.box (Nat.le_refl _)
                clear A oQ ob PB R
                go_wp2
                as_aux_lemma =>
                  go_loopg [29, 30] lt (fun gq iv29 iv30 wr => ∃ (i : Nat) (bb : Bool), i + gq = lt ∧ iv30 = .int .i64 i ∧ iv29 = .bool bb ∧ Hid (bb = (((T.take i).any fun x => isbI Q x.2))) ∧ Hid (R3 w wr [(w1.heap.size, [Value.slice (some ⟨Gb, 0, none⟩) lb c1]), (W4.heap.size, [(Value.slice (some ⟨Gp, 0, none⟩) lb cp)])] [(Value.slice (some ⟨Gb, 0, none⟩) lb c1, ps), ((Value.slice (some ⟨Gp, 0, none⟩) lb cp), Q)] (.slice o9 0 c9) (.slice o10 lt c10) (.slice o11 lg c11) [] T G))
                  case atStart => exact ⟨0, _, by omega, rfl, rfl, rfl, RP⟩
                  case round =>
                    clear RP
                    obtain ⟨i, bb, hiq, rfl, rfl, HB, RP⟩ := hrel
                    by_cases hlast : i < lt
                    · have hil : (i : Int) < lt := by omega
                      obtain ⟨x, hx⟩ : ∃ x, T[i]? = some x := ⟨_, List.getElem?_eq_getElem (by have := HT.out.1; omega)⟩
                      have HB1 : Hid (bb = (((T.take i).any fun x => isbI Q x.2)) ∧ T[i]? = some x) := ⟨HB.out, hx⟩
                      have hxm : x ∈ T := List.mem_of_getElem? hx
                      have hxl := HT.out.2.2 x (.inl hxm)
                      obtain ⟨g, hg0, hg1, hg2⟩ := row_at (by have := RP.out.r2; rw [HT.out.1] at this; exact this) (i := i) (u := x.1) hlast (by rw [List.getElem?_map, hx]; rfl)
                      subst hg0
                      obtain ⟨Gt, ct, et, hct, oT, wT, -⟩ := RP.out.box x (.inr (.inr (.inl hxm)))
                      obtain ⟨xv, xs⟩ := x
                      dsimp only at *
                      subst et
                      rw [hxl] at hct hg2
                      clear hx hxm HB
                      cases bb with
                      | true =>
                        go_wp2
                        go_quiet (skip)
                        go_wp2
                        go_roundg (lt - (i + 1))
                        case measure => omega
                        case rel => exact ⟨i + 1, true, by omega, by go_num, rfl, by show _ = _; rw [any_snoc HB1.out.2, ← HB1.out.1]; rfl, RP.out.drewN nq⟩
                      | false =>
                        have IS := fun W (h : PairsAt W (some ⟨Gp, 0, none⟩) Q) (h' : PairsAt W (some ⟨Gt, 0, none⟩) xs) => implBoxIs W (some ⟨Gp, 0, none⟩) (some ⟨Gt, 0, none⟩) Q xs cp ct h h' (by rw [HQ.out.1]; exact hcp) (by rw [hxl]; exact hct) (by rw [HQ.out.1]; omega) (by rw [hxl]; omega)
                        rw [HQ.out.1, hxl] at IS
                        have op := RP.out.own 1 rfl
                        have pp := RP.out.pairs 1 rfl
                        have pt := oT.at wT
                        go_wp2
                        refine region_below (by kernel_rfl) (by kernel_rfl) ?_
                        repeat (first
                          | go_big_quiet_step (first
                            | (intro hC; go_at_call 17; exact Calls.qb hC (IS _ (pp.below hC) (pt.below hC)))
                            | (intro _; rfl))
                          | (go_big_quiet_want
                             go_big_quiet_op
                             refine ⟨.agg #[(Value.slice (some ⟨Gp, 0, none⟩) lb cp)], ?_, ?_⟩
                             · intro W hC
                               have r0 := (hC.cell (p := ⟨W4.heap.size, 0, none⟩) op.lt).trans (op.cell 0 _ rfl)
                               go_simp
                             go_big_quiet_on)
                          | (go_big_quiet_want
                             go_big_quiet_op
                             refine ⟨.agg #[.slice (some ⟨Gt, 0, none⟩) lb ct], ?_, ?_⟩
                             · intro W hC
                               have r0 := (hC.cell (p := ⟨g, i, none⟩) hg1).trans hg2
                               go_simp
                             go_big_quiet_on))
                        refine wpQuiet_nil ?_
                        intro w8 q8
                        go_wp2
                        go_roundg (lt - (i + 1))
                        case measure => omega
                        case rel => exact ⟨i + 1, _, by omega, by go_num, rfl, by show _ = _; rw [any_snoc HB1.out.2, ← HB1.out.1]; rfl, RP.out.below q8⟩
                    · have hil : ¬ (i : Int) < lt := by omega
                      have ei : lt = i := by omega
                      subst ei
                      replace HB : Hid (bb = ((T.any fun x => isbI Q x.2))) := by have := HB.out; rw [List.take_of_length_le (by have := HT.out.1; omega)] at this; exact this
                      go_wp2
                      go_loopg [29, 31] lg (fun gq iv29 iv31 wr => ∃ (i : Nat) (bb : Bool), i + gq = lg ∧ iv31 = .int .i64 i ∧ iv29 = .bool bb ∧ Hid (bb = ((T.any fun x => isbI Q x.2) || ((G.take i).any fun x => isbI Q x.2))) ∧ Hid (R3 w wr [(w1.heap.size, [Value.slice (some ⟨Gb, 0, none⟩) lb c1]), (W4.heap.size, [(Value.slice (some ⟨Gp, 0, none⟩) lb cp)])] [(Value.slice (some ⟨Gb, 0, none⟩) lb c1, ps), ((Value.slice (some ⟨Gp, 0, none⟩) lb cp), Q)] (.slice o9 0 c9) (.slice o10 lt c10) (.slice o11 lg c11) [] T G))
                      case atStart => exact ⟨0, _, by omega, rfl, rfl, (by show _ = _; rw [HB.out]; simp), RP⟩
                      case round =>
                        clear RP
                        obtain ⟨i, bb, hiq, rfl, rfl, HB, RP⟩ := hrel
                        by_cases hlast : i < lg
                        · have hil : (i : Int) < lg := by omega
                          obtain ⟨x, hx⟩ : ∃ x, G[i]? = some x := ⟨_, List.getElem?_eq_getElem (by have := HT.out.2.1; omega)⟩
                          have HB1 : Hid (bb = ((T.any fun x => isbI Q x.2) || ((G.take i).any fun x => isbI Q x.2)) ∧ G[i]? = some x) := ⟨HB.out, hx⟩
                          have hxm : x ∈ G := List.mem_of_getElem? hx
                          have hxl := HT.out.2.2 x (.inr hxm)
                          obtain ⟨g, hg0, hg1, hg2⟩ := row_at (by have := RP.out.r3; rw [HT.out.2.1] at this; exact this) (i := i) (u := x.1) hlast (by rw [List.getElem?_map, hx]; rfl)
                          subst hg0
                          obtain ⟨Gt, ct, et, hct, oT, wT, -⟩ := RP.out.box x (.inr (.inr (.inr hxm)))
                          obtain ⟨xv, xs⟩ := x
                          dsimp only at *
                          subst et
                          rw [hxl] at hct hg2
                          clear hx hxm HB
                          cases bb with
                          | true =>
                            go_wp2
                            go_quiet (skip)
                            go_wp2
                            go_roundg (lg - (i + 1))
                            case measure => omega
                            case rel => exact ⟨i + 1, true, by omega, by go_num, rfl, by show _ = _; rw [any_snoc HB1.out.2, ← Bool.or_assoc, ← HB1.out.1]; rfl, RP.out.drewN nq⟩
                          | false =>
                            have IS := fun W (h : PairsAt W (some ⟨Gp, 0, none⟩) Q) (h' : PairsAt W (some ⟨Gt, 0, none⟩) xs) => implBoxIs W (some ⟨Gp, 0, none⟩) (some ⟨Gt, 0, none⟩) Q xs cp ct h h' (by rw [HQ.out.1]; exact hcp) (by rw [hxl]; exact hct) (by rw [HQ.out.1]; omega) (by rw [hxl]; omega)
                            rw [HQ.out.1, hxl] at IS
                            have op := RP.out.own 1 rfl
                            have pp := RP.out.pairs 1 rfl
                            have pt := oT.at wT
                            go_wp2
                            refine region_below (by kernel_rfl) (by kernel_rfl) ?_
                            repeat (first
                              | go_big_quiet_step (first
                                | (intro hC; go_at_call 17; exact Calls.qb hC (IS _ (pp.below hC) (pt.below hC)))
                                | (intro _; rfl))
                              | (go_big_quiet_want
                                 go_big_quiet_op
                                 refine ⟨.agg #[(Value.slice (some ⟨Gp, 0, none⟩) lb cp)], ?_, ?_⟩
                                 · intro W hC
                                   have r0 := (hC.cell (p := ⟨W4.heap.size, 0, none⟩) op.lt).trans (op.cell 0 _ rfl)
                                   go_simp
                                 go_big_quiet_on)
                              | (go_big_quiet_want
                                 go_big_quiet_op
                                 refine ⟨.agg #[.slice (some ⟨Gt, 0, none⟩) lb ct], ?_, ?_⟩
                                 · intro W hC
                                   have r0 := (hC.cell (p := ⟨g, i, none⟩) hg1).trans hg2
                                   go_simp
                                 go_big_quiet_on))
                            refine wpQuiet_nil ?_
                            intro w8 q8
                            go_wp2
                            go_roundg (lg - (i + 1))
                            case measure => omega
                            case rel => exact ⟨i + 1, _, by omega, by go_num, rfl, by show _ = _; rw [any_snoc HB1.out.2, ← Bool.or_assoc, ← HB1.out.1]; rfl, RP.out.below q8⟩
                        · have hil : ¬ (i : Int) < lg := by omega
                          have ei : lg = i := by omega
                          subst ei
                          replace HB : Hid (bb = ((T.any fun x => isbI Q x.2) || (G.any fun x => isbI Q x.2))) := by have := HB.out; rw [List.take_of_length_le (by have := HT.out.2.1; omega)] at this; exact this
                          have e1 : bb = true := HB.out.trans HV.out
                          subst e1
                          clear HB
                          go_wp2
                          go_roundg (5 - (t + 1))
                          case measure => omega
                          case rel => exact ⟨t + 1, by omega, by go_num, RP.out.fewer (fun c hc => by simp at hc; simp [hc]) (fun c hc => by simp at hc; simp [hc])⟩
          · have ht2 : ¬ (t : Int) < 5 := by omega
            go_wp2
            go_ret
            exact ⟨rfl, R.out.bel⟩
    · rw [List.concat_eq_append] at *
      obtain ⟨xb, xl, xw, hkU, hmP, hxu⟩ := Us.out.top
      obtain ⟨Gx, cx, ex, hcx, oP, -, -⟩ := R.out.box x (by simp)
      obtain ⟨g9, rfl, hg9, hcell⟩ := hs9 (by simp)
      have cx0 := hcell S.length x.1 (by simp)
      obtain ⟨xv, xs⟩ := x
      dsimp only at *
      rw [HE.out.2.2] at xl
      rw [xl] at ex hcx
      subst ex
      obtain ⟨j, hj, hjl⟩ := widest_at xb
      rw [xl] at hjl
      simp only [List.length_append, List.length_cons, List.length_nil, Nat.zero_add] at R hmP hc9 ⊢
      obtain ⟨m, hm⟩ : ∃ m, S.length = m := ⟨_, rfl⟩
      have R2 : Hid _ := ((R.out.pop).cells #[.slice (some ⟨Gx, 0, none⟩) lb cx] 25)
      have HM : Hid (S.length = m ∧ xs.length = lb ∧ bokI n xs = true ∧ widestI n xs = j ∧ lb ≤ cx) := ⟨hm, xl, xb, hj, hcx⟩
      rw [hm] at R R2 hmP hc9 cx0 ⊢
      have WI := fun W (h : PairsAt W (some ⟨Gx, 0, none⟩) xs) => implBoxWidest W n (some ⟨Gx, 0, none⟩) xs cx h (by rw [HM.out.2.1]; exact hcx) (by rw [HM.out.2.1]; have := HP.out.2.2.1; rw [HE.out.2.2] at this; omega)
      rw [hj, xl] at WI
      have hm3 : m ≤ 3000 := by
        have h1 := Us.out.sum
        rw [sumU_app, sumU_one] at h1
        have h2 := sumU_len S
        have h3 := un_pos xs
        dsimp only at h1
        omega
      clear hm xl xb hj hcx hs9 hcell
      have hjm : (Lit.int .i64 (at2 xs j).1).wf = true ∧ (Lit.int .i64 (at2 xs j).2).wf = true := xw _ (List.mem_of_getElem? (at2_get (by rw [HM.out.2.1]; exact hjl)))
      have pj := at2_get (ps := xs) (i := j) (by rw [HM.out.2.1]; exact hjl)
      have GA := fun W => (implGap W (at2 xs j).1 (at2 xs j).2 hjm.1 hjm.2).mono (fun e w' (h : _ ∧ W = w') => (⟨h.1, h.2.symm⟩ : _ ∧ w' = W))
      have BZ := fun W (q : Below w.heap.size w W) => BY W q k (by omega)
      have hz := HMB.out k
      have hjb : (j : Int) < lb := by omega
      have HG : Hid (at2 xs j = ((at2 xs j).1, (at2 xs j).2) ∧ gapI (at2 xs j).1 (at2 xs j).2 = gapI (at2 xs j).1 (at2 xs j).2) := ⟨rfl, rfl⟩
      rcases hat : at2 xs j with ⟨lo, hi'⟩
      rw [hat] at GA hjm pj
      dsimp only at GA hjm
      obtain ⟨gg, hgg⟩ : ∃ g, gapI lo hi' = g := ⟨_, rfl⟩
      rw [hgg] at GA
      have HA : Hid (at2 xs j = (lo, hi') ∧ gapI lo hi' = gg ∧ j < lb ∧ (∀ p ∈ xs, Wf p)) := ⟨hat, hgg, hjl, xw⟩
      have hgb := gap_bounds hjm.1 hjm.2
      rw [hgg] at hgb
      obtain ⟨zz, hzz⟩ : ∃ z, mb k = z := ⟨_, rfl⟩
      rw [hzz] at BZ hz
      clear hat hgg hzz HG hjl xw hxu hjm BY
      have e0 := (oP.cell j _ pj).1
      have e1 := (oP.cell j _ pj).2
      dsimp only at e0 e1
      clear pj
      go_wp2_with (go_at_call 13; refine (WI _ (((oP.at (by exact HA.out.2.2.2)).below ((Below.refl _ _).alloc (Nat.le_refl _) _)))).mono ?_; rintro e w7 ⟨rfl, q⟩; have q7 : Below wr.heap.size wr w7 := ((Below.refl _ wr).alloc (Nat.le_refl _) _).trans (q.mono (by simp)); replace R2 : Hid _ := R2.out.below q; clear q WI; have x0 := (R2.out.cell (wr.heap.size, [.slice (some ⟨Gx, 0, none⟩) lb cx]) (by simp)).1.cell 0 _ rfl; replace e0 := (q7.cell (p := ⟨Gx, j * 2, none⟩) oP.lt).trans e0; replace e1 := (q7.cell (p := ⟨Gx, j * 2 + 1, none⟩) oP.lt).trans e1)
      go_quiet (first | (go_at_call 14; exact Calls.quiet_of_same (GA _)))
      replace R2 : Hid _ := R2.out.drewN nq
      clear GA
      by_cases hg2 : gg < 2
      · as_aux_lemma =>
          have R3a : Hid _ := R2.out.alloc (.cells #[.slice (some ⟨Gx, 0, none⟩) lb cx] 25)
          have hT := Us.out.lt
          go_wp2_with first
            | (go_at_call 15; refine (BZ _ R2.out.bel).mono ?_; rintro e w8 ⟨rfl, rfl⟩; clear BZ)
            | (at_builtin; (refine wpList_append_own_at _ rfl _ _ 29 rfl w.heap.size 25 i0 (.agg #[.slice none 0 0]) 1 24 Try.underlying29 hi hz0 hz1 hz2 rfl (by decide) _ _ _ rfl (R3a.out.r2) ⟨_, 0, none⟩ 1 1 [_] rfl rfl (cell_one_at (by first | rfl | simp)) (fun u hu => by simp at hu; rcases hu with rfl; rfl) (by unfold maxLen; omega) (by omega) (R3a.out.bel.size) ?_); intro v8 w9 hown hgrow hnil hat; have R4 : Hid _ := R3a.out.app2 (x := (.slice (some ⟨Gx, 0, none⟩) lb cx, xs)) (by simp) hgrow hown hat; clear hown hgrow hnil hat R3a R2)
          go_roundg (U.toNat - (k + 1))
          case measure => omega
          case rel => exact ⟨k + 1, S, _, G, by omega, by go_num, (R4.out.fewer (fun c hc => by simp at hc; simp [hc]) (fun c hc => by simp at hc; simp [hc])), Us.out.told⟩
      have tm4 := Int.tmod_eq_emod_of_nonneg (b := 4) hz.1
      have tm8 := Int.tmod_eq_emod_of_nonneg (b := 8) hz.1
      have hg3 : ¬ gg < 2 := hg2
      have hxin : (Value.slice (some ⟨Gx, 0, none⟩) lb cx, xs) ∈ [(Value.slice a1 lb c1, ps)] ++ [(Value.slice (some ⟨Gx, 0, none⟩) lb cx, xs)] := by simp
      by_cases h41 : zz % 4 = 1
      · as_aux_lemma =>
          rw [h41] at tm4
          clear tm8
          have R3a : Hid _ := R2.out.alloc (.cells #[.slice (some ⟨Gx, 0, none⟩) lb cx] 25)
          have hT := Us.out.lg
          go_wp2_with first
            | (go_at_call 15; refine (BZ _ R2.out.bel).mono ?_; rintro e w8 ⟨rfl, rfl⟩; clear BZ)
            | (at_builtin; (refine wpList_append_own_at _ rfl _ _ 29 rfl w.heap.size 25 i0 (.agg #[.slice none 0 0]) 1 24 Try.underlying29 hi hz0 hz1 hz2 rfl (by decide) _ _ _ rfl (R3a.out.r3) ⟨_, 0, none⟩ 1 1 [_] rfl rfl (cell_one_at (by first | rfl | simp)) (fun u hu => by simp at hu; rcases hu with rfl; rfl) (by unfold maxLen; omega) (by omega) (R3a.out.bel.size) ?_); intro v8 w9 hown hgrow hnil hat; have R4 : Hid _ := R3a.out.app3 (x := (.slice (some ⟨Gx, 0, none⟩) lb cx, xs)) hxin hgrow hown hat; clear hown hgrow hnil hat R3a R2)
          go_roundg (U.toNat - (k + 1))
          case measure => omega
          case rel => exact ⟨k + 1, S, T, _, by omega, by go_num, (R4.out.fewer (fun c hc => by simp at hc; simp [hc]) (fun c hc => by simp at hc; simp [hc])), Us.out.gone⟩
      by_cases h40 : zz % 4 = 0
      · rw [h40] at tm4
        have wlo : Wf (lo, hi') := by have := HA.out.2.2.2 _ (List.mem_of_getElem? (at2_get (i := j) (by rw [HM.out.2.1]; exact HA.out.2.2.1))); rw [HA.out.1] at this; exact this
        have hl2 : lo + 2 ≤ hi' := gap_two (by rw [HA.out.2.1]; omega)
        have b1 := i64_bounds wlo.1
        have b2 := i64_bounds wlo.2
        dsimp only at b1 b2
        have hgx : 2 ≤ gp (at2 xs j) := by show 2 ≤ gapI (at2 xs j).1 (at2 xs j).2; rw [HA.out.1]; dsimp only; rw [HA.out.2.1]; omega
        have hjx : j < xs.length := by rw [HM.out.2.1]; exact HA.out.2.2.1
        have lb6 : lb ≤ 6 := by have := HP.out.2.2.1; rw [HE.out.2.2] at this; omega
        have lb1 : 1 ≤ lb := by have := HP.out.2.1; rw [HE.out.2.2] at this; exact this
        have Un : Hid (∀ (y z : BV) (r1 r2 : Int × Int), y.2 = xs.set j r1 → z.2 = xs.set j r2 → ((r1 = (lo + 1, hi') ∧ r2 = (lo, lo + 1)) ∨ (r1 = (lo, hi' - 1) ∧ r2 = (hi' - 1, hi'))) → Used n ps U PA (k + 1) (S ++ [y]) T (G ++ [z])) := fun y z r1 r2 hy hz hr => Us.out.step (by omega) hjx hgx hy hz (by have e := HA.out.1; dsimp only; rw [e]; exact hr)
        have hlg := Us.out.lg
        obtain ⟨i2, ip, ip0, ip1, ip2⟩ := info_parts infoPair
        have HX : Hid (xs.length = lb ∧ j < lb ∧ at2 xs j = (lo, hi') ∧ S.length = m) := ⟨HM.out.2.1, HA.out.2.2.1, HA.out.1, HM.out.1⟩
        have hjl := HA.out.2.2.1
        clear hgx hjx R e0 e1 x0 q7 cx0 oP HA HM
        generalize w7.drewN nq = W1 at *
        have o13 : Hid _ := R2.out.own 1 rfl
        have PX : Hid (PairsAt W1 (some ⟨Gx, 0, none⟩) xs) := R2.out.pairs 1 rfl
        have l13 := o13.out.lt
        generalize wr.heap.size = kx at *
        have A0 : Hid (Cp W1 (xs.take 0) (.slice none 0 0) (W1.alloc (.cells #[.slice none 0 0] 25))) := Cp.start W1
        go_wp2_with (go_at_call 15; refine (BZ _ R2.out.bel).mono ?_; rintro e w8 ⟨rfl, rfl⟩; clear BZ)
        go_loopg [18] lb (fun gq iv wr => ∃ (i : Nat) (v : Value), i + gq = lb ∧ iv = .int .i64 i ∧ Hid (Cp W1 (xs.take i) v wr))
        case atStart => exact ⟨0, _, by omega, rfl, A0⟩
        case round =>
          clear A0
          obtain ⟨i, v, hiq, rfl, A⟩ := hrel
          have b0 := (A.out.bel.cell (p := ⟨kx, 0, none⟩) l13).trans (o13.out.cell 0 _ rfl)
          by_cases hlast : i < lb
          · as_aux_lemma =>
              have hil : (i : Int) < lb := by omega
              have hlt2 : (xs.take i).length = i := by rw [List.length_take, HX.out.1]; omega
              have e0 := A.out.box.cell 0 v rfl
              have hnx : Hid (xs.take (i + 1) = xs.take i ++ [((at2 xs i).1, (at2 xs i).2)]) := take_set (by rw [HX.out.1]; exact hlast)
              obtain ⟨sb, so, hb, hlt', c0, c1'⟩ := (PX.out.below (A.out.bel)).atD (i := i) (by rw [HX.out.1]; exact hlast)
              injection hb with hb
              injection hb with ea eb
              subst ea eb
              simp only [Nat.zero_add] at c0 c1'
              have hgw := PX.out.wfD (i := i) (by rw [HX.out.1]; exact hlast)
              generalize (at2 xs i).1 = u at *
              generalize (at2 xs i).2 = z at *
              generalize xs.take i = out at *
              have A6 : Hid (Cp W1 out v ((wr.drew).alloc (.cells #[.int .i64 u, .int .i64 z] 33))) := A.out.drew.below ((Below.refl _ _).alloc (Nat.le_refl _) (.cells #[.int .i64 u, .int .i64 z] 33))
              have e3 := A6.out.box.cell 0 v rfl
              have e4 := A.out.box.lt
              go_wp2
              go_region_law (refine step_append_own rfl (.tmp 144) (.tmp 150) 23 rfl (W1.heap.size + 1) 33 i2 (.agg #[.int .i64 0, .int .i64 0]) 2 16 Try.underlying23 ip ip0 ip1 ip2 rfl (by decide) v _ _ (by simp [Act.eval]) A6.out.row ⟨_, 0, none⟩ 1 1 [_, _] (by simp [Act.eval]; rfl) rfl (cell_two_at (by first | rfl | simp)) (fun u hu => by simp at hu; rcases hu with rfl | rfl <;> rfl) (by rw [hlt2]; unfold maxLen; omega) (by rw [hlt2]; omega) A6.out.box.lt ?_; intro v' w9 hown' hgrow; have o7 := A6.out.boxKeep hgrow; have g0 := o7.cell 0 v rfl; have g1 := o7.frz 0 v rfl; have FA : Hid _ := A6.out.append hgrow hown' hgw; have hex : ∃ g cap, v' = .slice (some ⟨g, 0, none⟩) (out.length + 1) cap := (by rcases hown'.2 with ⟨_, q⟩ | ⟨g, cap, _, q, _⟩ <;> first | omega | exact ⟨_, _, q⟩); obtain ⟨g7, cap7, hv7⟩ := hex; rw [hv7]; rw [hv7] at FA; clear hown' hgrow o7)
              all_goals go_wp2
              all_goals
                go_roundg (lb - (i + 1))
                case measure => omega
                case rel => exact ⟨i + 1, _, by omega, by go_num, by rw [hnx.out]; have f := FA.out; rw [hlt2] at f; exact f⟩
          · as_aux_lemma =>
              have hil : ¬ (i : Int) < lb := by omega
              have ei : lb = i := by omega
              subst ei
              rw [List.take_of_length_le (by rw [HX.out.1]; omega)] at A
              obtain ⟨Gy, cy, rfl, hcy, oY, hGy⟩ := A.out.done (by rw [HX.out.1]; exact lb1)
              rw [HX.out.1] at A hcy
              have e0 := A.out.box.cell 0 _ rfl
              have hgj : xs[j]? = some (lo, hi') := by rw [← HX.out.2.2.1]; exact at2_get (by rw [HX.out.1]; exact hjl)
              obtain ⟨c0, c1'⟩ := oY.cell j _ hgj
              obtain ⟨f0, f1⟩ := oY.frz j _ hgj
              dsimp only at c0 c1' f0 f1
              have hGl := oY.lt
              have hBl := A.out.box.lt
              have hjb : (j : Int) < lb := by omega
              have oYh : Hid _ := oY
              clear hgj oY
              by_cases h8 : zz % 8 = 0
              · rw [h8] at tm8
                go_wp2
                as_aux_lemma =>
                  have Q5 : Hid (Below W1.heap.size W1 (((wr.setCell ⟨Gy, j * 2, none⟩ (.int .i64 (lo + 1))).setCell ⟨Gy, j * 2 + 1, none⟩ (.int .i64 (hi'))).alloc (.cells #[.int .i64 (lo), .int .i64 (lo + 1)] 33)) ∧ OwnP (((wr.setCell ⟨Gy, j * 2, none⟩ (.int .i64 (lo + 1))).setCell ⟨Gy, j * 2 + 1, none⟩ (.int .i64 (hi'))).alloc (.cells #[.int .i64 (lo), .int .i64 (lo + 1)] 33)) Gy (xs.set j (lo + 1, hi')) ∧ Own (((wr.setCell ⟨Gy, j * 2, none⟩ (.int .i64 (lo + 1))).setCell ⟨Gy, j * 2 + 1, none⟩ (.int .i64 (hi'))).alloc (.cells #[.int .i64 (lo), .int .i64 (lo + 1)] 33)) W1.heap.size [(Value.slice (some ⟨Gy, 0, none⟩) lb cy)] ∧ Own (((wr.setCell ⟨Gy, j * 2, none⟩ (.int .i64 (lo + 1))).setCell ⟨Gy, j * 2 + 1, none⟩ (.int .i64 (hi'))).alloc (.cells #[.int .i64 (lo), .int .i64 (lo + 1)] 33)) wr.heap.size [.int .i64 (lo), .int .i64 (lo + 1)]) := by
                    refine ⟨((A.out.bel.setCell (p := ⟨Gy, j * 2, none⟩) (by dsimp only; omega) _).setCell (p := ⟨Gy, j * 2 + 1, none⟩) (by dsimp only; omega) _).alloc (by simp only [World.size_setCell]; omega) _, (oYh.out.setPair (i := j) (lo + 1) (hi') (by rw [HX.out.1]; exact hjl)).below ((Below.refl _ _).alloc (Nat.le_refl _) _), ((A.out.box.other (j := Gy) (i := j * 2) _ (by omega)).other (j := Gy) (i := j * 2 + 1) _ (by omega)).alloc _, ?_⟩
                    have := Own.new ((wr.setCell ⟨Gy, j * 2, none⟩ (.int .i64 (lo + 1))).setCell ⟨Gy, j * 2 + 1, none⟩ (.int .i64 (hi'))) #[.int .i64 (lo), .int .i64 (lo + 1)] 33
                    simp only [World.size_setCell] at this
                    exact this
                  have hz5 : ((((wr.setCell ⟨Gy, j * 2, none⟩ (.int .i64 (lo + 1))).setCell ⟨Gy, j * 2 + 1, none⟩ (.int .i64 (hi'))).alloc (.cells #[.int .i64 (lo), .int .i64 (lo + 1)] 33))).heap.size = wr.heap.size + 1 := by simp
                  clear e0 c0 c1' f0 f1 oYh A b0
                  generalize (((wr.setCell ⟨Gy, j * 2, none⟩ (.int .i64 (lo + 1))).setCell ⟨Gy, j * 2 + 1, none⟩ (.int .i64 (hi'))).alloc (.cells #[.int .i64 (lo), .int .i64 (lo + 1)] 33)) = W5 at *
                  generalize wr.heap.size = kc at *
                  rw [← hz5]
                  clear hz5
                  have WR : Hid (Wf (lo + 1, hi') ∧ Wf (lo, lo + 1)) := ⟨⟨i64_wf (by omega) (by omega), i64_wf (by omega) (by omega)⟩, i64_wf (by omega) (by omega), i64_wf (by omega) (by omega)⟩
                  have R5 : Hid _ := R2.out.below Q5.out.1
                  have o5 : Hid (Own W5 kx [.slice (some ⟨Gx, 0, none⟩) lb cx]) := o13.out.below Q5.out.1
                  have l5 := o5.out.lt
                  have l6 := Q5.out.2.2.2.lt
                  replace PX : Hid (PairsAt W5 (some ⟨Gx, 0, none⟩) xs) := PX.out.below Q5.out.1
                  have Un5 : Hid (∀ (y z : BV), y.2 = xs.set j (lo + 1, hi') → z.2 = xs.set j (lo, lo + 1) → Used n ps U PA (k + 1) (S ++ [y]) T (G ++ [z])) := fun y z hy hz => Un.out y z _ _ hy hz (.inl ⟨rfl, rfl⟩)
                  have HY : Hid ((xs.set j (lo + 1, hi')).length = lb ∧ ∀ p ∈ xs.set j (lo + 1, hi'), Wf p) := ⟨by rw [List.length_set]; exact HX.out.1, wf_set PX.out.1 WR.out.1⟩
                  have HL : Hid ((xs.set j (lo, lo + 1)).length = lb ∧ at2 (xs.set j (lo, lo + 1)) j = (lo, lo + 1) ∧ (∀ i, i ≠ j → at2 (xs.set j (lo, lo + 1)) i = at2 xs i)) := ⟨by rw [List.length_set]; exact HX.out.1, at2_set_self _ (by rw [HX.out.1]; exact hjl), fun i hi => at2_set_other _ hi⟩
                  generalize xs.set j (lo + 1, hi') = Y at Q5 HY Un5
                  generalize xs.set j (lo, lo + 1) = L at HL Un5
                  have wq := WR.out.2
                  clear Un WR
                  have A0 : Hid (Cp W5 (L.take 0) (.slice none 0 0) (W5.alloc (.cells #[.slice none 0 0] 25))) := Cp.start W5
                  go_loopg [21] lb (fun gq iv wr => ∃ (i : Nat) (v : Value), i + gq = lb ∧ iv = .int .i64 i ∧ Hid (Cp W5 (L.take i) v wr))
                  case atStart => exact ⟨0, _, by omega, rfl, A0⟩
                  case round =>
                    clear A0
                    obtain ⟨i, v, hiq, rfl, A⟩ := hrel
                    have b0 := (A.out.bel.cell (p := ⟨kx, 0, none⟩) l5).trans (o5.out.cell 0 _ rfl)
                    by_cases hlast : i < lb
                    · have hil : (i : Int) < lb := by omega
                      have hlt2 : (L.take i).length = i := by rw [List.length_take, HL.out.1]; omega
                      have e0 := A.out.box.cell 0 v rfl
                      by_cases hij : i = j
                      · obtain rfl : j = i := hij.symm
                        have k0 := (A.out.bel.cell (p := ⟨kc, 0, none⟩) l6).trans (Q5.out.2.2.2.cell 0 _ rfl)
                        have k1 := (A.out.bel.cell (p := ⟨kc, 1, none⟩) l6).trans (Q5.out.2.2.2.cell 1 _ rfl)
                        have hnx : Hid (L.take (j + 1) = L.take j ++ [(lo, lo + 1)]) := by show L.take (j + 1) = _; rw [take_set (by rw [HL.out.1]; exact hlast), HL.out.2.1]
                        have A6 : Hid _ := A.out.below ((Below.refl _ _).alloc (Nat.le_refl _) (.cells #[.int .i64 (lo), .int .i64 (lo + 1)] 33))
                        generalize L.take j = out at *
                        go_wp2_with first
                          | (at_builtin; (refine wpList_append_own _ rfl _ _ 23 rfl (W5.heap.size + 1) 33 i2 (.agg #[.int .i64 0, .int .i64 0]) 2 16 Try.underlying23 ip ip0 ip1 ip2 rfl (by decide) _ _ _ rfl A6.out.row ⟨_, 0, none⟩ 1 1 [_, _] rfl rfl (cell_two_at (by first | rfl | simp)) (fun u hu => by simp at hu; rcases hu with rfl | rfl <;> rfl) (by rw [hlt2]; unfold maxLen; omega) (by rw [hlt2]; omega) (by have := A6.out.box.lt; omega) ?_); intro v' w9 hown' hgrow hnil; have o7 := A6.out.boxKeep hgrow; have g0 := o7.cell 0 v rfl; have g1 := o7.frz 0 v rfl; have FA : Hid _ := A6.out.append hgrow hown' wq; have hex : ∃ g cap, v' = .slice (some ⟨g, 0, none⟩) (out.length + 1) cap := (by rcases hown'.2 with ⟨_, q⟩ | ⟨g, cap, _, q, _⟩ <;> first | omega | exact ⟨_, _, q⟩); obtain ⟨g7, cap7, hv7⟩ := hex; rw [hv7]; rw [hv7] at FA; clear hown' hgrow hnil A6 o7)
                        go_roundg (lb - (j + 1))
                        case measure => omega
                        case rel => exact ⟨j + 1, _, by omega, by go_num, by rw [hnx.out]; have f := FA.out; rw [hlt2] at f; exact f⟩
                      · have hij2 : ¬ (i : Int) = j := by omega
                        have hnx : Hid (L.take (i + 1) = L.take i ++ [((at2 xs i).1, (at2 xs i).2)]) := by show L.take (i + 1) = _; rw [take_set (by rw [HL.out.1]; exact hlast), HL.out.2.2 i hij]
                        obtain ⟨sb, so, hb, hlt', c0, c1'⟩ := (PX.out.below (A.out.bel)).atD (i := i) (by rw [HX.out.1]; exact hlast)
                        injection hb with hb
                        injection hb with ea eb
                        subst ea eb
                        simp only [Nat.zero_add] at c0 c1'
                        have hgw := PX.out.wfD (i := i) (by rw [HX.out.1]; exact hlast)
                        generalize (at2 xs i).1 = u at *
                        generalize (at2 xs i).2 = z at *
                        generalize L.take i = out at *
                        have A6 : Hid (Cp W5 out v ((wr.drew).alloc (.cells #[.int .i64 u, .int .i64 z] 33))) := A.out.drew.below ((Below.refl _ _).alloc (Nat.le_refl _) (.cells #[.int .i64 u, .int .i64 z] 33))
                        have e3 := A6.out.box.cell 0 v rfl
                        have e4 := A.out.box.lt
                        go_wp2
                        go_region_law (refine step_append_own rfl (.tmp 207) (.tmp 213) 23 rfl (W5.heap.size + 1) 33 i2 (.agg #[.int .i64 0, .int .i64 0]) 2 16 Try.underlying23 ip ip0 ip1 ip2 rfl (by decide) v _ _ (by simp [Act.eval]) A6.out.row ⟨_, 0, none⟩ 1 1 [_, _] (by simp [Act.eval]; rfl) rfl (cell_two_at (by first | rfl | simp)) (fun u hu => by simp at hu; rcases hu with rfl | rfl <;> rfl) (by rw [hlt2]; unfold maxLen; omega) (by rw [hlt2]; omega) A6.out.box.lt ?_; intro v' w9 hown' hgrow; have o7 := A6.out.boxKeep hgrow; have g0 := o7.cell 0 v rfl; have g1 := o7.frz 0 v rfl; have FA : Hid _ := A6.out.append hgrow hown' hgw; have hex : ∃ g cap, v' = .slice (some ⟨g, 0, none⟩) (out.length + 1) cap := (by rcases hown'.2 with ⟨_, q⟩ | ⟨g, cap, _, q, _⟩ <;> first | omega | exact ⟨_, _, q⟩); obtain ⟨g7, cap7, hv7⟩ := hex; rw [hv7]; rw [hv7] at FA; clear hown' hgrow o7)
                        all_goals go_wp2
                        all_goals
                          go_roundg (lb - (i + 1))
                          case measure => omega
                          case rel => exact ⟨i + 1, _, by omega, by go_num, by rw [hnx.out]; have f := FA.out; rw [hlt2] at f; exact f⟩
                    · have hil : ¬ (i : Int) < lb := by omega
                      have ei : lb = i := by omega
                      subst ei
                      rw [List.take_of_length_le (by rw [HL.out.1]; omega)] at A
                      obtain ⟨Gz, cz, rfl, hcz, oZ, hGz⟩ := A.out.done (by rw [HL.out.1]; exact lb1)
                      rw [HL.out.1] at A hcz
                      have R6 : Hid _ := R2.out.two Q5.out.1 HY.out.1 hcy (by omega) Q5.out.2.1 HY.out.2 Q5.out.2.2.1 (Nat.le_refl _) HL.out.1 hcz (by omega) A.out oZ
                      have z0 := (R6.out.own 3 rfl).cell 0 _ rfl
                      have R7 : Hid _ := R6.out.alloc (.cells #[.slice (some ⟨Gz, 0, none⟩) lb cz] 25)
                      clear oZ A Q5 R2 R5 PX o5 o13
                      go_wp2_with first
                        | (at_builtin; (refine wpList_append_own_at _ rfl _ _ 29 rfl w.heap.size 25 i0 (.agg #[.slice none 0 0]) 1 24 Try.underlying29 hi hz0 hz1 hz2 rfl (by decide) _ _ _ rfl (R7.out.r3) ⟨_, 0, none⟩ 1 1 [_] rfl rfl (cell_one_at (by first | rfl | simp)) (fun u hu => by simp at hu; rcases hu with rfl; rfl) (by unfold maxLen; omega) (by omega) (R7.out.bel.size) ?_); intro v10 w10 hown hgrow hnil hat; have R8 : Hid _ := R7.out.app3 (x := (.slice (some ⟨Gz, 0, none⟩) lb cz, L)) (by simp) hgrow hown hat; clear hown hgrow hnil hat R7 R6 z0 b0; have y0 := (R8.out.own 2 rfl).cell 0 _ rfl; have R9 : Hid _ := R8.out.alloc (.cells #[.slice (some ⟨Gy, 0, none⟩) lb cy] 25))
                        | (at_builtin; (refine wpList_append_own_at _ rfl _ _ 29 rfl w.heap.size 25 i0 (.agg #[.slice none 0 0]) 1 24 Try.underlying29 hi hz0 hz1 hz2 rfl (by decide) _ _ _ rfl (R9.out.r1) ⟨_, 0, none⟩ 1 1 [_] rfl rfl (cell_one_at (by first | rfl | simp)) (fun u hu => by simp at hu; rcases hu with rfl; rfl) (by unfold maxLen; (try rw [HX.out.2.2.2]); omega) (by (try rw [HX.out.2.2.2]); omega) (R9.out.bel.size) ?_); intro v13 w13 hown hgrow hnil hat; have R10 : Hid _ := R9.out.app1 (x := (.slice (some ⟨Gy, 0, none⟩) lb cy, Y)) (by simp) hgrow hown hat; clear hown hgrow hnil hat R8 R9 y0)
                      go_roundg (U.toNat - (k + 1))
                      case measure => omega
                      case rel => exact ⟨k + 1, _, T, _, by omega, by go_num, (R10.out.fewer (fun c hc => by simp at hc; simp [hc]) (fun c hc => by simp at hc; simp [hc])), Un5.out _ _ rfl rfl⟩
              · have ne8 : ¬ zz.tmod 8 = 0 := by omega
                clear tm8
                go_wp2
                as_aux_lemma =>
                  have Q5 : Hid (Below W1.heap.size W1 (((wr.setCell ⟨Gy, j * 2, none⟩ (.int .i64 (lo))).setCell ⟨Gy, j * 2 + 1, none⟩ (.int .i64 (hi' - 1))).alloc (.cells #[.int .i64 (hi' - 1), .int .i64 (hi')] 33)) ∧ OwnP (((wr.setCell ⟨Gy, j * 2, none⟩ (.int .i64 (lo))).setCell ⟨Gy, j * 2 + 1, none⟩ (.int .i64 (hi' - 1))).alloc (.cells #[.int .i64 (hi' - 1), .int .i64 (hi')] 33)) Gy (xs.set j (lo, hi' - 1)) ∧ Own (((wr.setCell ⟨Gy, j * 2, none⟩ (.int .i64 (lo))).setCell ⟨Gy, j * 2 + 1, none⟩ (.int .i64 (hi' - 1))).alloc (.cells #[.int .i64 (hi' - 1), .int .i64 (hi')] 33)) W1.heap.size [(Value.slice (some ⟨Gy, 0, none⟩) lb cy)] ∧ Own (((wr.setCell ⟨Gy, j * 2, none⟩ (.int .i64 (lo))).setCell ⟨Gy, j * 2 + 1, none⟩ (.int .i64 (hi' - 1))).alloc (.cells #[.int .i64 (hi' - 1), .int .i64 (hi')] 33)) wr.heap.size [.int .i64 (hi' - 1), .int .i64 (hi')]) := by
                    refine ⟨((A.out.bel.setCell (p := ⟨Gy, j * 2, none⟩) (by dsimp only; omega) _).setCell (p := ⟨Gy, j * 2 + 1, none⟩) (by dsimp only; omega) _).alloc (by simp only [World.size_setCell]; omega) _, (oYh.out.setPair (i := j) (lo) (hi' - 1) (by rw [HX.out.1]; exact hjl)).below ((Below.refl _ _).alloc (Nat.le_refl _) _), ((A.out.box.other (j := Gy) (i := j * 2) _ (by omega)).other (j := Gy) (i := j * 2 + 1) _ (by omega)).alloc _, ?_⟩
                    have := Own.new ((wr.setCell ⟨Gy, j * 2, none⟩ (.int .i64 (lo))).setCell ⟨Gy, j * 2 + 1, none⟩ (.int .i64 (hi' - 1))) #[.int .i64 (hi' - 1), .int .i64 (hi')] 33
                    simp only [World.size_setCell] at this
                    exact this
                  have hz5 : ((((wr.setCell ⟨Gy, j * 2, none⟩ (.int .i64 (lo))).setCell ⟨Gy, j * 2 + 1, none⟩ (.int .i64 (hi' - 1))).alloc (.cells #[.int .i64 (hi' - 1), .int .i64 (hi')] 33))).heap.size = wr.heap.size + 1 := by simp
                  clear e0 c0 c1' f0 f1 oYh A b0
                  generalize (((wr.setCell ⟨Gy, j * 2, none⟩ (.int .i64 (lo))).setCell ⟨Gy, j * 2 + 1, none⟩ (.int .i64 (hi' - 1))).alloc (.cells #[.int .i64 (hi' - 1), .int .i64 (hi')] 33)) = W5 at *
                  generalize wr.heap.size = kc at *
                  rw [← hz5]
                  clear hz5
                  have WR : Hid (Wf (lo, hi' - 1) ∧ Wf (hi' - 1, hi')) := ⟨⟨i64_wf (by omega) (by omega), i64_wf (by omega) (by omega)⟩, i64_wf (by omega) (by omega), i64_wf (by omega) (by omega)⟩
                  have R5 : Hid _ := R2.out.below Q5.out.1
                  have o5 : Hid (Own W5 kx [.slice (some ⟨Gx, 0, none⟩) lb cx]) := o13.out.below Q5.out.1
                  have l5 := o5.out.lt
                  have l6 := Q5.out.2.2.2.lt
                  replace PX : Hid (PairsAt W5 (some ⟨Gx, 0, none⟩) xs) := PX.out.below Q5.out.1
                  have Un5 : Hid (∀ (y z : BV), y.2 = xs.set j (lo, hi' - 1) → z.2 = xs.set j (hi' - 1, hi') → Used n ps U PA (k + 1) (S ++ [y]) T (G ++ [z])) := fun y z hy hz => Un.out y z _ _ hy hz (.inr ⟨rfl, rfl⟩)
                  have HY : Hid ((xs.set j (lo, hi' - 1)).length = lb ∧ ∀ p ∈ xs.set j (lo, hi' - 1), Wf p) := ⟨by rw [List.length_set]; exact HX.out.1, wf_set PX.out.1 WR.out.1⟩
                  have HL : Hid ((xs.set j (hi' - 1, hi')).length = lb ∧ at2 (xs.set j (hi' - 1, hi')) j = (hi' - 1, hi') ∧ (∀ i, i ≠ j → at2 (xs.set j (hi' - 1, hi')) i = at2 xs i)) := ⟨by rw [List.length_set]; exact HX.out.1, at2_set_self _ (by rw [HX.out.1]; exact hjl), fun i hi => at2_set_other _ hi⟩
                  generalize xs.set j (lo, hi' - 1) = Y at Q5 HY Un5
                  generalize xs.set j (hi' - 1, hi') = L at HL Un5
                  have wq := WR.out.2
                  clear Un WR
                  have A0 : Hid (Cp W5 (L.take 0) (.slice none 0 0) (W5.alloc (.cells #[.slice none 0 0] 25))) := Cp.start W5
                  go_loopg [21] lb (fun gq iv wr => ∃ (i : Nat) (v : Value), i + gq = lb ∧ iv = .int .i64 i ∧ Hid (Cp W5 (L.take i) v wr))
                  case atStart => exact ⟨0, _, by omega, rfl, A0⟩
                  case round =>
                    clear A0
                    obtain ⟨i, v, hiq, rfl, A⟩ := hrel
                    have b0 := (A.out.bel.cell (p := ⟨kx, 0, none⟩) l5).trans (o5.out.cell 0 _ rfl)
                    by_cases hlast : i < lb
                    · have hil : (i : Int) < lb := by omega
                      have hlt2 : (L.take i).length = i := by rw [List.length_take, HL.out.1]; omega
                      have e0 := A.out.box.cell 0 v rfl
                      by_cases hij : i = j
                      · obtain rfl : j = i := hij.symm
                        have k0 := (A.out.bel.cell (p := ⟨kc, 0, none⟩) l6).trans (Q5.out.2.2.2.cell 0 _ rfl)
                        have k1 := (A.out.bel.cell (p := ⟨kc, 1, none⟩) l6).trans (Q5.out.2.2.2.cell 1 _ rfl)
                        have hnx : Hid (L.take (j + 1) = L.take j ++ [(hi' - 1, hi')]) := by show L.take (j + 1) = _; rw [take_set (by rw [HL.out.1]; exact hlast), HL.out.2.1]
                        have A6 : Hid _ := A.out.below ((Below.refl _ _).alloc (Nat.le_refl _) (.cells #[.int .i64 (hi' - 1), .int .i64 (hi')] 33))
                        generalize L.take j = out at *
                        go_wp2_with first
                          | (at_builtin; (refine wpList_append_own _ rfl _ _ 23 rfl (W5.heap.size + 1) 33 i2 (.agg #[.int .i64 0, .int .i64 0]) 2 16 Try.underlying23 ip ip0 ip1 ip2 rfl (by decide) _ _ _ rfl A6.out.row ⟨_, 0, none⟩ 1 1 [_, _] rfl rfl (cell_two_at (by first | rfl | simp)) (fun u hu => by simp at hu; rcases hu with rfl | rfl <;> rfl) (by rw [hlt2]; unfold maxLen; omega) (by rw [hlt2]; omega) (by have := A6.out.box.lt; omega) ?_); intro v' w9 hown' hgrow hnil; have o7 := A6.out.boxKeep hgrow; have g0 := o7.cell 0 v rfl; have g1 := o7.frz 0 v rfl; have FA : Hid _ := A6.out.append hgrow hown' wq; have hex : ∃ g cap, v' = .slice (some ⟨g, 0, none⟩) (out.length + 1) cap := (by rcases hown'.2 with ⟨_, q⟩ | ⟨g, cap, _, q, _⟩ <;> first | omega | exact ⟨_, _, q⟩); obtain ⟨g7, cap7, hv7⟩ := hex; rw [hv7]; rw [hv7] at FA; clear hown' hgrow hnil A6 o7)
                        go_roundg (lb - (j + 1))
                        case measure => omega
                        case rel => exact ⟨j + 1, _, by omega, by go_num, by rw [hnx.out]; have f := FA.out; rw [hlt2] at f; exact f⟩
                      · have hij2 : ¬ (i : Int) = j := by omega
                        have hnx : Hid (L.take (i + 1) = L.take i ++ [((at2 xs i).1, (at2 xs i).2)]) := by show L.take (i + 1) = _; rw [take_set (by rw [HL.out.1]; exact hlast), HL.out.2.2 i hij]
                        obtain ⟨sb, so, hb, hlt', c0, c1'⟩ := (PX.out.below (A.out.bel)).atD (i := i) (by rw [HX.out.1]; exact hlast)
                        injection hb with hb
                        injection hb with ea eb
                        subst ea eb
                        simp only [Nat.zero_add] at c0 c1'
                        have hgw := PX.out.wfD (i := i) (by rw [HX.out.1]; exact hlast)
                        generalize (at2 xs i).1 = u at *
                        generalize (at2 xs i).2 = z at *
                        generalize L.take i = out at *
                        have A6 : Hid (Cp W5 out v ((wr.drew).alloc (.cells #[.int .i64 u, .int .i64 z] 33))) := A.out.drew.below ((Below.refl _ _).alloc (Nat.le_refl _) (.cells #[.int .i64 u, .int .i64 z] 33))
                        have e3 := A6.out.box.cell 0 v rfl
                        have e4 := A.out.box.lt
                        go_wp2
                        go_region_law (refine step_append_own rfl (.tmp 207) (.tmp 213) 23 rfl (W5.heap.size + 1) 33 i2 (.agg #[.int .i64 0, .int .i64 0]) 2 16 Try.underlying23 ip ip0 ip1 ip2 rfl (by decide) v _ _ (by simp [Act.eval]) A6.out.row ⟨_, 0, none⟩ 1 1 [_, _] (by simp [Act.eval]; rfl) rfl (cell_two_at (by first | rfl | simp)) (fun u hu => by simp at hu; rcases hu with rfl | rfl <;> rfl) (by rw [hlt2]; unfold maxLen; omega) (by rw [hlt2]; omega) A6.out.box.lt ?_; intro v' w9 hown' hgrow; have o7 := A6.out.boxKeep hgrow; have g0 := o7.cell 0 v rfl; have g1 := o7.frz 0 v rfl; have FA : Hid _ := A6.out.append hgrow hown' hgw; have hex : ∃ g cap, v' = .slice (some ⟨g, 0, none⟩) (out.length + 1) cap := (by rcases hown'.2 with ⟨_, q⟩ | ⟨g, cap, _, q, _⟩ <;> first | omega | exact ⟨_, _, q⟩); obtain ⟨g7, cap7, hv7⟩ := hex; rw [hv7]; rw [hv7] at FA; clear hown' hgrow o7)
                        all_goals go_wp2
                        all_goals
                          go_roundg (lb - (i + 1))
                          case measure => omega
                          case rel => exact ⟨i + 1, _, by omega, by go_num, by rw [hnx.out]; have f := FA.out; rw [hlt2] at f; exact f⟩
                    · have hil : ¬ (i : Int) < lb := by omega
                      have ei : lb = i := by omega
                      subst ei
                      rw [List.take_of_length_le (by rw [HL.out.1]; omega)] at A
                      obtain ⟨Gz, cz, rfl, hcz, oZ, hGz⟩ := A.out.done (by rw [HL.out.1]; exact lb1)
                      rw [HL.out.1] at A hcz
                      have R6 : Hid _ := R2.out.two Q5.out.1 HY.out.1 hcy (by omega) Q5.out.2.1 HY.out.2 Q5.out.2.2.1 (Nat.le_refl _) HL.out.1 hcz (by omega) A.out oZ
                      have z0 := (R6.out.own 3 rfl).cell 0 _ rfl
                      have R7 : Hid _ := R6.out.alloc (.cells #[.slice (some ⟨Gz, 0, none⟩) lb cz] 25)
                      clear oZ A Q5 R2 R5 PX o5 o13
                      go_wp2_with first
                        | (at_builtin; (refine wpList_append_own_at _ rfl _ _ 29 rfl w.heap.size 25 i0 (.agg #[.slice none 0 0]) 1 24 Try.underlying29 hi hz0 hz1 hz2 rfl (by decide) _ _ _ rfl (R7.out.r3) ⟨_, 0, none⟩ 1 1 [_] rfl rfl (cell_one_at (by first | rfl | simp)) (fun u hu => by simp at hu; rcases hu with rfl; rfl) (by unfold maxLen; omega) (by omega) (R7.out.bel.size) ?_); intro v10 w10 hown hgrow hnil hat; have R8 : Hid _ := R7.out.app3 (x := (.slice (some ⟨Gz, 0, none⟩) lb cz, L)) (by simp) hgrow hown hat; clear hown hgrow hnil hat R7 R6 z0 b0; have y0 := (R8.out.own 2 rfl).cell 0 _ rfl; have R9 : Hid _ := R8.out.alloc (.cells #[.slice (some ⟨Gy, 0, none⟩) lb cy] 25))
                        | (at_builtin; (refine wpList_append_own_at _ rfl _ _ 29 rfl w.heap.size 25 i0 (.agg #[.slice none 0 0]) 1 24 Try.underlying29 hi hz0 hz1 hz2 rfl (by decide) _ _ _ rfl (R9.out.r1) ⟨_, 0, none⟩ 1 1 [_] rfl rfl (cell_one_at (by first | rfl | simp)) (fun u hu => by simp at hu; rcases hu with rfl; rfl) (by unfold maxLen; (try rw [HX.out.2.2.2]); omega) (by (try rw [HX.out.2.2.2]); omega) (R9.out.bel.size) ?_); intro v13 w13 hown hgrow hnil hat; have R10 : Hid _ := R9.out.app1 (x := (.slice (some ⟨Gy, 0, none⟩) lb cy, Y)) (by simp) hgrow hown hat; clear hown hgrow hnil hat R8 R9 y0)
                      go_roundg (U.toNat - (k + 1))
                      case measure => omega
                      case rel => exact ⟨k + 1, _, T, _, by omega, by go_num, (R10.out.fewer (fun c hc => by simp at hc; simp [hc]) (fun c hc => by simp at hc; simp [hc])), Un5.out _ _ rfl rfl⟩
      as_aux_lemma =>
        have ne0 : ¬ zz.tmod 4 = 0 := by omega
        have ne1 : ¬ zz.tmod 4 = 1 := by omega
        clear tm4 tm8
        have hgx : 2 ≤ gp (at2 xs j) := by show 2 ≤ gapI (at2 xs j).1 (at2 xs j).2; rw [HA.out.1]; dsimp only; rw [HA.out.2.1]; omega
        have hjx : j < xs.length := by rw [HM.out.2.1]; exact HA.out.2.2.1
        have lb6 : lb ≤ 6 := by have := HP.out.2.2.1; rw [HE.out.2.2] at this; omega
        have lb1 : 1 ≤ lb := by have := HP.out.2.1; rw [HE.out.2.2] at this; exact this
        have SP := fun W (h : PairsAt W (some ⟨Gx, 0, none⟩) xs) => implBoxSplit W n (some ⟨Gx, 0, none⟩) xs cx (j : Int) (i64_wf (by omega) (by omega)) h (by rw [HM.out.2.1]; exact HM.out.2.2.2.2) (by rw [HM.out.2.1]; omega)
        obtain ⟨in1, in2⟩ := split_in HM.out.2.2.1 hjx hgx
        have len1 : (partA n (splitF n) xs (j : Int)).length = lb := by rw [(split_ab HM.out.2.2.1 hjx hgx).1, List.length_set]; exact HM.out.2.1
        have len2 : (partB n (splitF n) xs (j : Int)).length = lb := by rw [(split_ab HM.out.2.2.1 hjx hgx).2, List.length_set]; exact HM.out.2.1
        have Un : Hid (∀ y z : BV, y.2 = partA n (splitF n) xs (j : Int) → z.2 = partB n (splitF n) xs (j : Int) → Used n ps U PA (k + 1) (S ++ [z] ++ [y]) T G) := fun y z hy hz => Us.out.split hU hjx hgx hy hz
        rw [split_yes HM.out.2.2.1 hjx hgx] at SP
        generalize partA n (splitF n) xs (j : Int) = ya at *
        generalize partB n (splitF n) xs (j : Int) = yb at *
        have I1 := fun W b e (h : PairsAt W b ya) (h' : PairsAt W (some ⟨Gx, 0, none⟩) xs) (hc : ya.length ≤ e) => implBoxIs W b (some ⟨Gx, 0, none⟩) ya xs e cx h h' hc (by rw [HM.out.2.1]; exact HM.out.2.2.2.2) (by omega) (by rw [HM.out.2.1]; omega)
        have I2 := fun W b e (h : PairsAt W b yb) (h' : PairsAt W (some ⟨Gx, 0, none⟩) xs) (hc : yb.length ≤ e) => implBoxIs W b (some ⟨Gx, 0, none⟩) yb xs e cx h h' hc (by rw [HM.out.2.1]; exact HM.out.2.2.2.2) (by omega) (by rw [HM.out.2.1]; omega)
        unfold TwoBox at SP
        rw [in1, len1] at I1
        rw [in2, len2] at I2
        rw [HM.out.2.1] at I1 I2 SP
        rw [len1, len2] at SP
        have HL : Hid (ya.length = lb ∧ yb.length = lb) := ⟨len1, len2⟩
        clear in1 in2 len1 len2 hgx hjx
        go_wp2_with first
          | (go_at_call 15; refine (BZ _ R2.out.bel).mono ?_; rintro e w8 ⟨rfl, rfl⟩; clear BZ)
          | (go_at_call 16; refine (SP _ (R2.out.pairs 1 rfl)).mono ?_; clear SP; rintro e w9 ⟨ay, cy, oy, az, cz, oz, rfl, ⟨hcy, hhy, hoy⟩, ⟨hcz, hhz, hoz⟩, hne, q⟩; have R5 : Hid _ := ((((R2.out.below q).addX (R2.out.new (x := (.slice ay lb cy, ya)) (by rw [HL.out.1]) (by rw [HL.out.1]; exact hcy) (by rw [HL.out.1]; exact lb1) hhy hoy)).addX (R2.out.new (x := (.slice az lb cz, yb)) (by rw [HL.out.2]) (by rw [HL.out.2]; exact hcz) (by rw [HL.out.2]; exact lb1) hhz hoz)).cells #[.slice ay lb cy] 25).cells #[.slice az lb cz] 25; simp only [World.size_alloc] at R5; clear R2 hhy hoy hhz hoz hne q x0; have x1 := (R5.out.own 1 rfl).cell 0 _ rfl)
          | (go_at_call 17; refine (I1 _ _ _ (R5.out.pairs 2 rfl) (R5.out.pairs 1 rfl) hcy).mono ?_; clear I1; rintro e w10 ⟨rfl, q⟩; replace R5 : Hid _ := R5.out.below q; clear q x1; have x2 := (R5.out.own 1 rfl).cell 0 _ rfl; have x3 := (R5.out.own 3 rfl).cell 0 _ rfl)
          | (go_at_call 17; refine (I2 _ _ _ (R5.out.pairs 3 rfl) (R5.out.pairs 1 rfl) hcz).mono ?_; clear I2; rintro e w11 ⟨rfl, q⟩; replace R5 : Hid _ := R5.out.below q; clear q x2 x3; have x4 := (R5.out.own 3 rfl).cell 0 _ rfl; have R6 : Hid _ := R5.out.alloc (.cells #[.slice az lb cz] 25))
          | (at_builtin; (refine wpList_append_own_at _ rfl _ _ 29 rfl w.heap.size 25 i0 (.agg #[.slice none 0 0]) 1 24 Try.underlying29 hi hz0 hz1 hz2 rfl (by decide) _ _ _ rfl (R6.out.r1) ⟨_, 0, none⟩ 1 1 [_] rfl rfl (cell_one_at (by first | rfl | simp)) (fun u hu => by simp at hu; rcases hu with rfl; rfl) (by unfold maxLen; (try rw [HM.out.1]); omega) (by (try rw [HM.out.1]); omega) (R6.out.bel.size) ?_); intro v12 w12 hown hgrow hnil hat; have R7 : Hid _ := R6.out.app1 (x := (.slice az lb cz, yb)) (by simp) hgrow hown hat; clear hown hgrow hnil hat R6 R5 x4; have x5 := (R7.out.own 2 rfl).cell 0 _ rfl; have R8 : Hid _ := R7.out.alloc (.cells #[.slice ay lb cy] 25))
          | (at_builtin; (refine wpList_append_own_at _ rfl _ _ 29 rfl w.heap.size 25 i0 (.agg #[.slice none 0 0]) 1 24 Try.underlying29 hi hz0 hz1 hz2 rfl (by decide) _ _ _ rfl (R8.out.r1) ⟨_, 0, none⟩ 1 1 [_] rfl rfl (cell_one_at (by first | rfl | simp)) (fun u hu => by simp at hu; rcases hu with rfl; rfl) (by unfold maxLen; simp; (try rw [HM.out.1]); omega) (by simp; (try rw [HM.out.1]); omega) (R8.out.bel.size) ?_); intro v13 w13 hown hgrow hnil hat; have R9 : Hid _ := R8.out.app1 (x := (.slice ay lb cy, ya)) (by simp) hgrow hown hat; clear hown hgrow hnil hat R7 R8 x5)
        go_roundg (U.toNat - (k + 1))
        case measure => omega
        case rel => exact ⟨k + 1, _, T, G, by omega, by go_num, (R9.out.fewer (fun c hc => by simp at hc; simp [hc]) (fun c hc => by simp at hc; simp [hc])), Un.out _ _ rfl rfl⟩

end Go.Proofs.Yteohgmmenlinbaa
