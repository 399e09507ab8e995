/- FnBoxBits' walk: it returns true, whatever bytes come in. -/
import Derived.Test.YteohgmmenlinbacDoorDOf1
import Derived.Test.YteohgmmenlinbacDoorDOf
import Derived.Test.YteohgmmenlinbacDoorBitsP
import Derived.Test.YteohgmmenlinbacDoorBoxBi
import Derived.Test.YteohgmmenlinbacDoorOfI
import Derived.Test.YteohgmmenlinbacDoorOfS
import Derived.Test.YteohgmmenlinbacDoorBoxX
import Derived.Deep.Cut
namespace Go.Proofs.YteohgmmenlinbacDoor
open Go.ChangeShapes Go.WideShapes Go.ChangeAt Go.RowKit
set_option linter.unusedVariables false

/-- While the patterns are read. -/
structure LB (w : World) (a : Option Addr) (zs : List Int) (k : Nat) (s : Value) (d : Option Addr) (P : List (Int × Int)) (W : World) : Prop where
  bel : Below w.heap.size w W
  us : UAt W a zs
  own : Own W k [s]
  prs : PairsAt W d P
theorem LB.below {w W W' : World} {a : Option Addr} {zs : List Int} {k : Nat} {s : Value} {d : Option Addr} {P : List (Int × Int)} (h : LB w a zs k s d P W) (q : Below W.heap.size W W') : LB w a zs k s d P W' :=
  ⟨h.bel.trans (q.mono h.bel.size), h.us.below q, h.own.below q, h.prs.below q⟩

set_option maxRecDepth 100000 in
set_option maxHeartbeats 4000000 in
theorem walkBits (w : World) (a : Option Addr) (len cap : Nat) (hc : len ≤ 1048576 → Code8 w a len) (hl : len ≤ cap) (hm : len ≤ maxLen)
    (a2 : Option Addr) (len2 cap2 : Nat) (hc2 : len2 ≤ 1048576 → Code8 w a2 len2) (hl2 : len2 ≤ cap2) (hm2 : len2 ≤ maxLen) (hE : ErrT w) :
    Calls Tryd.prog 3 #[.slice a len cap, .slice a2 len2 cap2] w fun e w' => e = .returned (.bool true) ∧ Below w.heap.size w w' := by
  unfold maxLen at hm hm2
  by_cases hbig : 1048576 < len
  · have hbig' : 1048576 < (len : Int) := by omega
    go_enter Tryd.func3, Tryd.ntmps3
    go_wp2
    go_ret
    exact ⟨rfl, Below.refl _ _⟩
  by_cases hbig2 : 1048576 < len2
  · have hbig' : 1048576 < (len2 : Int) := by omega
    have hb3 : ¬ 1048576 < (len : Int) := by omega
    go_enter Tryd.func3, Tryd.ntmps3
    go_wp2
    go_ret
    exact ⟨rfl, Below.refl _ _⟩
  have ho := drawBoxBits w a len cap (hc (by omega)) hl (by omega)
  have hC2 : Hid (Code8 w a2 len2) := hc2 (by omega)
  have HE : Hid (ErrT w) := hE
  have hp := hE.pos
  have hb3 : ¬ 1048576 < (len : Int) := by omega
  have hb4 : ¬ 1048576 < (len2 : Int) := by omega
  clear hc hm hc2 hm2 hbig hbig2 hE
  go_enter Tryd.func3, Tryd.ntmps3
  go_upto_region 4 with (go_at_call 4; refine ho.mono ?_; clear ho; rintro e w1 ⟨n, a1, c1, ps, o1, rfl, h8, hc1, hh, ho1, hg, q⟩; obtain ⟨m, hm⟩ : ∃ m, ps.length = m := ⟨_, rfl⟩; have F : Facts (w1.alloc (.cells #[.slice a1 m c1] 25)) [.bel w, .has a1 ps o1, .own w1.heap.size [.slice a1 m c1]] := (((Facts.nil _).push (f := .bel w) q).pushHas hh).cells #[.slice a1 m c1] 25; have B1 := (fun W (x : PairsAt W a1 ps) => implBoxBits W n a1 ps c1 x hc1 (by omega)); have K1 := (fun W (x : PairsAt W a1 ps) => specBoxOk W n a1 ps c1 x hc1 (by omega)); have O1 := (fun W (b : Option Addr) (d : Nat) (x : UAt W b (bboxL n ps)) (k : (bboxL n ps).length ≤ d) (y : ErrT W) => implBoxOf W n b (bboxL n ps) (bboxL n ps).length d rfl x (bbox_bd n ps) k (by have := bbox_12 n ps; omega) y); have HM : Hid (ps.length = m ∧ ps.length ≤ 8 ∧ ps.length ≤ c1) := ⟨hm, h8, hc1⟩; rw [hm] at hc1 h8 B1 K1 ⊢; clear q hh hg ho1 hm)
  cases hbk : bokI n ps
  case' false =>
    obtain ⟨ez, ec⟩ := box_none hbk
    have eb : boxU n [] = [] := box_bad (by rw [ec]; decide)
    rw [ez] at B1 O1
    rw [ec, eb] at O1
    rw [hbk] at K1
    clear ez ec eb hbk
    unfold UOut at B1
    unfold BoxOutV at O1
    simp only [List.length_nil] at B1 O1
    have c6 := (F.own 2 rfl).cell 0 _ rfl
    go_upto_region 11 with first
      | (go_at_call 5; refine (B1 _ (F.has 1 rfl).at).mono ?_; clear B1 c6; rintro e w2 ⟨a7, c7, o7, rfl, hc7, U7, ho7, q⟩; replace F := F.below q; clear q ho7)
      | (go_at_call 6; refine (O1 _ a7 c7 U7.at hc7 (HE.out.below hp (F.bel 0 rfl))).mono ?_; clear O1 U7; rintro e w3 ⟨a8, c8, o8, rfl, hc8, hh8, ho8, q⟩; replace F := (F.below q).below ((Below.refl _ w3).alloc (Nat.le_refl _) (.cells #[.slice a8 0 c8] 25)); clear q hh8 ho8; have c6 := (F.own 2 rfl).cell 0 _ rfl)
      | (go_at_call 7; refine (K1 _ (F.has 1 rfl).at).mono ?_; clear K1 c6; rintro e w4 ⟨rfl, q⟩; replace F := F.below q; clear q)
    have hb : Hid _ := F.bel 0 rfl
    clear F HM
  case' true =>
    obtain ⟨ec, eb, el⟩ := box_back hbk
    have I1 := fun W (x y : Option Addr) (c d : Nat) (p : PairsAt W x ps) (q : PairsAt W y ps) (k : ps.length ≤ c) (l : ps.length ≤ d) => implBoxIs W x y ps ps c d p q k l (by have := HM.out.2.1; omega) (by have := HM.out.2.1; omega)
    rw [isb_self, HM.out.1] at I1
    have I2 := I1
    unfold UOut at B1
    unfold BoxOutV at O1
    rw [ec, eb] at O1
    rw [HM.out.1] at O1 el
    rw [hbk] at K1
    clear ec eb hbk
    generalize bboxL n ps = zs0 at *
    generalize hl0 : zs0.length = l0 at *
    have hl1 : (l0 : Int) = 2 * (m : Int) := by omega
    clear hl0 el
    have c6 := (F.own 2 rfl).cell 0 _ rfl
    go_upto_region 11 with first
      | (go_at_call 5; refine (B1 _ (F.has 1 rfl).at).mono ?_; clear B1 c6; rintro e w2 ⟨a7, c7, o7, rfl, hc7, U7, ho7, q⟩; replace F := F.below q; clear q ho7)
      | (go_at_call 6; refine (O1 _ a7 c7 U7.at hc7 (HE.out.below hp (F.bel 0 rfl))).mono ?_; clear O1 U7; rintro e w3 ⟨a8, c8, o8, rfl, hc8, hh8, ho8, q⟩; replace F := ((F.below q).pushHas hh8).cells #[.slice a8 m c8] 25; clear q hh8 ho8; have c6 := (F.own 2 rfl).cell 0 _ rfl)
      | (go_at_call 7; refine (K1 _ (F.has 1 rfl).at).mono ?_; clear K1 c6; rintro e w4 ⟨rfl, q⟩; replace F := F.below q; clear q; have c6 := (F.own 2 rfl).cell 0 _ rfl; have c8' := (F.own 4 rfl).cell 0 _ rfl)
      | (go_at_call 8; refine (I1 _ _ _ _ _ (F.has 1 rfl).at (F.has 3 rfl).at hc1 hc8).mono ?_; clear I1 c6 c8'; rintro e w5 ⟨rfl, q⟩; replace F := F.below q; clear q; have c6 := (F.own 2 rfl).cell 0 _ rfl; have c8' := (F.own 4 rfl).cell 0 _ rfl)
      | (go_at_call 8; refine (I2 _ _ _ _ _ (F.has 3 rfl).at (F.has 1 rfl).at hc8 hc1).mono ?_; clear I2 c6 c8'; rintro e w6 ⟨rfl, q⟩; replace F := F.below q; clear q)
    have hb : Hid _ := F.bel 0 rfl
    clear F HM
  all_goals
    have D2 := drawBoxOf _ a2 len2 cap2 (hC2.out.belowD hb.out) hl2 (by omega)
    go_upto_region 12 with (go_at_call 9; refine D2.mono ?_; clear D2; rintro e w8 ⟨n2, a11, zs, c11, rfl, hc11, h13, U, hz, q⟩; replace hb : Hid _ := hb.out.trans (q.mono hb.out.size); clear q; obtain ⟨L, hL⟩ : ∃ L, zs.length = L := ⟨_, rfl⟩; have HL : Hid (zs.length = L ∧ (∀ z ∈ zs, 0 ≤ z ∧ z ≤ 18446744073709551615)) := ⟨hL, hz⟩; have HU : Hid (UAt w8 a11 zs) := U; rw [hL] at hc11 h13 ⊢; clear hL hz U)
    have O2 := implBoxOf w8 n2 a11 zs L c11 HL.out.1 HU.out HL.out.2 hc11 (by omega) (HE.out.below hp hb.out)
    have S2 := fun W (q : Below w8.heap.size w8 W) => specBoxOf W n2 a11 zs L c11 HL.out.1 (HU.out.below q) HL.out.2 hc11 (by omega)
    unfold BoxOutV at O2 S2
    by_cases hc0 : codeU n2 zs = 0
    · obtain ⟨eL, eP⟩ := box_good hc0
      rw [hc0] at O2 S2
      have HG : Hid ((boxU n2 zs).length * 2 = zs.length ∧ ∀ i, i < zs.length → isFloat n2 (atU zs i) = true ∧ (i % 2 = 0 → (at2 (boxU n2 zs) (i / 2)).1 = ordI n2 (atU zs i)) ∧ (i % 2 = 1 → (at2 (boxU n2 zs) (i / 2)).2 = ordI n2 (atU zs i))) := ⟨eL, eP⟩
      generalize boxU n2 zs = P at *
      obtain ⟨m2, hm2⟩ : ∃ m2, P.length = m2 := ⟨_, rfl⟩
      rw [hm2] at O2 S2
      have HP : Hid (P.length = m2 ∧ m2 * 2 = L) := ⟨hm2, by rw [← hm2, eL]; exact HL.out.1⟩
      clear hm2 eL eP hc0
      go_wp2_with first
        | (go_at_call 6; refine O2.mono ?_; clear O2; rintro e w9 ⟨a12, c12, o12, rfl, hc12, hh12, ho12, q⟩; have o12' := Own.new w9 #[.slice a12 m2 c12] 25; have qa : Below w9.heap.size w9 (w9.alloc (.cells #[.slice a12 m2 c12] 25)) := (Below.refl _ _).alloc (Nat.le_refl _) _; have G : Hid (LB w a11 zs w9.heap.size (.slice a12 m2 c12) a12 P (w9.alloc (.cells #[.slice a12 m2 c12] 25))) := ⟨(hb.out.trans (q.mono hb.out.size)).trans (qa.mono (Nat.le_trans hb.out.size q.size)), (HU.out.below q).below qa, o12', hh12.at.below qa⟩; have q9 : Hid (Below w8.heap.size w8 (w9.alloc (.cells #[.slice a12 m2 c12] 25))) := q.trans (qa.mono q.size); clear hh12 ho12 q qa o12')
        | (go_at_call 10; refine (S2 _ q9.out).mono ?_; clear S2; rintro e w10 ⟨a14, c14, o14, rfl, -, -, -, q⟩; replace G : Hid (LB w a11 zs w9.heap.size (.slice a12 m2 c12) a12 P (w10.alloc (.cells #[.slice a14 m2 c14] 25))) := (G.out.below q).below ((Below.refl _ _).alloc (Nat.le_refl _) _); clear q q9)
      generalize w9.heap.size = k12 at *
      go_loopg [16] L (fun gq iv wr => ∃ (i : Nat), i + gq = L ∧ iv = .int .i64 i ∧ Hid (LB w a11 zs k12 (.slice a12 m2 c12) a12 P wr))
      case atStart => exact ⟨0, by omega, rfl, G⟩
      case round =>
        clear G
        obtain ⟨i, hiq, rfl, G⟩ := hrel
        by_cases hlast : i < L
        · have hil : (i : Int) < L := by omega
          have hne : zs ≠ [] := by intro e; have := HL.out.1; rw [e] at this; simp at this; omega
          obtain ⟨rb, ro, ha, hlt, hcl⟩ := G.out.us.resolve_left hne
          subst ha
          have c0 := hcl i _ (atU_get (by rw [HL.out.1]; exact hlast))
          have hbz := at_bounds HL.out.2 i
          have B3 := fun W => implOrd W n2 (atU zs i) hbz.1 hbz.2
          unfold OrdOut at B3
          obtain ⟨e1, e2, e3⟩ := HG.out.2 i (by rw [HL.out.1]; exact hlast)
          rw [e1] at B3
          obtain ⟨q, hq⟩ : ∃ q, i / 2 = q := ⟨_, rfl⟩
          rw [hq] at e2 e3
          have hqm : q < m2 := by have := HP.out.2; omega
          have t3 : (i : Int).tdiv 2 = (q : Int) := by rw [Int.tdiv_eq_ediv_of_nonneg (by omega)]; omega
          have t4 : (i : Int) / 2 = (q : Int) := by omega
          have hqi : (q : Int) < m2 := by omega
          obtain ⟨sb, so, hsb, hslt, p0, p1⟩ := G.out.prs.atD (i := q) (by rw [HP.out.1]; exact hqm)
          subst hsb
          have G2 : Hid _ := G
          clear hbz hcl hne e1 hq
          generalize ordI n2 (atU zs i) = u at *
          generalize atU zs i = z at *
          rcases Nat.mod_two_eq_zero_or_one i with ev | ev
          · have ex := e2 ev
            clear e2 e3
            rw [ex] at p0
            clear ex
            generalize (at2 P q).2 = y at *
            have t1 : (i : Int).tmod 2 = 0 := by rw [Int.tmod_eq_emod_of_nonneg (by omega)]; omega
            have t2 : (i : Int) % 2 = 0 := by omega
            go_wp2_with (go_at_call 11; refine (B3 _).mono ?_; clear B3; rintro e w12 ⟨rfl, q12⟩; replace G : Hid (LB w (some ⟨rb, ro, none⟩) zs k12 (.slice (some ⟨sb, so, none⟩) m2 c12) (some ⟨sb, so, none⟩) P w12) := G.out.below q12; replace p0 := (q12.cell (p := ⟨sb, so + q * 2, none⟩) hslt).trans p0; replace p1 := (q12.cell (p := ⟨sb, so + q * 2 + 1, none⟩) hslt).trans p1; clear q12 c0; have c12' := G.out.own.cell 0 _ rfl)
            go_roundg (L - (i + 1))
            case measure => omega
            case rel => exact ⟨i + 1, by omega, by go_num, G.out.below ((Below.refl _ _).alloc (Nat.le_refl _) _)⟩
          · have ex := e3 ev
            clear e2 e3
            rw [ex] at p1
            clear ex
            generalize (at2 P q).1 = y at *
            have t1 : (i : Int).tmod 2 = 1 := by rw [Int.tmod_eq_emod_of_nonneg (by omega)]; omega
            have t2 : (i : Int) % 2 = 1 := by omega
            go_wp2_with (go_at_call 11; refine (B3 _).mono ?_; clear B3; rintro e w12 ⟨rfl, q12⟩; replace G : Hid (LB w (some ⟨rb, ro, none⟩) zs k12 (.slice (some ⟨sb, so, none⟩) m2 c12) (some ⟨sb, so, none⟩) P w12) := G.out.below q12; replace p0 := (q12.cell (p := ⟨sb, so + q * 2, none⟩) hslt).trans p0; replace p1 := (q12.cell (p := ⟨sb, so + q * 2 + 1, none⟩) hslt).trans p1; clear q12 c0; have c12' := G.out.own.cell 0 _ rfl)
            go_roundg (L - (i + 1))
            case measure => omega
            case rel => exact ⟨i + 1, by omega, by go_num, G.out.below ((Below.refl _ _).alloc (Nat.le_refl _) _)⟩
        · have hil : ¬ (i : Int) < L := by omega
          go_wp2
          go_ret
          exact ⟨rfl, G.out.bel⟩
    · have eb := box_bad hc0
      rw [eb] at O2 S2
      simp only [List.length_nil] at O2 S2
      generalize codeU n2 zs = c at *
      clear eb
      go_wp2_with first
        | (go_at_call 6; refine O2.mono ?_; clear O2; rintro e w9 ⟨a12, c12, o12, rfl, hc12, hh12, ho12, q⟩; have o12' := Own.new w9 #[.slice a12 0 c12] 25; have qa : Below w9.heap.size w9 (w9.alloc (.cells #[.slice a12 0 c12] 25)) := (Below.refl _ _).alloc (Nat.le_refl _) _; have q9 : Hid (Below w8.heap.size w8 (w9.alloc (.cells #[.slice a12 0 c12] 25))) := q.trans (qa.mono q.size); replace hb : Hid _ := hb.out.trans (q9.out.mono hb.out.size); clear hh12 ho12 q qa)
        | (go_at_call 10; refine (S2 _ q9.out).mono ?_; clear S2; rintro e w10 ⟨a14, c14, o14, rfl, -, -, -, q⟩; have qb : Below w10.heap.size w10 (w10.alloc (.cells #[.slice a14 0 c14] 25)) := (Below.refl _ _).alloc (Nat.le_refl _) _; replace o12' := (o12'.below q).below qb; replace hb : Hid _ := (hb.out.trans (q.mono hb.out.size)); replace hb : Hid _ := hb.out.trans (qb.mono hb.out.size); clear q qb q9; have c12' := o12'.cell 0 _ rfl)
      go_ret
      exact ⟨rfl, hb.out⟩

end Go.Proofs.YteohgmmenlinbacDoor
