/- The walk of the exact law of BoxBits: it returns true. -/
import Derived.Test.YteohgmmenlinbagBoxBi
import Derived.Test.YteohgmmenlinbagBoxE
import Derived.Test.YteohgmmenlinbagBoxL
import Derived.Test.YteohgmmenlinbagMark
import Derived.Test.YteohgmmenlinbagRegInv
namespace Go.Proofs.Yteohgmmenlinbag
open Go.ChangeShapes Go.WideShapes Go.ChangeAt Go.RowKit
set_option linter.unusedVariables false

theorem bbox_len (n : Int) (ps : List (Int × Int)) : (bboxL n ps).length ≤ 12 := by
  unfold bboxL
  by_cases h : bokI n ps = true
  · rw [if_pos h, bitsL_length]
    unfold bokI at h
    simp only [Bool.and_eq_true, decide_eq_true_eq] at h
    omega
  · rw [if_neg h]
    simp

set_option maxRecDepth 100000 in
set_option maxHeartbeats 4000000 in
theorem walkExBoxBits (w : World) (n : Int) (wn : (Lit.int .i64 n).wf = true) (ad : Option Addr) (ps : List (Int × Int)) (cap : Nat) (h : PairsAt w ad ps) (hl : ps.length ≤ cap) (hx : ps.length ≤ maxLen) :
    Calls Try.prog 3 #[.int .i64 n, .agg #[.slice ad ps.length cap]] w fun e w' => e = .returned (.bool true) ∧ Below w.heap.size w w' := by
  have hL6 := bbox_len n ps
  have hs := fun W (c : Option Addr) (x : PairsAt W c ps) (hm : ps.length ≤ 1048576) => specBoxBits W n c ps ps.length x (Nat.le_refl _) hm
  have hi := fun W (c : Option Addr) (x : PairsAt W c ps) (hm : ps.length ≤ 1048576) => implBoxBits W n c ps ps.length x (Nat.le_refl _) hm
  obtain ⟨len, hlen⟩ : ∃ len, ps.length = len := ⟨_, rfl⟩
  rw [hlen] at hl hx hs hi ⊢
  generalize bboxL n ps = zs at *
  have F : Facts (w.alloc (.cells #[.slice ad len cap] 24)) [.bel w, .own w.heap.size [.slice ad len cap], .args w.heap.size ad ps] := by
    have q0 : Below w.heap.size w (w.alloc (.cells #[.slice ad len cap] 24)) := (Below.refl _ w).alloc (Nat.le_refl _) _
    exact (((Facts.nil _).push (f := .bel w) q0).push (f := .own _ _) (Own.new w _ _)).push (f := .args _ _ _) (Fact.below (.args w.heap.size ad ps) (args_of h rfl) q0)
  have hw := h.1
  clear h
  have hz := fun W => szBox W ad len cap 1048576 (by omega) (by omega) hx
  by_cases hm : len ≤ 1048576
  · rw [if_neg (by omega)] at hz
    have hpos : ¬ (1048576 : Int) - len < 0 := by omega
    obtain ⟨L1, hL1⟩ : ∃ L1 : Int, 1048576 - (len : Int) = L1 := ⟨_, rfl⟩
    rw [hL1] at hz hpos
    replace hs := fun W c x => hs W c x hm
    replace hi := fun W c x => hi W c x hm
    have hi2 := hi
    have t1 := fun W h => toBox W ad ps len cap hlen h hl hm
    have t2 := t1
    have t3 := t1
    have e1 := fun W a b c d => eqU W a b zs zs.length c d rfl
    have e2 := e1
    have e3 := e1
    have m1 := fun W G (x : HasO W (some ⟨G, 0, none⟩) ps (some G)) => markBox W _ ps _ len len 1 hlen x (Nat.le_refl _) hm (by omega) (by omega)
    have m2 := fun W a o c (x : HasU W a zs o) (hc : zs.length ≤ c) => markU W a zs o zs.length c 1 rfl x hc (by omega) (by omega) (by omega)
    have d1 := fun W a c (x : UAt W a (marksU 1 zs.length)) (hc : zs.length ≤ c) => heldU W a zs.length c 1 x hc (by omega) (by omega) (by omega)
    have d2 := d1
    have hk1 : ¬ (1 + 2 * (len : Int)) < 0 := by omega
    have hk2 : ¬ (1 + (zs.length : Int)) < 0 := by omega
    have hL : Hid (zs.length ≤ 1048576) := by show zs.length ≤ 1048576; omega
    clear hL6
    go_enter Try.func3, Try.ntmps3
    go_wp2_with first
      | (go_at_call 8; refine (hz _).mono ?_; clear hz; rintro e w1 ⟨rfl, q⟩; replace F := F.below q; clear q; have c1 := (F.own 1 rfl).cell 0 _ rfl)
      | (go_at_call 10; refine (t1 _ (F.args 2 rfl)).mono ?_; clear t1 c1; rintro e w2 ⟨Gy, hGy, rfl, oy, q⟩; replace F := F.below q; clear q hGy)
      | (go_at_call 9; refine (hs _ _ (oy.at hw)).mono ?_; clear hs; rintro e w3 ⟨aw, cw, ow, rfl, hcw, U1, how, q⟩
         have n3 : Hid (w.heap.size < w3.heap.size ∧ ∀ G, ow = some G → w.heap.size < G ∧ G < w3.heap.size) := by
           have l1 := (F.own 1 rfl).lt
           have l2 := q.size
           exact ⟨by omega, fun G hG => ⟨by have := how G hG; omega, U1.lt G hG⟩⟩
         replace F := F.below q; clear q how oy; have c1 := (F.own 1 rfl).cell 0 _ rfl)
      | (go_at_call 10; refine (t2 _ (F.args 2 rfl)).mono ?_; clear t2 c1; rintro e w4 ⟨Gx, hGx, rfl, ox, q⟩
         have n4 : Hid (w3.heap.size ≤ Gx ∧ Gx < w4.heap.size) := ⟨hGx, ox.lt⟩
         replace U1 := (U1.below q).below ((Below.refl _ w4).alloc (Nat.le_refl _) (.cells #[.slice (some ⟨Gx, 0, none⟩) len len] 30))
         replace F := (((F.below q).pushHas (ox.has hw)).cells #[.slice (some ⟨Gx, 0, none⟩) len len] 30); clear q hGx ox; have c6 := (F.own 4 rfl).cell 0 _ rfl)
      | (go_at_call 11; refine (hi _ _ (F.has 3 rfl).at).mono ?_; clear hi c6; rintro e w5 ⟨ag, cg, og, rfl, hcg, U2, hog, q⟩
         have n5 : Hid (∀ G, og = some G → w4.heap.size < G) := by
           have l1 := (F.own 4 rfl).lt
           exact fun G hG => by have := hog G hG; omega
         replace F := F.below q; replace U1 := U1.below q; clear q hog)
      | (go_at_call 12; refine (e1 _ _ _ _ _ U2.at U1.at hcg hcw hL.out).mono ?_; clear e1; rintro e w6 ⟨rfl, q⟩; replace F := F.below q; replace U1 := U1.below q; replace U2 := U2.below q; clear q)
    have l1 := (F.own 1 rfl).lt
    have c1 := (F.own 1 rfl).cell 0 _ rfl
    have l6 := (F.own 4 rfl).lt
    have c6 := (F.own 4 rfl).cell 0 _ rfl
    refine region_steps (by kernel_rfl) (by kernel_rfl) (by kernel_rfl) (fun A0 f a W => ∃ (x31 : Value) (x32 : Value) (x33 : Value) (x34 : Value) (x35 : Value) (sg2 : Nat), a = { tmps := #[.int .i64 n, .agg #[.slice ad len cap], undef, .pointer (some ⟨w.heap.size, 0, none⟩), .bool false, .int .i64 L1, .slice aw zs.length cw, .pointer (some ⟨w4.heap.size, 0, none⟩), .slice ag zs.length cg, undef, undef, undef, undef, .agg #[.slice ad len cap], .int .i64 1048576, .int .i64 L1, .int .i64 L1, .bool (decide (L1 < 0)), .int .i64 n, .agg #[.slice ad len cap], .agg #[.slice (some ⟨Gy, 0, none⟩) len len], .slice aw zs.length cw, .agg #[.slice ad len cap], .agg #[.slice (some ⟨Gx, 0, none⟩) len len], .int .i64 n, .agg #[.slice (some ⟨Gx, 0, none⟩) len len], .slice ag zs.length cg, .slice ag zs.length cg, .slice aw zs.length cw, .bool true, .bool false, x31, x32, x33, x34, x35, undef, undef, undef, undef, undef, undef, undef, undef, undef, undef, undef, undef, undef, undef, undef, undef, undef, undef, undef, undef, undef, undef, undef, undef, undef, undef, undef, undef, undef, undef, undef, undef, undef, undef, undef, undef, undef, undef], defers := [] } ∧ (f 0 = true → x31 = .agg #[.slice (some ⟨Gx, 0, none⟩) len len]) ∧ (f 1 = true → x32 = .agg #[.slice ad len cap]) ∧ (f 2 = true → x33 = .agg #[.slice (some ⟨sg2, 0, none⟩) len len] ∧ w6.heap.size ≤ sg2 ∧ OwnP W sg2 ps) ∧ (f 3 = true → x34 = .bool true) ∧ (f 4 = true → x35 = .bool false) ∧ Below w6.heap.size w6 W) ?_ ⟨?_, ?_, ?_, ?_, ?_, trivial⟩ ?_
    · exact ⟨undef, undef, undef, undef, undef, 0, rfl, (fun h => (by cases h)), (fun h => (by cases h)), (fun h => (by cases h)), (fun h => (by cases h)), (fun h => (by cases h)), (Below.refl _ _).drew⟩
    · rintro f a W ⟨x31, x32, x33, x34, x35, sg2, rfl, h0, h1, h2, h3, h4, hB⟩ hf hd K hK
      have r0 := (hB.cell (p := ⟨w4.heap.size, 0, none⟩) l6).trans c6
      go_simp
      refine hK _ _ ?_
      exact ⟨_, x32, x33, x34, x35, sg2, rfl, fun _ => rfl, fun h => h1 (upd_ne (by decide) h), fun h => h2 (upd_ne (by decide) h), fun h => h3 (upd_ne (by decide) h), fun h => h4 (upd_ne (by decide) h), hB⟩
    · rintro f a W ⟨x31, x32, x33, x34, x35, sg2, rfl, h0, h1, h2, h3, h4, hB⟩ hf hd K hK
      have r0 := (hB.cell (p := ⟨w.heap.size, 0, none⟩) l1).trans c1
      go_simp
      refine hK _ _ ?_
      exact ⟨x31, _, x33, x34, x35, sg2, rfl, fun h => h0 (upd_ne (by decide) h), fun _ => rfl, fun h => h2 (upd_ne (by decide) h), fun h => h3 (upd_ne (by decide) h), fun h => h4 (upd_ne (by decide) h), hB⟩
    · rintro f a W ⟨x31, x32, x33, x34, x35, sg2, rfl, h0, h1, h2, h3, h4, hB⟩ hf hd K hK
      have e1 := h1 (dep_of hd (e := ⟨1, .data⟩) (by simp) rfl)
      subst e1
      go_simp
      refine (toBox _ ad ps len cap hlen ((F.args 2 rfl).below hB) hl hm).mono ?_
      rintro e W2 ⟨G, hG, rfl, on, q⟩
      refine hK _ _ ?_
      exact ⟨x31, _, _, x34, x35, G, rfl, fun h => h0 (upd_ne (by decide) h), fun _ => rfl, fun _ => ⟨rfl, Nat.le_trans hB.size hG, on⟩, fun h => h3 (upd_ne (by decide) h), fun h => h4 (upd_ne (by decide) h), hB.trans (q.mono hB.size)⟩
    · rintro f a W ⟨x31, x32, x33, x34, x35, sg2, rfl, h0, h1, h2, h3, h4, hB⟩ hf hd K hK
      have e0 := h0 (dep_of hd (e := ⟨0, .data⟩) (by simp) rfl)
      subst e0
      obtain ⟨e2, u2, o2⟩ := h2 (dep_of hd (e := ⟨2, .data⟩) (by simp) rfl)
      subst e2
      go_simp
      refine (eqBox _ _ _ ps len len len hlen ((F.has 3 rfl).at.below hB) (o2.at hw) (Nat.le_refl _) (Nat.le_refl _) hm).mono ?_
      rintro e W2 ⟨rfl, q⟩
      refine hK _ _ ?_
      exact ⟨_, x32, _, _, x35, sg2, rfl, fun _ => rfl, fun h => h1 (upd_ne (by decide) h), fun h => (by obtain ⟨p1, p2, p3⟩ := h2 (upd_ne (by decide) h); exact ⟨p1, p2, p3.below q⟩), fun _ => rfl, fun h => h4 (upd_ne (by decide) h), hB.trans (q.mono hB.size)⟩
    · rintro f a W ⟨x31, x32, x33, x34, x35, sg2, rfl, h0, h1, h2, h3, h4, hB⟩ hf hd K hK
      have e3 := h3 (dep_of hd (e := ⟨3, .data⟩) (by simp) rfl)
      subst e3
      go_simp
      refine hK _ _ ?_
      exact ⟨x31, x32, x33, _, _, sg2, rfl, fun h => h0 (upd_ne (by decide) h), fun h => h1 (upd_ne (by decide) h), fun h => h2 (upd_ne (by decide) h), fun _ => rfl, fun _ => rfl, hB⟩
    rintro f a w7 ⟨x31, x32, x33, x34, x35, sg2, rfl, h0, h1, h2, h3, h4, qB⟩ hall
    have e0 := h0 (hall 0 (by decide))
    subst e0
    have e1 := h1 (hall 1 (by decide))
    subst e1
    obtain ⟨e2, u2, s2⟩ := h2 (hall 2 (by decide))
    subst e2
    have e3 := h3 (hall 3 (by decide))
    subst e3
    have e4 := h4 (hall 4 (by decide))
    subst e4
    clear hall h0 h1 h2 h3 h4
    try dsimp only
    replace F := F.below qB
    replace U1 := U1.below qB
    replace U2 := U2.below qB
    clear l1 c1 l6 c6 qB
    have c6 := (F.own 4 rfl).cell 0 _ rfl
    go_wp2_with first
      | (go_at_call 14; refine (m1 _ _ (F.has 3 rfl)).mono ?_; clear m1 c6; rintro e w8 ⟨rfl, hp, q⟩
         replace U1 := U1.keepO q (fun G hG e => by have := Option.some.inj e; have := n3.out.2 G hG; have := n4.out; omega)
         replace U2 := U2.keepO q (fun G hG e => by have := Option.some.inj e; have := n5.out G hG; have := n4.out; omega)
         replace F := F.mark q 3 (f2 := .has _ _ _) (by
           have n3' := n3.out
           have n4' := n4.out
           intro j f hj hf
           match j, hj, hf with
           | 0, _, rfl => intro G hG; have := Option.some.inj hG; omega
           | 1, _, rfl => intro hG; have := Option.some.inj hG; omega
           | 2, _, rfl => intro G hG; have := Option.some.inj hG; omega
           | 3, hj, _ => exact absurd rfl hj
           | 4, _, rfl => intro hG; have := Option.some.inj hG; omega
           | k + 5, _, hf => simp at hf) hp
         clear q hp)
      | (go_at_call 12; refine (e2 _ _ _ _ _ U2.at U1.at hcg hcw hL.out).mono ?_; clear e2; rintro e w9 ⟨rfl, q⟩; replace F := F.below q; replace U1 := U1.below q; replace U2 := U2.below q; clear q)
      | (go_at_call 15; refine (m2 _ _ _ _ U2 hcg).mono ?_; clear m2; rintro e w10 ⟨rfl, U3, q⟩
         replace U1 := U1.keepO q (fun G hG e => by have := n3.out.2 G hG; have := n5.out G e; have := n4.out; omega)
         replace F : Facts w10 _ := fun f hf => f.keep (F f hf) q (by
           have n3' := n3.out
           have n4' := n4.out
           have n5' := n5.out
           simp only [List.set_cons_succ, List.set_cons_zero, List.mem_cons, List.not_mem_nil, or_false, List.nil_append, List.cons_append] at hf
           rcases hf with rfl | rfl | rfl | rfl | rfl
           · intro G hG; have := n5' G hG; omega
           · intro hG; have := n5' _ hG; omega
           · intro G hG; have := n5' G hG; omega
           · intro G hG e; have := Option.some.inj hG; have := n5' G e; omega
           · intro hG; have := n5' _ hG; omega)
         clear q U2)
      | (go_at_call 16; refine (d1 _ _ _ U3.at hcg).mono ?_; clear d1; rintro e w11 ⟨rfl, hw11⟩; subst hw11; have c1 := (F.own 1 rfl).cell 0 _ rfl)
      | (go_at_call 10; refine (t3 _ (F.args 2 rfl)).mono ?_; clear t3 c1; rintro e w12 ⟨Gz, hGz, rfl, oz, q⟩; replace F := F.below q; replace U1 := U1.below q; replace U3 := U3.below q; clear q hGz)
      | (go_at_call 11; refine (hi2 _ _ (oz.at hw)).mono ?_; clear hi2; rintro e w13 ⟨ah, ch, oh, rfl, hch, U4, hoh, q⟩; replace F := F.below q; replace U1 := U1.below q; replace U3 := U3.below q; clear q hoh oz)
      | (go_at_call 12; refine (e3 _ _ _ _ _ U4.at U1.at hch hcw hL.out).mono ?_; clear e3; rintro e w14 ⟨rfl, q⟩; replace F := F.below q; replace U3 := U3.below q; clear q)
      | (go_at_call 16; refine (d2 _ _ _ U3.at hcg).mono ?_; clear d2; rintro e w15 ⟨rfl, hw15⟩; subst hw15)
    go_ret
    exact ⟨rfl, F.bel 0 rfl⟩
  · rw [if_pos (by omega)] at hz
    have hneg : (-1 : Int) < 0 := by omega
    clear hs hi
    go_enter Try.func3, Try.ntmps3
    go_wp2_with (go_at_call 8; refine (hz _).mono ?_; clear hz; rintro e w1 ⟨rfl, q⟩; replace F := F.below q; clear q)
    go_ret
    exact ⟨rfl, F.bel 0 rfl⟩

end Go.Proofs.Yteohgmmenlinbag
