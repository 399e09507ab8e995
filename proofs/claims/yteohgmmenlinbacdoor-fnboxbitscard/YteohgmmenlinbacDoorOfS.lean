/- The model's BoxOf: its contract. -/
import Derived.Test.YteohgmmenlinbacDoorApp
import Derived.Test.YteohgmmenlinbacDoorU64
import Derived.Test.YteohgmmenlinbacDoorSpecO
import Derived.Test.YteohgmmenlinbacDoorJB
import Derived.Test.YteohgmmenlinbacDoorRd
namespace Go.Proofs.YteohgmmenlinbacDoor
open Go.ChangeShapes Go.WideShapes Go.ChangeAt Go.RowKit
set_option linter.unusedVariables false

theorem specWidth (w : World) (n : Int) : Calls Tryd.prog 29 #[.int .i64 n] w fun e w' => e = .returned (.bool (decide (n = 32 ∨ n = 64))) ∧ Below w.heap.size w w' := by
  by_cases h1 : n = 32
  · subst h1
    go_enter Tryd.func29, Tryd.ntmps29
    go_wp2
    go_ret
    exact ⟨rfl, Below.refl _ _⟩
  · by_cases h2 : n = 64
    · subst h2
      go_enter Tryd.func29, Tryd.ntmps29
      go_wp2
      go_ret
      exact ⟨rfl, Below.refl _ _⟩
    · rw [decide_eq_false (by intro h; rcases h with h | h <;> contradiction)]
      go_enter Tryd.func29, Tryd.ntmps29
      go_wp2
      go_ret
      exact ⟨by simp [h1, h2], Below.refl _ _⟩

theorem take_pairs {n : Int} {zs : List Int} {i : Nat} (h : i < zs.length / 2) : (pairsU n zs).take (i + 1) = (pairsU n zs).take i ++ [(pairU n zs i).1] := by
  rw [List.take_add_one]
  unfold pairsU
  rw [madeL_get h]
  rfl

set_option maxRecDepth 100000 in
set_option maxHeartbeats 4000000 in
theorem specBoxOf (w : World) (n : Int) (a : Option Addr) (zs : List Int) (len cap : Nat) (hlen : zs.length = len) (h : UAt w a zs) (hz : ∀ z ∈ zs, 0 ≤ z ∧ z ≤ 18446744073709551615) (hl : len ≤ cap) (hm : len ≤ 1048576) :
    Calls Tryd.prog 10 #[.int .i64 n, .slice a len cap] w (BoxOutV w (boxU n zs) (.int .i64 (codeU n zs))) := by
  have q0 : Below w.heap.size w (w.alloc (.cells #[.slice none 0 0] 25)) := (Below.refl _ w).alloc (Nat.le_refl _) _
  have oR := Own.new w #[.slice none 0 0] 25
  have F := specWidth (w.alloc (.cells #[.slice none 0 0] 25)) n
  have hno : ∀ (W : World) (T : Array Value) (c : Int), boxU n zs = [] → codeU n zs = c → Own W w.heap.size [.slice none 0 0] → Below w.heap.size w W → T.getD 4 undef = .pointer (some ⟨w.heap.size, 0, none⟩) → T.getD 5 undef = .int .i64 c →
      bodyPost Tryd.prog Tryd.f10 (BoxOutV w (boxU n zs) (.int .i64 (codeU n zs))) Exit.ret { tmps := T, defers := [] } (W.setCell ⟨w.heap.size, 0, none⟩ (.slice none 0 0)) := by
    intro W T c e1 e2 hR hb ht hk
    refine boxEndV (ps := boxU n zs) (o := none) rfl (by rw [e1]; rfl) hR hb (Nat.le_refl _) (Nat.le_refl _) ?_ (fun G hG => by cases hG) (fun e => by cases e) ht (by rw [hk, e2])
    rw [e1]
    exact ⟨fun p hp => by simp at hp, .inl ⟨rfl, rfl⟩⟩
  have HN : Hid _ := hno
  clear hno
  by_cases hcnt : countU n zs = true
  · have hcn := hcnt
    unfold countU at hcnt
    simp only [Bool.and_eq_true, decide_eq_true_eq] at hcnt
    obtain ⟨⟨⟨hw, h2⟩, h12⟩, hev⟩ := hcnt
    rw [hlen] at h2 h12 hev
    rw [decide_eq_true hw] at F
    obtain ⟨m, hm2⟩ : ∃ m, len / 2 = m := ⟨_, rfl⟩
    have hlm : Hid (len = 2 * m) := by show len = 2 * m; omega
    have t1 : (len : Int).tmod 2 = 0 := by rw [Int.tmod_eq_emod_of_nonneg (by omega)]; omega
    have t2 : (len : Int) % 2 = 0 := by omega
    have k2 : ¬ (len : Int) < 2 := by omega
    have k12 : ¬ (12 : Int) < len := by omega
    have hne : zs ≠ [] := by intro e; rw [e] at hlen; simp at hlen; omega
    obtain ⟨rb, ro, ha, hlt0, hcells⟩ := h.resolve_left hne
    subst ha
    have HZ : Hid ((∀ i z, zs[i]? = some z → w.cell? ⟨rb, ro + i, none⟩ = some (.int .u64 z)) ∧ (∀ z ∈ zs, 0 ≤ z ∧ z ≤ 18446744073709551615) ∧ zs.length = len) := ⟨hcells, hz, hlen⟩
    have hf1 : ∀ i, i < m → (pairU n zs i).2 = false → boxU n zs = [] ∧ codeU n zs = 2 := by
      intro i hi e
      have : codeU n zs = 2 := by unfold codeU; rw [if_pos hcn, hlen, hm2, madeB_false hi e]; rfl
      exact ⟨by unfold boxU; rw [this]; rfl, this⟩
    have hf2 : (∀ i, i < m → (pairU n zs i).2 = true) → bokI n (pairsU n zs) = false → boxU n zs = [] ∧ codeU n zs = 3 := by
      intro e e'
      have : codeU n zs = 3 := by unfold codeU; rw [if_pos hcn, hlen, hm2, if_pos (madeB_true e), e']; rfl
      exact ⟨by unfold boxU; rw [this]; rfl, this⟩
    have hf3 : (∀ i, i < m → (pairU n zs i).2 = true) → bokI n (pairsU n zs) = true → boxU n zs = pairsU n zs ∧ codeU n zs = 0 := by
      intro e e'
      have : codeU n zs = 0 := by unfold codeU; rw [if_pos hcn, hlen, hm2, if_pos (madeB_true e), if_pos e']
      exact ⟨by unfold boxU; rw [if_pos this], this⟩
    have hf5 : (pairsU n zs).length = m := by unfold pairsU; rw [madeL_length, hlen, hm2]
    have hf6 : ∀ i, i < m → (pairsU n zs).take (i + 1) = (pairsU n zs).take i ++ [(pairU n zs i).1] := fun i hi => take_pairs (by rw [hlen, hm2]; exact hi)
    have HF : Hid _ := And.intro hf1 (And.intro hf2 (And.intro hf3 (And.intro hf5 hf6)))
    have hK := fun W (b : Option Addr) (c : Nat) (hp : PairsAt W b (pairsU n zs)) (hc : (pairsU n zs).length ≤ c) => specBoxOk W n b (pairsU n zs) c hp hc (by rw [hf5]; omega)
    rw [hf5] at hK
    have hm12 : m ≤ 6 := by omega
    clear hf1 hf2 hf3 hf5 hf6 hcells h hz hcn hne hlen hm2
    obtain ⟨i0, hi, hz0, hz1, hz2⟩ := info_parts infoPairB
    go_enter Tryd.func10, Tryd.ntmps10
    go_wp2_with (go_at_call 29; refine F.mono ?_; clear F; rintro e w1 ⟨rfl, q⟩; replace oR := oR.below q; replace q0 := q0.trans (q.mono q0.size); clear q; have A0 : Hid (App [.bel w] w.heap.size w1.heap.size ((pairsU n zs).take 0) (.slice none 0 0) (w1.alloc (.cells #[.slice none 0 0] 25))) := (App.start ((Facts.nil _).push (f := .bel w) q0) (fun f hf c hc => by
      simp only [List.mem_cons, List.not_mem_nil, or_false] at hf
      subst hf
      intro G hG
      have := Option.some.inj hG
      have := q0.size
      omega) oR); have hRK : w.heap.size < w1.heap.size := oR.lt; clear oR q0)
    go_loopg [7] m (fun gq iv wr => ∃ (i : Nat) (v : Value), i + gq = m ∧ iv = .int .i64 (2 * (i : Int)) ∧ Hid (∀ j, j < i → (pairU n zs j).2 = true) ∧ Hid (App [.bel w] w.heap.size w1.heap.size ((pairsU n zs).take i) v wr))
    case atStart => exact ⟨0, _, by omega, rfl, (fun j hj => absurd hj (by omega)), A0⟩
    case round =>
      clear A0
      obtain ⟨i, v, hiq, rfl, AL, A⟩ := hrel
      by_cases hlast : i < m
      · have hil : (2 * (i : Int)) < len := by have := hlm.out; omega
        have hil2 : (2 * (i : Int)) + 1 < len := by have := hlm.out; omega
        have qb := A.out.facts.bel 0 rfl
        have c0 := (qb.cell (p := ⟨rb, ro + 2 * i, none⟩) hlt0).trans (HZ.out.1 _ _ (atU_get (by rw [HZ.out.2.2]; have := hlm.out; omega)))
        have c1 := (qb.cell (p := ⟨rb, ro + (2 * i + 1), none⟩) hlt0).trans (HZ.out.1 _ _ (atU_get (by rw [HZ.out.2.2]; have := hlm.out; omega)))
        have hlt1 := Nat.lt_of_lt_of_le hlt0 qb.size
        have b0 := at_bounds HZ.out.2.1 (2 * i)
        have b1 := at_bounds HZ.out.2.1 (2 * i + 1)
        have h1 := fun W => specOrd W n (atU zs (2 * i)) b0.1 b0.2
        have h2' := fun W => specOrd W n (atU zs (2 * i + 1)) b1.1 b1.2
        unfold OrdOut at h1 h2'
        have hlt2 : ((pairsU n zs).take i).length = i := by rw [List.length_take, HF.out.2.2.2.1]; omega
        have hnx : Hid ((pairsU n zs).take (i + 1) = (pairsU n zs).take i ++ [(ordI n (atU zs (2 * i)), ordI n (atU zs (2 * i + 1)))]) := HF.out.2.2.2.2 i hlast
        have hw0 := ord_wf (n := n) b0.1 b0.2
        have hw1 := ord_wf (n := n) b1.1 b1.2
        have HB : Hid ((pairU n zs i).2 = (isFloat n (atU zs (2 * i)) && isFloat n (atU zs (2 * i + 1)))) := rfl
        clear b0 b1 qb
        generalize ordI n (atU zs (2 * i)) = u0 at *
        generalize ordI n (atU zs (2 * i + 1)) = u1 at *
        generalize isFloat n (atU zs (2 * i)) = g0 at *
        generalize isFloat n (atU zs (2 * i + 1)) = g1 at *
        generalize atU zs (2 * i) = z0 at *
        generalize atU zs (2 * i + 1) = z1 at *
        generalize (pairsU n zs).take i = out at *
        clear hK
        by_cases hgg : (g0 && g1) = true
        · rw [Bool.and_eq_true] at hgg
          obtain ⟨rfl, rfl⟩ := hgg
          go_wp2_with first
            | (go_at_call 30; refine (h1 _).mono ?_; clear h1; rintro e w2 ⟨rfl, q⟩; replace A : Hid (App [.bel w] w.heap.size w1.heap.size out v w2) := A.out.below q; replace c1 := (q.cell (p := ⟨rb, ro + (2 * i + 1), none⟩) hlt1).trans c1; replace hlt1 := Nat.lt_of_lt_of_le hlt1 q.size; clear q c0)
            | (go_at_call 30; refine (h2' _).mono ?_; clear h2'; rintro e w3 ⟨rfl, q⟩; replace A : Hid (App [.bel w] w.heap.size w1.heap.size out v w3) := A.out.below q; clear q c1; have A6 : Hid (App [.bel w] w.heap.size w1.heap.size out v (w3.alloc (.cells #[.int .i64 u0, .int .i64 u1] 40))) := A.out.below ((Below.refl _ _).alloc (Nat.le_refl _) _); have e0 := A.out.box.cell 0 v rfl)
            | (at_builtin; (refine wpList_append_own _ rfl _ _ 23 rfl (w1.heap.size + 1) 40 i0 (.agg #[.int .i64 0, .int .i64 0]) 2 16 Tryd.underlying23 hi hz0 hz1 hz2 rfl (by decide) _ _ _ rfl A6.out.row ⟨_, 0, none⟩ 1 1 [_, _] rfl rfl (cell_two_at (by first | rfl | simp)) (fun u hu => by simp at hu; rcases hu with rfl | rfl <;> rfl) (by rw [hlt2]; unfold maxLen; omega) (by rw [hlt2]; omega) (by have := A6.out.box.lt; omega) ?_); intro v' w7 hown' hgrow hnil
               have o7 := A6.out.boxKeep hgrow
               have g0 := o7.cell 0 v rfl
               have g1 := o7.frz 0 v rfl
               have FA : Hid _ := App.append A6.out hgrow hown' ⟨hw0, hw1⟩
               have hex : ∃ g cap, v' = .slice (some ⟨g, 0, none⟩) (out.length + 1) cap := (by rcases hown'.2 with ⟨_, q⟩ | ⟨g, cap, _, q, _⟩ <;> first | omega | exact ⟨_, _, q⟩)
               obtain ⟨g7, cap7, hv7⟩ := hex
               rw [hv7]
               rw [hv7] at FA
               clear hown' hgrow hnil A6 o7)
          go_roundg (m - (i + 1))
          case measure => omega
          case rel => exact ⟨i + 1, _, by omega, by first | go_num | (congr 1; omega), (fun j hj => by
            by_cases e : j = i
            · subst e; exact HB.out
            · exact AL.out j (by omega)), by rw [hnx.out]; have f := FA.out; rw [hlt2] at f; exact f⟩
        · have hgf : (pairU n zs i).2 = false := by rw [HB.out]; cases hx : (g0 && g1) <;> simp_all
          obtain ⟨e1, e2⟩ := HF.out.1 i hlast hgf
          have E : Hid (boxU n zs = [] ∧ codeU n zs = 2) := ⟨e1, e2⟩
          clear e1 e2 hgf HB hnx
          cases g0
          · clear hgg
            go_wp2_with first
              | (go_at_call 30; refine (h1 _).mono ?_; clear h1; rintro e w2 ⟨rfl, q⟩; replace A : Hid (App [.bel w] w.heap.size w1.heap.size out v w2) := A.out.below q; replace c1 := (q.cell (p := ⟨rb, ro + (2 * i + 1), none⟩) hlt1).trans c1; replace hlt1 := Nat.lt_of_lt_of_le hlt1 q.size; clear q c0)
              | (go_at_call 30; refine (h2' _).mono ?_; clear h2'; rintro e w3 ⟨rfl, q⟩; replace A : Hid (App [.bel w] w.heap.size w1.heap.size out v w3) := A.out.below q; clear q c1; have r0 := A.out.res.cell 0 _ rfl; have r1 := A.out.res.frz 0 _ rfl)
            exact HN.out _ _ 2 E.out.1 E.out.2 A.out.res (A.out.facts.bel 0 rfl) rfl rfl
          · cases g1
            · clear hgg
              go_wp2_with first
                | (go_at_call 30; refine (h1 _).mono ?_; clear h1; rintro e w2 ⟨rfl, q⟩; replace A : Hid (App [.bel w] w.heap.size w1.heap.size out v w2) := A.out.below q; replace c1 := (q.cell (p := ⟨rb, ro + (2 * i + 1), none⟩) hlt1).trans c1; replace hlt1 := Nat.lt_of_lt_of_le hlt1 q.size; clear q c0)
                | (go_at_call 30; refine (h2' _).mono ?_; clear h2'; rintro e w3 ⟨rfl, q⟩; replace A : Hid (App [.bel w] w.heap.size w1.heap.size out v w3) := A.out.below q; clear q c1; have r0 := A.out.res.cell 0 _ rfl; have r1 := A.out.res.frz 0 _ rfl)
              exact HN.out _ _ 2 E.out.1 E.out.2 A.out.res (A.out.facts.bel 0 rfl) rfl rfl
            · exact absurd rfl hgg
      · have hil : ¬ (2 * (i : Int)) < len := by have := hlm.out; omega
        have ei : m = i := by omega
        subst ei
        have hpl := HF.out.2.2.2.1
        rw [List.take_of_length_le (by rw [hpl]; omega)] at A
        obtain ⟨a5, c5, o5, rfl, hc5, hp5, ho5⟩ := ownsRow_has A.out.row A.out.wf
        have HG : Hid (∀ G, o5 = some G → w.heap.size + 1 ≤ G) := fun G hG => by have := ho5 G hG; omega
        rw [hpl] at hc5 A
        have e0 := A.out.box.cell 0 _ rfl
        have HP : Hid ((pairsU n zs).length = m) := hpl
        cases hbk : bokI n (pairsU n zs)
        · obtain ⟨e1, e2⟩ := HF.out.2.1 AL.out hbk
          have E : Hid (boxU n zs = [] ∧ codeU n zs = 3) := ⟨e1, e2⟩
          rw [hbk] at hK
          clear e1 e2 hbk HF ho5 hpl
          go_wp2_with (go_at_call 7; refine (hK _ _ _ hp5.at hc5).mono ?_; clear hK; rintro e w3 ⟨rfl, q⟩; replace A : Hid _ := A.out.below q; clear q e0; have r0 := A.out.res.cell 0 _ rfl; have r1 := A.out.res.frz 0 _ rfl)
          exact HN.out _ _ 3 E.out.1 E.out.2 A.out.res (A.out.facts.bel 0 rfl) rfl rfl
        · obtain ⟨e1, e2⟩ := HF.out.2.2.1 AL.out hbk
          have E : Hid (boxU n zs = pairsU n zs ∧ codeU n zs = 0) := ⟨e1, e2⟩
          rw [hbk] at hK
          clear e1 e2 hbk HF ho5 hpl HN
          go_wp2_with (go_at_call 7; refine (hK _ _ _ hp5.at hc5).mono ?_; clear hK; rintro e w3 ⟨rfl, q⟩; replace A : Hid _ := A.out.below q; replace hp5 := hp5.below q; clear q e0; have r0 := A.out.res.cell 0 _ rfl; have r1 := A.out.res.frz 0 _ rfl; have r2 := A.out.box.cell 0 _ rfl)
          exact boxEndV (ps := boxU n zs) (o := o5) rfl (by rw [E.out.1]; exact HP.out) A.out.res (A.out.facts.bel 0 rfl) (Nat.le_refl _) hc5 (by rw [E.out.1]; exact hp5) (fun G hG => by have := HG.out G hG; omega) (fun e => by have := HG.out _ e; omega) rfl (by rw [E.out.2]; rfl)
  · have hcode : codeU n zs = 1 := by unfold codeU; rw [if_neg hcnt]
    have hbx : boxU n zs = [] := by unfold boxU; rw [hcode]; rfl
    have E : Hid (boxU n zs = [] ∧ codeU n zs = 1) := ⟨hbx, hcode⟩
    clear hcode hbx h hz
    by_cases hw : n = 32 ∨ n = 64
    · rw [decide_eq_true hw] at F
      by_cases h2 : len < 2
      · have k2 : (len : Int) < 2 := by omega
        clear hcnt
        go_enter Tryd.func10, Tryd.ntmps10
        go_wp2_with (go_at_call 29; refine F.mono ?_; clear F; rintro e w2 ⟨rfl, q⟩; replace oR := oR.below q; replace q0 := q0.trans (q.mono q0.size); clear q; have r0 := oR.cell 0 _ rfl; have r1 := oR.frz 0 _ rfl)
        exact HN.out _ _ 1 E.out.1 E.out.2 oR q0 rfl rfl
      · have k2 : ¬ (len : Int) < 2 := by omega
        by_cases h12 : 12 < len
        · have k12 : (12 : Int) < len := by omega
          clear hcnt
          go_enter Tryd.func10, Tryd.ntmps10
          go_wp2_with (go_at_call 29; refine F.mono ?_; clear F; rintro e w2 ⟨rfl, q⟩; replace oR := oR.below q; replace q0 := q0.trans (q.mono q0.size); clear q; have r0 := oR.cell 0 _ rfl; have r1 := oR.frz 0 _ rfl)
          exact HN.out _ _ 1 E.out.1 E.out.2 oR q0 rfl rfl
        · have k12 : ¬ (12 : Int) < len := by omega
          have hodd : len % 2 = 1 := by
            rcases Nat.mod_two_eq_zero_or_one len with e | e
            · exfalso
              apply hcnt
              unfold countU
              rw [decide_eq_true hw, hlen, decide_eq_true (show 2 ≤ len by omega), decide_eq_true (show len ≤ 12 by omega), decide_eq_true e]
              rfl
            · exact e
          have t2 : (len : Int) % 2 = 1 := by omega
          have t1 : (len : Int).tmod 2 = 1 := by rw [Int.tmod_eq_emod_of_nonneg (by omega)]; omega
          clear hcnt
          go_enter Tryd.func10, Tryd.ntmps10
          go_wp2_with (go_at_call 29; refine F.mono ?_; clear F; rintro e w2 ⟨rfl, q⟩; replace oR := oR.below q; replace q0 := q0.trans (q.mono q0.size); clear q; have r0 := oR.cell 0 _ rfl; have r1 := oR.frz 0 _ rfl)
          exact HN.out _ _ 1 E.out.1 E.out.2 oR q0 rfl rfl
    · rw [decide_eq_false hw] at F
      clear hcnt
      go_enter Tryd.func10, Tryd.ntmps10
      go_wp2_with (go_at_call 29; refine F.mono ?_; clear F; rintro e w2 ⟨rfl, q⟩; replace oR := oR.below q; replace q0 := q0.trans (q.mono q0.size); clear q; have r0 := oR.cell 0 _ rfl; have r1 := oR.frz 0 _ rfl)
      exact HN.out _ _ 1 E.out.1 E.out.2 oR q0 rfl rfl

end Go.Proofs.YteohgmmenlinbacDoor
