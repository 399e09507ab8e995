/- The program's boxRead and BoxOf: their contracts. -/
import Derived.Test.YteohgmmenlinbacDoorAs
import Derived.Test.YteohgmmenlinbacDoorJB
import Derived.Test.YteohgmmenlinbacDoorU64
import Derived.Test.YteohgmmenlinbacDoorSpecO
import Derived.Test.YteohgmmenlinbacDoorOfP
import Derived.Deep.QuietTactic
import Derived.BigQuiet
namespace Go.Proofs.YteohgmmenlinbacDoor
open Go.ChangeShapes Go.WideShapes Go.ChangeAt Go.RowKit
set_option linter.unusedVariables false

set_option maxRecDepth 100000 in
set_option maxHeartbeats 2000000 in
theorem readAt (w : World) (n : Int) (k1 k2 rb ro len cap i : Nat) (z0 z1 : Int) (b0 : 0 ≤ z0 ∧ z0 ≤ 18446744073709551615) (b1 : 0 ≤ z1 ∧ z1 ≤ 18446744073709551615) (o1 : Own w k1 [.int .i64 n]) (o2 : Own w k2 [.slice (some ⟨rb, ro, none⟩) len cap]) (hlt : rb < w.heap.size)
    (c0 : w.cell? ⟨rb, ro + 2 * i, none⟩ = some (.int .u64 z0)) (c1 : w.cell? ⟨rb, ro + (2 * i + 1), none⟩ = some (.int .u64 z1)) (hi : 2 * i + 1 < len) (hl : len ≤ cap) (hm : len ≤ 1048576) :
    Calls Tryd.prog 42 #[.int .i64 (i : Int), .pointer (some ⟨k1, 0, none⟩), .pointer (some ⟨k2, 0, none⟩)] w fun e w' => e = .returned (.tuple #[.agg #[.int .i64 (ordI n z0), .int .i64 (ordI n z1)], .bool (isFloat n z0 && isFloat n z1)]) ∧ Below w.heap.size w w' := by
  have h1 := fun W => implOrd W n z0 b0.1 b0.2
  have h2 := fun W => implOrd W n z1 b1.1 b1.2
  unfold OrdOut at h1 h2
  have q0 : Below w.heap.size w (w.alloc (.cells #[.int .i64 0, .int .i64 0] 40)) := (Below.refl _ w).alloc (Nat.le_refl _) _
  have oR := Own.new w #[.int .i64 0, .int .i64 0] 40
  have p1 := o1.below q0
  have p2 := o2.below q0
  have d0 := (q0.cell (p := ⟨rb, ro + 2 * i, none⟩) hlt).trans c0
  have d1 := (q0.cell (p := ⟨rb, ro + (2 * i + 1), none⟩) hlt).trans c1
  have hlt1 := Nat.lt_of_lt_of_le hlt q0.size
  have hH : Hid (Below w.heap.size w (w.alloc (.cells #[.int .i64 0, .int .i64 0] 40)) ∧ Own (w.alloc (.cells #[.int .i64 0, .int .i64 0] 40)) w.heap.size [.int .i64 0, .int .i64 0]) := ⟨q0, oR⟩
  have hi0 : (2 * (i : Int)) < len := by omega
  have hi1 : (2 * (i : Int)) + 1 < len := by omega
  clear o1 o2 c0 c1 b0 b1 q0 oR
  generalize ordI n z0 = u0 at *
  generalize ordI n z1 = u1 at *
  generalize isFloat n z0 = g0 at *
  generalize isFloat n z1 = g1 at *
  go_enter Tryd.func42, Tryd.ntmps42
  go_wp2
  generalize w.alloc (.cells #[.int .i64 0, .int .i64 0] 40) = W0 at *
  refine region_below (by kernel_rfl) (by kernel_rfl) ?_
  repeat (first
    | go_big_quiet_step (first
      | (intro hC; go_at_call 11; exact Calls.qb hC (h1 _))
      | (intro _; rfl))
    | (go_big_quiet_want
       go_big_quiet_op
       refine ⟨.int .i64 n, ?_, ?_⟩
       · intro W hC
         have r0 := (hC.cell (p := ⟨k1, 0, none⟩) (p1.lt)).trans (p1.cell 0 _ rfl)
         go_simp
       go_big_quiet_on)
    | (go_big_quiet_want
       go_big_quiet_op
       refine ⟨.slice (some ⟨rb, ro, none⟩) len cap, ?_, ?_⟩
       · intro W hC
         have r0 := (hC.cell (p := ⟨k2, 0, none⟩) (p2.lt)).trans (p2.cell 0 _ rfl)
         go_simp
       go_big_quiet_on)
    | (go_big_quiet_want
       go_big_quiet_op
       refine ⟨.int .u64 z0, ?_, ?_⟩
       · intro W hC
         have r0 := (hC.cell (p := ⟨rb, ro + 2 * i, none⟩) (hlt1)).trans (d0)
         go_simp
       go_big_quiet_on))
  refine wpQuiet_nil ?_
  intro w2 q2
  have hH2 : Hid (Below w.heap.size w w2 ∧ Own w2 w.heap.size [.int .i64 0, .int .i64 0]) := ⟨hH.out.1.trans (q2.mono hH.out.1.size), hH.out.2.below q2⟩
  replace p1 := p1.below q2
  replace p2 := p2.below q2
  replace d1 := (q2.cell (p := ⟨rb, ro + (2 * i + 1), none⟩) hlt1).trans d1
  replace hlt1 := Nat.lt_of_lt_of_le hlt1 q2.size
  clear q2 d0 hH
  go_wp2
  refine region_below (by kernel_rfl) (by kernel_rfl) ?_
  repeat (first
    | go_big_quiet_step (first
      | (intro hC; go_at_call 11; exact Calls.qb hC (h2 _))
      | (intro _; rfl))
    | (go_big_quiet_want
       go_big_quiet_op
       refine ⟨.int .i64 n, ?_, ?_⟩
       · intro W hC
         have r0 := (hC.cell (p := ⟨k1, 0, none⟩) (p1.lt)).trans (p1.cell 0 _ rfl)
         go_simp
       go_big_quiet_on)
    | (go_big_quiet_want
       go_big_quiet_op
       refine ⟨.slice (some ⟨rb, ro, none⟩) len cap, ?_, ?_⟩
       · intro W hC
         have r0 := (hC.cell (p := ⟨k2, 0, none⟩) (p2.lt)).trans (p2.cell 0 _ rfl)
         go_simp
       go_big_quiet_on)
    | (go_big_quiet_want
       go_big_quiet_op
       refine ⟨.int .u64 z1, ?_, ?_⟩
       · intro W hC
         have r0 := (hC.cell (p := ⟨rb, ro + (2 * i + 1), none⟩) (hlt1)).trans (d1)
         go_simp
       go_big_quiet_on))
  refine wpQuiet_nil ?_
  intro w3 q3
  have oR := hH2.out.2.below q3
  have bel := hH2.out.1.trans (q3.mono hH2.out.1.size)
  have r0 := oR.cell 0 _ rfl
  have r1 := oR.cell 1 _ rfl
  have f0 := oR.frz 0 _ rfl
  have f1 := oR.frz 1 _ rfl
  have OS : Hid (Own ((w3.setCell ⟨w.heap.size, 0, none⟩ (.int .i64 u0)).setCell ⟨w.heap.size, 1, none⟩ (.int .i64 u1)) w.heap.size [.int .i64 u0, .int .i64 u1] ∧ Below w.heap.size w ((w3.setCell ⟨w.heap.size, 0, none⟩ (.int .i64 u0)).setCell ⟨w.heap.size, 1, none⟩ (.int .i64 u1))) := ⟨oR.set2 _ _, (bel.setCell (p := ⟨w.heap.size, 0, none⟩) (Nat.le_refl _) _).setCell (p := ⟨w.heap.size, 1, none⟩) (Nat.le_refl _) _⟩
  have r2 : (w3.setCell ⟨w.heap.size, 0, none⟩ (.int .i64 u0)).cell? ⟨w.heap.size, 1, none⟩ = some (.int .i64 0) := (oR.set (i := 0) (.int .i64 u0) (by simp)).cell 1 _ rfl
  clear q3 p1 p2 d1 hH2 bel oR
  cases g0
  · go_wp2
    refine bodyPost_ret (v := .tuple #[.agg #[.int .i64 u0, .int .i64 u1], .bool false]) ?_ rfl ⟨by simp, OS.out.2⟩
    have s0 := OS.out.1.cell 0 _ rfl
    have s1 := OS.out.1.cell 1 _ rfl
    simp [results, Tryd.f42, go_sem, s0, s1]
  · go_wp2
    refine bodyPost_ret (v := .tuple #[.agg #[.int .i64 u0, .int .i64 u1], .bool g1]) ?_ rfl ⟨by simp, OS.out.2⟩
    have s0 := OS.out.1.cell 0 _ rfl
    have s1 := OS.out.1.cell 1 _ rfl
    simp [results, Tryd.f42, go_sem, s0, s1]

theorem formatAny (w : World) (n : Int) : ∃ fv, Calls Tryd.prog 31 #[.int .i64 n] w fun e w' => e = .returned (.tuple #[fv, .bool (decide (n = 32 ∨ n = 64))]) ∧ Below w.heap.size w w' := by
  by_cases h1 : n = 32
  · subst h1
    exact ⟨_, (format32 w).mono fun e w' ⟨he, hw⟩ => ⟨he, hw ▸ Below.refl _ _⟩⟩
  · by_cases h2 : n = 64
    · subst h2
      exact ⟨_, (format64 w).mono fun e w' ⟨he, hw⟩ => ⟨he, hw ▸ Below.refl _ _⟩⟩
    · refine ⟨.nilIface, (formatNo w n h1 h2).mono ?_⟩
      rintro e w' ⟨rfl, rfl⟩
      exact ⟨by rw [decide_eq_false (by intro h; rcases h with h | h <;> contradiction)], Below.refl _ _⟩

theorem ord_wf {n x : Int} (h0 : 0 ≤ x) (h1 : x ≤ 18446744073709551615) : (Lit.int .i64 (ordI n x)).wf = true := by
  unfold ordI
  apply i64_wf
  · split
    · split <;> try split
      all_goals omega
    · split
      · split <;> try split
        all_goals omega
      · omega
  · split
    · split <;> try split
      all_goals omega
    · split
      · split <;> try split
        all_goals omega
      · omega

/-- The error that stands for a code. -/
def errV (c : Int) : Value := if c = 0 then .nilIface else .iface 77 (.agg #[.int .i64 c])

theorem at_bounds {zs : List Int} (h : ∀ z ∈ zs, 0 ≤ z ∧ z ≤ 18446744073709551615) (i : Nat) : 0 ≤ atU zs i ∧ atU zs i ≤ 18446744073709551615 := by
  unfold atU
  by_cases hi : i < zs.length
  · rw [List.getElem?_eq_getElem hi]
    exact h _ (List.getElem_mem hi)
  · rw [List.getElem?_eq_none (by omega)]
    exact ⟨Int.le_refl _, by decide⟩

theorem atU_get {zs : List Int} {i : Nat} (h : i < zs.length) : zs[i]? = some (atU zs i) := by
  unfold atU
  rw [List.getElem?_eq_getElem h]
  rfl

set_option maxRecDepth 100000 in
set_option maxHeartbeats 4000000 in
theorem boxRead (w : World) (n : Int) (a : Option Addr) (zs : List Int) (len cap : Nat) (hlen : zs.length = len) (h : UAt w a zs) (hz : ∀ z ∈ zs, 0 ≤ z ∧ z ≤ 18446744073709551615) (hl : len ≤ cap) (hm : len ≤ 1048576) :
    Calls Tryd.prog 17 #[.int .i64 n, .slice a len cap] w (BoxOutV w (boxU n zs) (errV (codeU n zs))) := by
  have F := fun W => formatAny W n
  have q0 : Below w.heap.size w (((w.alloc (.cells #[.int .i64 n] 3)).alloc (.cells #[.slice a len cap] 28)).alloc (.cells #[.slice none 0 0] 25)) := (((Below.refl _ w).alloc (Nat.le_refl _) _).alloc (by simp) _).alloc (by simp; omega) _
  have oN := ((Own.new w #[.int .i64 n] 3).alloc (.cells #[.slice a len cap] 28)).alloc (.cells #[.slice none 0 0] 25)
  have oB := (Own.new (w.alloc (.cells #[.int .i64 n] 3)) #[.slice a len cap] 28).alloc (.cells #[.slice none 0 0] 25)
  have oR := Own.new ((w.alloc (.cells #[.int .i64 n] 3)).alloc (.cells #[.slice a len cap] 28)) #[.slice none 0 0] 25
  simp only [World.size_alloc] at oN oB oR
  obtain ⟨fv, F⟩ := F (((w.alloc (.cells #[.int .i64 n] 3)).alloc (.cells #[.slice a len cap] 28)).alloc (.cells #[.slice none 0 0] 25))
  have hno : ∀ (W : World) (T : Array Value) (c : Int), boxU n zs = [] → codeU n zs = c → c ≠ 0 → Own W (w.heap.size + 1 + 1) [.slice none 0 0] → Below w.heap.size w W → T.getD 4 undef = .pointer (some ⟨w.heap.size + 1 + 1, 0, none⟩) → T.getD 5 undef = .iface 77 (.agg #[.int .i64 c]) →
      bodyPost Tryd.prog Tryd.f17 (BoxOutV w (boxU n zs) (errV (codeU n zs))) Exit.ret { tmps := T, defers := [] } (W.setCell ⟨w.heap.size + 1 + 1, 0, none⟩ (.slice none 0 0)) := by
    intro W T c e1 e2 e3 hR hb ht hk
    refine boxEndV (ps := boxU n zs) (o := none) rfl (by rw [e1]; rfl) hR hb (by omega) (Nat.le_refl _) ?_ (fun G hG => by cases hG) (fun e => by cases e) ht ?_
    · rw [e1]
      exact ⟨fun p hp => by simp at hp, .inl ⟨rfl, rfl⟩⟩
    · rw [hk, e2]
      unfold errV
      rw [if_neg e3]
  have HN : Hid _ := hno
  clear hno
  by_cases hcnt : countU n zs = true
  · have hcn := hcnt
    unfold countU at hcnt
    simp only [Bool.and_eq_true, decide_eq_true_eq] at hcnt
    obtain ⟨⟨⟨hw, h2⟩, h12⟩, hev⟩ := hcnt
    rw [hlen] at h2 h12 hev
    rw [decide_eq_true hw] at F
    obtain ⟨m, hm2⟩ : ∃ m, len / 2 = m := ⟨_, rfl⟩
    have hlm : len = 2 * m := by omega
    have t1 : (len : Int).tmod 2 = 0 := by rw [Int.tmod_eq_emod_of_nonneg (by omega)]; omega
    have t2 : (len : Int) % 2 = 0 := by omega
    have t3 : (len : Int).tdiv 2 = (m : Int) := by rw [Int.tdiv_eq_ediv_of_nonneg (by omega)]; omega
    have t4 : (len : Int) / 2 = (m : Int) := by omega
    have k2 : ¬ (len : Int) < 2 := by omega
    have k12 : ¬ (12 : Int) < len := by omega
    have hne : zs ≠ [] := by intro e; rw [e] at hlen; simp at hlen; omega
    obtain ⟨rb, ro, ha, hlt0, hcells⟩ := h.resolve_left hne
    subst ha
    have hM := fun W (q : Below w.heap.size w W) (o1 : Own W w.heap.size [.int .i64 n]) (o2 : Own W (w.heap.size + 1) [.slice (some ⟨rb, ro, none⟩) len cap]) => boxMade W m (by omega) 42 #[.pointer (some ⟨w.heap.size, 0, none⟩), .pointer (some ⟨w.heap.size + 1, 0, none⟩)] (pairU n zs) (enters_of Tryd.func42 (by kernel_rfl) rfl)
      (fun i hi => ⟨ord_wf (at_bounds hz _).1 (at_bounds hz _).2, ord_wf (at_bounds hz _).1 (at_bounds hz _).2⟩) (fun i V hi hV => by
        have qV := q.trans (hV.mono q.size)
        exact readAt V n w.heap.size (w.heap.size + 1) rb ro len cap i _ _ (at_bounds hz _) (at_bounds hz _) (o1.below hV) (o2.below hV) (Nat.lt_of_lt_of_le hlt0 qV.size) ((qV.cell (p := ⟨rb, ro + 2 * i, none⟩) hlt0).trans (hcells _ _ (atU_get (by omega)))) ((qV.cell (p := ⟨rb, ro + (2 * i + 1), none⟩) hlt0).trans (hcells _ _ (atU_get (by omega)))) (by omega) hl hm)
    have hf1 : madeB (pairU n zs) m = false → boxU n zs = [] ∧ codeU n zs = 2 := by
      intro e
      have : codeU n zs = 2 := by unfold codeU; rw [if_pos hcn, hlen, hm2, e]; rfl
      exact ⟨by unfold boxU; rw [this]; rfl, this⟩
    have hf2 : madeB (pairU n zs) m = true → bokI n (pairsU n zs) = false → boxU n zs = [] ∧ codeU n zs = 3 := by
      intro e e'
      have : codeU n zs = 3 := by unfold codeU; rw [if_pos hcn, hlen, hm2, if_pos e, e']; rfl
      exact ⟨by unfold boxU; rw [this]; rfl, this⟩
    have hf3 : madeB (pairU n zs) m = true → bokI n (pairsU n zs) = true → boxU n zs = pairsU n zs ∧ codeU n zs = 0 := by
      intro e e'
      have : codeU n zs = 0 := by unfold codeU; rw [if_pos hcn, hlen, hm2, if_pos e, if_pos e']
      exact ⟨by unfold boxU; rw [if_pos this], this⟩
    have hf4 : madeB (pairU n zs) m = true → madeR (pairU n zs) m = pairsU n zs := by
      intro e
      unfold madeR pairsU
      rw [if_pos e, hlen, hm2]
    have hf5 : (pairsU n zs).length = m := by unfold pairsU; rw [madeL_length, hlen, hm2]
    have HF : Hid _ := And.intro hf1 (And.intro hf2 (And.intro hf3 (And.intro hf4 hf5)))
    clear hf1 hf2 hf3 hf4 hf5 hcells h hz hcn hne hlen hm2
    have hm12 : m ≤ 6 := by omega
    clear hlm
    cases hk : madeB (pairU n zs) m
    · obtain ⟨e1, e2⟩ := HF.out.1 hk
      have E : Hid (boxU n zs = [] ∧ codeU n zs = 2) := ⟨e1, e2⟩
      rw [hk] at hM
      clear e1 e2 HF hk
      go_enter Tryd.func17, Tryd.ntmps17
      go_wp2_with first
        | (go_at_call 31; refine F.mono ?_; clear F; rintro e w2 ⟨rfl, q⟩; replace oR := oR.below q; replace oN := oN.below q; replace oB := oB.below q; replace q0 := q0.trans (q.mono q0.size); clear q; have c1 := oB.cell 0 _ rfl)
        | (go_at_call 41; refine (hM _ q0 oN oB).mono ?_; clear hM; rintro e w4 ⟨a5, c5, o5, rfl, hc5, hh5, hg5, q⟩; replace oR := oR.below q; replace q0 := q0.trans (q.mono q0.size); clear q c1 hh5 hg5; replace oR := oR.alloc (.cells #[.slice a5 (madeR (pairU n zs) m).length c5] 25); replace q0 := q0.alloc (by exact q0.size) (.cells #[.slice a5 (madeR (pairU n zs) m).length c5] 25); have r0 := oR.cell 0 _ rfl; have r1 := oR.frz 0 _ rfl)
      exact HN.out _ _ 2 E.out.1 E.out.2 (by decide) oR q0 rfl rfl
    · have eR := HF.out.2.2.2.1 hk
      rw [hk, eR] at hM
      have hK := fun W (b : Option Addr) (c : Nat) (hp : PairsAt W b (pairsU n zs)) (hc : (pairsU n zs).length ≤ c) => implBoxOk W n b (pairsU n zs) c hp hc (by rw [HF.out.2.2.2.2]; omega)
      have hpl := HF.out.2.2.2.2
      cases hbk : bokI n (pairsU n zs)
      · obtain ⟨e1, e2⟩ := HF.out.2.1 hk hbk
        have E : Hid (boxU n zs = [] ∧ codeU n zs = 3) := ⟨e1, e2⟩
        rw [hbk] at hK
        clear e1 e2 HF hk eR hbk
        generalize pairsU n zs = P at *
        rw [hpl] at hK
        have HP : Hid (P.length = m) := hpl
        unfold BoxOut at hM
        rw [hpl] at hM
        clear hpl
        go_enter Tryd.func17, Tryd.ntmps17
        go_wp2_with first
          | (go_at_call 31; refine F.mono ?_; clear F; rintro e w2 ⟨rfl, q⟩; replace oR := oR.below q; replace oN := oN.below q; replace oB := oB.below q; replace q0 := q0.trans (q.mono q0.size); clear q; have c1 := oB.cell 0 _ rfl)
          | (go_at_call 41; refine (hM _ q0 oN oB).mono ?_; clear hM; rintro e w4 ⟨a5, c5, o5, rfl, hc5, hh5, hg5, q⟩; replace oR := oR.below q; replace oN := oN.below q; replace q0 := q0.trans (q.mono q0.size); clear q c1 hg5; have qa : Below w4.heap.size w4 (w4.alloc (.cells #[.slice a5 m c5] 25)) := (Below.refl _ _).alloc (Nat.le_refl _) _; replace oR := oR.below qa; replace oN := oN.below qa; replace q0 := q0.trans (qa.mono q0.size); replace hh5 := hh5.below qa; clear qa; have c2 := oN.cell 0 _ rfl)
          | (go_at_call 13; refine (hK _ a5 c5 hh5.at hc5).mono ?_; clear hK; rintro e w6 ⟨rfl, q⟩; replace oR := oR.below q; replace q0 := q0.trans (q.mono q0.size); clear q c2; have r0 := oR.cell 0 _ rfl; have r1 := oR.frz 0 _ rfl)
        exact HN.out _ _ 3 E.out.1 E.out.2 (by decide) oR q0 rfl rfl
      · obtain ⟨e1, e2⟩ := HF.out.2.2.1 hk hbk
        have E : Hid (boxU n zs = pairsU n zs ∧ codeU n zs = 0) := ⟨e1, e2⟩
        rw [hbk] at hK
        clear e1 e2 HF hk eR hbk HN
        generalize pairsU n zs = P at *
        rw [hpl] at hK
        have HP : Hid (P.length = m) := hpl
        unfold BoxOut at hM
        rw [hpl] at hM
        clear hpl
        have hR2 : w.heap.size + 1 + 1 + 1 ≤ (((w.alloc (.cells #[.int .i64 n] 3)).alloc (.cells #[.slice (some ⟨rb, ro, none⟩) len cap] 28)).alloc (.cells #[.slice none 0 0] 25)).heap.size := by simp
        go_enter Tryd.func17, Tryd.ntmps17
        go_wp2_with first
          | (go_at_call 31; refine F.mono ?_; clear F; rintro e w2 ⟨rfl, q⟩; replace hR2 := Nat.le_trans hR2 q.size; replace oR := oR.below q; replace oN := oN.below q; replace oB := oB.below q; replace q0 := q0.trans (q.mono q0.size); clear q; have c1 := oB.cell 0 _ rfl)
          | (go_at_call 41; refine (hM _ q0 oN oB).mono ?_; clear hM; rintro e w4 ⟨a5, c5, o5, rfl, hc5, hh5, hg5, q⟩; have HG : Hid (∀ G, o5 = some G → w.heap.size + 1 + 1 + 1 ≤ G) := (fun G hG => Nat.le_trans hR2 (hg5 G hG)); replace oR := oR.below q; replace oN := oN.below q; replace q0 := q0.trans (q.mono q0.size); clear q c1 hg5 hR2; have o8 := Own.new w4 #[.slice a5 m c5] 25; have qa : Below w4.heap.size w4 (w4.alloc (.cells #[.slice a5 m c5] 25)) := (Below.refl _ _).alloc (Nat.le_refl _) _; replace oR := oR.below qa; replace oN := oN.below qa; replace q0 := q0.trans (qa.mono q0.size); replace hh5 := hh5.below qa; clear qa; have c2 := oN.cell 0 _ rfl)
          | (go_at_call 13; refine (hK _ a5 c5 hh5.at hc5).mono ?_; clear hK; rintro e w6 ⟨rfl, q⟩; replace o8 := o8.below q; replace oR := oR.below q; replace q0 := q0.trans (q.mono q0.size); replace hh5 := hh5.below q; clear q c2; have r0 := oR.cell 0 _ rfl; have r1 := oR.frz 0 _ rfl; have r2 := o8.cell 0 _ rfl)
        refine boxEndV (ps := boxU n zs) (o := o5) rfl (by rw [E.out.1]; exact HP.out) oR q0 (by omega) hc5 (by rw [E.out.1]; exact hh5) (fun G hG => by have := HG.out G hG; omega) (fun e => by have := HG.out _ e; omega) rfl ?_
        rw [E.out.2]
        rfl
  · have hcode : codeU n zs = 1 := by unfold codeU; rw [if_neg hcnt]
    have hbx : boxU n zs = [] := by unfold boxU; rw [hcode]; rfl
    have E : Hid (boxU n zs = [] ∧ codeU n zs = 1) := ⟨hbx, hcode⟩
    clear hcode hbx h hz
    by_cases hw : n = 32 ∨ n = 64
    · rw [decide_eq_true hw] at F
      by_cases h2 : len < 2
      · have k2 : (len : Int) < 2 := by omega
        clear hcnt
        go_enter Tryd.func17, Tryd.ntmps17
        go_wp2_with (go_at_call 31; refine F.mono ?_; clear F; rintro e w2 ⟨rfl, q⟩; replace oR := oR.below q; replace oB := oB.below q; replace q0 := q0.trans (q.mono q0.size); clear q; have c1 := oB.cell 0 _ rfl; have r0 := oR.cell 0 _ rfl; have r1 := oR.frz 0 _ rfl)
        exact HN.out _ _ 1 E.out.1 E.out.2 (by decide) oR q0 rfl rfl
      · have k2 : ¬ (len : Int) < 2 := by omega
        by_cases h12 : 12 < len
        · have k12 : (12 : Int) < len := by omega
          clear hcnt
          go_enter Tryd.func17, Tryd.ntmps17
          go_wp2_with (go_at_call 31; refine F.mono ?_; clear F; rintro e w2 ⟨rfl, q⟩; replace oR := oR.below q; replace oB := oB.below q; replace q0 := q0.trans (q.mono q0.size); clear q; have c1 := oB.cell 0 _ rfl; have r0 := oR.cell 0 _ rfl; have r1 := oR.frz 0 _ rfl)
          exact HN.out _ _ 1 E.out.1 E.out.2 (by decide) oR q0 rfl rfl
        · have k12 : ¬ (12 : Int) < len := by omega
          have hodd : len % 2 = 1 := by
            rcases Nat.mod_two_eq_zero_or_one len with e | e
            · exfalso
              apply hcnt
              unfold countU
              rw [decide_eq_true hw, hlen, decide_eq_true (show 2 ≤ len by omega), decide_eq_true (show len ≤ 12 by omega), decide_eq_true e]
              rfl
            · exact e
          have t2 : (len : Int) % 2 = 1 := by omega
          have t1 : (len : Int).tmod 2 = 1 := by rw [Int.tmod_eq_emod_of_nonneg (by omega)]; omega
          clear hcnt
          go_enter Tryd.func17, Tryd.ntmps17
          go_wp2_with (go_at_call 31; refine F.mono ?_; clear F; rintro e w2 ⟨rfl, q⟩; replace oR := oR.below q; replace oB := oB.below q; replace q0 := q0.trans (q.mono q0.size); clear q; have c1 := oB.cell 0 _ rfl; have r0 := oR.cell 0 _ rfl; have r1 := oR.frz 0 _ rfl)
          exact HN.out _ _ 1 E.out.1 E.out.2 (by decide) oR q0 rfl rfl
    · rw [decide_eq_false hw] at F
      clear hcnt
      go_enter Tryd.func17, Tryd.ntmps17
      go_wp2_with (go_at_call 31; refine F.mono ?_; clear F; rintro e w2 ⟨rfl, q⟩; replace oR := oR.below q; replace q0 := q0.trans (q.mono q0.size); clear q; have r0 := oR.cell 0 _ rfl; have r1 := oR.frz 0 _ rfl)
      exact HN.out _ _ 1 E.out.1 E.out.2 (by decide) oR q0 rfl rfl

end Go.Proofs.YteohgmmenlinbacDoor
