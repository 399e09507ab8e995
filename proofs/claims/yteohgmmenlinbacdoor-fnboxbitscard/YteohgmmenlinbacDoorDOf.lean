/- The contracts of the model's 'DrawBoxBits' and 'DrawBoxOf'. -/
import Derived.Test.YteohgmmenlinbacDoorDOfA
import Derived.Test.YteohgmmenlinbacDoorDrawBS
import Derived.Test.YteohgmmenlinbacDoorJA
import Derived.Deep.Cut
namespace Go.Proofs.YteohgmmenlinbacDoor
open Go.ChangeShapes Go.WideShapes Go.ChangeAt Go.RowKit
set_option linter.unusedVariables false

theorem u64_lo (y : Int) : 0 ≤ IntKind.u64.wrap y := by simp [IntKind.wrap, IntKind.signed, IntKind.bits]; omega
theorem u64_hi (y : Int) : IntKind.u64.wrap y ≤ 18446744073709551615 := by simp [IntKind.wrap, IntKind.signed, IntKind.bits]; omega

theorem uvals_one (zs : List Int) (x : Int) : uvals (zs ++ [x]) = uvals zs ++ [.int .u64 x] := by simp [uvals]

section
variable {w W W' : World} {base : Nat} {zs : List Int} {lim n : Int}
theorem DSt.alloc {b : Nat} {v : Value} (h : DSt w b base v zs lim W) (o : Obj) : DSt w b base v zs lim (W.alloc o) := h.next (h.rd.alloc _) ((Keep.refl _ _).alloc _)
theorem DSt.fin {a : Option Addr} {L c : Nat} (h : DSt w w.heap.size base (.slice a L c) zs lim W) (hL : zs.length = L) : UNOut w (.returned (.tuple #[.int .i64 n, .slice a L c])) W := by
  obtain ⟨a', c', o, e, hc, hh, ho⟩ := ownsRow_hasU h.row
  injection e with e1 e2 e3
  subst e1 e3
  exact ⟨n, a, zs, c, by rw [hL], hc, by have := h.len; omega, hh.at, h.bd, h.keep.below (Nat.le_refl _) (Nat.le_refl _)⟩
theorem DSt.fin2 {b : Nat} {v v' : Value} (h : DSt w b base v zs lim W) (hb : w.heap.size ≤ b) (hg : W.grownBy W' v.ownBlock) (hr : W'.ownsRow base 38 1 v' (zs.length + 1) (uvals zs ++ [.int .u64 0])) : UNOut w (.returned (.tuple #[.int .i64 n, v'])) W' := by
  have l1 := ownsRow_lt h.row
  have hbb := h.hb
  have bel : Below w.heap.size w W' := (h.keep.below hb (Nat.le_refl _)).grown hg h.keep.size (fun k hk => by have := l1 k hk; omega)
  rw [← uvals_one] at hr
  have hr2 : W'.ownsRow base 38 1 v' (zs ++ [0]).length (uvals (zs ++ [0])) := by rw [List.length_append]; exact hr
  obtain ⟨a', c', o, rfl, hc, hh, ho⟩ := ownsRow_hasU hr2
  refine ⟨n, a', zs ++ [0], c', rfl, hc, by have := h.len; rw [List.length_append]; simp; omega, hh.at, fun z hz => ?_, bel⟩
  rcases List.mem_append.1 hz with e | e
  · exact h.bd z e
  · simp at e; subst e; exact ⟨Int.le_refl _, by decide⟩
theorem DSt.form {b : Nat} {a : Option Addr} {L c : Nat} (h : DSt w b base (.slice a L c) zs lim W) (hL : zs.length = L) (h1 : 0 < L) : ∃ g, a = some ⟨g, 0, none⟩ ∧ base ≤ g := by
  rcases h.row.2 with ⟨e, e'⟩ | ⟨g, cap, cur, hv, hb, _⟩
  · omega
  · injection hv with e1 e2 e3
    exact ⟨g, e1, hb⟩
theorem DSt.putI {b g c L : Nat} {k y : Int} (h : DSt w b base (.slice (some ⟨g, 0, none⟩) L c) zs lim W) (hL : zs.length = L) (k0 : 0 ≤ k) (k1 : k < L) (h0 : 0 ≤ y) (h1 : y ≤ 18446744073709551615) (hg : base ≤ g) (hw : w.heap.size ≤ g) :
    (zs.set k.toNat y).length = L ∧ DSt w b base (.slice (some ⟨g, 0, none⟩) L c) (zs.set k.toNat y) lim (W.setCell ⟨g, k.toNat, none⟩ (.int .u64 y)) := by
  subst hL
  have := h.put (k := k.toNat) (y := y) (by omega) h0 h1 hg hw
  rw [List.length_set] at this
  exact ⟨List.length_set .., this⟩
theorem DSt.cellI {b g c L : Nat} {k : Int} (h : DSt w b base (.slice (some ⟨g, 0, none⟩) L c) zs lim W) (hL : zs.length = L) (k0 : 0 ≤ k) (k1 : k < L) : ∃ z, W.cell? ⟨g, k.toNat, none⟩ = some (.int .u64 z) ∧ W.frozen? ⟨g, k.toNat, none⟩ = false ∧ 0 ≤ z ∧ z ≤ 18446744073709551615 := by
  subst hL
  exact h.cell (by omega)
end

theorem bbox_bd (n : Int) (ps : List (Int × Int)) : ∀ z ∈ bboxL n ps, 0 ≤ z ∧ z ≤ 18446744073709551615 := by
  intro z hz
  unfold bboxL at hz
  split at hz
  · unfold bitsL at hz
    obtain ⟨p, _, hp⟩ := List.mem_flatMap.1 hz
    simp at hp
    rcases hp with e | e <;> rw [e] <;> exact bits_inO _ _
  · simp at hz
theorem bbox_12 (n : Int) (ps : List (Int × Int)) : (bboxL n ps).length ≤ 12 := by
  unfold bboxL
  by_cases h : bokI n ps = true
  · rw [if_pos h, bitsL_length]
    unfold bokI at h
    simp only [Bool.and_eq_true, decide_eq_true_eq] at h
    omega
  · rw [if_neg h]
    simp

set_option maxRecDepth 100000 in
set_option maxHeartbeats 4000000 in
theorem drawBoxOf (w : World) (a : Option Addr) (len cap : Nat) (hc : Code8 w a len) (hl : len ≤ cap) (hm : len ≤ 1048576) :
    Calls Tryd.prog 9 #[.slice a len cap] w (UNOut w) := by
  have ho := opened w a len cap hc hl hm
  obtain ⟨i0, hi, hz0, hz1, hz2⟩ := info_parts infoU64
  clear hc
  go_enter Tryd.func9, Tryd.ntmps9
  go_upto_region 4 with first
    | (go_at_call 23; refine ho.mono ?_; clear ho; rintro e w1 ⟨rfl, hr, hk⟩)
    | (go_at_call 24; refine (width _ _ _ hr (by omega)).mono ?_; clear hr; rintro e w2 ⟨n, rfl, n0, n1, hr, hk2⟩; replace hk := hk.trans hk2; clear hk2 n0 n1)
    | (go_at_call 26; refine (boxR _ _ _ _ hr (by omega)).mono ?_; clear hr; rintro e w3 ⟨a3, c3, ps, o3, rfl, h8, hc3, hh, ho3, hg, hr, hk3⟩; replace hk := hk.trans hk3; clear hk3 ho3 hg)
    | (go_at_call 25; refine (specBoxBitsR _ n a3 ps c3 hh.at hc3 (by omega)).mono ?_; clear hh h8 hc3; rintro e w4 ⟨v, rfl, hrow, q, hs⟩
       have D4 : DSt w w.heap.size (w3.heap.size + 1) v (bboxL n ps) 4002 w4 := ⟨hr.below q, hk.trans (Keep.of_below _ q), hrow, (by have := hr.1; omega), hs, bbox_bd n ps, bbox_12 n ps⟩
       have hbw : w.heap.size ≤ w3.heap.size := hk.size
       generalize bboxL n ps = zs at *
       clear hr hk q
       obtain ⟨a5, c5, o5, hv, hc5, -, -⟩ := ownsRow_hasU hrow
       obtain ⟨L, hL⟩ : ∃ L, zs.length = L := ⟨_, rfl⟩
       rw [hL] at hv hc5
       subst hv
       have HL : Hid (zs.length = L ∧ zs.length ≤ 12) := ⟨hL, D4.len⟩
       have hL12 : L ≤ 12 := (by have := D4.len; omega)
       clear hL hrow hs
       generalize hbase : w3.heap.size + 1 = base at *
       have hwb : w.heap.size ≤ base := (by omega)
       clear hbase hbw
       replace D4 : Hid _ := D4)
  rcases Nat.eq_zero_or_pos L with hL0 | hLp
  · have k0 : ¬ (0 : Int) < L := by omega
    clear hL0
    go_wp2_with first
      | (go_at_call 27; refine (D4.out.pick 20 (by omega)).mono ?_; rintro e w9 ⟨r9, rfl, r90, r91, D9⟩; replace D9 : Hid _ := D9; have D9a : Hid _ := D9.out.alloc (.cells #[.int .u64 0] 38))
      | (at_builtin; (refine wpList_append_own _ rfl _ _ 28 rfl base 38 i0 (.int .u64 0) 1 8 Tryd.underlying28 hi hz0 hz1 hz2 rfl (by decide) _ _ _ rfl D9a.out.row ⟨_, 0, none⟩ 1 1 [_] rfl rfl (cell_one (by first | rfl | simp)) (fun u hu => by simp at hu; rcases hu with rfl; rfl) (by have := D9a.out.len; unfold maxLen; omega) (by have := D9a.out.len; omega) D9a.out.size ?_); intro v' w10 hown hgrow hnil; have FN : Hid (UNOut w (.returned (.tuple #[.int .i64 n, v'])) w10) := D9a.out.fin2 (Nat.le_refl _) hgrow hown; clear hown hgrow hnil)
    all_goals go_ret2
    all_goals (first | exact FN.out | exact D9.out.fin HL.out.1)
  · obtain ⟨g, rfl, hbg⟩ := D4.out.form HL.out.1 hLp
    have kp : (0 : Int) < L := by omega
    go_upto_region 6 with first
      | (go_at_call 27; refine (D4.out.pick 6 (by omega)).mono ?_; clear D4; rintro e w5 ⟨r5, rfl, r50, r51, D5⟩; replace D5 : Hid _ := D5)
      | (go_at_call 27; refine (D5.out.pick (L : Int) (by omega)).mono ?_; clear D5; rintro e w6 ⟨k6, rfl, k60, k61, D6⟩; replace D6 : Hid _ := D6; replace k61 := k61 (by omega))
      | (go_at_call 28; refine (D6.out.big (by omega)).mono ?_; clear D6; rintro e w7 ⟨x7, rfl, x70, x71, D7⟩; obtain ⟨z7, cz7, fz7, -, -⟩ := D7.cellI HL.out.1 k60 k61; obtain ⟨hl7, D7p⟩ := D7.putI HL.out.1 k60 k61 x70 x71 hbg (by omega); replace HL : Hid ((zs.set k6.toNat x7).length = L ∧ (zs.set k6.toNat x7).length ≤ 12) := ⟨hl7, D7p.len⟩; generalize zs.set k6.toNat x7 = zs at *; have D5 : Hid _ := D7p; clear D7 D7p hl7)
    all_goals go_upto_region 7 with first
      | (go_at_call 27; refine (D5.out.pick 8 (by omega)).mono ?_; clear D5; rintro e w8 ⟨r8, rfl, r80, r81, D8⟩; replace D8 : Hid _ := D8)
      | (go_at_call 27; refine (D8.out.pick 20 (by omega)).mono ?_; rintro e w9 ⟨r9, rfl, r90, r91, D9⟩; replace D9 : Hid _ := D9; have D9a : Hid _ := D9.out.alloc (.cells #[.int .u64 0] 38))
      | (at_builtin; (refine wpList_append_own _ rfl _ _ 28 rfl base 38 i0 (.int .u64 0) 1 8 Tryd.underlying28 hi hz0 hz1 hz2 rfl (by decide) _ _ _ rfl D9a.out.row ⟨_, 0, none⟩ 1 1 [_] rfl rfl (cell_one (by first | rfl | simp)) (fun u hu => by simp at hu; rcases hu with rfl; rfl) (by have := D9a.out.len; unfold maxLen; omega) (by have := D9a.out.len; omega) D9a.out.size ?_); intro v' w10 hown hgrow hnil; have FN : Hid (UNOut w (.returned (.tuple #[.int .i64 n, v'])) w10) := D9a.out.fin2 (Nat.le_refl _) hgrow hown; clear hown hgrow hnil)
    all_goals try (go_ret2; (first | exact FN.out | exact D9.out.fin HL.out.1))
    all_goals go_upto_region 8 with (go_at_call 27; refine (D8.out.pick (L : Int) (by omega)).mono ?_; clear D8; rintro e w11 ⟨k8, rfl, k80, k81, DA⟩; replace DA : Hid _ := DA; replace k81 := k81 (by omega))
    all_goals (replace DA : Hid (DSt w w.heap.size base (.slice (some ⟨g, 0, none⟩) L c5) zs 4100 w11) := DA.out.mono (by omega))
    · refine region_steps (by kernel_rfl) (by kernel_rfl) (by kernel_rfl) (fun A0 f act W => ∃ (x45 : Value) (x46 : Value) (x47 : Value) (x48 : Value) (x49 : Value) (x50 : Value) (x51 : Value) (x52 : Value) (x53 : Value) (x54 : Value) (x55 : Value) (x56 : Value), act = { tmps := #[.slice a len cap, undef, .int .i64 0, .slice none 0 0, .pointer (some ⟨w.heap.size, 0, none⟩), .int .i64 n, .slice (some ⟨g, 0, none⟩) L c5, .int .i64 k8, .slice a len cap, .pointer (some ⟨w.heap.size, 0, none⟩), .pointer (some ⟨w.heap.size, 0, none⟩), .int .i64 n, .int .i64 n, .pointer (some ⟨w.heap.size, 0, none⟩), .int .i64 n, .agg #[.slice a3 ps.length c3], .slice (some ⟨g, 0, none⟩) L c5, .slice (some ⟨g, 0, none⟩) L c5, .int .i64 (L : Int), .bool true, .bool true, .pointer (some ⟨w.heap.size, 0, none⟩), .int .i64 r5, .bool true, .bool true, .slice (some ⟨g, 0, none⟩) L c5, .pointer (some ⟨w.heap.size, 0, none⟩), .slice (some ⟨g, 0, none⟩) L c5, .int .i64 (L : Int), .int .i64 k6, .pointer (some ⟨w.heap.size, 0, none⟩), .int .u64 x7, .pointer (some ⟨g, k6.toNat, none⟩), .slice (some ⟨g, 0, none⟩) L c5, .int .i64 (L : Int), .bool true, .bool true, .pointer (some ⟨w.heap.size, 0, none⟩), .int .i64 r8, .bool true, .bool true, .pointer (some ⟨w.heap.size, 0, none⟩), .slice (some ⟨g, 0, none⟩) L c5, .int .i64 (L : Int), .int .i64 k8, x45, x46, x47, x48, x49, x50, x51, x52, x53, x54, x55, x56, undef, undef, undef, undef, undef, undef, undef, undef], defers := [] } ∧ (f 0 = true → x45 = .slice (some ⟨g, 0, none⟩) L c5) ∧ (f 1 = true → x46 = .int .i64 k8) ∧ (f 2 = true → x47 = .slice (some ⟨g, 0, none⟩) L c5) ∧ (f 3 = true → x48 = .int .i64 k8) ∧ (f 4 = true → x49 = .pointer (some ⟨g, k8.toNat, none⟩)) ∧ (f 5 = true → ∃ y : Int, x50 = .int .u64 y ∧ 0 ≤ y ∧ y ≤ 18446744073709551615) ∧ (f 6 = true → x51 = .pointer (some ⟨w.heap.size, 0, none⟩)) ∧ (f 7 = true → ∃ r : Int, x52 = .int .i64 r ∧ 0 ≤ r ∧ r < 64) ∧ (f 8 = true → ∃ y : Int, x53 = .int .u64 y ∧ 0 ≤ y ∧ y < 64) ∧ (f 9 = true → ∃ y : Int, x54 = .int .u64 y ∧ 0 ≤ y ∧ y ≤ 18446744073709551615) ∧ (f 10 = true → ∃ y : Int, x55 = .int .u64 y ∧ 0 ≤ y ∧ y ≤ 18446744073709551615) ∧ (f 11 = true → x56 = .pointer (some ⟨g, k8.toNat, none⟩)) ∧ (f 7 = false → f 12 = false) ∧ (f 5 = false → f 12 = false) ∧ (f 7 = false → DSt w w.heap.size base (.slice (some ⟨g, 0, none⟩) L c5) zs 4100 W) ∧ (f 7 = true → f 12 = false → DSt w w.heap.size base (.slice (some ⟨g, 0, none⟩) L c5) zs 4101 W) ∧ (f 12 = true → ∃ zs2 : List Int, zs2.length = L ∧ DSt w w.heap.size base (.slice (some ⟨g, 0, none⟩) L c5) zs2 4101 W)) ?_ ⟨?_, ?_, ?_, ?_, ?_, ?_, ?_, ?_, ?_, ?_, ?_, ?_, ?_, trivial⟩ ?_
      · exact ⟨undef, undef, undef, undef, undef, undef, undef, undef, undef, undef, undef, undef, rfl, (fun h => (by cases h)), (fun h => (by cases h)), (fun h => (by cases h)), (fun h => (by cases h)), (fun h => (by cases h)), (fun h => (by cases h)), (fun h => (by cases h)), (fun h => (by cases h)), (fun h => (by cases h)), (fun h => (by cases h)), (fun h => (by cases h)), (fun h => (by cases h)), fun _ => rfl, fun _ => rfl, fun _ => DA.out.drew, (fun h => (by cases h)), (fun h => (by cases h))⟩
      · rintro f act W ⟨x45, x46, x47, x48, x49, x50, x51, x52, x53, x54, x55, x56, rfl, h0, h1, h2, h3, h4, h5, h6, h7, h8, h9, h10, h11, c7, c5x, s0, s1, s2⟩ hf hd K_ hK
        go_simp
        refine hK _ _ ?_
        exact ⟨_, x46, x47, x48, x49, x50, x51, x52, x53, x54, x55, x56, rfl, fun _ => rfl, fun h => h1 (upd_ne (by decide) h), fun h => h2 (upd_ne (by decide) h), fun h => h3 (upd_ne (by decide) h), fun h => h4 (upd_ne (by decide) h), fun h => h5 (upd_ne (by decide) h), fun h => h6 (upd_ne (by decide) h), fun h => h7 (upd_ne (by decide) h), fun h => h8 (upd_ne (by decide) h), fun h => h9 (upd_ne (by decide) h), fun h => h10 (upd_ne (by decide) h), fun h => h11 (upd_ne (by decide) h), fun h => (by rw [upd_same (by decide)] at h; rw [upd_same (by decide)]; exact c7 h), fun h => (by rw [upd_same (by decide)] at h; rw [upd_same (by decide)]; exact c5x h), fun h => s0 (by rw [upd_same (by decide)] at h; exact h), fun h h' => s1 (upd_ne (by decide) h) (by rw [upd_same (by decide)] at h'; exact h'), fun h => s2 (upd_ne (by decide) h)⟩
      · rintro f act W ⟨x45, x46, x47, x48, x49, x50, x51, x52, x53, x54, x55, x56, rfl, h0, h1, h2, h3, h4, h5, h6, h7, h8, h9, h10, h11, c7, c5x, s0, s1, s2⟩ hf hd K_ hK
        go_simp
        refine hK _ _ ?_
        exact ⟨x45, _, x47, x48, x49, x50, x51, x52, x53, x54, x55, x56, rfl, fun h => h0 (upd_ne (by decide) h), fun _ => rfl, fun h => h2 (upd_ne (by decide) h), fun h => h3 (upd_ne (by decide) h), fun h => h4 (upd_ne (by decide) h), fun h => h5 (upd_ne (by decide) h), fun h => h6 (upd_ne (by decide) h), fun h => h7 (upd_ne (by decide) h), fun h => h8 (upd_ne (by decide) h), fun h => h9 (upd_ne (by decide) h), fun h => h10 (upd_ne (by decide) h), fun h => h11 (upd_ne (by decide) h), fun h => (by rw [upd_same (by decide)] at h; rw [upd_same (by decide)]; exact c7 h), fun h => (by rw [upd_same (by decide)] at h; rw [upd_same (by decide)]; exact c5x h), fun h => s0 (by rw [upd_same (by decide)] at h; exact h), fun h h' => s1 (upd_ne (by decide) h) (by rw [upd_same (by decide)] at h'; exact h'), fun h => s2 (upd_ne (by decide) h)⟩
      · rintro f act W ⟨x45, x46, x47, x48, x49, x50, x51, x52, x53, x54, x55, x56, rfl, h0, h1, h2, h3, h4, h5, h6, h7, h8, h9, h10, h11, c7, c5x, s0, s1, s2⟩ hf hd K_ hK
        go_simp
        refine hK _ _ ?_
        exact ⟨x45, x46, _, x48, x49, x50, x51, x52, x53, x54, x55, x56, rfl, fun h => h0 (upd_ne (by decide) h), fun h => h1 (upd_ne (by decide) h), fun _ => rfl, fun h => h3 (upd_ne (by decide) h), fun h => h4 (upd_ne (by decide) h), fun h => h5 (upd_ne (by decide) h), fun h => h6 (upd_ne (by decide) h), fun h => h7 (upd_ne (by decide) h), fun h => h8 (upd_ne (by decide) h), fun h => h9 (upd_ne (by decide) h), fun h => h10 (upd_ne (by decide) h), fun h => h11 (upd_ne (by decide) h), fun h => (by rw [upd_same (by decide)] at h; rw [upd_same (by decide)]; exact c7 h), fun h => (by rw [upd_same (by decide)] at h; rw [upd_same (by decide)]; exact c5x h), fun h => s0 (by rw [upd_same (by decide)] at h; exact h), fun h h' => s1 (upd_ne (by decide) h) (by rw [upd_same (by decide)] at h'; exact h'), fun h => s2 (upd_ne (by decide) h)⟩
      · rintro f act W ⟨x45, x46, x47, x48, x49, x50, x51, x52, x53, x54, x55, x56, rfl, h0, h1, h2, h3, h4, h5, h6, h7, h8, h9, h10, h11, c7, c5x, s0, s1, s2⟩ hf hd K_ hK
        go_simp
        refine hK _ _ ?_
        exact ⟨x45, x46, x47, _, x49, x50, x51, x52, x53, x54, x55, x56, rfl, fun h => h0 (upd_ne (by decide) h), fun h => h1 (upd_ne (by decide) h), fun h => h2 (upd_ne (by decide) h), fun _ => rfl, fun h => h4 (upd_ne (by decide) h), fun h => h5 (upd_ne (by decide) h), fun h => h6 (upd_ne (by decide) h), fun h => h7 (upd_ne (by decide) h), fun h => h8 (upd_ne (by decide) h), fun h => h9 (upd_ne (by decide) h), fun h => h10 (upd_ne (by decide) h), fun h => h11 (upd_ne (by decide) h), fun h => (by rw [upd_same (by decide)] at h; rw [upd_same (by decide)]; exact c7 h), fun h => (by rw [upd_same (by decide)] at h; rw [upd_same (by decide)]; exact c5x h), fun h => s0 (by rw [upd_same (by decide)] at h; exact h), fun h h' => s1 (upd_ne (by decide) h) (by rw [upd_same (by decide)] at h'; exact h'), fun h => s2 (upd_ne (by decide) h)⟩
      · rintro f act W ⟨x45, x46, x47, x48, x49, x50, x51, x52, x53, x54, x55, x56, rfl, h0, h1, h2, h3, h4, h5, h6, h7, h8, h9, h10, h11, c7, c5x, s0, s1, s2⟩ hf hd K_ hK
        have e2 := h2 (dep_of hd (e := ⟨2, .data⟩) (by simp) rfl)
        subst e2
        have e3 := h3 (dep_of hd (e := ⟨3, .data⟩) (by simp) rfl)
        subst e3
        go_simp
        refine hK _ _ ?_
        exact ⟨x45, x46, _, _, _, x50, x51, x52, x53, x54, x55, x56, rfl, fun h => h0 (upd_ne (by decide) h), fun h => h1 (upd_ne (by decide) h), fun _ => rfl, fun _ => rfl, fun _ => rfl, fun h => h5 (upd_ne (by decide) h), fun h => h6 (upd_ne (by decide) h), fun h => h7 (upd_ne (by decide) h), fun h => h8 (upd_ne (by decide) h), fun h => h9 (upd_ne (by decide) h), fun h => h10 (upd_ne (by decide) h), fun h => h11 (upd_ne (by decide) h), fun h => (by rw [upd_same (by decide)] at h; rw [upd_same (by decide)]; exact c7 h), fun h => (by rw [upd_same (by decide)] at h; rw [upd_same (by decide)]; exact c5x h), fun h => s0 (by rw [upd_same (by decide)] at h; exact h), fun h h' => s1 (upd_ne (by decide) h) (by rw [upd_same (by decide)] at h'; exact h'), fun h => s2 (upd_ne (by decide) h)⟩
      · rintro f act W ⟨x45, x46, x47, x48, x49, x50, x51, x52, x53, x54, x55, x56, rfl, h0, h1, h2, h3, h4, h5, h6, h7, h8, h9, h10, h11, c7, c5x, s0, s1, s2⟩ hf hd K_ hK
        have e4 := h4 (dep_of hd (e := ⟨4, .data⟩) (by simp) rfl)
        subst e4
        have hdd : ∃ l, DSt w w.heap.size base (.slice (some ⟨g, 0, none⟩) L c5) zs l W := by
          cases h7 : f 7
          · exact ⟨_, s0 h7⟩
          · exact ⟨_, s1 h7 (c5x hf)⟩
        obtain ⟨l9, d⟩ := hdd
        obtain ⟨zz, cz, fz, z50, z51⟩ := d.cellI HL.out.1 k80 k81
        clear d
        go_simp
        refine hK _ _ ?_
        exact ⟨x45, x46, x47, x48, _, _, x51, x52, x53, x54, x55, x56, rfl, fun h => h0 (upd_ne (by decide) h), fun h => h1 (upd_ne (by decide) h), fun h => h2 (upd_ne (by decide) h), fun h => h3 (upd_ne (by decide) h), fun _ => rfl, fun _ => ⟨_, rfl, z50, z51⟩, fun h => h6 (upd_ne (by decide) h), fun h => h7 (upd_ne (by decide) h), fun h => h8 (upd_ne (by decide) h), fun h => h9 (upd_ne (by decide) h), fun h => h10 (upd_ne (by decide) h), fun h => h11 (upd_ne (by decide) h), fun h => (by rw [upd_same (by decide)] at h; rw [upd_same (by decide)]; exact c7 h), fun h => (by rw [upd_self] at h; cases h), fun h => s0 (by rw [upd_same (by decide)] at h; exact h), fun h h' => s1 (upd_ne (by decide) h) (by rw [upd_same (by decide)] at h'; exact h'), fun h => s2 (upd_ne (by decide) h)⟩
      · rintro f act W ⟨x45, x46, x47, x48, x49, x50, x51, x52, x53, x54, x55, x56, rfl, h0, h1, h2, h3, h4, h5, h6, h7, h8, h9, h10, h11, c7, c5x, s0, s1, s2⟩ hf hd K_ hK
        go_simp
        refine hK _ _ ?_
        exact ⟨x45, x46, x47, x48, x49, x50, _, x52, x53, x54, x55, x56, rfl, fun h => h0 (upd_ne (by decide) h), fun h => h1 (upd_ne (by decide) h), fun h => h2 (upd_ne (by decide) h), fun h => h3 (upd_ne (by decide) h), fun h => h4 (upd_ne (by decide) h), fun h => h5 (upd_ne (by decide) h), fun _ => rfl, fun h => h7 (upd_ne (by decide) h), fun h => h8 (upd_ne (by decide) h), fun h => h9 (upd_ne (by decide) h), fun h => h10 (upd_ne (by decide) h), fun h => h11 (upd_ne (by decide) h), fun h => (by rw [upd_same (by decide)] at h; rw [upd_same (by decide)]; exact c7 h), fun h => (by rw [upd_same (by decide)] at h; rw [upd_same (by decide)]; exact c5x h), fun h => s0 (by rw [upd_same (by decide)] at h; exact h), fun h h' => s1 (upd_ne (by decide) h) (by rw [upd_same (by decide)] at h'; exact h'), fun h => s2 (upd_ne (by decide) h)⟩
      · rintro f act W ⟨x45, x46, x47, x48, x49, x50, x51, x52, x53, x54, x55, x56, rfl, h0, h1, h2, h3, h4, h5, h6, h7, h8, h9, h10, h11, c7, c5x, s0, s1, s2⟩ hf hd K_ hK
        have e6 := h6 (dep_of hd (e := ⟨6, .data⟩) (by simp) rfl)
        subst e6
        go_simp
        refine ((s0 hf).pick 64 (by omega)).mono ?_
        rintro e W2 ⟨r, rfl, r0, r1, d2⟩
        refine hK _ _ ?_
        exact ⟨x45, x46, x47, x48, x49, x50, _, _, x53, x54, x55, x56, rfl, fun h => h0 (upd_ne (by decide) h), fun h => h1 (upd_ne (by decide) h), fun h => h2 (upd_ne (by decide) h), fun h => h3 (upd_ne (by decide) h), fun h => h4 (upd_ne (by decide) h), fun h => h5 (upd_ne (by decide) h), fun _ => rfl, fun _ => ⟨_, rfl, r0, r1 (by omega)⟩, fun h => h8 (upd_ne (by decide) h), fun h => h9 (upd_ne (by decide) h), fun h => h10 (upd_ne (by decide) h), fun h => h11 (upd_ne (by decide) h), fun h => (by rw [upd_self] at h; cases h), fun h => (by rw [upd_same (by decide)] at h; rw [upd_same (by decide)]; exact c5x h), fun h => (by rw [upd_self] at h; cases h), fun _ _ => d2, fun h => absurd (upd_ne (by decide) h) (by rw [c7 hf]; decide)⟩
      · rintro f act W ⟨x45, x46, x47, x48, x49, x50, x51, x52, x53, x54, x55, x56, rfl, h0, h1, h2, h3, h4, h5, h6, h7, h8, h9, h10, h11, c7, c5x, s0, s1, s2⟩ hf hd K_ hK
        obtain ⟨y7, e7, y7a, y7b⟩ := h7 (dep_of hd (e := ⟨7, .data⟩) (by simp) rfl)
        subst e7
        go_simp
        refine hK _ _ ?_
        exact ⟨x45, x46, x47, x48, x49, x50, x51, _, _, x54, x55, x56, rfl, fun h => h0 (upd_ne (by decide) h), fun h => h1 (upd_ne (by decide) h), fun h => h2 (upd_ne (by decide) h), fun h => h3 (upd_ne (by decide) h), fun h => h4 (upd_ne (by decide) h), fun h => h5 (upd_ne (by decide) h), fun h => h6 (upd_ne (by decide) h), fun _ => ⟨y7, rfl, y7a, y7b⟩, fun _ => ⟨_, rfl, by simp [IntKind.wrap, IntKind.signed, IntKind.bits]; omega, by simp [IntKind.wrap, IntKind.signed, IntKind.bits]; omega⟩, fun h => h9 (upd_ne (by decide) h), fun h => h10 (upd_ne (by decide) h), fun h => h11 (upd_ne (by decide) h), fun h => (by rw [upd_same (by decide)] at h; rw [upd_same (by decide)]; exact c7 h), fun h => (by rw [upd_same (by decide)] at h; rw [upd_same (by decide)]; exact c5x h), fun h => s0 (by rw [upd_same (by decide)] at h; exact h), fun h h' => s1 (upd_ne (by decide) h) (by rw [upd_same (by decide)] at h'; exact h'), fun h => s2 (upd_ne (by decide) h)⟩
      · rintro f act W ⟨x45, x46, x47, x48, x49, x50, x51, x52, x53, x54, x55, x56, rfl, h0, h1, h2, h3, h4, h5, h6, h7, h8, h9, h10, h11, c7, c5x, s0, s1, s2⟩ hf hd K_ hK
        obtain ⟨y8, e8, y8a, y8b⟩ := h8 (dep_of hd (e := ⟨8, .data⟩) (by simp) rfl)
        subst e8
        go_simp
        refine hK _ _ ?_
        exact ⟨x45, x46, x47, x48, x49, x50, x51, x52, _, _, x55, x56, rfl, fun h => h0 (upd_ne (by decide) h), fun h => h1 (upd_ne (by decide) h), fun h => h2 (upd_ne (by decide) h), fun h => h3 (upd_ne (by decide) h), fun h => h4 (upd_ne (by decide) h), fun h => h5 (upd_ne (by decide) h), fun h => h6 (upd_ne (by decide) h), fun h => h7 (upd_ne (by decide) h), fun _ => ⟨y8, rfl, y8a, y8b⟩, fun _ => ⟨_, rfl, u64_lo _, u64_hi _⟩, fun h => h10 (upd_ne (by decide) h), fun h => h11 (upd_ne (by decide) h), fun h => (by rw [upd_same (by decide)] at h; rw [upd_same (by decide)]; exact c7 h), fun h => (by rw [upd_same (by decide)] at h; rw [upd_same (by decide)]; exact c5x h), fun h => s0 (by rw [upd_same (by decide)] at h; exact h), fun h h' => s1 (upd_ne (by decide) h) (by rw [upd_same (by decide)] at h'; exact h'), fun h => s2 (upd_ne (by decide) h)⟩
      · rintro f act W ⟨x45, x46, x47, x48, x49, x50, x51, x52, x53, x54, x55, x56, rfl, h0, h1, h2, h3, h4, h5, h6, h7, h8, h9, h10, h11, c7, c5x, s0, s1, s2⟩ hf hd K_ hK
        obtain ⟨y5, e5, y5a, y5b⟩ := h5 (dep_of hd (e := ⟨5, .data⟩) (by simp) rfl)
        subst e5
        obtain ⟨y9, e9, y9a, y9b⟩ := h9 (dep_of hd (e := ⟨9, .data⟩) (by simp) rfl)
        subst e9
        go_simp
        refine hK _ _ ?_
        exact ⟨x45, x46, x47, x48, x49, _, x51, x52, x53, _, _, x56, rfl, fun h => h0 (upd_ne (by decide) h), fun h => h1 (upd_ne (by decide) h), fun h => h2 (upd_ne (by decide) h), fun h => h3 (upd_ne (by decide) h), fun h => h4 (upd_ne (by decide) h), fun _ => ⟨y5, rfl, y5a, y5b⟩, fun h => h6 (upd_ne (by decide) h), fun h => h7 (upd_ne (by decide) h), fun h => h8 (upd_ne (by decide) h), fun _ => ⟨y9, rfl, y9a, y9b⟩, fun _ => ⟨_, rfl, u64_lo _, u64_hi _⟩, fun h => h11 (upd_ne (by decide) h), fun h => (by rw [upd_same (by decide)] at h; rw [upd_same (by decide)]; exact c7 h), fun h => (by rw [upd_same (by decide)] at h; rw [upd_same (by decide)]; exact c5x h), fun h => s0 (by rw [upd_same (by decide)] at h; exact h), fun h h' => s1 (upd_ne (by decide) h) (by rw [upd_same (by decide)] at h'; exact h'), fun h => s2 (upd_ne (by decide) h)⟩
      · rintro f act W ⟨x45, x46, x47, x48, x49, x50, x51, x52, x53, x54, x55, x56, rfl, h0, h1, h2, h3, h4, h5, h6, h7, h8, h9, h10, h11, c7, c5x, s0, s1, s2⟩ hf hd K_ hK
        have e0 := h0 (dep_of hd (e := ⟨0, .data⟩) (by simp) rfl)
        subst e0
        have e1 := h1 (dep_of hd (e := ⟨1, .data⟩) (by simp) rfl)
        subst e1
        go_simp
        refine hK _ _ ?_
        exact ⟨_, _, x47, x48, x49, x50, x51, x52, x53, x54, x55, _, rfl, fun _ => rfl, fun _ => rfl, fun h => h2 (upd_ne (by decide) h), fun h => h3 (upd_ne (by decide) h), fun h => h4 (upd_ne (by decide) h), fun h => h5 (upd_ne (by decide) h), fun h => h6 (upd_ne (by decide) h), fun h => h7 (upd_ne (by decide) h), fun h => h8 (upd_ne (by decide) h), fun h => h9 (upd_ne (by decide) h), fun h => h10 (upd_ne (by decide) h), fun _ => rfl, fun h => (by rw [upd_same (by decide)] at h; rw [upd_same (by decide)]; exact c7 h), fun h => (by rw [upd_same (by decide)] at h; rw [upd_same (by decide)]; exact c5x h), fun h => s0 (by rw [upd_same (by decide)] at h; exact h), fun h h' => s1 (upd_ne (by decide) h) (by rw [upd_same (by decide)] at h'; exact h'), fun h => s2 (upd_ne (by decide) h)⟩
      · rintro f act W ⟨x45, x46, x47, x48, x49, x50, x51, x52, x53, x54, x55, x56, rfl, h0, h1, h2, h3, h4, h5, h6, h7, h8, h9, h10, h11, c7, c5x, s0, s1, s2⟩ hf hd K_ hK
        have e11 := h11 (dep_of hd (e := ⟨11, .data⟩) (by simp) rfl)
        subst e11
        obtain ⟨y10, e10, y10a, y10b⟩ := h10 (dep_of hd (e := ⟨10, .data⟩) (by simp) rfl)
        subst e10
        have d := s1 (dep_of hd (e := ⟨7, .chain⟩) (by simp) rfl) hf
        obtain ⟨zz, cz, fz, -, -⟩ := d.cellI HL.out.1 k80 k81
        obtain ⟨hl2, d2⟩ := d.putI HL.out.1 k80 k81 y10a y10b hbg (by omega)
        have f7 : Hid (f 7 = true) := (dep_of hd (e := ⟨7, .chain⟩) (by simp) rfl)
        have f5 : Hid (f 5 = true) := (dep_of hd (e := ⟨5, .phase⟩) (by simp) rfl)
        have d2h : Hid _ := d2
        clear d d2
        go_simp
        refine hK _ _ ?_
        exact ⟨x45, x46, x47, x48, x49, x50, x51, x52, x53, x54, _, _, rfl, fun h => h0 (upd_ne (by decide) h), fun h => h1 (upd_ne (by decide) h), fun h => h2 (upd_ne (by decide) h), fun h => h3 (upd_ne (by decide) h), fun h => h4 (upd_ne (by decide) h), fun h => h5 (upd_ne (by decide) h), fun h => h6 (upd_ne (by decide) h), fun h => h7 (upd_ne (by decide) h), fun h => h8 (upd_ne (by decide) h), fun h => h9 (upd_ne (by decide) h), fun _ => ⟨y10, rfl, y10a, y10b⟩, fun _ => rfl, fun h => (by rw [upd_same (by decide), f7.out] at h; cases h), fun h => (by rw [upd_same (by decide), f5.out] at h; cases h), fun h => (by rw [upd_same (by decide), f7.out] at h; cases h), fun _ h' => (by rw [upd_self] at h'; cases h'), fun _ => ⟨_, hl2, d2h.out⟩⟩
      · rintro f act W ⟨x45, x46, x47, x48, x49, x50, x51, x52, x53, x54, x55, x56, rfl, h0, h1, h2, h3, h4, h5, h6, h7, h8, h9, h10, h11, c7, c5x, s0, s1, s2⟩ hall
        obtain ⟨zs2, hl2, DB⟩ := s2 (hall 12 (by decide))
        clear h0 h1 h2 h3 h4 h5 h6 h7 h8 h9 h10 h11 c7 c5x s0 s1 s2
        replace HL : Hid (zs2.length = L ∧ zs2.length ≤ 12) := ⟨hl2, DB.len⟩
        have D8 : Hid _ := DB
        clear DB hl2 DA
        go_wp2_with first
          | (go_at_call 27; refine (D8.out.pick 20 (by omega)).mono ?_; rintro e w9 ⟨r9, rfl, r90, r91, D9⟩; replace D9 : Hid _ := D9; have D9a : Hid _ := D9.out.alloc (.cells #[.int .u64 0] 38))
          | (at_builtin; (refine wpList_append_own _ rfl _ _ 28 rfl base 38 i0 (.int .u64 0) 1 8 Tryd.underlying28 hi hz0 hz1 hz2 rfl (by decide) _ _ _ rfl D9a.out.row ⟨_, 0, none⟩ 1 1 [_] rfl rfl (cell_one (by first | rfl | simp)) (fun u hu => by simp at hu; rcases hu with rfl; rfl) (by have := D9a.out.len; unfold maxLen; omega) (by have := D9a.out.len; omega) D9a.out.size ?_); intro v' w10 hown hgrow hnil; have FN : Hid (UNOut w (.returned (.tuple #[.int .i64 n, v'])) w10) := D9a.out.fin2 (Nat.le_refl _) hgrow hown; clear hown hgrow hnil)
        all_goals go_ret2
        all_goals (first | exact FN.out | exact D9.out.fin HL.out.1)
    · refine region_steps (by kernel_rfl) (by kernel_rfl) (by kernel_rfl) (fun A0 f act W => ∃ (x45 : Value) (x46 : Value) (x47 : Value) (x48 : Value) (x49 : Value) (x50 : Value) (x51 : Value) (x52 : Value) (x53 : Value) (x54 : Value) (x55 : Value) (x56 : Value), act = { tmps := #[.slice a len cap, undef, .int .i64 0, .slice none 0 0, .pointer (some ⟨w.heap.size, 0, none⟩), .int .i64 n, .slice (some ⟨g, 0, none⟩) L c5, .int .i64 k8, .slice a len cap, .pointer (some ⟨w.heap.size, 0, none⟩), .pointer (some ⟨w.heap.size, 0, none⟩), .int .i64 n, .int .i64 n, .pointer (some ⟨w.heap.size, 0, none⟩), .int .i64 n, .agg #[.slice a3 ps.length c3], .slice (some ⟨g, 0, none⟩) L c5, .slice (some ⟨g, 0, none⟩) L c5, .int .i64 (L : Int), .bool true, .bool true, .pointer (some ⟨w.heap.size, 0, none⟩), .int .i64 r5, .bool false, .bool false, undef, undef, undef, undef, undef, undef, undef, undef, .slice (some ⟨g, 0, none⟩) L c5, .int .i64 (L : Int), .bool true, .bool true, .pointer (some ⟨w.heap.size, 0, none⟩), .int .i64 r8, .bool true, .bool true, .pointer (some ⟨w.heap.size, 0, none⟩), .slice (some ⟨g, 0, none⟩) L c5, .int .i64 (L : Int), .int .i64 k8, x45, x46, x47, x48, x49, x50, x51, x52, x53, x54, x55, x56, undef, undef, undef, undef, undef, undef, undef, undef], defers := [] } ∧ (f 0 = true → x45 = .slice (some ⟨g, 0, none⟩) L c5) ∧ (f 1 = true → x46 = .int .i64 k8) ∧ (f 2 = true → x47 = .slice (some ⟨g, 0, none⟩) L c5) ∧ (f 3 = true → x48 = .int .i64 k8) ∧ (f 4 = true → x49 = .pointer (some ⟨g, k8.toNat, none⟩)) ∧ (f 5 = true → ∃ y : Int, x50 = .int .u64 y ∧ 0 ≤ y ∧ y ≤ 18446744073709551615) ∧ (f 6 = true → x51 = .pointer (some ⟨w.heap.size, 0, none⟩)) ∧ (f 7 = true → ∃ r : Int, x52 = .int .i64 r ∧ 0 ≤ r ∧ r < 64) ∧ (f 8 = true → ∃ y : Int, x53 = .int .u64 y ∧ 0 ≤ y ∧ y < 64) ∧ (f 9 = true → ∃ y : Int, x54 = .int .u64 y ∧ 0 ≤ y ∧ y ≤ 18446744073709551615) ∧ (f 10 = true → ∃ y : Int, x55 = .int .u64 y ∧ 0 ≤ y ∧ y ≤ 18446744073709551615) ∧ (f 11 = true → x56 = .pointer (some ⟨g, k8.toNat, none⟩)) ∧ (f 7 = false → f 12 = false) ∧ (f 5 = false → f 12 = false) ∧ (f 7 = false → DSt w w.heap.size base (.slice (some ⟨g, 0, none⟩) L c5) zs 4100 W) ∧ (f 7 = true → f 12 = false → DSt w w.heap.size base (.slice (some ⟨g, 0, none⟩) L c5) zs 4101 W) ∧ (f 12 = true → ∃ zs2 : List Int, zs2.length = L ∧ DSt w w.heap.size base (.slice (some ⟨g, 0, none⟩) L c5) zs2 4101 W)) ?_ ⟨?_, ?_, ?_, ?_, ?_, ?_, ?_, ?_, ?_, ?_, ?_, ?_, ?_, trivial⟩ ?_
      · exact ⟨undef, undef, undef, undef, undef, undef, undef, undef, undef, undef, undef, undef, rfl, (fun h => (by cases h)), (fun h => (by cases h)), (fun h => (by cases h)), (fun h => (by cases h)), (fun h => (by cases h)), (fun h => (by cases h)), (fun h => (by cases h)), (fun h => (by cases h)), (fun h => (by cases h)), (fun h => (by cases h)), (fun h => (by cases h)), (fun h => (by cases h)), fun _ => rfl, fun _ => rfl, fun _ => DA.out.drew, (fun h => (by cases h)), (fun h => (by cases h))⟩
      · rintro f act W ⟨x45, x46, x47, x48, x49, x50, x51, x52, x53, x54, x55, x56, rfl, h0, h1, h2, h3, h4, h5, h6, h7, h8, h9, h10, h11, c7, c5x, s0, s1, s2⟩ hf hd K_ hK
        go_simp
        refine hK _ _ ?_
        exact ⟨_, x46, x47, x48, x49, x50, x51, x52, x53, x54, x55, x56, rfl, fun _ => rfl, fun h => h1 (upd_ne (by decide) h), fun h => h2 (upd_ne (by decide) h), fun h => h3 (upd_ne (by decide) h), fun h => h4 (upd_ne (by decide) h), fun h => h5 (upd_ne (by decide) h), fun h => h6 (upd_ne (by decide) h), fun h => h7 (upd_ne (by decide) h), fun h => h8 (upd_ne (by decide) h), fun h => h9 (upd_ne (by decide) h), fun h => h10 (upd_ne (by decide) h), fun h => h11 (upd_ne (by decide) h), fun h => (by rw [upd_same (by decide)] at h; rw [upd_same (by decide)]; exact c7 h), fun h => (by rw [upd_same (by decide)] at h; rw [upd_same (by decide)]; exact c5x h), fun h => s0 (by rw [upd_same (by decide)] at h; exact h), fun h h' => s1 (upd_ne (by decide) h) (by rw [upd_same (by decide)] at h'; exact h'), fun h => s2 (upd_ne (by decide) h)⟩
      · rintro f act W ⟨x45, x46, x47, x48, x49, x50, x51, x52, x53, x54, x55, x56, rfl, h0, h1, h2, h3, h4, h5, h6, h7, h8, h9, h10, h11, c7, c5x, s0, s1, s2⟩ hf hd K_ hK
        go_simp
        refine hK _ _ ?_
        exact ⟨x45, _, x47, x48, x49, x50, x51, x52, x53, x54, x55, x56, rfl, fun h => h0 (upd_ne (by decide) h), fun _ => rfl, fun h => h2 (upd_ne (by decide) h), fun h => h3 (upd_ne (by decide) h), fun h => h4 (upd_ne (by decide) h), fun h => h5 (upd_ne (by decide) h), fun h => h6 (upd_ne (by decide) h), fun h => h7 (upd_ne (by decide) h), fun h => h8 (upd_ne (by decide) h), fun h => h9 (upd_ne (by decide) h), fun h => h10 (upd_ne (by decide) h), fun h => h11 (upd_ne (by decide) h), fun h => (by rw [upd_same (by decide)] at h; rw [upd_same (by decide)]; exact c7 h), fun h => (by rw [upd_same (by decide)] at h; rw [upd_same (by decide)]; exact c5x h), fun h => s0 (by rw [upd_same (by decide)] at h; exact h), fun h h' => s1 (upd_ne (by decide) h) (by rw [upd_same (by decide)] at h'; exact h'), fun h => s2 (upd_ne (by decide) h)⟩
      · rintro f act W ⟨x45, x46, x47, x48, x49, x50, x51, x52, x53, x54, x55, x56, rfl, h0, h1, h2, h3, h4, h5, h6, h7, h8, h9, h10, h11, c7, c5x, s0, s1, s2⟩ hf hd K_ hK
        go_simp
        refine hK _ _ ?_
        exact ⟨x45, x46, _, x48, x49, x50, x51, x52, x53, x54, x55, x56, rfl, fun h => h0 (upd_ne (by decide) h), fun h => h1 (upd_ne (by decide) h), fun _ => rfl, fun h => h3 (upd_ne (by decide) h), fun h => h4 (upd_ne (by decide) h), fun h => h5 (upd_ne (by decide) h), fun h => h6 (upd_ne (by decide) h), fun h => h7 (upd_ne (by decide) h), fun h => h8 (upd_ne (by decide) h), fun h => h9 (upd_ne (by decide) h), fun h => h10 (upd_ne (by decide) h), fun h => h11 (upd_ne (by decide) h), fun h => (by rw [upd_same (by decide)] at h; rw [upd_same (by decide)]; exact c7 h), fun h => (by rw [upd_same (by decide)] at h; rw [upd_same (by decide)]; exact c5x h), fun h => s0 (by rw [upd_same (by decide)] at h; exact h), fun h h' => s1 (upd_ne (by decide) h) (by rw [upd_same (by decide)] at h'; exact h'), fun h => s2 (upd_ne (by decide) h)⟩
      · rintro f act W ⟨x45, x46, x47, x48, x49, x50, x51, x52, x53, x54, x55, x56, rfl, h0, h1, h2, h3, h4, h5, h6, h7, h8, h9, h10, h11, c7, c5x, s0, s1, s2⟩ hf hd K_ hK
        go_simp
        refine hK _ _ ?_
        exact ⟨x45, x46, x47, _, x49, x50, x51, x52, x53, x54, x55, x56, rfl, fun h => h0 (upd_ne (by decide) h), fun h => h1 (upd_ne (by decide) h), fun h => h2 (upd_ne (by decide) h), fun _ => rfl, fun h => h4 (upd_ne (by decide) h), fun h => h5 (upd_ne (by decide) h), fun h => h6 (upd_ne (by decide) h), fun h => h7 (upd_ne (by decide) h), fun h => h8 (upd_ne (by decide) h), fun h => h9 (upd_ne (by decide) h), fun h => h10 (upd_ne (by decide) h), fun h => h11 (upd_ne (by decide) h), fun h => (by rw [upd_same (by decide)] at h; rw [upd_same (by decide)]; exact c7 h), fun h => (by rw [upd_same (by decide)] at h; rw [upd_same (by decide)]; exact c5x h), fun h => s0 (by rw [upd_same (by decide)] at h; exact h), fun h h' => s1 (upd_ne (by decide) h) (by rw [upd_same (by decide)] at h'; exact h'), fun h => s2 (upd_ne (by decide) h)⟩
      · rintro f act W ⟨x45, x46, x47, x48, x49, x50, x51, x52, x53, x54, x55, x56, rfl, h0, h1, h2, h3, h4, h5, h6, h7, h8, h9, h10, h11, c7, c5x, s0, s1, s2⟩ hf hd K_ hK
        have e2 := h2 (dep_of hd (e := ⟨2, .data⟩) (by simp) rfl)
        subst e2
        have e3 := h3 (dep_of hd (e := ⟨3, .data⟩) (by simp) rfl)
        subst e3
        go_simp
        refine hK _ _ ?_
        exact ⟨x45, x46, _, _, _, x50, x51, x52, x53, x54, x55, x56, rfl, fun h => h0 (upd_ne (by decide) h), fun h => h1 (upd_ne (by decide) h), fun _ => rfl, fun _ => rfl, fun _ => rfl, fun h => h5 (upd_ne (by decide) h), fun h => h6 (upd_ne (by decide) h), fun h => h7 (upd_ne (by decide) h), fun h => h8 (upd_ne (by decide) h), fun h => h9 (upd_ne (by decide) h), fun h => h10 (upd_ne (by decide) h), fun h => h11 (upd_ne (by decide) h), fun h => (by rw [upd_same (by decide)] at h; rw [upd_same (by decide)]; exact c7 h), fun h => (by rw [upd_same (by decide)] at h; rw [upd_same (by decide)]; exact c5x h), fun h => s0 (by rw [upd_same (by decide)] at h; exact h), fun h h' => s1 (upd_ne (by decide) h) (by rw [upd_same (by decide)] at h'; exact h'), fun h => s2 (upd_ne (by decide) h)⟩
      · rintro f act W ⟨x45, x46, x47, x48, x49, x50, x51, x52, x53, x54, x55, x56, rfl, h0, h1, h2, h3, h4, h5, h6, h7, h8, h9, h10, h11, c7, c5x, s0, s1, s2⟩ hf hd K_ hK
        have e4 := h4 (dep_of hd (e := ⟨4, .data⟩) (by simp) rfl)
        subst e4
        have hdd : ∃ l, DSt w w.heap.size base (.slice (some ⟨g, 0, none⟩) L c5) zs l W := by
          cases h7 : f 7
          · exact ⟨_, s0 h7⟩
          · exact ⟨_, s1 h7 (c5x hf)⟩
        obtain ⟨l9, d⟩ := hdd
        obtain ⟨zz, cz, fz, z50, z51⟩ := d.cellI HL.out.1 k80 k81
        clear d
        go_simp
        refine hK _ _ ?_
        exact ⟨x45, x46, x47, x48, _, _, x51, x52, x53, x54, x55, x56, rfl, fun h => h0 (upd_ne (by decide) h), fun h => h1 (upd_ne (by decide) h), fun h => h2 (upd_ne (by decide) h), fun h => h3 (upd_ne (by decide) h), fun _ => rfl, fun _ => ⟨_, rfl, z50, z51⟩, fun h => h6 (upd_ne (by decide) h), fun h => h7 (upd_ne (by decide) h), fun h => h8 (upd_ne (by decide) h), fun h => h9 (upd_ne (by decide) h), fun h => h10 (upd_ne (by decide) h), fun h => h11 (upd_ne (by decide) h), fun h => (by rw [upd_same (by decide)] at h; rw [upd_same (by decide)]; exact c7 h), fun h => (by rw [upd_self] at h; cases h), fun h => s0 (by rw [upd_same (by decide)] at h; exact h), fun h h' => s1 (upd_ne (by decide) h) (by rw [upd_same (by decide)] at h'; exact h'), fun h => s2 (upd_ne (by decide) h)⟩
      · rintro f act W ⟨x45, x46, x47, x48, x49, x50, x51, x52, x53, x54, x55, x56, rfl, h0, h1, h2, h3, h4, h5, h6, h7, h8, h9, h10, h11, c7, c5x, s0, s1, s2⟩ hf hd K_ hK
        go_simp
        refine hK _ _ ?_
        exact ⟨x45, x46, x47, x48, x49, x50, _, x52, x53, x54, x55, x56, rfl, fun h => h0 (upd_ne (by decide) h), fun h => h1 (upd_ne (by decide) h), fun h => h2 (upd_ne (by decide) h), fun h => h3 (upd_ne (by decide) h), fun h => h4 (upd_ne (by decide) h), fun h => h5 (upd_ne (by decide) h), fun _ => rfl, fun h => h7 (upd_ne (by decide) h), fun h => h8 (upd_ne (by decide) h), fun h => h9 (upd_ne (by decide) h), fun h => h10 (upd_ne (by decide) h), fun h => h11 (upd_ne (by decide) h), fun h => (by rw [upd_same (by decide)] at h; rw [upd_same (by decide)]; exact c7 h), fun h => (by rw [upd_same (by decide)] at h; rw [upd_same (by decide)]; exact c5x h), fun h => s0 (by rw [upd_same (by decide)] at h; exact h), fun h h' => s1 (upd_ne (by decide) h) (by rw [upd_same (by decide)] at h'; exact h'), fun h => s2 (upd_ne (by decide) h)⟩
      · rintro f act W ⟨x45, x46, x47, x48, x49, x50, x51, x52, x53, x54, x55, x56, rfl, h0, h1, h2, h3, h4, h5, h6, h7, h8, h9, h10, h11, c7, c5x, s0, s1, s2⟩ hf hd K_ hK
        have e6 := h6 (dep_of hd (e := ⟨6, .data⟩) (by simp) rfl)
        subst e6
        go_simp
        refine ((s0 hf).pick 64 (by omega)).mono ?_
        rintro e W2 ⟨r, rfl, r0, r1, d2⟩
        refine hK _ _ ?_
        exact ⟨x45, x46, x47, x48, x49, x50, _, _, x53, x54, x55, x56, rfl, fun h => h0 (upd_ne (by decide) h), fun h => h1 (upd_ne (by decide) h), fun h => h2 (upd_ne (by decide) h), fun h => h3 (upd_ne (by decide) h), fun h => h4 (upd_ne (by decide) h), fun h => h5 (upd_ne (by decide) h), fun _ => rfl, fun _ => ⟨_, rfl, r0, r1 (by omega)⟩, fun h => h8 (upd_ne (by decide) h), fun h => h9 (upd_ne (by decide) h), fun h => h10 (upd_ne (by decide) h), fun h => h11 (upd_ne (by decide) h), fun h => (by rw [upd_self] at h; cases h), fun h => (by rw [upd_same (by decide)] at h; rw [upd_same (by decide)]; exact c5x h), fun h => (by rw [upd_self] at h; cases h), fun _ _ => d2, fun h => absurd (upd_ne (by decide) h) (by rw [c7 hf]; decide)⟩
      · rintro f act W ⟨x45, x46, x47, x48, x49, x50, x51, x52, x53, x54, x55, x56, rfl, h0, h1, h2, h3, h4, h5, h6, h7, h8, h9, h10, h11, c7, c5x, s0, s1, s2⟩ hf hd K_ hK
        obtain ⟨y7, e7, y7a, y7b⟩ := h7 (dep_of hd (e := ⟨7, .data⟩) (by simp) rfl)
        subst e7
        go_simp
        refine hK _ _ ?_
        exact ⟨x45, x46, x47, x48, x49, x50, x51, _, _, x54, x55, x56, rfl, fun h => h0 (upd_ne (by decide) h), fun h => h1 (upd_ne (by decide) h), fun h => h2 (upd_ne (by decide) h), fun h => h3 (upd_ne (by decide) h), fun h => h4 (upd_ne (by decide) h), fun h => h5 (upd_ne (by decide) h), fun h => h6 (upd_ne (by decide) h), fun _ => ⟨y7, rfl, y7a, y7b⟩, fun _ => ⟨_, rfl, by simp [IntKind.wrap, IntKind.signed, IntKind.bits]; omega, by simp [IntKind.wrap, IntKind.signed, IntKind.bits]; omega⟩, fun h => h9 (upd_ne (by decide) h), fun h => h10 (upd_ne (by decide) h), fun h => h11 (upd_ne (by decide) h), fun h => (by rw [upd_same (by decide)] at h; rw [upd_same (by decide)]; exact c7 h), fun h => (by rw [upd_same (by decide)] at h; rw [upd_same (by decide)]; exact c5x h), fun h => s0 (by rw [upd_same (by decide)] at h; exact h), fun h h' => s1 (upd_ne (by decide) h) (by rw [upd_same (by decide)] at h'; exact h'), fun h => s2 (upd_ne (by decide) h)⟩
      · rintro f act W ⟨x45, x46, x47, x48, x49, x50, x51, x52, x53, x54, x55, x56, rfl, h0, h1, h2, h3, h4, h5, h6, h7, h8, h9, h10, h11, c7, c5x, s0, s1, s2⟩ hf hd K_ hK
        obtain ⟨y8, e8, y8a, y8b⟩ := h8 (dep_of hd (e := ⟨8, .data⟩) (by simp) rfl)
        subst e8
        go_simp
        refine hK _ _ ?_
        exact ⟨x45, x46, x47, x48, x49, x50, x51, x52, _, _, x55, x56, rfl, fun h => h0 (upd_ne (by decide) h), fun h => h1 (upd_ne (by decide) h), fun h => h2 (upd_ne (by decide) h), fun h => h3 (upd_ne (by decide) h), fun h => h4 (upd_ne (by decide) h), fun h => h5 (upd_ne (by decide) h), fun h => h6 (upd_ne (by decide) h), fun h => h7 (upd_ne (by decide) h), fun _ => ⟨y8, rfl, y8a, y8b⟩, fun _ => ⟨_, rfl, u64_lo _, u64_hi _⟩, fun h => h10 (upd_ne (by decide) h), fun h => h11 (upd_ne (by decide) h), fun h => (by rw [upd_same (by decide)] at h; rw [upd_same (by decide)]; exact c7 h), fun h => (by rw [upd_same (by decide)] at h; rw [upd_same (by decide)]; exact c5x h), fun h => s0 (by rw [upd_same (by decide)] at h; exact h), fun h h' => s1 (upd_ne (by decide) h) (by rw [upd_same (by decide)] at h'; exact h'), fun h => s2 (upd_ne (by decide) h)⟩
      · rintro f act W ⟨x45, x46, x47, x48, x49, x50, x51, x52, x53, x54, x55, x56, rfl, h0, h1, h2, h3, h4, h5, h6, h7, h8, h9, h10, h11, c7, c5x, s0, s1, s2⟩ hf hd K_ hK
        obtain ⟨y5, e5, y5a, y5b⟩ := h5 (dep_of hd (e := ⟨5, .data⟩) (by simp) rfl)
        subst e5
        obtain ⟨y9, e9, y9a, y9b⟩ := h9 (dep_of hd (e := ⟨9, .data⟩) (by simp) rfl)
        subst e9
        go_simp
        refine hK _ _ ?_
        exact ⟨x45, x46, x47, x48, x49, _, x51, x52, x53, _, _, x56, rfl, fun h => h0 (upd_ne (by decide) h), fun h => h1 (upd_ne (by decide) h), fun h => h2 (upd_ne (by decide) h), fun h => h3 (upd_ne (by decide) h), fun h => h4 (upd_ne (by decide) h), fun _ => ⟨y5, rfl, y5a, y5b⟩, fun h => h6 (upd_ne (by decide) h), fun h => h7 (upd_ne (by decide) h), fun h => h8 (upd_ne (by decide) h), fun _ => ⟨y9, rfl, y9a, y9b⟩, fun _ => ⟨_, rfl, u64_lo _, u64_hi _⟩, fun h => h11 (upd_ne (by decide) h), fun h => (by rw [upd_same (by decide)] at h; rw [upd_same (by decide)]; exact c7 h), fun h => (by rw [upd_same (by decide)] at h; rw [upd_same (by decide)]; exact c5x h), fun h => s0 (by rw [upd_same (by decide)] at h; exact h), fun h h' => s1 (upd_ne (by decide) h) (by rw [upd_same (by decide)] at h'; exact h'), fun h => s2 (upd_ne (by decide) h)⟩
      · rintro f act W ⟨x45, x46, x47, x48, x49, x50, x51, x52, x53, x54, x55, x56, rfl, h0, h1, h2, h3, h4, h5, h6, h7, h8, h9, h10, h11, c7, c5x, s0, s1, s2⟩ hf hd K_ hK
        have e0 := h0 (dep_of hd (e := ⟨0, .data⟩) (by simp) rfl)
        subst e0
        have e1 := h1 (dep_of hd (e := ⟨1, .data⟩) (by simp) rfl)
        subst e1
        go_simp
        refine hK _ _ ?_
        exact ⟨_, _, x47, x48, x49, x50, x51, x52, x53, x54, x55, _, rfl, fun _ => rfl, fun _ => rfl, fun h => h2 (upd_ne (by decide) h), fun h => h3 (upd_ne (by decide) h), fun h => h4 (upd_ne (by decide) h), fun h => h5 (upd_ne (by decide) h), fun h => h6 (upd_ne (by decide) h), fun h => h7 (upd_ne (by decide) h), fun h => h8 (upd_ne (by decide) h), fun h => h9 (upd_ne (by decide) h), fun h => h10 (upd_ne (by decide) h), fun _ => rfl, fun h => (by rw [upd_same (by decide)] at h; rw [upd_same (by decide)]; exact c7 h), fun h => (by rw [upd_same (by decide)] at h; rw [upd_same (by decide)]; exact c5x h), fun h => s0 (by rw [upd_same (by decide)] at h; exact h), fun h h' => s1 (upd_ne (by decide) h) (by rw [upd_same (by decide)] at h'; exact h'), fun h => s2 (upd_ne (by decide) h)⟩
      · rintro f act W ⟨x45, x46, x47, x48, x49, x50, x51, x52, x53, x54, x55, x56, rfl, h0, h1, h2, h3, h4, h5, h6, h7, h8, h9, h10, h11, c7, c5x, s0, s1, s2⟩ hf hd K_ hK
        have e11 := h11 (dep_of hd (e := ⟨11, .data⟩) (by simp) rfl)
        subst e11
        obtain ⟨y10, e10, y10a, y10b⟩ := h10 (dep_of hd (e := ⟨10, .data⟩) (by simp) rfl)
        subst e10
        have d := s1 (dep_of hd (e := ⟨7, .chain⟩) (by simp) rfl) hf
        obtain ⟨zz, cz, fz, -, -⟩ := d.cellI HL.out.1 k80 k81
        obtain ⟨hl2, d2⟩ := d.putI HL.out.1 k80 k81 y10a y10b hbg (by omega)
        have f7 : Hid (f 7 = true) := (dep_of hd (e := ⟨7, .chain⟩) (by simp) rfl)
        have f5 : Hid (f 5 = true) := (dep_of hd (e := ⟨5, .phase⟩) (by simp) rfl)
        have d2h : Hid _ := d2
        clear d d2
        go_simp
        refine hK _ _ ?_
        exact ⟨x45, x46, x47, x48, x49, x50, x51, x52, x53, x54, _, _, rfl, fun h => h0 (upd_ne (by decide) h), fun h => h1 (upd_ne (by decide) h), fun h => h2 (upd_ne (by decide) h), fun h => h3 (upd_ne (by decide) h), fun h => h4 (upd_ne (by decide) h), fun h => h5 (upd_ne (by decide) h), fun h => h6 (upd_ne (by decide) h), fun h => h7 (upd_ne (by decide) h), fun h => h8 (upd_ne (by decide) h), fun h => h9 (upd_ne (by decide) h), fun _ => ⟨y10, rfl, y10a, y10b⟩, fun _ => rfl, fun h => (by rw [upd_same (by decide), f7.out] at h; cases h), fun h => (by rw [upd_same (by decide), f5.out] at h; cases h), fun h => (by rw [upd_same (by decide), f7.out] at h; cases h), fun _ h' => (by rw [upd_self] at h'; cases h'), fun _ => ⟨_, hl2, d2h.out⟩⟩
      · rintro f act W ⟨x45, x46, x47, x48, x49, x50, x51, x52, x53, x54, x55, x56, rfl, h0, h1, h2, h3, h4, h5, h6, h7, h8, h9, h10, h11, c7, c5x, s0, s1, s2⟩ hall
        obtain ⟨zs2, hl2, DB⟩ := s2 (hall 12 (by decide))
        clear h0 h1 h2 h3 h4 h5 h6 h7 h8 h9 h10 h11 c7 c5x s0 s1 s2
        replace HL : Hid (zs2.length = L ∧ zs2.length ≤ 12) := ⟨hl2, DB.len⟩
        have D8 : Hid _ := DB
        clear DB hl2 DA
        go_wp2_with first
          | (go_at_call 27; refine (D8.out.pick 20 (by omega)).mono ?_; rintro e w9 ⟨r9, rfl, r90, r91, D9⟩; replace D9 : Hid _ := D9; have D9a : Hid _ := D9.out.alloc (.cells #[.int .u64 0] 38))
          | (at_builtin; (refine wpList_append_own _ rfl _ _ 28 rfl base 38 i0 (.int .u64 0) 1 8 Tryd.underlying28 hi hz0 hz1 hz2 rfl (by decide) _ _ _ rfl D9a.out.row ⟨_, 0, none⟩ 1 1 [_] rfl rfl (cell_one (by first | rfl | simp)) (fun u hu => by simp at hu; rcases hu with rfl; rfl) (by have := D9a.out.len; unfold maxLen; omega) (by have := D9a.out.len; omega) D9a.out.size ?_); intro v' w10 hown hgrow hnil; have FN : Hid (UNOut w (.returned (.tuple #[.int .i64 n, v'])) w10) := D9a.out.fin2 (Nat.le_refl _) hgrow hown; clear hown hgrow hnil)
        all_goals go_ret2
        all_goals (first | exact FN.out | exact D9.out.fin HL.out.1)

end Go.Proofs.YteohgmmenlinbacDoor
