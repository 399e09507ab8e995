/- The patterns of a box: the model's BoxBits: its contract. -/
import Derived.Test.YteohgmmenlinbacDoorU64
import Derived.Test.YteohgmmenlinbacDoorSpecO
import Derived.Test.YteohgmmenlinbacDoorDrawV
import Derived.Test.YteohgmmenlinbacDoorJA
import Derived.Test.YteohgmmenlinbacDoorJB
namespace Go.Proofs.YteohgmmenlinbacDoor
open Go.ChangeShapes Go.WideShapes Go.ChangeAt Go.RowKit
set_option linter.unusedVariables false

def bitsL (n : Int) (ps : List (Int × Int)) : List Int := ps.flatMap fun p => [bitsI n p.1, bitsI n p.2]
def uvals (zs : List Int) : List Value := zs.map fun z => .int .u64 z
theorem bitsL_length (n : Int) (ps : List (Int × Int)) : (bitsL n ps).length = 2 * ps.length := by
  induction ps with
  | nil => rfl
  | cons p ps ih => simp [bitsL] at ih ⊢; omega
theorem bitsL_snoc (n : Int) (ps : List (Int × Int)) (p : Int × Int) : bitsL n (ps ++ [p]) = bitsL n ps ++ [bitsI n p.1, bitsI n p.2] := by simp [bitsL]
theorem uvals_snoc (zs : List Int) (x y : Int) : uvals (zs ++ [x, y]) = uvals zs ++ [.int .u64 x, .int .u64 y] := by simp [uvals]

theorem infoU64 : (Tryd.prog.info? 38).map (fun i => (i.zero, i.size, i.bytes)) = some (some (.int .u64 0), 1, 8) := by kernel_rfl

theorem grown_form2 {w : World} {base : Nat} {e : TypeId} {size n : Nat} {v : Value} {xs : List Value} (h : w.ownsRow base e size v (n + 2) xs) : ∃ g c, v = .slice (some ⟨g, 0, none⟩) (n + 2) c := by
  rcases h.2 with ⟨_, q⟩ | ⟨g, cap, _, q, _⟩
  · omega
  · exact ⟨g, cap, q⟩

theorem ownsRow_hasU {W : World} {base : Nat} {v : Value} {zs : List Int} (h : W.ownsRow base 38 1 v zs.length (uvals zs)) :
    ∃ (a : Option Addr) (cap : Nat) (o : Option Nat), v = .slice a zs.length cap ∧ zs.length ≤ cap ∧ HasU W a zs o ∧ (∀ G, o = some G → base ≤ G) := by
  rcases h.2 with ⟨rfl, hn⟩ | ⟨g, cap, cur, rfl, hb, hg, hc, _, hs, ht⟩
  · obtain rfl : zs = [] := List.length_eq_zero_iff.1 hn
    exact ⟨none, 0, none, rfl, Nat.le_refl _, .inl ⟨rfl, rfl⟩, fun G hG => by cases hG⟩
  · refine ⟨_, cap, some g, rfl, hc, .inr ⟨g, rfl, rfl, ⟨(Array.getElem?_eq_some_iff.1 hg).1, fun i z hz => ?_, fun i z hz => ?_⟩⟩, fun G hG => by obtain rfl := Option.some.inj hG; exact hb⟩
    · have hi : i < zs.length := (List.getElem?_eq_some_iff.1 hz).1
      have hu : (uvals zs)[i]? = some (.int .u64 z) := by unfold uvals; rw [List.getElem?_map, hz]; rfl
      rw [← ht, List.getElem?_take_of_lt (by omega)] at hu
      simp [World.cell?, hg]
      simpa using hu
    · simp [World.frozen?, hg]

/-- A new list of numbers. -/
def UOut (w : World) (zs : List Int) (e : Ending) (w' : World) : Prop :=
  ∃ (a : Option Addr) (cap : Nat) (o : Option Nat), e = .returned (.slice a zs.length cap) ∧ zs.length ≤ cap ∧ HasU w' a zs o ∧ (∀ G, o = some G → w.heap.size ≤ G) ∧ Below w.heap.size w w'

/-- A new list of numbers, as a row of the call's own. -/
def UOutR (w : World) (zs : List Int) (e : Ending) (w' : World) : Prop :=
  ∃ v, e = .returned v ∧ w'.ownsRow (w.heap.size + 1) 38 1 v zs.length (uvals zs) ∧ Below w.heap.size w w' ∧ w.heap.size + 1 ≤ w'.heap.size

def bboxL (n : Int) (ps : List (Int × Int)) : List Int := if bokI n ps = true then bitsL n ps else []

/-- Between two rounds. -/
structure BSt (w : World) (fl : List Fact) (base : Nat) (zs : List Int) (v : Value) (W : World) : Prop where
  facts : Facts W fl
  row : W.ownsRow base 38 1 v zs.length (uvals zs)
  bel : Below w.heap.size w W
  size : base ≤ W.heap.size

set_option maxRecDepth 100000 in
set_option maxHeartbeats 8000000 in
theorem specBoxBitsR (w : World) (n : Int) (a : Option Addr) (ps : List (Int × Int)) (cap : Nat) (h : PairsAt w a ps) (hl : ps.length ≤ cap) (hm : ps.length ≤ 1048576) :
    Calls Tryd.prog 25 #[.int .i64 n, .agg #[.slice a ps.length cap]] w (UOutR w (bboxL n ps)) := by
  have q0 : Below w.heap.size w (w.alloc (.cells #[.slice a ps.length cap] 25)) := (Below.refl _ w).alloc (Nat.le_refl _) _
  have hk := fun W (q : Below w.heap.size w W) => specBoxOk W n a ps cap (h.below q) hl hm
  have F0 : Facts (w.alloc (.cells #[.slice a ps.length cap] 25)) [.own w.heap.size [.slice a ps.length cap], .args w.heap.size a ps] :=
    ((Facts.nil _).pushOwn (Own.new w _ _)).push (f := .args _ _ _) (Fact.below (.args w.heap.size a ps) (args_of h rfl) q0)
  cases hbk : bokI n ps
  · have e : bboxL n ps = [] := by unfold bboxL; rw [hbk]; rfl
    rw [e]
    rw [hbk] at hk
    clear e hbk F0
    obtain ⟨len, hlen⟩ : ∃ len, ps.length = len := ⟨_, rfl⟩
    rw [hlen] at q0 hk ⊢
    go_enter Tryd.func25, Tryd.ntmps25
    go_wp2_with (go_at_call 7; refine (hk _ q0).mono ?_; clear hk; rintro e w2 ⟨rfl, q⟩; have hsz := q.size; simp only [World.size_alloc] at hsz; replace q0 := q0.trans (q.mono q0.size); clear q)
    go_ret
    exact ⟨.slice none 0 0, rfl, World.ownsRow_nil _ _ _ _, q0, hsz⟩
  · have e : bboxL n ps = bitsL n ps := by unfold bboxL; rw [hbk]; rfl
    rw [e]
    rw [hbk] at hk
    have hl6 : 1 ≤ ps.length ∧ ps.length ≤ 6 := by unfold bokI at hbk; simp only [Bool.and_eq_true, decide_eq_true_eq] at hbk; exact ⟨hbk.1, hbk.2.1⟩
    have hw := h.1
    clear e hbk h
    obtain ⟨len, hlen⟩ : ∃ len, ps.length = len := ⟨_, rfl⟩
    rw [hlen] at q0 hk hl hm hl6 F0 ⊢
    obtain ⟨i0, hi, hz0, hz1, hz2⟩ := info_parts infoU64
    have hfr : ∀ f ∈ ([.own w.heap.size [.slice a len cap], .args w.heap.size a ps] : List Fact), ∀ c, w.heap.size + 1 ≤ c → f.free (some c) := by
      intro f hf c hc
      simp only [List.mem_cons, List.not_mem_nil, or_false] at hf
      rcases hf with rfl | rfl
      · intro e; have := Option.some.inj e; omega
      · intro G hG; have := Option.some.inj hG; omega
    go_enter Tryd.func25, Tryd.ntmps25
    go_wp2_with (go_at_call 7; refine (hk _ q0).mono ?_; clear hk; rintro e w2 ⟨rfl, q⟩; replace F0 := F0.below q; replace q0 := q0.trans (q.mono q0.size); clear q)
    have hs2 : w.heap.size + 1 ≤ w2.heap.size := (F0.own 0 rfl).lt
    have S0 : Hid (BSt w [.own w.heap.size [.slice a len cap], .args w.heap.size a ps] (w.heap.size + 1) [] (.slice none 0 0) w2) := ⟨F0, World.ownsRow_nil _ _ _ _, q0, hs2⟩
    clear F0 q0 hs2
    go_loopg [5, 6] len (fun gq vv iv wr => ∃ (i : Nat) (v : Value), i + gq = len ∧ vv = v ∧ iv = .int .i64 i ∧ Hid (BSt w [.own w.heap.size [.slice a len cap], .args w.heap.size a ps] (w.heap.size + 1) (bitsL n (ps.take i)) v wr))
    case atStart => exact ⟨0, _, by omega, rfl, rfl, S0⟩
    case round =>
      clear S0
      obtain ⟨i, v, hi', hv0, rfl, S⟩ := hrel
      replace hv0 := hv0.symm
      subst hv0
      have b0 := (S.out.facts.own 0 rfl).cell 0 _ rfl
      by_cases hlast : i < len
      · have hil : (i : Int) < len := by omega
        have hA := S.out.facts.args 1 rfl
        obtain ⟨rb, ro, ha, -, -, -⟩ := PairsAt.atD hA (i := i) (by omega)
        have wq := PairsAt.wfD hA (i := i) (by omega)
        have hnx : Hid (bitsL n (ps.take (i + 1)) = bitsL n (ps.take i) ++ [bitsI n (at2 ps i).1, bitsI n (at2 ps i).2]) := by
          show bitsL n (ps.take (i + 1)) = _
          rw [List.take_add_one, at2_get (ps := ps) (i := i) (by omega)]
          exact bitsL_snoc n _ _
        have hlz : Hid ((bitsL n (ps.take i)).length = 2 * i) := by show (bitsL n (ps.take i)).length = 2 * i; rw [bitsL_length, List.length_take]; omega
        have hN : (bitsL n (ps.take i)).length ≤ 12 := by rw [hlz.out]; omega
        subst ha
        have hat : ∀ W, Facts W [.own w.heap.size [.slice (some ⟨rb, ro, none⟩) len cap], .args w.heap.size (some ⟨rb, ro, none⟩) ps] → W.cell? ⟨rb, ro + i * 2, none⟩ = some (.int .i64 (at2 ps i).1) ∧ W.cell? ⟨rb, ro + i * 2 + 1, none⟩ = some (.int .i64 (at2 ps i).2) := by
          intro W hF
          obtain ⟨rb', ro', ha', -, c0, c1⟩ := PairsAt.atD (hF.args 1 rfl) (i := i) (by omega)
          injection ha' with ha'
          injection ha' with e1 e2
          subst e1 e2
          exact ⟨c0, c1⟩
        have sb := fun W => specBits W n (at2 ps i).1 wq.1
        have sb2 := fun W => specBits W n (at2 ps i).2 wq.2
        generalize (at2 ps i).1 = x at *
        generalize (at2 ps i).2 = y at *
        generalize bitsI n x = z1 at *
        generalize bitsI n y = z2 at *
        generalize bitsL n (ps.take i) = zs at *
        obtain ⟨SF, SR, SB, SS⟩ := S.out
        clear S hA wq b0
        have b0 := (SF.own 0 rfl).cell 0 _ rfl
        go_wp2
        refine region_steps (by kernel_rfl) (by kernel_rfl) (by kernel_rfl) (fun A0 f act W => ∃ (x5 : Value) (x19 : Value) (x20 : Value) (x21 : Value) (x22 : Value) (x23 : Value) (x24 : Value) (x25 : Value) (x26 : Value) (x27 : Value) (x28 : Value) (x29 : Value) (x30 : Value) (x31 : Value) (x32 : Value) (x33 : Value) (x34 : Value) (x35 : Value) (x36 : Value) (x37 : Value) (k : Nat) (v1 : Value), act = { tmps := #[.int .i64 n, .agg #[.slice (some ⟨rb, ro, none⟩) len cap], undef, .pointer (some ⟨w.heap.size, 0, none⟩), .slice none 0 0, x5, .int .i64 (i : Int), .int .i64 n, .agg #[.slice (some ⟨rb, ro, none⟩) len cap], .bool true, .bool false, undef, .int .i64 (i : Int), .pointer (some ⟨w.heap.size, 0, none⟩), .slice (some ⟨rb, ro, none⟩) len cap, .int .i64 (len : Int), .bool true, u17, u18, x19, x20, x21, x22, x23, x24, x25, x26, x27, x28, x29, x30, x31, x32, x33, x34, x35, x36, x37, undef], defers := [] } ∧ (f 0 = true → x19 = v) ∧ (f 1 = true → x20 = .int .i64 n) ∧ (f 2 = true → x21 = .pointer (some ⟨w.heap.size, 0, none⟩)) ∧ (f 3 = true → x22 = .slice (some ⟨rb, ro, none⟩) len cap) ∧ (f 4 = true → x23 = .int .i64 (i : Int)) ∧ (f 5 = true → x24 = .pointer (some ⟨rb, ro + i * 2, none⟩)) ∧ (f 6 = true → x25 = .pointer (some ⟨rb, ro + i * 2, none⟩)) ∧ (f 7 = true → x26 = .int .i64 x) ∧ (f 8 = true → x27 = .int .u64 z1) ∧ (f 9 = true → x28 = .int .i64 n) ∧ (f 10 = true → x29 = .pointer (some ⟨w.heap.size, 0, none⟩)) ∧ (f 11 = true → x30 = .slice (some ⟨rb, ro, none⟩) len cap) ∧ (f 12 = true → x31 = .int .i64 (i : Int)) ∧ (f 13 = true → x32 = .pointer (some ⟨rb, ro + i * 2, none⟩)) ∧ (f 14 = true → x33 = .pointer (some ⟨rb, ro + i * 2 + 1, none⟩)) ∧ (f 15 = true → x34 = .int .i64 y) ∧ (f 16 = true → x35 = .int .u64 z2) ∧ (f 17 = true → x36 = .slice (some ⟨k, 0, none⟩) 2 2) ∧ (f 18 = true → x37 = v1) ∧ (f 19 = true → x5 = v1) ∧ (f 18 = false → W.ownsRow (w.heap.size + 1) 38 1 v zs.length (uvals zs)) ∧ (f 18 = true → W.ownsRow (w.heap.size + 1) 38 1 v1 (zs.length + 2) ((uvals zs) ++ [.int .u64 z1, .int .u64 z2]) ∧ ∃ g c, v1 = .slice (some ⟨g, 0, none⟩) (zs.length + 2) c) ∧ (f 17 = true → f 18 = false → ∀ j u, ([.int .u64 z1, .int .u64 z2] : List Value)[j]? = some u → W.cell? ((⟨k, 0, none⟩ : Addr).add j) = some u) ∧ (f 18 = true → f 17 = true) ∧ (f 19 = false → x5 = v) ∧ (f 18 = true → f 0 = true) ∧ Facts W [.own w.heap.size [.slice (some ⟨rb, ro, none⟩) len cap], .args w.heap.size (some ⟨rb, ro, none⟩) ps] ∧ Below w.heap.size w W ∧ (w.heap.size + 1) ≤ W.heap.size ∧ (f 19 = true → f 18 = true)) ?_ ⟨?_, ?_, ?_, ?_, ?_, ?_, ?_, ?_, ?_, ?_, ?_, ?_, ?_, ?_, ?_, ?_, ?_, ?_, ?_, ?_, trivial⟩ ?_
        · exact ⟨v, u19, u20, u21, u22, u23, u24, u25, u26, u27, u28, u29, u30, u31, u32, u33, u34, u35, u36, u37, 0, undef, rfl, (fun h => (by cases h)), (fun h => (by cases h)), (fun h => (by cases h)), (fun h => (by cases h)), (fun h => (by cases h)), (fun h => (by cases h)), (fun h => (by cases h)), (fun h => (by cases h)), (fun h => (by cases h)), (fun h => (by cases h)), (fun h => (by cases h)), (fun h => (by cases h)), (fun h => (by cases h)), (fun h => (by cases h)), (fun h => (by cases h)), (fun h => (by cases h)), (fun h => (by cases h)), (fun h => (by cases h)), (fun h => (by cases h)), (fun h => (by cases h)), fun _ => SR, (fun h => (by cases h)), (fun h => (by cases h)), (fun h => (by cases h)), fun _ => rfl, (fun h => (by cases h)), (SF).drew, (SB).drew, SS, (fun h => (by cases h))⟩
        · rintro f act W ⟨x5, x19, x20, x21, x22, x23, x24, x25, x26, x27, x28, x29, x30, x31, x32, x33, x34, x35, x36, x37, k, v1, rfl, h0, h1, h2, h3, h4, h5, h6, h7, h8, h9, h10, h11, h12, h13, h14, h15, h16, h17, h18, h19, m0, m1, cl, ib, z5, a0, fx, hB, hS, late19⟩ hf hd K_ hK
          have f18 : f 18 = false := by cases h : f 18; rfl; exact absurd (a0 h) (by rw [hf]; decide)
          have f19 : f 19 = false := by cases h : f 19; rfl; exact absurd (late19 h) (by rw [f18]; decide)
          have e5 := (z5 f19).symm
          subst e5
          go_simp
          refine hK _ _ ?_
          exact ⟨_, _, x20, x21, x22, x23, x24, x25, x26, x27, x28, x29, x30, x31, x32, x33, x34, x35, x36, x37, k, v1, rfl, fun _ => rfl, fun h => h1 (upd_ne (by decide) h), fun h => h2 (upd_ne (by decide) h), fun h => h3 (upd_ne (by decide) h), fun h => h4 (upd_ne (by decide) h), fun h => h5 (upd_ne (by decide) h), fun h => h6 (upd_ne (by decide) h), fun h => h7 (upd_ne (by decide) h), fun h => h8 (upd_ne (by decide) h), fun h => h9 (upd_ne (by decide) h), fun h => h10 (upd_ne (by decide) h), fun h => h11 (upd_ne (by decide) h), fun h => h12 (upd_ne (by decide) h), fun h => h13 (upd_ne (by decide) h), fun h => h14 (upd_ne (by decide) h), fun h => h15 (upd_ne (by decide) h), fun h => h16 (upd_ne (by decide) h), fun h => h17 (upd_ne (by decide) h), fun h => h18 (upd_ne (by decide) h), fun h => absurd (upd_ne (by decide) h) (by rw [f19]; decide), fun h => m0 (by rw [upd_same (by decide)] at h; exact h), fun h => m1 (upd_ne (by decide) h), fun h h' => cl (upd_ne (by decide) h) (by rw [upd_same (by decide)] at h'; exact h'), fun h => upd_of (ib (upd_ne (by decide) h)), fun _ => rfl, fun _ => upd_self, fx, hB, hS, fun h => upd_of (late19 (upd_ne (by decide) h))⟩
        · rintro f act W ⟨x5, x19, x20, x21, x22, x23, x24, x25, x26, x27, x28, x29, x30, x31, x32, x33, x34, x35, x36, x37, k, v1, rfl, h0, h1, h2, h3, h4, h5, h6, h7, h8, h9, h10, h11, h12, h13, h14, h15, h16, h17, h18, h19, m0, m1, cl, ib, z5, a0, fx, hB, hS, late19⟩ hf hd K_ hK
          go_simp
          refine hK _ _ ?_
          exact ⟨x5, x19, _, x21, x22, x23, x24, x25, x26, x27, x28, x29, x30, x31, x32, x33, x34, x35, x36, x37, k, v1, rfl, fun h => h0 (upd_ne (by decide) h), fun _ => rfl, fun h => h2 (upd_ne (by decide) h), fun h => h3 (upd_ne (by decide) h), fun h => h4 (upd_ne (by decide) h), fun h => h5 (upd_ne (by decide) h), fun h => h6 (upd_ne (by decide) h), fun h => h7 (upd_ne (by decide) h), fun h => h8 (upd_ne (by decide) h), fun h => h9 (upd_ne (by decide) h), fun h => h10 (upd_ne (by decide) h), fun h => h11 (upd_ne (by decide) h), fun h => h12 (upd_ne (by decide) h), fun h => h13 (upd_ne (by decide) h), fun h => h14 (upd_ne (by decide) h), fun h => h15 (upd_ne (by decide) h), fun h => h16 (upd_ne (by decide) h), fun h => h17 (upd_ne (by decide) h), fun h => h18 (upd_ne (by decide) h), fun h => h19 (upd_ne (by decide) h), fun h => m0 (by rw [upd_same (by decide)] at h; exact h), fun h => m1 (upd_ne (by decide) h), fun h h' => cl (upd_ne (by decide) h) (by rw [upd_same (by decide)] at h'; exact h'), fun h => upd_of (ib (upd_ne (by decide) h)), fun h => z5 (by rw [upd_same (by decide)] at h; exact h), fun h => upd_of (a0 (upd_ne (by decide) h)), fx, hB, hS, fun h => upd_of (late19 (upd_ne (by decide) h))⟩
        · rintro f act W ⟨x5, x19, x20, x21, x22, x23, x24, x25, x26, x27, x28, x29, x30, x31, x32, x33, x34, x35, x36, x37, k, v1, rfl, h0, h1, h2, h3, h4, h5, h6, h7, h8, h9, h10, h11, h12, h13, h14, h15, h16, h17, h18, h19, m0, m1, cl, ib, z5, a0, fx, hB, hS, late19⟩ hf hd K_ hK
          go_simp
          refine hK _ _ ?_
          exact ⟨x5, x19, x20, _, x22, x23, x24, x25, x26, x27, x28, x29, x30, x31, x32, x33, x34, x35, x36, x37, k, v1, rfl, fun h => h0 (upd_ne (by decide) h), fun h => h1 (upd_ne (by decide) h), fun _ => rfl, fun h => h3 (upd_ne (by decide) h), fun h => h4 (upd_ne (by decide) h), fun h => h5 (upd_ne (by decide) h), fun h => h6 (upd_ne (by decide) h), fun h => h7 (upd_ne (by decide) h), fun h => h8 (upd_ne (by decide) h), fun h => h9 (upd_ne (by decide) h), fun h => h10 (upd_ne (by decide) h), fun h => h11 (upd_ne (by decide) h), fun h => h12 (upd_ne (by decide) h), fun h => h13 (upd_ne (by decide) h), fun h => h14 (upd_ne (by decide) h), fun h => h15 (upd_ne (by decide) h), fun h => h16 (upd_ne (by decide) h), fun h => h17 (upd_ne (by decide) h), fun h => h18 (upd_ne (by decide) h), fun h => h19 (upd_ne (by decide) h), fun h => m0 (by rw [upd_same (by decide)] at h; exact h), fun h => m1 (upd_ne (by decide) h), fun h h' => cl (upd_ne (by decide) h) (by rw [upd_same (by decide)] at h'; exact h'), fun h => upd_of (ib (upd_ne (by decide) h)), fun h => z5 (by rw [upd_same (by decide)] at h; exact h), fun h => upd_of (a0 (upd_ne (by decide) h)), fx, hB, hS, fun h => upd_of (late19 (upd_ne (by decide) h))⟩
        · rintro f act W ⟨x5, x19, x20, x21, x22, x23, x24, x25, x26, x27, x28, x29, x30, x31, x32, x33, x34, x35, x36, x37, k, v1, rfl, h0, h1, h2, h3, h4, h5, h6, h7, h8, h9, h10, h11, h12, h13, h14, h15, h16, h17, h18, h19, m0, m1, cl, ib, z5, a0, fx, hB, hS, late19⟩ hf hd K_ hK
          have e2 := h2 (dep_of hd (e := ⟨2, .data⟩) (by simp) rfl)
          subst e2
          have y0 := (fx.own 0 rfl).cell 0 _ rfl
          go_simp
          refine hK _ _ ?_
          exact ⟨x5, x19, x20, _, _, x23, x24, x25, x26, x27, x28, x29, x30, x31, x32, x33, x34, x35, x36, x37, k, v1, rfl, fun h => h0 (upd_ne (by decide) h), fun h => h1 (upd_ne (by decide) h), fun _ => rfl, fun _ => rfl, fun h => h4 (upd_ne (by decide) h), fun h => h5 (upd_ne (by decide) h), fun h => h6 (upd_ne (by decide) h), fun h => h7 (upd_ne (by decide) h), fun h => h8 (upd_ne (by decide) h), fun h => h9 (upd_ne (by decide) h), fun h => h10 (upd_ne (by decide) h), fun h => h11 (upd_ne (by decide) h), fun h => h12 (upd_ne (by decide) h), fun h => h13 (upd_ne (by decide) h), fun h => h14 (upd_ne (by decide) h), fun h => h15 (upd_ne (by decide) h), fun h => h16 (upd_ne (by decide) h), fun h => h17 (upd_ne (by decide) h), fun h => h18 (upd_ne (by decide) h), fun h => h19 (upd_ne (by decide) h), fun h => m0 (by rw [upd_same (by decide)] at h; exact h), fun h => m1 (upd_ne (by decide) h), fun h h' => cl (upd_ne (by decide) h) (by rw [upd_same (by decide)] at h'; exact h'), fun h => upd_of (ib (upd_ne (by decide) h)), fun h => z5 (by rw [upd_same (by decide)] at h; exact h), fun h => upd_of (a0 (upd_ne (by decide) h)), fx, hB, hS, fun h => upd_of (late19 (upd_ne (by decide) h))⟩
        · rintro f act W ⟨x5, x19, x20, x21, x22, x23, x24, x25, x26, x27, x28, x29, x30, x31, x32, x33, x34, x35, x36, x37, k, v1, rfl, h0, h1, h2, h3, h4, h5, h6, h7, h8, h9, h10, h11, h12, h13, h14, h15, h16, h17, h18, h19, m0, m1, cl, ib, z5, a0, fx, hB, hS, late19⟩ hf hd K_ hK
          go_simp
          refine hK _ _ ?_
          exact ⟨x5, x19, x20, x21, x22, _, x24, x25, x26, x27, x28, x29, x30, x31, x32, x33, x34, x35, x36, x37, k, v1, rfl, fun h => h0 (upd_ne (by decide) h), fun h => h1 (upd_ne (by decide) h), fun h => h2 (upd_ne (by decide) h), fun h => h3 (upd_ne (by decide) h), fun _ => rfl, fun h => h5 (upd_ne (by decide) h), fun h => h6 (upd_ne (by decide) h), fun h => h7 (upd_ne (by decide) h), fun h => h8 (upd_ne (by decide) h), fun h => h9 (upd_ne (by decide) h), fun h => h10 (upd_ne (by decide) h), fun h => h11 (upd_ne (by decide) h), fun h => h12 (upd_ne (by decide) h), fun h => h13 (upd_ne (by decide) h), fun h => h14 (upd_ne (by decide) h), fun h => h15 (upd_ne (by decide) h), fun h => h16 (upd_ne (by decide) h), fun h => h17 (upd_ne (by decide) h), fun h => h18 (upd_ne (by decide) h), fun h => h19 (upd_ne (by decide) h), fun h => m0 (by rw [upd_same (by decide)] at h; exact h), fun h => m1 (upd_ne (by decide) h), fun h h' => cl (upd_ne (by decide) h) (by rw [upd_same (by decide)] at h'; exact h'), fun h => upd_of (ib (upd_ne (by decide) h)), fun h => z5 (by rw [upd_same (by decide)] at h; exact h), fun h => upd_of (a0 (upd_ne (by decide) h)), fx, hB, hS, fun h => upd_of (late19 (upd_ne (by decide) h))⟩
        · rintro f act W ⟨x5, x19, x20, x21, x22, x23, x24, x25, x26, x27, x28, x29, x30, x31, x32, x33, x34, x35, x36, x37, k, v1, rfl, h0, h1, h2, h3, h4, h5, h6, h7, h8, h9, h10, h11, h12, h13, h14, h15, h16, h17, h18, h19, m0, m1, cl, ib, z5, a0, fx, hB, hS, late19⟩ hf hd K_ hK
          have e3 := h3 (dep_of hd (e := ⟨3, .data⟩) (by simp) rfl)
          subst e3
          have e4 := h4 (dep_of hd (e := ⟨4, .data⟩) (by simp) rfl)
          subst e4
          go_simp
          refine hK _ _ ?_
          exact ⟨x5, x19, x20, x21, _, _, _, x25, x26, x27, x28, x29, x30, x31, x32, x33, x34, x35, x36, x37, k, v1, rfl, fun h => h0 (upd_ne (by decide) h), fun h => h1 (upd_ne (by decide) h), fun h => h2 (upd_ne (by decide) h), fun _ => rfl, fun _ => rfl, fun _ => rfl, fun h => h6 (upd_ne (by decide) h), fun h => h7 (upd_ne (by decide) h), fun h => h8 (upd_ne (by decide) h), fun h => h9 (upd_ne (by decide) h), fun h => h10 (upd_ne (by decide) h), fun h => h11 (upd_ne (by decide) h), fun h => h12 (upd_ne (by decide) h), fun h => h13 (upd_ne (by decide) h), fun h => h14 (upd_ne (by decide) h), fun h => h15 (upd_ne (by decide) h), fun h => h16 (upd_ne (by decide) h), fun h => h17 (upd_ne (by decide) h), fun h => h18 (upd_ne (by decide) h), fun h => h19 (upd_ne (by decide) h), fun h => m0 (by rw [upd_same (by decide)] at h; exact h), fun h => m1 (upd_ne (by decide) h), fun h h' => cl (upd_ne (by decide) h) (by rw [upd_same (by decide)] at h'; exact h'), fun h => upd_of (ib (upd_ne (by decide) h)), fun h => z5 (by rw [upd_same (by decide)] at h; exact h), fun h => upd_of (a0 (upd_ne (by decide) h)), fx, hB, hS, fun h => upd_of (late19 (upd_ne (by decide) h))⟩
        · rintro f act W ⟨x5, x19, x20, x21, x22, x23, x24, x25, x26, x27, x28, x29, x30, x31, x32, x33, x34, x35, x36, x37, k, v1, rfl, h0, h1, h2, h3, h4, h5, h6, h7, h8, h9, h10, h11, h12, h13, h14, h15, h16, h17, h18, h19, m0, m1, cl, ib, z5, a0, fx, hB, hS, late19⟩ hf hd K_ hK
          have e5 := h5 (dep_of hd (e := ⟨5, .data⟩) (by simp) rfl)
          subst e5
          go_simp
          refine hK _ _ ?_
          exact ⟨x5, x19, x20, x21, x22, x23, _, _, x26, x27, x28, x29, x30, x31, x32, x33, x34, x35, x36, x37, k, v1, rfl, fun h => h0 (upd_ne (by decide) h), fun h => h1 (upd_ne (by decide) h), fun h => h2 (upd_ne (by decide) h), fun h => h3 (upd_ne (by decide) h), fun h => h4 (upd_ne (by decide) h), fun _ => rfl, fun _ => rfl, fun h => h7 (upd_ne (by decide) h), fun h => h8 (upd_ne (by decide) h), fun h => h9 (upd_ne (by decide) h), fun h => h10 (upd_ne (by decide) h), fun h => h11 (upd_ne (by decide) h), fun h => h12 (upd_ne (by decide) h), fun h => h13 (upd_ne (by decide) h), fun h => h14 (upd_ne (by decide) h), fun h => h15 (upd_ne (by decide) h), fun h => h16 (upd_ne (by decide) h), fun h => h17 (upd_ne (by decide) h), fun h => h18 (upd_ne (by decide) h), fun h => h19 (upd_ne (by decide) h), fun h => m0 (by rw [upd_same (by decide)] at h; exact h), fun h => m1 (upd_ne (by decide) h), fun h h' => cl (upd_ne (by decide) h) (by rw [upd_same (by decide)] at h'; exact h'), fun h => upd_of (ib (upd_ne (by decide) h)), fun h => z5 (by rw [upd_same (by decide)] at h; exact h), fun h => upd_of (a0 (upd_ne (by decide) h)), fx, hB, hS, fun h => upd_of (late19 (upd_ne (by decide) h))⟩
        · rintro f act W ⟨x5, x19, x20, x21, x22, x23, x24, x25, x26, x27, x28, x29, x30, x31, x32, x33, x34, x35, x36, x37, k, v1, rfl, h0, h1, h2, h3, h4, h5, h6, h7, h8, h9, h10, h11, h12, h13, h14, h15, h16, h17, h18, h19, m0, m1, cl, ib, z5, a0, fx, hB, hS, late19⟩ hf hd K_ hK
          have e6 := h6 (dep_of hd (e := ⟨6, .data⟩) (by simp) rfl)
          subst e6
          obtain ⟨y0, y1⟩ := hat W fx
          go_simp
          refine hK _ _ ?_
          exact ⟨x5, x19, x20, x21, x22, x23, x24, _, _, x27, x28, x29, x30, x31, x32, x33, x34, x35, x36, x37, k, v1, rfl, fun h => h0 (upd_ne (by decide) h), fun h => h1 (upd_ne (by decide) h), fun h => h2 (upd_ne (by decide) h), fun h => h3 (upd_ne (by decide) h), fun h => h4 (upd_ne (by decide) h), fun h => h5 (upd_ne (by decide) h), fun _ => rfl, fun _ => rfl, fun h => h8 (upd_ne (by decide) h), fun h => h9 (upd_ne (by decide) h), fun h => h10 (upd_ne (by decide) h), fun h => h11 (upd_ne (by decide) h), fun h => h12 (upd_ne (by decide) h), fun h => h13 (upd_ne (by decide) h), fun h => h14 (upd_ne (by decide) h), fun h => h15 (upd_ne (by decide) h), fun h => h16 (upd_ne (by decide) h), fun h => h17 (upd_ne (by decide) h), fun h => h18 (upd_ne (by decide) h), fun h => h19 (upd_ne (by decide) h), fun h => m0 (by rw [upd_same (by decide)] at h; exact h), fun h => m1 (upd_ne (by decide) h), fun h h' => cl (upd_ne (by decide) h) (by rw [upd_same (by decide)] at h'; exact h'), fun h => upd_of (ib (upd_ne (by decide) h)), fun h => z5 (by rw [upd_same (by decide)] at h; exact h), fun h => upd_of (a0 (upd_ne (by decide) h)), fx, hB, hS, fun h => upd_of (late19 (upd_ne (by decide) h))⟩
        · rintro f act W ⟨x5, x19, x20, x21, x22, x23, x24, x25, x26, x27, x28, x29, x30, x31, x32, x33, x34, x35, x36, x37, k, v1, rfl, h0, h1, h2, h3, h4, h5, h6, h7, h8, h9, h10, h11, h12, h13, h14, h15, h16, h17, h18, h19, m0, m1, cl, ib, z5, a0, fx, hB, hS, late19⟩ hf hd K_ hK
          have e1 := h1 (dep_of hd (e := ⟨1, .data⟩) (by simp) rfl)
          subst e1
          have e7 := h7 (dep_of hd (e := ⟨7, .data⟩) (by simp) rfl)
          subst e7
          go_simp
          refine (sb _).mono ?_
          rintro e W2 ⟨rfl, hw2⟩
          subst hw2
          refine hK _ _ ?_
          exact ⟨x5, x19, _, x21, x22, x23, x24, x25, _, _, x28, x29, x30, x31, x32, x33, x34, x35, x36, x37, k, v1, rfl, fun h => h0 (upd_ne (by decide) h), fun _ => rfl, fun h => h2 (upd_ne (by decide) h), fun h => h3 (upd_ne (by decide) h), fun h => h4 (upd_ne (by decide) h), fun h => h5 (upd_ne (by decide) h), fun h => h6 (upd_ne (by decide) h), fun _ => rfl, fun _ => rfl, fun h => h9 (upd_ne (by decide) h), fun h => h10 (upd_ne (by decide) h), fun h => h11 (upd_ne (by decide) h), fun h => h12 (upd_ne (by decide) h), fun h => h13 (upd_ne (by decide) h), fun h => h14 (upd_ne (by decide) h), fun h => h15 (upd_ne (by decide) h), fun h => h16 (upd_ne (by decide) h), fun h => h17 (upd_ne (by decide) h), fun h => h18 (upd_ne (by decide) h), fun h => h19 (upd_ne (by decide) h), fun h => m0 (by rw [upd_same (by decide)] at h; exact h), fun h => m1 (upd_ne (by decide) h), fun h h' => cl (upd_ne (by decide) h) (by rw [upd_same (by decide)] at h'; exact h'), fun h => upd_of (ib (upd_ne (by decide) h)), fun h => z5 (by rw [upd_same (by decide)] at h; exact h), fun h => upd_of (a0 (upd_ne (by decide) h)), fx, hB, hS, fun h => upd_of (late19 (upd_ne (by decide) h))⟩
        · rintro f act W ⟨x5, x19, x20, x21, x22, x23, x24, x25, x26, x27, x28, x29, x30, x31, x32, x33, x34, x35, x36, x37, k, v1, rfl, h0, h1, h2, h3, h4, h5, h6, h7, h8, h9, h10, h11, h12, h13, h14, h15, h16, h17, h18, h19, m0, m1, cl, ib, z5, a0, fx, hB, hS, late19⟩ hf hd K_ hK
          go_simp
          refine hK _ _ ?_
          exact ⟨x5, x19, x20, x21, x22, x23, x24, x25, x26, x27, _, x29, x30, x31, x32, x33, x34, x35, x36, x37, k, v1, rfl, fun h => h0 (upd_ne (by decide) h), fun h => h1 (upd_ne (by decide) h), fun h => h2 (upd_ne (by decide) h), fun h => h3 (upd_ne (by decide) h), fun h => h4 (upd_ne (by decide) h), fun h => h5 (upd_ne (by decide) h), fun h => h6 (upd_ne (by decide) h), fun h => h7 (upd_ne (by decide) h), fun h => h8 (upd_ne (by decide) h), fun _ => rfl, fun h => h10 (upd_ne (by decide) h), fun h => h11 (upd_ne (by decide) h), fun h => h12 (upd_ne (by decide) h), fun h => h13 (upd_ne (by decide) h), fun h => h14 (upd_ne (by decide) h), fun h => h15 (upd_ne (by decide) h), fun h => h16 (upd_ne (by decide) h), fun h => h17 (upd_ne (by decide) h), fun h => h18 (upd_ne (by decide) h), fun h => h19 (upd_ne (by decide) h), fun h => m0 (by rw [upd_same (by decide)] at h; exact h), fun h => m1 (upd_ne (by decide) h), fun h h' => cl (upd_ne (by decide) h) (by rw [upd_same (by decide)] at h'; exact h'), fun h => upd_of (ib (upd_ne (by decide) h)), fun h => z5 (by rw [upd_same (by decide)] at h; exact h), fun h => upd_of (a0 (upd_ne (by decide) h)), fx, hB, hS, fun h => upd_of (late19 (upd_ne (by decide) h))⟩
        · rintro f act W ⟨x5, x19, x20, x21, x22, x23, x24, x25, x26, x27, x28, x29, x30, x31, x32, x33, x34, x35, x36, x37, k, v1, rfl, h0, h1, h2, h3, h4, h5, h6, h7, h8, h9, h10, h11, h12, h13, h14, h15, h16, h17, h18, h19, m0, m1, cl, ib, z5, a0, fx, hB, hS, late19⟩ hf hd K_ hK
          go_simp
          refine hK _ _ ?_
          exact ⟨x5, x19, x20, x21, x22, x23, x24, x25, x26, x27, x28, _, x30, x31, x32, x33, x34, x35, x36, x37, k, v1, rfl, fun h => h0 (upd_ne (by decide) h), fun h => h1 (upd_ne (by decide) h), fun h => h2 (upd_ne (by decide) h), fun h => h3 (upd_ne (by decide) h), fun h => h4 (upd_ne (by decide) h), fun h => h5 (upd_ne (by decide) h), fun h => h6 (upd_ne (by decide) h), fun h => h7 (upd_ne (by decide) h), fun h => h8 (upd_ne (by decide) h), fun h => h9 (upd_ne (by decide) h), fun _ => rfl, fun h => h11 (upd_ne (by decide) h), fun h => h12 (upd_ne (by decide) h), fun h => h13 (upd_ne (by decide) h), fun h => h14 (upd_ne (by decide) h), fun h => h15 (upd_ne (by decide) h), fun h => h16 (upd_ne (by decide) h), fun h => h17 (upd_ne (by decide) h), fun h => h18 (upd_ne (by decide) h), fun h => h19 (upd_ne (by decide) h), fun h => m0 (by rw [upd_same (by decide)] at h; exact h), fun h => m1 (upd_ne (by decide) h), fun h h' => cl (upd_ne (by decide) h) (by rw [upd_same (by decide)] at h'; exact h'), fun h => upd_of (ib (upd_ne (by decide) h)), fun h => z5 (by rw [upd_same (by decide)] at h; exact h), fun h => upd_of (a0 (upd_ne (by decide) h)), fx, hB, hS, fun h => upd_of (late19 (upd_ne (by decide) h))⟩
        · rintro f act W ⟨x5, x19, x20, x21, x22, x23, x24, x25, x26, x27, x28, x29, x30, x31, x32, x33, x34, x35, x36, x37, k, v1, rfl, h0, h1, h2, h3, h4, h5, h6, h7, h8, h9, h10, h11, h12, h13, h14, h15, h16, h17, h18, h19, m0, m1, cl, ib, z5, a0, fx, hB, hS, late19⟩ hf hd K_ hK
          have e10 := h10 (dep_of hd (e := ⟨10, .data⟩) (by simp) rfl)
          subst e10
          have y0 := (fx.own 0 rfl).cell 0 _ rfl
          go_simp
          refine hK _ _ ?_
          exact ⟨x5, x19, x20, x21, x22, x23, x24, x25, x26, x27, x28, _, _, x31, x32, x33, x34, x35, x36, x37, k, v1, rfl, fun h => h0 (upd_ne (by decide) h), fun h => h1 (upd_ne (by decide) h), fun h => h2 (upd_ne (by decide) h), fun h => h3 (upd_ne (by decide) h), fun h => h4 (upd_ne (by decide) h), fun h => h5 (upd_ne (by decide) h), fun h => h6 (upd_ne (by decide) h), fun h => h7 (upd_ne (by decide) h), fun h => h8 (upd_ne (by decide) h), fun h => h9 (upd_ne (by decide) h), fun _ => rfl, fun _ => rfl, fun h => h12 (upd_ne (by decide) h), fun h => h13 (upd_ne (by decide) h), fun h => h14 (upd_ne (by decide) h), fun h => h15 (upd_ne (by decide) h), fun h => h16 (upd_ne (by decide) h), fun h => h17 (upd_ne (by decide) h), fun h => h18 (upd_ne (by decide) h), fun h => h19 (upd_ne (by decide) h), fun h => m0 (by rw [upd_same (by decide)] at h; exact h), fun h => m1 (upd_ne (by decide) h), fun h h' => cl (upd_ne (by decide) h) (by rw [upd_same (by decide)] at h'; exact h'), fun h => upd_of (ib (upd_ne (by decide) h)), fun h => z5 (by rw [upd_same (by decide)] at h; exact h), fun h => upd_of (a0 (upd_ne (by decide) h)), fx, hB, hS, fun h => upd_of (late19 (upd_ne (by decide) h))⟩
        · rintro f act W ⟨x5, x19, x20, x21, x22, x23, x24, x25, x26, x27, x28, x29, x30, x31, x32, x33, x34, x35, x36, x37, k, v1, rfl, h0, h1, h2, h3, h4, h5, h6, h7, h8, h9, h10, h11, h12, h13, h14, h15, h16, h17, h18, h19, m0, m1, cl, ib, z5, a0, fx, hB, hS, late19⟩ hf hd K_ hK
          go_simp
          refine hK _ _ ?_
          exact ⟨x5, x19, x20, x21, x22, x23, x24, x25, x26, x27, x28, x29, x30, _, x32, x33, x34, x35, x36, x37, k, v1, rfl, fun h => h0 (upd_ne (by decide) h), fun h => h1 (upd_ne (by decide) h), fun h => h2 (upd_ne (by decide) h), fun h => h3 (upd_ne (by decide) h), fun h => h4 (upd_ne (by decide) h), fun h => h5 (upd_ne (by decide) h), fun h => h6 (upd_ne (by decide) h), fun h => h7 (upd_ne (by decide) h), fun h => h8 (upd_ne (by decide) h), fun h => h9 (upd_ne (by decide) h), fun h => h10 (upd_ne (by decide) h), fun h => h11 (upd_ne (by decide) h), fun _ => rfl, fun h => h13 (upd_ne (by decide) h), fun h => h14 (upd_ne (by decide) h), fun h => h15 (upd_ne (by decide) h), fun h => h16 (upd_ne (by decide) h), fun h => h17 (upd_ne (by decide) h), fun h => h18 (upd_ne (by decide) h), fun h => h19 (upd_ne (by decide) h), fun h => m0 (by rw [upd_same (by decide)] at h; exact h), fun h => m1 (upd_ne (by decide) h), fun h h' => cl (upd_ne (by decide) h) (by rw [upd_same (by decide)] at h'; exact h'), fun h => upd_of (ib (upd_ne (by decide) h)), fun h => z5 (by rw [upd_same (by decide)] at h; exact h), fun h => upd_of (a0 (upd_ne (by decide) h)), fx, hB, hS, fun h => upd_of (late19 (upd_ne (by decide) h))⟩
        · rintro f act W ⟨x5, x19, x20, x21, x22, x23, x24, x25, x26, x27, x28, x29, x30, x31, x32, x33, x34, x35, x36, x37, k, v1, rfl, h0, h1, h2, h3, h4, h5, h6, h7, h8, h9, h10, h11, h12, h13, h14, h15, h16, h17, h18, h19, m0, m1, cl, ib, z5, a0, fx, hB, hS, late19⟩ hf hd K_ hK
          have e11 := h11 (dep_of hd (e := ⟨11, .data⟩) (by simp) rfl)
          subst e11
          have e12 := h12 (dep_of hd (e := ⟨12, .data⟩) (by simp) rfl)
          subst e12
          go_simp
          refine hK _ _ ?_
          exact ⟨x5, x19, x20, x21, x22, x23, x24, x25, x26, x27, x28, x29, _, _, _, x33, x34, x35, x36, x37, k, v1, rfl, fun h => h0 (upd_ne (by decide) h), fun h => h1 (upd_ne (by decide) h), fun h => h2 (upd_ne (by decide) h), fun h => h3 (upd_ne (by decide) h), fun h => h4 (upd_ne (by decide) h), fun h => h5 (upd_ne (by decide) h), fun h => h6 (upd_ne (by decide) h), fun h => h7 (upd_ne (by decide) h), fun h => h8 (upd_ne (by decide) h), fun h => h9 (upd_ne (by decide) h), fun h => h10 (upd_ne (by decide) h), fun _ => rfl, fun _ => rfl, fun _ => rfl, fun h => h14 (upd_ne (by decide) h), fun h => h15 (upd_ne (by decide) h), fun h => h16 (upd_ne (by decide) h), fun h => h17 (upd_ne (by decide) h), fun h => h18 (upd_ne (by decide) h), fun h => h19 (upd_ne (by decide) h), fun h => m0 (by rw [upd_same (by decide)] at h; exact h), fun h => m1 (upd_ne (by decide) h), fun h h' => cl (upd_ne (by decide) h) (by rw [upd_same (by decide)] at h'; exact h'), fun h => upd_of (ib (upd_ne (by decide) h)), fun h => z5 (by rw [upd_same (by decide)] at h; exact h), fun h => upd_of (a0 (upd_ne (by decide) h)), fx, hB, hS, fun h => upd_of (late19 (upd_ne (by decide) h))⟩
        · rintro f act W ⟨x5, x19, x20, x21, x22, x23, x24, x25, x26, x27, x28, x29, x30, x31, x32, x33, x34, x35, x36, x37, k, v1, rfl, h0, h1, h2, h3, h4, h5, h6, h7, h8, h9, h10, h11, h12, h13, h14, h15, h16, h17, h18, h19, m0, m1, cl, ib, z5, a0, fx, hB, hS, late19⟩ hf hd K_ hK
          have e13 := h13 (dep_of hd (e := ⟨13, .data⟩) (by simp) rfl)
          subst e13
          go_simp
          refine hK _ _ ?_
          exact ⟨x5, x19, x20, x21, x22, x23, x24, x25, x26, x27, x28, x29, x30, x31, _, _, x34, x35, x36, x37, k, v1, rfl, fun h => h0 (upd_ne (by decide) h), fun h => h1 (upd_ne (by decide) h), fun h => h2 (upd_ne (by decide) h), fun h => h3 (upd_ne (by decide) h), fun h => h4 (upd_ne (by decide) h), fun h => h5 (upd_ne (by decide) h), fun h => h6 (upd_ne (by decide) h), fun h => h7 (upd_ne (by decide) h), fun h => h8 (upd_ne (by decide) h), fun h => h9 (upd_ne (by decide) h), fun h => h10 (upd_ne (by decide) h), fun h => h11 (upd_ne (by decide) h), fun h => h12 (upd_ne (by decide) h), fun _ => rfl, fun _ => rfl, fun h => h15 (upd_ne (by decide) h), fun h => h16 (upd_ne (by decide) h), fun h => h17 (upd_ne (by decide) h), fun h => h18 (upd_ne (by decide) h), fun h => h19 (upd_ne (by decide) h), fun h => m0 (by rw [upd_same (by decide)] at h; exact h), fun h => m1 (upd_ne (by decide) h), fun h h' => cl (upd_ne (by decide) h) (by rw [upd_same (by decide)] at h'; exact h'), fun h => upd_of (ib (upd_ne (by decide) h)), fun h => z5 (by rw [upd_same (by decide)] at h; exact h), fun h => upd_of (a0 (upd_ne (by decide) h)), fx, hB, hS, fun h => upd_of (late19 (upd_ne (by decide) h))⟩
        · rintro f act W ⟨x5, x19, x20, x21, x22, x23, x24, x25, x26, x27, x28, x29, x30, x31, x32, x33, x34, x35, x36, x37, k, v1, rfl, h0, h1, h2, h3, h4, h5, h6, h7, h8, h9, h10, h11, h12, h13, h14, h15, h16, h17, h18, h19, m0, m1, cl, ib, z5, a0, fx, hB, hS, late19⟩ hf hd K_ hK
          have e14 := h14 (dep_of hd (e := ⟨14, .data⟩) (by simp) rfl)
          subst e14
          obtain ⟨y0, y1⟩ := hat W fx
          go_simp
          refine hK _ _ ?_
          exact ⟨x5, x19, x20, x21, x22, x23, x24, x25, x26, x27, x28, x29, x30, x31, x32, _, _, x35, x36, x37, k, v1, rfl, fun h => h0 (upd_ne (by decide) h), fun h => h1 (upd_ne (by decide) h), fun h => h2 (upd_ne (by decide) h), fun h => h3 (upd_ne (by decide) h), fun h => h4 (upd_ne (by decide) h), fun h => h5 (upd_ne (by decide) h), fun h => h6 (upd_ne (by decide) h), fun h => h7 (upd_ne (by decide) h), fun h => h8 (upd_ne (by decide) h), fun h => h9 (upd_ne (by decide) h), fun h => h10 (upd_ne (by decide) h), fun h => h11 (upd_ne (by decide) h), fun h => h12 (upd_ne (by decide) h), fun h => h13 (upd_ne (by decide) h), fun _ => rfl, fun _ => rfl, fun h => h16 (upd_ne (by decide) h), fun h => h17 (upd_ne (by decide) h), fun h => h18 (upd_ne (by decide) h), fun h => h19 (upd_ne (by decide) h), fun h => m0 (by rw [upd_same (by decide)] at h; exact h), fun h => m1 (upd_ne (by decide) h), fun h h' => cl (upd_ne (by decide) h) (by rw [upd_same (by decide)] at h'; exact h'), fun h => upd_of (ib (upd_ne (by decide) h)), fun h => z5 (by rw [upd_same (by decide)] at h; exact h), fun h => upd_of (a0 (upd_ne (by decide) h)), fx, hB, hS, fun h => upd_of (late19 (upd_ne (by decide) h))⟩
        · rintro f act W ⟨x5, x19, x20, x21, x22, x23, x24, x25, x26, x27, x28, x29, x30, x31, x32, x33, x34, x35, x36, x37, k, v1, rfl, h0, h1, h2, h3, h4, h5, h6, h7, h8, h9, h10, h11, h12, h13, h14, h15, h16, h17, h18, h19, m0, m1, cl, ib, z5, a0, fx, hB, hS, late19⟩ hf hd K_ hK
          have e9 := h9 (dep_of hd (e := ⟨9, .data⟩) (by simp) rfl)
          subst e9
          have e15 := h15 (dep_of hd (e := ⟨15, .data⟩) (by simp) rfl)
          subst e15
          go_simp
          refine (sb2 _).mono ?_
          rintro e W2 ⟨rfl, hw2⟩
          subst hw2
          refine hK _ _ ?_
          exact ⟨x5, x19, x20, x21, x22, x23, x24, x25, x26, x27, _, x29, x30, x31, x32, x33, _, _, x36, x37, k, v1, rfl, fun h => h0 (upd_ne (by decide) h), fun h => h1 (upd_ne (by decide) h), fun h => h2 (upd_ne (by decide) h), fun h => h3 (upd_ne (by decide) h), fun h => h4 (upd_ne (by decide) h), fun h => h5 (upd_ne (by decide) h), fun h => h6 (upd_ne (by decide) h), fun h => h7 (upd_ne (by decide) h), fun h => h8 (upd_ne (by decide) h), fun _ => rfl, fun h => h10 (upd_ne (by decide) h), fun h => h11 (upd_ne (by decide) h), fun h => h12 (upd_ne (by decide) h), fun h => h13 (upd_ne (by decide) h), fun h => h14 (upd_ne (by decide) h), fun _ => rfl, fun _ => rfl, fun h => h17 (upd_ne (by decide) h), fun h => h18 (upd_ne (by decide) h), fun h => h19 (upd_ne (by decide) h), fun h => m0 (by rw [upd_same (by decide)] at h; exact h), fun h => m1 (upd_ne (by decide) h), fun h h' => cl (upd_ne (by decide) h) (by rw [upd_same (by decide)] at h'; exact h'), fun h => upd_of (ib (upd_ne (by decide) h)), fun h => z5 (by rw [upd_same (by decide)] at h; exact h), fun h => upd_of (a0 (upd_ne (by decide) h)), fx, hB, hS, fun h => upd_of (late19 (upd_ne (by decide) h))⟩
        · rintro f act W ⟨x5, x19, x20, x21, x22, x23, x24, x25, x26, x27, x28, x29, x30, x31, x32, x33, x34, x35, x36, x37, k, v1, rfl, h0, h1, h2, h3, h4, h5, h6, h7, h8, h9, h10, h11, h12, h13, h14, h15, h16, h17, h18, h19, m0, m1, cl, ib, z5, a0, fx, hB, hS, late19⟩ hf hd K_ hK
          have e8 := h8 (dep_of hd (e := ⟨8, .data⟩) (by simp) rfl)
          subst e8
          have e16 := h16 (dep_of hd (e := ⟨16, .data⟩) (by simp) rfl)
          subst e16
          have f6 : f 18 = false := by cases h : f 18; rfl; exact absurd (ib h) (by rw [hf]; decide)
          have R0 := m0 f6
          go_simp
          refine hK _ _ ?_
          exact ⟨x5, x19, x20, x21, x22, x23, x24, x25, x26, _, x28, x29, x30, x31, x32, x33, x34, _, _, x37, W.heap.size, v1, rfl, fun h => h0 (upd_ne (by decide) h), fun h => h1 (upd_ne (by decide) h), fun h => h2 (upd_ne (by decide) h), fun h => h3 (upd_ne (by decide) h), fun h => h4 (upd_ne (by decide) h), fun h => h5 (upd_ne (by decide) h), fun h => h6 (upd_ne (by decide) h), fun h => h7 (upd_ne (by decide) h), fun _ => rfl, fun h => h9 (upd_ne (by decide) h), fun h => h10 (upd_ne (by decide) h), fun h => h11 (upd_ne (by decide) h), fun h => h12 (upd_ne (by decide) h), fun h => h13 (upd_ne (by decide) h), fun h => h14 (upd_ne (by decide) h), fun h => h15 (upd_ne (by decide) h), fun _ => rfl, fun _ => rfl, fun h => absurd (ib (upd_ne (by decide) h)) (by rw [hf]; decide), fun h => h19 (upd_ne (by decide) h), fun _ => ownsRow_below R0 ((Below.refl _ W).alloc (Nat.le_refl _) _), fun h => absurd (ib (upd_ne (by decide) h)) (by rw [hf]; decide), fun _ _ => cell_two_new W _ _ _, fun _ => upd_self, fun h => z5 (by rw [upd_same (by decide)] at h; exact h), fun h => upd_of (a0 (upd_ne (by decide) h)), fx.alloc _, hB.alloc hB.size _, (by simp; omega), fun h => upd_of (late19 (upd_ne (by decide) h))⟩
        · rintro f act W ⟨x5, x19, x20, x21, x22, x23, x24, x25, x26, x27, x28, x29, x30, x31, x32, x33, x34, x35, x36, x37, k, v1, rfl, h0, h1, h2, h3, h4, h5, h6, h7, h8, h9, h10, h11, h12, h13, h14, h15, h16, h17, h18, h19, m0, m1, cl, ib, z5, a0, fx, hB, hS, late19⟩ hf hd K_ hK
          have e0 := (h0 (dep_of hd (e := ⟨0, .data⟩) (by simp) rfl)).symm
          subst e0
          have e17 := h17 (dep_of hd (e := ⟨17, .data⟩) (by simp) rfl)
          subst e17
          have d5 := dep_of hd (e := ⟨17, .data⟩) (by simp) rfl
          have R0 := m0 hf
          refine oper_append_own (.tmp 19) (.tmp 36) 28 rfl (w.heap.size + 1) 38 i0 (.int .u64 0) 1 8 Tryd.underlying28 hi hz0 hz1 hz2 rfl (by decide) v _ _ rfl R0 ⟨k, 0, none⟩ 2 2 [_, _] rfl rfl (cl d5 hf) (fun u hu => by simp at hu; rcases hu with rfl | rfl <;> rfl) (by unfold maxLen; omega) (by omega) hS ?_
          intro v2 W2 r1 r2
          obtain ⟨cc, hcc, hkk⟩ := Keep.of_grown r2 R0 hS
          refine hK _ _ ?_
          exact ⟨x5, _, x20, x21, x22, x23, x24, x25, x26, x27, x28, x29, x30, x31, x32, x33, x34, x35, _, _, k, v2, rfl, fun _ => rfl, fun h => h1 (upd_ne (by decide) h), fun h => h2 (upd_ne (by decide) h), fun h => h3 (upd_ne (by decide) h), fun h => h4 (upd_ne (by decide) h), fun h => h5 (upd_ne (by decide) h), fun h => h6 (upd_ne (by decide) h), fun h => h7 (upd_ne (by decide) h), fun h => h8 (upd_ne (by decide) h), fun h => h9 (upd_ne (by decide) h), fun h => h10 (upd_ne (by decide) h), fun h => h11 (upd_ne (by decide) h), fun h => h12 (upd_ne (by decide) h), fun h => h13 (upd_ne (by decide) h), fun h => h14 (upd_ne (by decide) h), fun h => h15 (upd_ne (by decide) h), fun h => h16 (upd_ne (by decide) h), fun _ => rfl, fun _ => rfl, fun h => absurd (late19 (upd_ne (by decide) h)) (by rw [hf]; decide), fun h => (by rw [upd_self] at h; cases h), fun _ => ⟨r1, grown_form2 r1⟩, fun _ h' => (by rw [upd_self] at h'; cases h'), fun _ => upd_of d5, fun h => z5 (by rw [upd_same (by decide)] at h; exact h), fun _ => upd_of (dep_of hd (e := ⟨0, .data⟩) (by simp) rfl), fx.keepB hkk (fun f hf' => hfr f hf' cc hcc), hB.trans (hkk.below (Nat.le_trans (show w.heap.size ≤ w.heap.size + 1 by omega) hcc) hB.size), Nat.le_trans hS hkk.size, fun _ => upd_self⟩
        · rintro f act W ⟨x5, x19, x20, x21, x22, x23, x24, x25, x26, x27, x28, x29, x30, x31, x32, x33, x34, x35, x36, x37, k, v1, rfl, h0, h1, h2, h3, h4, h5, h6, h7, h8, h9, h10, h11, h12, h13, h14, h15, h16, h17, h18, h19, m0, m1, cl, ib, z5, a0, fx, hB, hS, late19⟩ hf hd K_ hK
          have e18 := (h18 (dep_of hd (e := ⟨18, .data⟩) (by simp) rfl)).symm
          subst e18
          go_simp
          refine hK _ _ ?_
          exact ⟨_, x19, x20, x21, x22, x23, x24, x25, x26, x27, x28, x29, x30, x31, x32, x33, x34, x35, x36, _, k, v1, rfl, fun h => h0 (upd_ne (by decide) h), fun h => h1 (upd_ne (by decide) h), fun h => h2 (upd_ne (by decide) h), fun h => h3 (upd_ne (by decide) h), fun h => h4 (upd_ne (by decide) h), fun h => h5 (upd_ne (by decide) h), fun h => h6 (upd_ne (by decide) h), fun h => h7 (upd_ne (by decide) h), fun h => h8 (upd_ne (by decide) h), fun h => h9 (upd_ne (by decide) h), fun h => h10 (upd_ne (by decide) h), fun h => h11 (upd_ne (by decide) h), fun h => h12 (upd_ne (by decide) h), fun h => h13 (upd_ne (by decide) h), fun h => h14 (upd_ne (by decide) h), fun h => h15 (upd_ne (by decide) h), fun h => h16 (upd_ne (by decide) h), fun h => h17 (upd_ne (by decide) h), fun _ => rfl, fun _ => rfl, fun h => m0 (by rw [upd_same (by decide)] at h; exact h), fun h => m1 (upd_ne (by decide) h), fun h h' => cl (upd_ne (by decide) h) (by rw [upd_same (by decide)] at h'; exact h'), fun h => upd_of (ib (upd_ne (by decide) h)), fun h => (by rw [upd_self] at h; cases h), fun h => upd_of (a0 (upd_ne (by decide) h)), fx, hB, hS, fun _ => upd_of (dep_of hd (e := ⟨18, .data⟩) (by simp) rfl)⟩
        rintro f act WZ ⟨x5, x19, x20, x21, x22, x23, x24, x25, x26, x27, x28, x29, x30, x31, x32, x33, x34, x35, x36, x37, k, v1, rfl, h0, h1, h2, h3, h4, h5, h6, h7, h8, h9, h10, h11, h12, h13, h14, h15, h16, h17, h18, h19, m0, m1, cl, ib, z5, a0, fx, hB, hS, late19⟩ hall
        have e0 := (h0 (hall 0 (by decide))).symm
        subst e0
        have e1 := h1 (hall 1 (by decide))
        subst e1
        have e2 := h2 (hall 2 (by decide))
        subst e2
        have e3 := h3 (hall 3 (by decide))
        subst e3
        have e4 := h4 (hall 4 (by decide))
        subst e4
        have e5 := h5 (hall 5 (by decide))
        subst e5
        have e6 := h6 (hall 6 (by decide))
        subst e6
        have e7 := h7 (hall 7 (by decide))
        subst e7
        have e8 := h8 (hall 8 (by decide))
        subst e8
        have e9 := h9 (hall 9 (by decide))
        subst e9
        have e10 := h10 (hall 10 (by decide))
        subst e10
        have e11 := h11 (hall 11 (by decide))
        subst e11
        have e12 := h12 (hall 12 (by decide))
        subst e12
        have e13 := h13 (hall 13 (by decide))
        subst e13
        have e14 := h14 (hall 14 (by decide))
        subst e14
        have e15 := h15 (hall 15 (by decide))
        subst e15
        have e16 := h16 (hall 16 (by decide))
        subst e16
        have e17 := h17 (hall 17 (by decide))
        subst e17
        obtain ⟨R1, g, c, ev⟩ := m1 (hall 18 (by decide))
        have e18 := h18 (hall 18 (by decide))
        subst e18
        have e19 := h19 (hall 19 (by decide))
        subst e19
        try dsimp only
        rw [ev] at R1 ⊢
        go_wp2
        go_roundg (len - (i + 1))
        case measure => omega
        case rel => exact ⟨i + 1, _, by omega, rfl, by go_num, ⟨fx, by rw [hnx.out, uvals_snoc, List.length_append]; exact R1, hB, hS⟩⟩
      · have hil : ¬ (i : Int) < len := by omega
        have ht : ps.take i = ps := List.take_of_length_le (by omega)
        rw [ht] at S
        obtain ⟨SF, SR, SB, SS⟩ := S.out
        obtain ⟨a3, cap3, o3, hv, hc3, hh, ho3⟩ := ownsRow_hasU SR
        have HZ : Hid (wr.ownsRow (w.heap.size + 1) 38 1 (.slice a3 (bitsL n ps).length cap3) (bitsL n ps).length (uvals (bitsL n ps))) := by have h := SR; rw [hv] at h; exact h
        clear S SF SR hc3 hh ht
        rw [hv]
        obtain ⟨L, hL⟩ : ∃ L, (bitsL n ps).length = L := ⟨_, rfl⟩
        rw [hL]
        have HL : Hid ((bitsL n ps).length = L) := hL
        clear hL hv
        go_wp2
        go_ret
        exact ⟨.slice a3 (bitsL n ps).length cap3, (by have hq := HL.out; subst hq; rfl), HZ.out, SB, SS⟩

theorem specBoxBits (w : World) (n : Int) (a : Option Addr) (ps : List (Int × Int)) (cap : Nat) (h : PairsAt w a ps) (hl : ps.length ≤ cap) (hm : ps.length ≤ 1048576) :
    Calls Tryd.prog 25 #[.int .i64 n, .agg #[.slice a ps.length cap]] w (UOut w (bboxL n ps)) := by
  refine (specBoxBitsR w n a ps cap h hl hm).mono ?_
  rintro e w' ⟨v, rfl, hr, q, hs⟩
  obtain ⟨a3, cap3, o3, rfl, hc3, hh, ho3⟩ := ownsRow_hasU hr
  exact ⟨a3, cap3, o3, rfl, hc3, hh, fun G hG => by have := ho3 G hG; omega, q⟩

end Go.Proofs.YteohgmmenlinbacDoor
