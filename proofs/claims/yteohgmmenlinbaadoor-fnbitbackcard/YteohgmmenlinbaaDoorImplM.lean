/- The program's BitMake: its contract. -/
import Derived.Test.YteohgmmenlinbaaDoorMakeP
import Derived.Test.YteohgmmenlinbaaDoorImplP
import Derived.Test.YteohgmmenlinbaaDoorLen64
import Derived.Test.YteohgmmenlinbaaDoorTZ
namespace Go.Proofs.YteohgmmenlinbaaDoor
open Go.ChangeShapes Go.WideShapes Go.ChangeAt Go.RowKit
set_option linter.unusedVariables false

theorem TabAt.below {w w' : World} {g : Nat} {tab : List Nat} (h : TabAt g tab w) (q : Below w.heap.size w w') (hg : g < w.heap.size) : TabAt g tab w' := fun j hj => (q.cell (p := ⟨g, j, none⟩) hg).trans (h j hj)

theorem great32 (w : World) : Calls Tryd.prog 30 #[.iface 57 (.agg #[])] w fun e w' => e = .returned (.int .i64 255) ∧ Below w.heap.size w w' := by
  have m1 := meth_ne
  go_enter Tryd.func30, Tryd.ntmps30
  go_wp2
  go_ret
  exact ⟨rfl, (Below.refl _ _).alloc (Nat.le_refl _) _⟩
theorem great64 (w : World) : Calls Tryd.prog 30 #[.iface 58 (.agg #[])] w fun e w' => e = .returned (.int .i64 2047) ∧ Below w.heap.size w w' := by
  have m1 := meth_we
  go_enter Tryd.func30, Tryd.ntmps30
  go_wp2
  go_ret
  exact ⟨rfl, (Below.refl _ _).alloc (Nat.le_refl _) _⟩

/-- What sizeMade answers. -/
def SMade (w : World) (F : Nat) (L : Int) (inf : Nat) (s0 : Nat) (p0 : Int) (e : Ending) (w' : World) : Prop :=
  ∃ o k, e = .returned (.tuple #[.int .i64 o, .bool k]) ∧ Below w.heap.size w w' ∧ MakeAns F L inf false s0 p0 o k

set_option maxRecDepth 100000 in
set_option maxHeartbeats 4000000 in
theorem sizeMade32 (w : World) (s0 : Nat) (p0 : Int) (h1 : 0 < s0) (h2 : s0 < 18446744073709551616) (h3 : -2000 ≤ p0) (h4 : p0 ≤ 2000) (hT : TabAt 0 Lib.deBruijn64tab w) :
    Calls Tryd.prog 29 #[.iface 57 (.agg #[]), .int .u64 s0, .int .i64 p0] w (SMade w 23 (-149) 2139095040 s0 p0) := by
  have tz := tz64 w s0 h1 h2 hT
  have M : Hid (Mk s0 p0 _ _ _) := mk_of p0 h1 h2
  generalize Lib.ctz 64 s0 = z at *
  have hz := M.out.z64
  have hn0 := M.out.n0
  have hn64 := M.out.n64
  have e1 : (s0 : Int) / 2 ^ z = ((s0 / 2 ^ z : Nat) : Int) := by
    push_cast
    rfl
  have hs64 : s0 / 2 ^ z < 18446744073709551616 := Nat.lt_of_le_of_lt (Nat.div_le_self _ _) h2
  have ln := fun W => len64 W ((s0 / 2 ^ z : Nat) : Int) (Int.natCast_nonneg _) (by generalize s0 / 2 ^ z = s at hs64 ⊢; omega)
  have e2 : halvI ((s0 / 2 ^ z : Nat) : Int) = (Lib.bitLen (s0 / 2 ^ z) : Nat) := rfl
  simp only [e2] at ln
  generalize Lib.bitLen (s0 / 2 ^ z) = n at *
  generalize s0 / 2 ^ z = s at *
  clear e2 hT
  have m2 := meth_nf
  have lp := least32
  have ge := great32
  obtain ⟨p, hp⟩ : ∃ p, p0 + (z : Int) = p := ⟨_, rfl⟩
  have hq1 : -2000 ≤ p := by omega
  have hq2 : p ≤ 2063 := by omega
  have HP : Hid (p0 + (z : Int) = p) := hp
  have hb := Below.refl w.heap.size w
  go_enter Tryd.func29, Tryd.ntmps29
  go_wp2_with first
    | (go_at_call 32; refine tz.mono ?_; clear tz; rintro e w1 ⟨rfl, hw1⟩; subst hw1)
    | (go_at_call 33; refine (ln _).mono ?_; clear ln; rintro e w2 ⟨rfl, hw2⟩; subst hw2)
    | (go_at_call 50; refine (cnf _).mono ?_; rintro e w3 ⟨rfl, q3⟩; replace hb := hb.trans (q3.mono hb.size); clear q3)
    | (go_at_call 27; refine (lp _).mono ?_; clear lp; rintro e w4 ⟨rfl, q4⟩; replace hb := hb.trans (q4.mono hb.size); clear q4)
    | (go_at_call 30; refine (ge _).mono ?_; clear ge; rintro e w5 ⟨rfl, q5⟩; replace hb := hb.trans (q5.mono hb.size); clear q5)
  · go_ret2
    exact ⟨0, false, rfl, hb, make_none M.out (by omega) h3 (by have := HP.out; omega)⟩
  · go_ret2
    obtain ⟨sh, hsh⟩ : ∃ sh : Nat, (sh : Int) = min (24 - (n : Int)) (p + 149) := ⟨(min (24 - (n : Int)) (p + 149)).toNat, by omega⟩
    exact ⟨0, false, rfl, hb, make_over (G := 255) (sh := sh) M.out (by omega) h3 (by omega) (by omega) (by have := HP.out; omega) (by have := HP.out; omega) (by omega) (by decide) (by have := HP.out; omega)⟩
  · obtain ⟨sh, hsh⟩ : ∃ sh : Nat, min (24 - (n : Int)) (p + 149) = (sh : Int) := ⟨(min (24 - (n : Int)) (p + 149)).toNat, by omega⟩
    have hsh2 : (sh : Int) ≤ 24 := by omega
    obtain ⟨f1, f2, f3⟩ := make_fits (F := 23) (L := -149) (sh := sh) M.out (by omega) (by have := HP.out; omega) (by have := HP.out; omega)
    obtain ⟨ab, hab⟩ : ∃ ab : Nat, p + 149 - (sh : Int) = (ab : Int) := ⟨(p + 149 - (sh : Int)).toNat, by omega⟩
    have hab2 : (ab : Int) < 254 := by omega
    have hX : MakeAns 23 (-149) 2139095040 false s0 p0 (((ab * 8388608 + s * 2 ^ sh : Nat)) : Int) true := by
      refine make_fit (G := 255) (sh := sh) M.out (by omega) h3 (by omega) (by omega) (by have := HP.out; omega) (by have := HP.out; omega) (by omega) (by decide) (by have := HP.out; omega) ?_
      have e : (p0 + (z : Int) - -149 - (sh : Int)).toNat = ab := by have := HP.out; omega
      rw [e]
      rfl
    have HX : Hid (MakeAns 23 (-149) 2139095040 false s0 p0 (((ab * 8388608 + s * 2 ^ sh : Nat)) : Int) true) := hX
    clear hX f2 f3
    have f1' : s * 2 ^ sh < 16777216 := f1
    obtain ⟨t, ht⟩ : ∃ t, s * 2 ^ sh = t := ⟨_, rfl⟩
    rw [ht] at f1' HX
    rw [hsh, hab]
    have htI : (s : Int) * 2 ^ sh = (t : Int) := by rw [← ht]; push_cast; rfl
    refine region_below (by kernel_rfl) (by kernel_rfl) ?_
    repeat (first
      | go_big_quiet_step (first
        | (intro _; rfl)
        | (intro hC; go_at_call 50; exact Calls.qb hC (cnf _)))
      | (go_big_quiet_want
         go_big_quiet_op
         refine ⟨.int .i64 ((ab : Int) * 8388608), ?_, ?_⟩
         · intro W hC
           go_simp
         go_big_quiet_on)
      | (go_big_quiet_want
         go_big_quiet_op
         refine ⟨.int .u64 (t : Int), ?_, ?_⟩
         · intro W hC
           go_simp
         go_big_quiet_on)
      | (go_big_quiet_want
         go_big_quiet_op
         refine ⟨.int .i64 (t : Int), ?_, ?_⟩
         · intro W hC
           go_simp
         go_big_quiet_on)
      | (go_big_quiet_want
         go_big_quiet_op
         refine ⟨.int .i64 ((ab : Int) * 8388608 + (t : Int)), ?_, ?_⟩
         · intro W hC
           go_simp
         go_big_quiet_on))
    refine wpQuiet_nil ?_
    intro W q
    go_wp2
    go_ret2
    refine ⟨_, true, rfl, hb.trans (q.mono hb.size), ?_⟩
    have e9 : ((ab * 8388608 + t : Nat) : Int) = (ab : Int) * 8388608 + (t : Int) := by omega
    rw [← e9]
    exact HX.out
  · go_ret2
    exact ⟨0, false, rfl, hb, make_none M.out (by omega) h3 (by have := HP.out; omega)⟩

set_option maxRecDepth 100000 in
set_option maxHeartbeats 4000000 in
theorem sizeMade64 (w : World) (s0 : Nat) (p0 : Int) (h1 : 0 < s0) (h2 : s0 < 18446744073709551616) (h3 : -2000 ≤ p0) (h4 : p0 ≤ 2000) (hT : TabAt 0 Lib.deBruijn64tab w) :
    Calls Tryd.prog 29 #[.iface 58 (.agg #[]), .int .u64 s0, .int .i64 p0] w (SMade w 52 (-1074) 9218868437227405312 s0 p0) := by
  have tz := tz64 w s0 h1 h2 hT
  have M : Hid (Mk s0 p0 _ _ _) := mk_of p0 h1 h2
  generalize Lib.ctz 64 s0 = z at *
  have hz := M.out.z64
  have hn0 := M.out.n0
  have hn64 := M.out.n64
  have e1 : (s0 : Int) / 2 ^ z = ((s0 / 2 ^ z : Nat) : Int) := by
    push_cast
    rfl
  have hs64 : s0 / 2 ^ z < 18446744073709551616 := Nat.lt_of_le_of_lt (Nat.div_le_self _ _) h2
  have ln := fun W => len64 W ((s0 / 2 ^ z : Nat) : Int) (Int.natCast_nonneg _) (by generalize s0 / 2 ^ z = s at hs64 ⊢; omega)
  have e2 : halvI ((s0 / 2 ^ z : Nat) : Int) = (Lib.bitLen (s0 / 2 ^ z) : Nat) := rfl
  simp only [e2] at ln
  generalize Lib.bitLen (s0 / 2 ^ z) = n at *
  generalize s0 / 2 ^ z = s at *
  clear e2 hT
  have m2 := meth_wf
  have lp := least64
  have ge := great64
  obtain ⟨p, hp⟩ : ∃ p, p0 + (z : Int) = p := ⟨_, rfl⟩
  have hq1 : -2000 ≤ p := by omega
  have hq2 : p ≤ 2063 := by omega
  have HP : Hid (p0 + (z : Int) = p) := hp
  have hb := Below.refl w.heap.size w
  go_enter Tryd.func29, Tryd.ntmps29
  go_wp2_with first
    | (go_at_call 32; refine tz.mono ?_; clear tz; rintro e w1 ⟨rfl, hw1⟩; subst hw1)
    | (go_at_call 33; refine (ln _).mono ?_; clear ln; rintro e w2 ⟨rfl, hw2⟩; subst hw2)
    | (go_at_call 53; refine (cwf _).mono ?_; rintro e w3 ⟨rfl, q3⟩; replace hb := hb.trans (q3.mono hb.size); clear q3)
    | (go_at_call 27; refine (lp _).mono ?_; clear lp; rintro e w4 ⟨rfl, q4⟩; replace hb := hb.trans (q4.mono hb.size); clear q4)
    | (go_at_call 30; refine (ge _).mono ?_; clear ge; rintro e w5 ⟨rfl, q5⟩; replace hb := hb.trans (q5.mono hb.size); clear q5)
  · go_ret2
    exact ⟨0, false, rfl, hb, make_none M.out (by omega) h3 (by have := HP.out; omega)⟩
  · go_ret2
    obtain ⟨sh, hsh⟩ : ∃ sh : Nat, (sh : Int) = min (53 - (n : Int)) (p + 1074) := ⟨(min (53 - (n : Int)) (p + 1074)).toNat, by omega⟩
    exact ⟨0, false, rfl, hb, make_over (G := 2047) (sh := sh) M.out (by omega) h3 (by omega) (by omega) (by have := HP.out; omega) (by have := HP.out; omega) (by omega) (by decide) (by have := HP.out; omega)⟩
  · obtain ⟨sh, hsh⟩ : ∃ sh : Nat, min (53 - (n : Int)) (p + 1074) = (sh : Int) := ⟨(min (53 - (n : Int)) (p + 1074)).toNat, by omega⟩
    have hsh2 : (sh : Int) ≤ 53 := by omega
    obtain ⟨f1, f2, f3⟩ := make_fits (F := 52) (L := -1074) (sh := sh) M.out (by omega) (by have := HP.out; omega) (by have := HP.out; omega)
    obtain ⟨ab, hab⟩ : ∃ ab : Nat, p + 1074 - (sh : Int) = (ab : Int) := ⟨(p + 1074 - (sh : Int)).toNat, by omega⟩
    have hab2 : (ab : Int) < 2046 := by omega
    have hX : MakeAns 52 (-1074) 9218868437227405312 false s0 p0 (((ab * 4503599627370496 + s * 2 ^ sh : Nat)) : Int) true := by
      refine make_fit (G := 2047) (sh := sh) M.out (by omega) h3 (by omega) (by omega) (by have := HP.out; omega) (by have := HP.out; omega) (by omega) (by decide) (by have := HP.out; omega) ?_
      have e : (p0 + (z : Int) - -1074 - (sh : Int)).toNat = ab := by have := HP.out; omega
      rw [e]
      rfl
    have HX : Hid (MakeAns 52 (-1074) 9218868437227405312 false s0 p0 (((ab * 4503599627370496 + s * 2 ^ sh : Nat)) : Int) true) := hX
    clear hX f2 f3
    have f1' : s * 2 ^ sh < 9007199254740992 := f1
    obtain ⟨t, ht⟩ : ∃ t, s * 2 ^ sh = t := ⟨_, rfl⟩
    rw [ht] at f1' HX
    rw [hsh, hab]
    have htI : (s : Int) * 2 ^ sh = (t : Int) := by rw [← ht]; push_cast; rfl
    refine region_below (by kernel_rfl) (by kernel_rfl) ?_
    repeat (first
      | go_big_quiet_step (first
        | (intro _; rfl)
        | (intro hC; go_at_call 53; exact Calls.qb hC (cwf _)))
      | (go_big_quiet_want
         go_big_quiet_op
         refine ⟨.int .i64 ((ab : Int) * 4503599627370496), ?_, ?_⟩
         · intro W hC
           go_simp
         go_big_quiet_on)
      | (go_big_quiet_want
         go_big_quiet_op
         refine ⟨.int .u64 (t : Int), ?_, ?_⟩
         · intro W hC
           go_simp
         go_big_quiet_on)
      | (go_big_quiet_want
         go_big_quiet_op
         refine ⟨.int .i64 (t : Int), ?_, ?_⟩
         · intro W hC
           go_simp
         go_big_quiet_on)
      | (go_big_quiet_want
         go_big_quiet_op
         refine ⟨.int .i64 ((ab : Int) * 4503599627370496 + (t : Int)), ?_, ?_⟩
         · intro W hC
           go_simp
         go_big_quiet_on))
    refine wpQuiet_nil ?_
    intro W q
    go_wp2
    go_ret2
    refine ⟨_, true, rfl, hb.trans (q.mono hb.size), ?_⟩
    have e9 : ((ab * 4503599627370496 + t : Nat) : Int) = (ab : Int) * 4503599627370496 + (t : Int) := by omega
    rw [← e9]
    exact HX.out
  · go_ret2
    exact ⟨0, false, rfl, hb, make_none M.out (by omega) h3 (by have := HP.out; omega)⟩

/- ==== -/
theorem make_sign {F : Nat} {L : Int} {inf s0 : Nat} {p0 o : Int} {k : Bool} (bl : Bool) (h : MakeAns F L inf false s0 p0 o k) : MakeAns F L inf bl s0 p0 (if bl = true then -o else o) k := by
  rcases h with ⟨rfl, r, hr, hv, ho⟩ | ⟨rfl, rfl, hn⟩
  · simp only [Bool.false_eq_true, if_false] at ho
    exact .inl ⟨rfl, r, hr, hv, by rw [ho]⟩
  · exact .inr ⟨rfl, by cases bl <;> rfl, hn⟩
theorem make_in {F : Nat} {L : Int} {inf s0 : Nat} {p0 o : Int} {k : Bool} (h : MakeAns F L inf false s0 p0 o k) : 0 ≤ o ∧ o ≤ inf := by
  rcases h with ⟨rfl, r, hr, hv, ho⟩ | ⟨rfl, rfl, hn⟩
  · simp only [Bool.false_eq_true, if_false] at ho
    omega
  · omega

/-- What BitMake answers, whatever comes in. -/
def BM (n : Int) (bl : Bool) (s0 : Nat) (p0 : Int) (o : Int) (k : Bool) : Prop :=
  if (n = 32 ∨ n = 64) ∧ -2000 ≤ p0 ∧ p0 ≤ 2000 then (if s0 = 0 then o = 0 ∧ k = true else if n = 32 then MakeAns 23 (-149) 2139095040 bl s0 p0 o k else MakeAns 52 (-1074) 9218868437227405312 bl s0 p0 o k) else o = 0 ∧ k = false

theorem BM_same {n : Int} {bl : Bool} {s0 : Nat} {p0 o o' : Int} {k k' : Bool} (h : BM n bl s0 p0 o k) (h' : BM n bl s0 p0 o' k') : o = o' ∧ k = k' := by
  unfold BM at h h'
  split at h
  · rename_i c
    rw [if_pos c] at h'
    split at h
    · rename_i c2
      rw [if_pos c2] at h'
      exact ⟨h.1.trans h'.1.symm, h.2.trans h'.2.symm⟩
    · rename_i c2
      rw [if_neg c2] at h'
      split at h
      · rename_i c3
        rw [if_pos c3] at h'
        exact make_same h h'
      · rename_i c3
        rw [if_neg c3] at h'
        exact make_same h h'
  · rename_i c
    rw [if_neg c] at h'
    exact ⟨h.1.trans h'.1.symm, h.2.trans h'.2.symm⟩

def BMOut (w : World) (n : Int) (bl : Bool) (s0 : Nat) (p0 : Int) (e : Ending) (w' : World) : Prop := ∃ o k, e = .returned (.tuple #[.int .i64 o, .bool k]) ∧ Below w.heap.size w w' ∧ BM n bl s0 p0 o k

theorem withSign_ (w : World) (bl : Bool) (x : Int) (h0 : 0 ≤ x) (h1 : x ≤ 9218868437227405312) : Calls Tryd.prog 21 #[.bool bl, .int .i64 x] w fun e w' => e = .returned (.int .i64 (if bl = true then -x else x)) ∧ w = w' := by
  cases bl
  · go_enter Tryd.func21, Tryd.ntmps21
    go_wp2
    go_ret
    exact ⟨rfl, rfl⟩
  · go_enter Tryd.func21, Tryd.ntmps21
    go_wp2
    go_ret
    exact ⟨rfl, rfl⟩


set_option maxHeartbeats 2000000 in
theorem implMake32 (w : World) (bl : Bool) (s0 : Nat) (p0 : Int) (h2 : s0 < 18446744073709551616) (hp : (Lit.int .i64 p0).wf = true) (hT : TabAt 0 Lib.deBruijn64tab w) (hg : 0 < w.heap.size) :
    Calls Tryd.prog 11 #[.int .i64 32, .agg #[.bool bl, .int .u64 s0, .int .i64 p0]] w (BMOut w 32 bl s0 p0) := by
  have hb : Below w.heap.size w (w.alloc (.cells #[.bool bl, .int .u64 s0, .int .i64 p0] 34)) := (Below.refl _ w).alloc (Nat.le_refl _) _
  have o1 := Own.new w #[.bool bl, .int .u64 s0, .int .i64 p0] 34
  have fo := fun W => format32 W
  by_cases c1 : p0 < -2000
  · have hB : Hid (BM 32 bl s0 p0 0 false) := by show BM 32 bl s0 p0 0 false; unfold BM; rw [if_neg (by omega)]; exact ⟨rfl, rfl⟩
    go_enter Tryd.func11, Tryd.ntmps11
    go_wp2_with (go_at_call 18; refine (fo _).mono ?_; clear fo; rintro e w1 ⟨rfl, hw1⟩; subst hw1)
    go_ret2
    exact ⟨0, false, rfl, hb, hB.out⟩
  · by_cases c2 : 2000 < p0
    · have hB : Hid (BM 32 bl s0 p0 0 false) := by show BM 32 bl s0 p0 0 false; unfold BM; rw [if_neg (by omega)]; exact ⟨rfl, rfl⟩
      go_enter Tryd.func11, Tryd.ntmps11
      go_wp2_with (go_at_call 18; refine (fo _).mono ?_; clear fo; rintro e w1 ⟨rfl, hw1⟩; subst hw1)
      go_ret2
      exact ⟨0, false, rfl, hb, hB.out⟩
    · by_cases c3 : s0 = 0
      · have hB : Hid (BM 32 bl s0 p0 0 true) := by show BM 32 bl s0 p0 0 true; unfold BM; rw [if_pos (by omega), if_pos c3]; exact ⟨rfl, rfl⟩
        subst c3
        go_enter Tryd.func11, Tryd.ntmps11
        go_wp2_with (go_at_call 18; refine (fo _).mono ?_; clear fo; rintro e w1 ⟨rfl, hw1⟩; subst hw1)
        go_ret2
        exact ⟨0, true, rfl, hb, hB.out⟩
      · have hz : ((s0 : Int) == 0) = false := by simp; omega
        have sm := sizeMade32 (w.alloc (.cells #[.bool bl, .int .u64 s0, .int .i64 p0] 34)) s0 p0 (by omega) h2 (by omega) (by omega) (TabAt.below hT hb hg)
        have HB : Hid (∀ o k, MakeAns 23 (-149) 2139095040 false s0 p0 o k → BM 32 bl s0 p0 (if bl = true then -o else o) k) := by
          intro o k h
          unfold BM
          rw [if_pos (by omega), if_neg c3]
          first | rw [if_pos rfl] | rw [if_neg (by decide)]
          exact make_sign bl h
        clear hT
        go_enter Tryd.func11, Tryd.ntmps11
        go_wp2_with first
          | (go_at_call 18; refine (fo _).mono ?_; clear fo; rintro e w1 ⟨rfl, hw1⟩; subst hw1)
          | (go_at_call 29; refine sm.mono ?_; clear sm; rintro e w2 ⟨o, k, rfl, q, hA⟩; have hin := make_in hA; have HB1 := HB.out o k hA; clear hA HB; have ws := fun W => withSign_ W bl o hin.1 (by omega); obtain ⟨rr, hrr⟩ : ∃ rr, (if bl = true then -o else o) = rr := ⟨_, rfl⟩; rw [hrr] at HB1; simp only [hrr] at ws; clear hrr; replace o1 := o1.below q; replace hb := hb.trans (q.mono hb.size); clear q; have d0 := o1.cell 0 _ rfl; have HB : Hid (BM 32 bl s0 p0 rr k) := HB1; clear HB1)
          | (go_at_call 21; refine (ws _).mono ?_; clear ws; rintro e w3 ⟨rfl, hw3⟩; subst hw3)
        go_ret2
        exact ⟨_, _, rfl, hb, HB.out⟩

set_option maxHeartbeats 2000000 in
theorem implMake64 (w : World) (bl : Bool) (s0 : Nat) (p0 : Int) (h2 : s0 < 18446744073709551616) (hp : (Lit.int .i64 p0).wf = true) (hT : TabAt 0 Lib.deBruijn64tab w) (hg : 0 < w.heap.size) :
    Calls Tryd.prog 11 #[.int .i64 64, .agg #[.bool bl, .int .u64 s0, .int .i64 p0]] w (BMOut w 64 bl s0 p0) := by
  have hb : Below w.heap.size w (w.alloc (.cells #[.bool bl, .int .u64 s0, .int .i64 p0] 34)) := (Below.refl _ w).alloc (Nat.le_refl _) _
  have o1 := Own.new w #[.bool bl, .int .u64 s0, .int .i64 p0] 34
  have fo := fun W => format64 W
  by_cases c1 : p0 < -2000
  · have hB : Hid (BM 64 bl s0 p0 0 false) := by show BM 64 bl s0 p0 0 false; unfold BM; rw [if_neg (by omega)]; exact ⟨rfl, rfl⟩
    go_enter Tryd.func11, Tryd.ntmps11
    go_wp2_with (go_at_call 18; refine (fo _).mono ?_; clear fo; rintro e w1 ⟨rfl, hw1⟩; subst hw1)
    go_ret2
    exact ⟨0, false, rfl, hb, hB.out⟩
  · by_cases c2 : 2000 < p0
    · have hB : Hid (BM 64 bl s0 p0 0 false) := by show BM 64 bl s0 p0 0 false; unfold BM; rw [if_neg (by omega)]; exact ⟨rfl, rfl⟩
      go_enter Tryd.func11, Tryd.ntmps11
      go_wp2_with (go_at_call 18; refine (fo _).mono ?_; clear fo; rintro e w1 ⟨rfl, hw1⟩; subst hw1)
      go_ret2
      exact ⟨0, false, rfl, hb, hB.out⟩
    · by_cases c3 : s0 = 0
      · have hB : Hid (BM 64 bl s0 p0 0 true) := by show BM 64 bl s0 p0 0 true; unfold BM; rw [if_pos (by omega), if_pos c3]; exact ⟨rfl, rfl⟩
        subst c3
        go_enter Tryd.func11, Tryd.ntmps11
        go_wp2_with (go_at_call 18; refine (fo _).mono ?_; clear fo; rintro e w1 ⟨rfl, hw1⟩; subst hw1)
        go_ret2
        exact ⟨0, true, rfl, hb, hB.out⟩
      · have hz : ((s0 : Int) == 0) = false := by simp; omega
        have sm := sizeMade64 (w.alloc (.cells #[.bool bl, .int .u64 s0, .int .i64 p0] 34)) s0 p0 (by omega) h2 (by omega) (by omega) (TabAt.below hT hb hg)
        have HB : Hid (∀ o k, MakeAns 52 (-1074) 9218868437227405312 false s0 p0 o k → BM 64 bl s0 p0 (if bl = true then -o else o) k) := by
          intro o k h
          unfold BM
          rw [if_pos (by omega), if_neg c3]
          first | rw [if_pos rfl] | rw [if_neg (by decide)]
          exact make_sign bl h
        clear hT
        go_enter Tryd.func11, Tryd.ntmps11
        go_wp2_with first
          | (go_at_call 18; refine (fo _).mono ?_; clear fo; rintro e w1 ⟨rfl, hw1⟩; subst hw1)
          | (go_at_call 29; refine sm.mono ?_; clear sm; rintro e w2 ⟨o, k, rfl, q, hA⟩; have hin := make_in hA; have HB1 := HB.out o k hA; clear hA HB; have ws := fun W => withSign_ W bl o hin.1 (by omega); obtain ⟨rr, hrr⟩ : ∃ rr, (if bl = true then -o else o) = rr := ⟨_, rfl⟩; rw [hrr] at HB1; simp only [hrr] at ws; clear hrr; replace o1 := o1.below q; replace hb := hb.trans (q.mono hb.size); clear q; have d0 := o1.cell 0 _ rfl; have HB : Hid (BM 64 bl s0 p0 rr k) := HB1; clear HB1)
          | (go_at_call 21; refine (ws _).mono ?_; clear ws; rintro e w3 ⟨rfl, hw3⟩; subst hw3)
        go_ret2
        exact ⟨_, _, rfl, hb, HB.out⟩

theorem implMakeNo (w : World) (n : Int) (bl : Bool) (s0 : Nat) (p0 : Int) (h1 : n ≠ 32) (h2 : n ≠ 64) :
    Calls Tryd.prog 11 #[.int .i64 n, .agg #[.bool bl, .int .u64 s0, .int .i64 p0]] w (BMOut w n bl s0 p0) := by
  have hb : Below w.heap.size w (w.alloc (.cells #[.bool bl, .int .u64 s0, .int .i64 p0] 34)) := (Below.refl _ w).alloc (Nat.le_refl _) _
  have hB : Hid (BM n bl s0 p0 0 false) := by show BM n bl s0 p0 0 false; unfold BM; rw [if_neg (by omega)]; exact ⟨rfl, rfl⟩
  have fo := fun W => formatNo W n h1 h2
  go_enter Tryd.func11, Tryd.ntmps11
  go_wp2_with (go_at_call 18; refine (fo _).mono ?_; clear fo; rintro e w1 ⟨rfl, hw1⟩; subst hw1)
  go_ret2
  exact ⟨0, false, rfl, hb, hB.out⟩

theorem implMake (w : World) (n : Int) (bl : Bool) (s0 : Nat) (p0 : Int) (h2 : s0 < 18446744073709551616) (hp : (Lit.int .i64 p0).wf = true) (hT : TabAt 0 Lib.deBruijn64tab w) (hg : 0 < w.heap.size) :
    Calls Tryd.prog 11 #[.int .i64 n, .agg #[.bool bl, .int .u64 s0, .int .i64 p0]] w (BMOut w n bl s0 p0) := by
  by_cases c1 : n = 32
  · subst c1; exact implMake32 w bl s0 p0 h2 hp hT hg
  · by_cases c2 : n = 64
    · subst c2; exact implMake64 w bl s0 p0 h2 hp hT hg
    · exact implMakeNo w n bl s0 p0 c1 c2

end Go.Proofs.YteohgmmenlinbaaDoor
