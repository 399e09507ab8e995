/- Lists of uint64 in memory; the laws' own comparison, marking and look at them: contracts. -/
import Derived.Test.YteohgmmenlinbagDoorBoxS
import Derived.Test.YteohgmmenlinbagDoorQuiet
namespace Go.Proofs.YteohgmmenlinbagDoor
open Go.ChangeShapes Go.WideShapes Go.ChangeAt Go.RowKit
set_option linter.unusedVariables false

/-- A slice that leads to these numbers. -/
def UAt (W : World) (a : Option Addr) (zs : List Int) : Prop :=
  zs = [] ∨ ∃ rb ro, a = some ⟨rb, ro, none⟩ ∧ rb < W.heap.size ∧ ∀ (i : Nat) (z : Int), zs[i]? = some z → W.cell? ⟨rb, ro + i, none⟩ = some (.int .u64 z)
theorem UAt.below {W W' : World} {a : Option Addr} {zs : List Int} (h : UAt W a zs) (q : Below W.heap.size W W') : UAt W' a zs := by
  rcases h with h | ⟨rb, ro, ha, hlt, hc⟩
  · exact .inl h
  · exact .inr ⟨rb, ro, ha, Nat.lt_of_lt_of_le hlt q.size, fun i z hz => (q.cell (p := ⟨rb, ro + i, none⟩) hlt).trans (hc i z hz)⟩

/-- These numbers lie in block G. -/
structure OwnU (W : World) (G : Nat) (zs : List Int) : Prop where
  lt : G < W.heap.size
  cell : ∀ (i : Nat) (z : Int), zs[i]? = some z → W.cell? ⟨G, i, none⟩ = some (.int .u64 z)
  frz : ∀ (i : Nat) (z : Int), zs[i]? = some z → W.frozen? ⟨G, i, none⟩ = false
theorem OwnU.keepO {W W' : World} {G : Nat} {zs : List Int} {o : Option Nat} (h : OwnU W G zs) (q : KeepO o W W') (hG : o ≠ some G) : OwnU W' G zs :=
  ⟨Nat.lt_of_lt_of_le h.lt q.size, fun i z hz => (q.cell (p := ⟨G, i, none⟩) h.lt hG).trans (h.cell i z hz), fun i z hz => (q.frozen (p := ⟨G, i, none⟩) h.lt hG).trans (h.frz i z hz)⟩

/-- A slice of numbers, in a block o of its own; none, where there are no numbers. -/
def HasU (W : World) (a : Option Addr) (zs : List Int) (o : Option Nat) : Prop := (zs = [] ∧ o = none) ∨ ∃ G, o = some G ∧ a = some ⟨G, 0, none⟩ ∧ OwnU W G zs
theorem HasU.keepO {W W' : World} {a : Option Addr} {zs : List Int} {o o' : Option Nat} (h : HasU W a zs o) (q : KeepO o' W W') (ho : ∀ G, o = some G → o' ≠ some G) : HasU W' a zs o := by
  rcases h with h | ⟨G, e1, e2, e3⟩
  · exact .inl h
  · exact .inr ⟨G, e1, e2, e3.keepO q (ho G e1)⟩
theorem HasU.below {W W' : World} {a : Option Addr} {zs : List Int} {o : Option Nat} (h : HasU W a zs o) (q : Below W.heap.size W W') : HasU W' a zs o := h.keepO (KeepO.of_below none q) (fun _ _ e => by cases e)
theorem HasU.at {W : World} {a : Option Addr} {zs : List Int} {o : Option Nat} (h : HasU W a zs o) : UAt W a zs := by
  rcases h with ⟨h, _⟩ | ⟨G, _, e2, e3⟩
  · exact .inl h
  · exact .inr ⟨G, 0, e2, e3.lt, fun i z hz => by rw [Nat.zero_add]; exact e3.cell i z hz⟩
theorem HasU.lt {W : World} {a : Option Addr} {zs : List Int} {o : Option Nat} (h : HasU W a zs o) : ∀ G, o = some G → G < W.heap.size := by
  intro G hG
  rcases h with ⟨_, e⟩ | ⟨G', e1, _, e3⟩
  · rw [e] at hG; cases hG
  · rw [e1] at hG; obtain rfl := Option.some.inj hG; exact e3.lt

/-- The marks from k on. -/
def marksU (k : Int) (len : Nat) : List Int := (List.range len).map fun (j : Nat) => k + (j : Int)
theorem marksU_length (k : Int) (len : Nat) : (marksU k len).length = len := by simp [marksU]
theorem marksU_get {k : Int} {len j : Nat} (h : j < len) : (marksU k len)[j]? = some (k + (j : Int)) := by simp [marksU, h]
theorem marksU_of {k : Int} {len : Nat} {qs : List Int} (hl : qs.length = len) (h : ∀ j, j < len → qs[j]? = some (k + (j : Int))) : qs = marksU k len := by
  apply List.ext_getElem?
  intro j
  by_cases hj : j < len
  · rw [h j hj, marksU_get hj]
  · rw [List.getElem?_eq_none (by omega), List.getElem?_eq_none (by rw [marksU_length]; omega)]

theorem OwnU.setU {W : World} {G i : Nat} {zs : List Int} (h : OwnU W G zs) (x : Int) (hi : i < zs.length) : OwnU (W.setCell ⟨G, i, none⟩ (.int .u64 x)) G (zs.set i x) := by
  have hp : zs[i]? = some zs[i] := List.getElem?_eq_getElem hi
  have hc := h.cell i _ hp
  refine ⟨by simpa [World.setCell] using h.lt, fun j p hj => ?_, fun j p hj => ?_⟩
  · by_cases e : i = j
    · subst e
      rw [List.getElem?_set_self hi] at hj
      obtain rfl := Option.some.inj hj
      exact World.cell?_setCell_same _ _ _ hc
    · rw [List.getElem?_set_ne e] at hj
      rw [World.cell?_setCell_other _ _ _ _ (fun q => by injection q; omega)]
      exact h.cell j p hj
  · simp only [World.frozen?_setCell]
    by_cases e : i = j
    · subst e
      exact h.frz i _ hp
    · rw [List.getElem?_set_ne e] at hj
      exact h.frz j p hj

def MarkU (w : World) (G len : Nat) (k : Int) (i : Nat) (W : World) : Prop :=
  (∃ qs : List Int, qs.length = len ∧ OwnU W G qs ∧ ∀ j, j < i → qs[j]? = some (k + (j : Int))) ∧ KeepO (some G) w W

theorem markU1 (w : World) (G : Nat) (zs : List Int) (len cap : Nat) (k : Int) (hlen : zs.length = len) (h : OwnU w G zs) (hl : len ≤ cap) (hm : len ≤ 1048576) (h0 : 0 ≤ k) (h1 : k ≤ 1000000000000) :
    Calls Tryd.prog 9 #[.slice (some ⟨G, 0, none⟩) len cap, .int .i64 k] w fun e w' => e = .returned (.int .i64 (k + len)) ∧ OwnU w' G (marksU k len) ∧ KeepO (some G) w w' := by
  have S0 : Hid (MarkU w G len k 0 w) := ⟨⟨zs, hlen, h, fun j hj => absurd hj (by omega)⟩, KeepO.of_below _ (Below.refl _ _)⟩
  clear h
  go_enter Tryd.func9, Tryd.ntmps9
  go_wp2
  go_loopg [1, 5] len (fun gq kv iv wr => ∃ i : Nat, i + gq = len ∧ kv = .int .i64 (k + i) ∧ iv = .int .i64 i ∧ Hid (MarkU w G len k i wr))
  case atStart => exact ⟨0, by omega, by go_num, rfl, S0⟩
  case round =>
    clear S0
    obtain ⟨i, hi, rfl, rfl, S⟩ := hrel
    by_cases hlast : i < len
    · obtain ⟨⟨qs, hq, ov, hc⟩, hb⟩ := S.out
      clear S
      have hil : (i : Int) < len := by omega
      have hpi : qs[i]? = some (qs[i]'(by omega)) := List.getElem?_eq_getElem (by omega)
      generalize (qs[i]'(by omega)) = p at hpi
      have c0 := ov.cell i _ hpi
      have f0 := ov.frz i _ hpi
      have hcH : Hid (∀ j, j < i → qs[j]? = some (k + (j : Int))) := hc
      have hqH : Hid (qs.length = len) := hq
      clear hc hq hpi
      go_wp2
      go_roundg (len - (i + 1))
      case measure => omega
      case rel =>
        refine ⟨i + 1, by omega, by go_num, by go_num, ⟨⟨qs.set i (k + i), by rw [List.length_set]; exact hqH.out, ov.setU _ (by rw [hqH.out]; exact hlast), fun j hj => ?_⟩, ?_⟩⟩
        · by_cases e : i = j
          · subst e
            rw [List.getElem?_set_self (by rw [hqH.out]; exact hlast)]
          · rw [List.getElem?_set_ne e]
            exact hcH.out j (by omega)
        · exact hb.setCell _
    · have hil : ¬ (i : Int) < len := by omega
      go_wp2
      go_ret
      obtain ⟨⟨qs, hq, ov, hc⟩, hb⟩ := S.out
      obtain rfl : i = len := by omega
      rw [← marksU_of hq hc]
      exact ⟨rfl, ov, hb⟩

theorem markU0 (w : World) (a : Option Addr) (cap : Nat) (k : Int) :
    Calls Tryd.prog 9 #[.slice a 0 cap, .int .i64 k] w fun e w' => e = .returned (.int .i64 k) ∧ w = w' := by
  go_enter Tryd.func9, Tryd.ntmps9
  go_wp2
  go_loopg [1, 5] 0 (fun gq kv iv wr => kv = .int .i64 k ∧ iv = .int .i64 0 ∧ wr = w)
  case atStart => exact ⟨rfl, rfl, rfl⟩
  case round =>
    obtain ⟨rfl, rfl, rfl⟩ := hrel
    go_wp2
    go_ret
    exact ⟨rfl, rfl⟩

theorem markU (w : World) (a : Option Addr) (zs : List Int) (o : Option Nat) (len cap : Nat) (k : Int) (hlen : zs.length = len) (h : HasU w a zs o) (hl : len ≤ cap) (hm : len ≤ 1048576) (h0 : 0 ≤ k) (h1 : k ≤ 1000000000000) :
    Calls Tryd.prog 9 #[.slice a len cap, .int .i64 k] w fun e w' => e = .returned (.int .i64 (k + len)) ∧ HasU w' a (marksU k len) o ∧ KeepO o w w' := by
  rcases h with ⟨e1, rfl⟩ | ⟨G, rfl, rfl, e3⟩
  · subst e1
    obtain rfl : 0 = len := by simpa using hlen
    refine (markU0 w a cap k).mono ?_
    rintro e w' ⟨rfl, rfl⟩
    exact ⟨by simp, .inl ⟨rfl, rfl⟩, KeepO.of_below _ (Below.refl _ _)⟩
  · refine (markU1 w G zs len cap k hlen e3 hl hm h0 h1).mono ?_
    rintro e w' ⟨rfl, o2, q2⟩
    exact ⟨rfl, .inr ⟨G, rfl, rfl, o2⟩, q2⟩

theorem eqU (w : World) (a b : Option Addr) (zs : List Int) (len cap cap' : Nat) (hlen : zs.length = len) (ha : UAt w a zs) (hb : UAt w b zs) (hl : len ≤ cap) (hl' : len ≤ cap') (hm : len ≤ 1048576) :
    Calls Tryd.prog 8 #[.slice a len cap, .slice b len cap'] w fun e w' => e = .returned (.bool true) ∧ Below w.heap.size w w' := by
  have hA : Hid (UAt w a zs ∧ UAt w b zs) := ⟨ha, hb⟩
  clear ha hb
  go_enter Tryd.func8, Tryd.ntmps8
  go_wp2
  go_loopg [5] len (fun gq iv wr => ∃ i : Nat, i + gq = len ∧ iv = .int .i64 i ∧ Below w.heap.size w wr)
  case atStart => exact ⟨0, by omega, rfl, Below.refl _ _⟩
  case round =>
    obtain ⟨i, hi, rfl, hB⟩ := hrel
    by_cases hlast : i < len
    · have hne : zs ≠ [] := by intro e; rw [e] at hlen; simp at hlen; omega
      obtain ⟨rb, ro, e1, hlt1, hc1⟩ := hA.out.1.resolve_left hne
      obtain ⟨sb, so, e2, hlt2, hc2⟩ := hA.out.2.resolve_left hne
      subst e1 e2
      obtain ⟨z, hz⟩ : ∃ z, zs[i]? = some z := ⟨zs[i]'(by omega), List.getElem?_eq_getElem (by omega)⟩
      have hx : Hid ((rb < wr.heap.size ∧ wr.cell? ⟨rb, ro + i, none⟩ = some (.int .u64 z)) ∧ (sb < wr.heap.size ∧ wr.cell? ⟨sb, so + i, none⟩ = some (.int .u64 z))) :=
        ⟨⟨Nat.lt_of_lt_of_le hlt1 hB.size, (hB.cell (p := ⟨rb, ro + i, none⟩) hlt1).trans (hc1 i z hz)⟩, ⟨Nat.lt_of_lt_of_le hlt2 hB.size, (hB.cell (p := ⟨sb, so + i, none⟩) hlt2).trans (hc2 i z hz)⟩⟩
      clear hc1 hc2 hz hA
      have hil : (i : Int) < len := by omega
      go_wp2
      refine region_below (by kernel_rfl) (by kernel_rfl) ?_
      repeat (first
        | go_big_quiet_step (first | (intro _; rfl))
        | (go_big_quiet_want
           go_big_quiet_op
           refine ⟨.pointer (some ⟨rb, ro + i, none⟩), ?_, ?_⟩
           · intro W hC
             go_simp
           go_big_quiet_on)
        | (go_big_quiet_want
           go_big_quiet_op
           refine ⟨.pointer (some ⟨sb, so + i, none⟩), ?_, ?_⟩
           · intro W hC
             go_simp
           go_big_quiet_on)
        | (go_big_quiet_want
           go_big_quiet_op
           refine ⟨.int .u64 z, ?_, ?_⟩
           · intro W hC
             have r0 := (hC.cell (p := ⟨rb, ro + i, none⟩) hx.out.1.1).trans hx.out.1.2
             have r2 := (hC.cell (p := ⟨sb, so + i, none⟩) hx.out.2.1).trans hx.out.2.2
             go_simp
           go_big_quiet_on))
      refine wpQuiet_nil ?_
      intro w4 q4
      replace hB := hB.trans (q4.mono hB.size)
      go_wp2
      go_roundg (len - (i + 1))
      case measure => omega
      case rel => exact ⟨i + 1, by omega, by go_num, hB⟩
    · have hil : ¬ (i : Int) < len := by omega
      go_wp2
      go_ret
      exact ⟨rfl, hB⟩

end Go.Proofs.YteohgmmenlinbagDoor
