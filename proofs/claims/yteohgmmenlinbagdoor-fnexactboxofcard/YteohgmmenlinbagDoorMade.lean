/- The program's boxMade: its contract, for whatever function it is handed. -/
import Derived.Test.YteohgmmenlinbagDoorBoxS
namespace Go.Proofs.YteohgmmenlinbagDoor
open Go.ChangeShapes Go.WideShapes Go.ChangeAt Go.RowKit
set_option linter.unusedVariables false

/-- A new box and a bool. -/
def BoxOut (w : World) (ps : List (Int × Int)) (k : Bool) (e : Ending) (w' : World) : Prop :=
  ∃ (a : Option Addr) (cap : Nat) (o : Option Nat), e = .returned (.tuple #[.agg #[.slice a ps.length cap], .bool k]) ∧ ps.length ≤ cap ∧ HasO w' a ps o ∧ (∀ G, o = some G → w.heap.size ≤ G) ∧ Below w.heap.size w w'

/-- The end of a function that returns a box and a bool. -/
theorem boxEnd {fn : Func} {p u : Tmp} (hres : fn.results = #[.cell p 25, .tmp u]) {w W : World} {T : Array Value} {R : Nat} {ps : List (Int × Int)} {a : Option Addr} {len cap : Nat} {o : Option Nat} {ok : Bool} {v : Value} (hlen : ps.length = len) (rs : Own W R [v]) (hb : Below w.heap.size w W) (hR : w.heap.size ≤ R)
    (hc : len ≤ cap) (hp : HasO W a ps o) (ho : ∀ G, o = some G → w.heap.size ≤ G) (hne : o ≠ some R)
    (ht : T.getD p undef = .pointer (some ⟨R, 0, none⟩)) (hk : T.getD u undef = .bool ok) :
    bodyPost Tryd.prog fn (BoxOut w ps ok) Exit.ret { tmps := T, defers := [] } (W.setCell ⟨R, 0, none⟩ (.slice a len cap)) := by
  have o1 := rs.set (i := 0) (.slice a len cap) (by simp)
  have c0 := o1.cell 0 _ rfl
  have bel := hb.setCell (p := ⟨R, 0, none⟩) hR (.slice a len cap)
  have hp' : HasO (W.setCell ⟨R, 0, none⟩ (.slice a len cap)) a ps o := hp.keepO ((KeepO.of_below (some R) (Below.refl _ W)).setCell _) (fun G hG e => hne (by rw [hG, e]))
  subst hlen
  generalize W.setCell ⟨R, 0, none⟩ (.slice a ps.length cap) = V at *
  refine bodyPost_ret (v := .tuple #[.agg #[.slice a ps.length cap], .bool ok]) ?_ rfl ⟨a, cap, o, rfl, hc, hp', ho, bel⟩
  rw [results_cell_tmp hres, ht, hk]
  simp [go_sem, c0]

def madeL (f : Nat → (Int × Int) × Bool) (n : Nat) : List (Int × Int) := (List.range n).map fun i => (f i).1
def madeB (f : Nat → (Int × Int) × Bool) (n : Nat) : Bool := (List.range n).all fun i => (f i).2
/-- What boxMade's box has. -/
def madeR (f : Nat → (Int × Int) × Bool) (n : Nat) : List (Int × Int) := if madeB f n = true then madeL f n else []
theorem madeL_length (f : Nat → (Int × Int) × Bool) (n : Nat) : (madeL f n).length = n := by simp [madeL]
theorem madeL_get {f : Nat → (Int × Int) × Bool} {n i : Nat} (h : i < n) : (madeL f n)[i]? = some (f i).1 := by simp [madeL, h]
theorem madeB_true {f : Nat → (Int × Int) × Bool} {n : Nat} (h : ∀ i, i < n → (f i).2 = true) : madeB f n = true := by
  unfold madeB
  rw [List.all_eq_true]
  exact fun i hi => h i (List.mem_range.1 hi)
theorem madeB_false {f : Nat → (Int × Int) × Bool} {n i : Nat} (hi : i < n) (h : (f i).2 = false) : madeB f n = false := by
  unfold madeB
  rw [List.all_eq_false]
  exact ⟨i, List.mem_range.2 hi, by rw [h]; decide⟩
theorem madeL_wf {f : Nat → (Int × Int) × Bool} {n : Nat} (h : ∀ i, i < n → (Lit.int .i64 (f i).1.1).wf = true ∧ (Lit.int .i64 (f i).1.2).wf = true) : ∀ p ∈ madeL f n, (Lit.int .i64 p.1).wf = true ∧ (Lit.int .i64 p.2).wf = true := by
  intro p hp
  obtain ⟨j, hj⟩ := List.getElem?_of_mem hp
  have hl : j < n := by have := (List.getElem?_eq_some_iff.1 hj).1; rw [madeL_length] at this; exact this
  rw [madeL_get hl] at hj
  obtain rfl := Option.some.inj hj
  exact h j hl

/-- What lies in memory between two rounds. -/
def MadeSt (w : World) (f : Nat → (Int × Int) × Bool) (n i : Nat) (W : World) : Prop :=
  ((∀ j, j < i → (f j).2 = true) ∧ CopySt w (w.heap.size + 1) n (madeL f n) i W) ∧ Own W w.heap.size [.slice none 0 0]

set_option maxHeartbeats 1000000 in
theorem boxMade (w : World) (n : Nat) (hn : n ≤ 1048576) (g : Nat) (caps : Array Value) (f : Nat → (Int × Int) × Bool)
    (eg : ∀ (args : Array Value) (w : World), Sem.run Tryd.prog (callFunc g args) w = Result.ok (Next.enter g args) w)
    (hf : ∀ i, i < n → (Lit.int .i64 (f i).1.1).wf = true ∧ (Lit.int .i64 (f i).1.2).wf = true)
    (hg : ∀ (i : Nat) W, i < n → Below w.heap.size w W → Calls Tryd.prog g (#[.int .i64 (i : Int)] ++ caps) W fun e W' => e = .returned (.tuple #[.agg #[.int .i64 (f i).1.1, .int .i64 (f i).1.2], .bool (f i).2]) ∧ Below W.heap.size W W') :
    Calls Tryd.prog 23 #[.int .i64 (n : Int), .func (.func g) #[] caps] w (BoxOut w (madeR f n) (madeB f n)) := by
  obtain ⟨i0, hi, hz0, hz1, hz2⟩ := info_parts infoPairB
  have hmk := fun W : World => run_make (P := Tryd.prog) W 23 39 i0 (.agg #[.int .i64 0, .int .i64 0]) Tryd.underlying23 hi hz0 .i64 .i64 (n : Int) (n : Int) (by omega) (Int.le_refl _) (by rw [hz2]; omega) (by omega)
  simp only [Int.toNat_natCast, hz1] at hmk
  clear hi hz0 hz1 hz2
  have A0 := Own.new w #[.slice none 0 0] 25
  have B0 := Own.new (w.alloc (.cells #[.slice none 0 0] 25)) (madeCells (Value.agg #[.int .i64 0, .int .i64 0]).cells (n * 2)) 39
  simp only [World.size_alloc] at B0
  have hsz : (madeCells (Value.agg #[.int .i64 0, .int .i64 0]).cells (n * 2)).toList.length = n * 2 := by simpa using size_madeCells _ _
  have S0 : Hid (MadeSt w f n 0 ((w.alloc (.cells #[.slice none 0 0] 25)).alloc (.cells (madeCells (Value.agg #[.int .i64 0, .int .i64 0]).cells (n * 2)) 39))) :=
    ⟨⟨fun j hj => absurd hj (by omega), ⟨_, hsz, B0, fun j hj => absurd hj (by omega)⟩, ((Below.refl _ w).alloc (Nat.le_refl _) _).alloc (by simp) _⟩, A0.alloc _⟩
  clear A0 B0 hsz
  go_enter Tryd.func23, Tryd.ntmps23
  go_wp2
  go_loopg [13] n (fun gq iv wr => ∃ i : Nat, i + gq = n ∧ iv = .int .i64 i ∧ Hid (MadeSt w f n i wr))
  case atStart => exact ⟨0, by omega, rfl, S0⟩
  case round =>
    clear S0
    obtain ⟨i, hi, rfl, S⟩ := hrel
    by_cases hlast : i < n
    · have hil : (i : Int) < n := by omega
      obtain ⟨⟨hall, ⟨vs, hv, ov, hc⟩, hb⟩, oR⟩ := S.out
      have hgi := hg i wr hlast hb
      obtain ⟨x, hx⟩ : ∃ x, (f i).1.1 = x := ⟨_, rfl⟩
      obtain ⟨y, hy⟩ : ∃ y, (f i).1.2 = y := ⟨_, rfl⟩
      have hpi : Hid ((madeL f n)[i]? = some (x, y)) := by show (madeL f n)[i]? = some (x, y); rw [madeL_get hlast, ← hx, ← hy]
      rw [hx, hy] at hgi
      clear hx hy
      have v0 : ∃ v, vs[i * 2]? = some v := ⟨vs[i * 2]'(by omega), List.getElem?_eq_getElem (by omega)⟩
      have v1 : ∃ v, vs[i * 2 + 1]? = some v := ⟨vs[i * 2 + 1]'(by omega), List.getElem?_eq_getElem (by omega)⟩
      obtain ⟨y0, v0⟩ := v0
      obtain ⟨y1, v1⟩ := v1
      have hcH : Hid (∀ j, j < i → ∀ p : Int × Int, (madeL f n)[j]? = some p → vs[j * 2]? = some (.int .i64 p.1) ∧ vs[j * 2 + 1]? = some (.int .i64 p.2)) := hc
      have hvH : Hid (vs.length = n * 2) := hv
      have haH : Hid (∀ j, j < i → (f j).2 = true) := hall
      clear hc hv hall S
      cases hk : (f i).2
      · have e1 : madeB f n = false := madeB_false hlast hk
        have e2 : madeR f n = [] := by unfold madeR; rw [e1]; rfl
        rw [hk] at hgi
        have e1H : Hid (madeB f n = false ∧ madeR f n = []) := ⟨e1, e2⟩
        clear e1 e2 hk
        go_wp2
        refine hgi.mono ?_
        clear hgi
        rintro e w2 ⟨rfl, q⟩
        have q2 : Below w2.heap.size w2 (w2.alloc (.cells #[.int .i64 x, .int .i64 y] 39)) := (Below.refl _ _).alloc (Nat.le_refl _) _
        have oR2 := (oR.below q).below q2
        have hb2 := (hb.trans (q.mono hb.size))
        replace hb2 := hb2.trans (q2.mono hb2.size)
        have r0 := oR2.cell 0 _ rfl
        have r1 := oR2.frz 0 _ rfl
        go_wp2
        refine boxEnd (ps := madeR f n) (o := none) rfl (by rw [e1H.out.2]; rfl) oR2 hb2 (Nat.le_refl _) (Nat.le_refl _) ?_ (fun G hG => by cases hG) (fun e => by cases e) rfl (by rw [e1H.out.1]; rfl)
        rw [e1H.out.2]
        exact ⟨fun p hp => by simp at hp, .inl ⟨rfl, rfl⟩⟩
      · rw [hk] at hgi
        have hkH : Hid ((f i).2 = true) := hk
        clear hk
        go_wp2
        refine hgi.mono ?_
        clear hgi
        rintro e w2 ⟨rfl, q⟩
        have q2 : Below w2.heap.size w2 (w2.alloc (.cells #[.int .i64 x, .int .i64 y] 39)) := (Below.refl _ _).alloc (Nat.le_refl _) _
        have oR2 := (oR.below q).below q2
        have ov2 := (ov.below q).below q2
        have hb2 := (hb.trans (q.mono hb.size))
        replace hb2 := hb2.trans (q2.mono hb2.size)
        have d0 := ov2.cell (i * 2) _ v0
        have d1 := ov2.cell (i * 2 + 1) _ v1
        have f0 := ov2.frz (i * 2) _ v0
        have f1 := ov2.frz (i * 2 + 1) _ v1
        go_wp2
        go_roundg (n - (i + 1))
        case measure => omega
        case rel =>
          refine ⟨i + 1, by omega, by go_num, ⟨⟨fun j hj => ?_, ⟨_, ?_, (ov2.set (i := i * 2) (.int .i64 x) (by rw [hvH.out]; omega)).set (i := i * 2 + 1) (.int .i64 y) (by rw [List.length_set, hvH.out]; omega), copy_step hvH.out hlast hpi.out hcH.out⟩, ?_⟩, ?_⟩⟩
          · by_cases e : j = i
            · subst e; exact hkH.out
            · exact haH.out j (by omega)
          · simpa using hvH.out
          · exact (hb2.setCell (p := ⟨w.heap.size + 1, i * 2, none⟩) (by simp) _).setCell (p := ⟨w.heap.size + 1, i * 2 + 1, none⟩) (by simp) _
          · exact (oR2.other _ (by omega)).other _ (by omega)
    · have hil : ¬ (i : Int) < n := by omega
      obtain ⟨⟨hall, ⟨vs, hv, ov, hc⟩, hb⟩, oR⟩ := S.out
      obtain rfl : i = n := by omega
      have e1 := madeB_true hall
      have e2 : madeR f i = madeL f i := by unfold madeR; rw [if_pos e1]
      have hP : HasO wr (some ⟨w.heap.size + 1, 0, none⟩) (madeL f i) (some (w.heap.size + 1)) := (ov.pairs fun j p hj => hc j (by have := (List.getElem?_eq_some_iff.1 hj).1; rw [madeL_length] at this; exact this) p hj).has (madeL_wf hf)
      have r0 := oR.cell 0 _ rfl
      have r1 := oR.frz 0 _ rfl
      have eH : Hid (madeB f i = true ∧ (madeR f i).length = i ∧ HasO wr (some ⟨w.heap.size + 1, 0, none⟩) (madeR f i) (some (w.heap.size + 1))) := ⟨e1, by rw [e2]; exact madeL_length f i, by rw [e2]; exact hP⟩
      clear hg hf hall hc e1 e2 hmk ov hP
      go_wp2
      exact boxEnd rfl eH.out.2.1 oR hb (Nat.le_refl _) (Nat.le_refl _) eH.out.2.2 (fun G hG => by have := Option.some.inj hG; omega) (fun e => by have := Option.some.inj e; omega) rfl (by rw [eH.out.1]; rfl)

end Go.Proofs.YteohgmmenlinbagDoor
