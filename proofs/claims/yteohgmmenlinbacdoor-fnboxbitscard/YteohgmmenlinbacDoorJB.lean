/- Several texts in one: BoxA, BoxT0, BoxS, Made, At2, ImplA, ImplT, Quiet, PairA, PairE, GapI, Span, BoxI, BoxF, BoxK. -/
import Derived.Test.YteohgmmenlinbacDoorJA
import Derived.Deep.LoopGhost
import Derived.Laws.MakeOwn
import Derived.OwnWalk
import Derived.Test.YteohgmmenlinbacDoorRows
import Derived.WalkKit
import Derived.Below
import Derived.WalkSpells
import Derived.Outline
import Derived.Deep.RegionWith
import Derived.BigRegion
import Derived.Laws.ResultCell
import Derived.Deep.QuietTactic
import Derived.BigQuiet
import Derived.ProofKit
import Derived.OpenShut
import Derived.RangeFuncNested
import Derived.RangeFuncBound
import Derived.RangeFuncCalls
import Derived.RangeFuncLeaves
import Derived.Shelf.Abstract
import Derived.Shelf.RegionOpen
import Derived.OwnWalkIn
import Derived.TacticsInMore
import Derived.LoopNIn
import Derived.LoopIn
/- Lists of pairs in memory; the model's BoxOk: its contract. -/
namespace Go.Proofs.YteohgmmenlinbacDoor
open Go.ChangeShapes Go.WideShapes Go.ChangeAt Go.RowKit
set_option linter.unusedVariables false

/-- A slice that leads to these pairs. -/
def PairsAt (W : World) (a : Option Addr) (ps : List (Int × Int)) : Prop :=
  (∀ p ∈ ps, (Lit.int .i64 p.1).wf = true ∧ (Lit.int .i64 p.2).wf = true) ∧
  (ps = [] ∨ ∃ rb ro, a = some ⟨rb, ro, none⟩ ∧ rb < W.heap.size ∧ ∀ (i : Nat) (p : Int × Int), ps[i]? = some p → W.cell? ⟨rb, ro + i * 2, none⟩ = some (.int .i64 p.1) ∧ W.cell? ⟨rb, ro + i * 2 + 1, none⟩ = some (.int .i64 p.2))

theorem PairsAt.below {W W' : World} {a : Option Addr} {ps : List (Int × Int)} (h : PairsAt W a ps) (q : Below W.heap.size W W') : PairsAt W' a ps := by
  refine ⟨h.1, ?_⟩
  rcases h.2 with h | ⟨rb, ro, ha, hlt, hc⟩
  · exact .inl h
  · refine .inr ⟨rb, ro, ha, Nat.lt_of_lt_of_le hlt q.size, fun i p hp => ?_⟩
    obtain ⟨c0, c1⟩ := hc i p hp
    exact ⟨(q.cell (p := ⟨rb, ro + i * 2, none⟩) hlt).trans c0, (q.cell (p := ⟨rb, ro + i * 2 + 1, none⟩) hlt).trans c1⟩

theorem PairsAt.at {W : World} {rb ro : Nat} {ps : List (Int × Int)} (h : PairsAt W (some ⟨rb, ro, none⟩) ps) (hne : ps ≠ []) (i : Nat) (p : Int × Int) (hp : ps[i]? = some p) :
    W.cell? ⟨rb, ro + i * 2, none⟩ = some (.int .i64 p.1) ∧ W.cell? ⟨rb, ro + i * 2 + 1, none⟩ = some (.int .i64 p.2) := by
  obtain ⟨rb', ro', ha, hlt, hc⟩ := h.2.resolve_left hne
  injection ha with ha
  injection ha with e1 e2
  subst e1 e2
  exact hc i p hp

/-- What lies in memory between two rounds. -/
def BoxSt (w : World) (n : Int) (rb ro len cap : Nat) (ps : List (Int × Int)) (i : Nat) (W : World) : Prop :=
  (∀ j, j < i → ∀ p, ps[j]? = some p → pokI n p.1 p.2 = true) ∧ Own W w.heap.size [.slice (some ⟨rb, ro, none⟩) len cap] ∧ PairsAt W (some ⟨rb, ro, none⟩) ps ∧ Below w.heap.size w W

/-- A box is ok. -/
def bokI (n : Int) (ps : List (Int × Int)) : Bool := decide (1 ≤ ps.length) && (decide (ps.length ≤ 6) && ps.all fun p => pokI n p.1 p.2)

theorem bok_false {n : Int} {ps : List (Int × Int)} {i : Nat} {lo hi : Int} (hp : ps[i]? = some (lo, hi)) (h : pokI n lo hi = false) : bokI n ps = false := by
  have : (ps.all fun p => pokI n p.1 p.2) = false := by
    rw [List.all_eq_false]
    exact ⟨(lo, hi), List.mem_of_getElem? hp, by simp [h]⟩
  unfold bokI
  rw [this]
  simp

theorem bok_true {n : Int} {ps : List (Int × Int)} (h1 : 1 ≤ ps.length) (h6 : ps.length ≤ 6) (h : ∀ (j : Nat) p, ps[j]? = some p → pokI n p.1 p.2 = true) : bokI n ps = true := by
  have : (ps.all fun p => pokI n p.1 p.2) = true := by
    rw [List.all_eq_true]
    intro p hp
    obtain ⟨j, hj⟩ := List.getElem?_of_mem hp
    exact h j p hj
  unfold bokI
  rw [this, decide_eq_true h1, decide_eq_true h6]
  rfl

theorem specBoxOk (w : World) (n : Int) (a : Option Addr) (ps : List (Int × Int)) (cap : Nat) (h : PairsAt w a ps) (hl : ps.length ≤ cap) (hm : ps.length ≤ 1048576) :
    Calls Tryd.prog 7 #[.int .i64 n, .agg #[.slice a ps.length cap]] w fun e w' => e = .returned (.bool (bokI n ps)) ∧ Below w.heap.size w w' := by
  by_cases h1 : 1 ≤ ps.length
  · by_cases h6 : ps.length ≤ 6
    · have k1 : ¬ (ps.length : Int) < 1 := by omega
      have k6 : ¬ (6 : Int) < ps.length := by omega
      obtain ⟨rb, ro, ha, hlt, hc⟩ := h.2.resolve_left (by intro e; rw [e] at h1; simp at h1)
      subst ha
      obtain ⟨len, hlen⟩ : ∃ len, ps.length = len := ⟨_, rfl⟩
      rw [hlen] at k1 k6 h1 h6 hl hm ⊢
      go_enter Tryd.func7, Tryd.ntmps7
      go_wp2
      have B0 := Own.new w #[.slice (some ⟨rb, ro, none⟩) len cap] 25
      have hb0 := (Below.refl _ w).alloc (Nat.le_refl _) (.cells #[.slice (some ⟨rb, ro, none⟩) len cap] 25)
      have S0 : Hid (BoxSt w n rb ro len cap ps 0 (w.alloc (.cells #[.slice (some ⟨rb, ro, none⟩) len cap] 25))) := ⟨fun j hj => absurd hj (by omega), B0, h.below ((Below.refl _ _).alloc (Nat.le_refl _) _), hb0⟩
      clear B0 hb0 hc h
      go_loopg [5] len (fun gq iv wr => ∃ i : Nat, i + gq = len ∧ iv = .int .i64 i ∧ Hid (BoxSt w n rb ro len cap ps i wr))
      case atStart => exact ⟨0, by omega, rfl, S0⟩
      case round =>
        clear S0
        obtain ⟨i, hi, rfl, S⟩ := hrel
        have b0 := S.out.2.1.cell 0 _ rfl
        by_cases hlast : i < len
        · have hp : ∃ p, ps[i]? = some p := ⟨ps[i]'(by omega), List.getElem?_eq_getElem (by omega)⟩
          obtain ⟨⟨lo, hi'⟩, hp⟩ := hp
          have wf := S.out.2.2.1.1 (lo, hi') (List.mem_of_getElem? hp)
          have cc := S.out.2.2.1.at (by intro e; rw [e] at hp; simp at hp) i (lo, hi') hp
          have c0 := cc.1
          have c1 := cc.2
          have hk := fun W => specPairOk W n lo hi' wf.1 wf.2
          have hil : (i : Int) < len := by omega
          cases hpk : pokI n lo hi'
          · rw [hpk] at hk
            go_wp2_with (go_at_call 19; refine (hk _).mono ?_; clear hk; rintro e w2 ⟨rfl, q⟩)
            go_ret
            rw [bok_false hp hpk]
            exact ⟨rfl, S.out.2.2.2.trans (q.mono S.out.2.2.2.size)⟩
          · rw [hpk] at hk
            go_wp2_with (go_at_call 19; refine (hk _).mono ?_; clear hk; rintro e w2 ⟨rfl, q⟩)
            go_roundg (len - (i + 1))
            case measure => omega
            case rel =>
              refine ⟨i + 1, by omega, by go_num, ⟨fun j hj p hp' => ?_, S.out.2.1.below q, S.out.2.2.1.below q, S.out.2.2.2.trans (q.mono S.out.2.2.2.size)⟩⟩
              by_cases e : j = i
              · subst e
                rw [hp] at hp'
                obtain rfl := Option.some.inj hp'
                exact hpk
              · exact S.out.1 j (by omega) p hp'
        · have hil : ¬ (i : Int) < len := by omega
          have hall : ∀ (j : Nat) (p : Int × Int), ps[j]? = some p → pokI n p.1 p.2 = true := fun j p hj => S.out.1 j (by have := (List.getElem?_eq_some_iff.1 hj).1; omega) p hj
          have hbt : bokI n ps = true := bok_true (by omega) (by omega) hall
          go_wp2
          go_ret
          exact ⟨rfl, S.out.2.2.2⟩
    · have k1 : ¬ (ps.length : Int) < 1 := by omega
      have k6 : (6 : Int) < ps.length := by omega
      have e : bokI n ps = false := by unfold bokI; rw [decide_eq_false h6]; simp
      rw [e]
      generalize ps.length = len at *
      go_enter Tryd.func7, Tryd.ntmps7
      go_wp2
      go_ret
      exact ⟨rfl, (Below.refl _ _).alloc (Nat.le_refl _) _⟩
  · have k1 : (ps.length : Int) < 1 := by omega
    have e : bokI n ps = false := by unfold bokI; rw [decide_eq_false h1]; simp
    rw [e]
    generalize ps.length = len at *
    go_enter Tryd.func7, Tryd.ntmps7
    go_wp2
    go_ret
    exact ⟨rfl, (Below.refl _ _).alloc (Nat.le_refl _) _⟩

end Go.Proofs.YteohgmmenlinbacDoor


/- Pairs in a block of their own. -/
namespace Go.Proofs.YteohgmmenlinbacDoor
open Go.ChangeShapes Go.WideShapes Go.ChangeAt Go.RowKit
set_option linter.unusedVariables false

theorem infoPairB : (Tryd.prog.info? 40).map (fun i => (i.zero, i.size, i.bytes)) = some (some (.agg #[.int .i64 0, .int .i64 0]), 2, 16) := by kernel_rfl

/-- These pairs lie in block G from its first cell on, none frozen. -/
structure OwnP (W : World) (G : Nat) (ps : List (Int × Int)) : Prop where
  lt : G < W.heap.size
  cell : ∀ (i : Nat) (p : Int × Int), ps[i]? = some p → W.cell? ⟨G, i * 2, none⟩ = some (.int .i64 p.1) ∧ W.cell? ⟨G, i * 2 + 1, none⟩ = some (.int .i64 p.2)
  frz : ∀ (i : Nat) (p : Int × Int), ps[i]? = some p → W.frozen? ⟨G, i * 2, none⟩ = false ∧ W.frozen? ⟨G, i * 2 + 1, none⟩ = false

theorem OwnP.below {W W' : World} {G : Nat} {ps : List (Int × Int)} (h : OwnP W G ps) (q : Below W.heap.size W W') : OwnP W' G ps :=
  ⟨Nat.lt_of_lt_of_le h.lt q.size, fun i p hp => ⟨(q.cell (p := ⟨G, i * 2, none⟩) h.lt).trans (h.cell i p hp).1, (q.cell (p := ⟨G, i * 2 + 1, none⟩) h.lt).trans (h.cell i p hp).2⟩,
   fun i p hp => ⟨(q.frozen (p := ⟨G, i * 2, none⟩) h.lt).trans (h.frz i p hp).1, (q.frozen (p := ⟨G, i * 2 + 1, none⟩) h.lt).trans (h.frz i p hp).2⟩⟩

theorem OwnP.other {W : World} {G j k : Nat} {ps : List (Int × Int)} (h : OwnP W G ps) (v : Value) (hk : j ≠ G) : OwnP (W.setCell ⟨j, k, none⟩ v) G ps :=
  ⟨by simpa [World.setCell] using h.lt, fun i p hp => ⟨(World.cell?_setCell_other _ _ _ _ (fun e => by injection e; omega)).trans (h.cell i p hp).1, (World.cell?_setCell_other _ _ _ _ (fun e => by injection e; omega)).trans (h.cell i p hp).2⟩,
   fun i p hp => by rw [World.frozen?_setCell, World.frozen?_setCell]; exact h.frz i p hp⟩

theorem OwnP.at {W : World} {G : Nat} {ps : List (Int × Int)} (h : OwnP W G ps) (hw : ∀ p ∈ ps, (Lit.int .i64 p.1).wf = true ∧ (Lit.int .i64 p.2).wf = true) : PairsAt W (some ⟨G, 0, none⟩) ps :=
  ⟨hw, .inr ⟨G, 0, rfl, h.lt, fun i p hp => by rw [Nat.zero_add]; exact h.cell i p hp⟩⟩

theorem Own.pairs {W : World} {G : Nat} {vs : List Value} {ps : List (Int × Int)} (o : Own W G vs) (h : ∀ (i : Nat) (p : Int × Int), ps[i]? = some p → vs[i * 2]? = some (.int .i64 p.1) ∧ vs[i * 2 + 1]? = some (.int .i64 p.2)) : OwnP W G ps :=
  ⟨o.lt, fun i p hp => ⟨o.cell _ _ (h i p hp).1, o.cell _ _ (h i p hp).2⟩, fun i p hp => ⟨o.frz _ _ (h i p hp).1, o.frz _ _ (h i p hp).2⟩⟩

/-- The first i pairs lie in the new row. -/
def CopySt (w : World) (G len : Nat) (ps : List (Int × Int)) (i : Nat) (W : World) : Prop :=
  (∃ vs : List Value, vs.length = len * 2 ∧ Own W G vs ∧ ∀ j, j < i → ∀ p : Int × Int, ps[j]? = some p → vs[j * 2]? = some (.int .i64 p.1) ∧ vs[j * 2 + 1]? = some (.int .i64 p.2)) ∧ Below w.heap.size w W

theorem copy_step {vs : List Value} {ps : List (Int × Int)} {i len : Nat} {lo hi : Int} (hv : vs.length = len * 2) (hil : i < len) (hpi : ps[i]? = some (lo, hi)) (hc : ∀ j, j < i → ∀ p : Int × Int, ps[j]? = some p → vs[j * 2]? = some (.int .i64 p.1) ∧ vs[j * 2 + 1]? = some (.int .i64 p.2)) :
    ∀ j, j < i + 1 → ∀ p : Int × Int, ps[j]? = some p → ((vs.set (i * 2) (.int .i64 lo)).set (i * 2 + 1) (.int .i64 hi))[j * 2]? = some (.int .i64 p.1) ∧ ((vs.set (i * 2) (.int .i64 lo)).set (i * 2 + 1) (.int .i64 hi))[j * 2 + 1]? = some (.int .i64 p.2) := by
  intro j hj p hp
  by_cases e : j = i
  · subst e
    rw [hpi] at hp
    obtain rfl := Option.some.inj hp
    constructor
    · rw [List.getElem?_set_ne (by omega), List.getElem?_set_self (by omega)]
    · rw [List.getElem?_set_self (by rw [List.length_set]; omega)]
  · obtain ⟨h1, h2⟩ := hc j (by omega) p hp
    constructor
    · rw [List.getElem?_set_ne (by omega), List.getElem?_set_ne (by omega)]; exact h1
    · rw [List.getElem?_set_ne (by omega), List.getElem?_set_ne (by omega)]; exact h2

end Go.Proofs.YteohgmmenlinbacDoor


/- What a law keeps in mind of memory while it runs: facts on blocks, and what leaves them standing. -/
namespace Go.Proofs.YteohgmmenlinbacDoor
open Go.ChangeShapes Go.WideShapes Go.ChangeAt Go.RowKit
set_option linter.unusedVariables false

/-- All blocks but o's are as they were. -/
structure KeepO (o : Option Nat) (w w' : World) : Prop where
  os : w'.os = w.os
  tape : w'.tape = w.tape
  output : w'.output = w.output
  size : w.heap.size ≤ w'.heap.size
  block : ∀ k, k < w.heap.size → o ≠ some k → w'.heap[k]? = w.heap[k]?

theorem KeepO.of_below {w w' : World} (o : Option Nat) (q : Below w.heap.size w w') : KeepO o w w' := ⟨q.os, q.tape, q.output, q.size, fun k hk _ => q.block k hk⟩
theorem KeepO.trans {o : Option Nat} {u v w : World} (h : KeepO o u v) (k : KeepO o v w) : KeepO o u w :=
  ⟨k.os.trans h.os, k.tape.trans h.tape, k.output.trans h.output, Nat.le_trans h.size k.size,
    fun i hi hb => (k.block i (Nat.lt_of_lt_of_le hi h.size) hb).trans (h.block i hi hb)⟩
theorem KeepO.setCell {u w : World} {G i : Nat} (h : KeepO (some G) u w) (v : Value) : KeepO (some G) u (w.setCell ⟨G, i, none⟩ v) :=
  h.trans ⟨rfl, rfl, rfl, by simp [World.setCell], fun k _ hb => Below.heap_setCell _ _ _ _ (fun e => hb (by rw [e]))⟩
theorem KeepO.cell {o : Option Nat} {w w' : World} (h : KeepO o w w') {p : Addr} (hs : p.block < w.heap.size) (hp : o ≠ some p.block) : w'.cell? p = w.cell? p :=
  World.cell?_of_block (w := w) (h.block p.block hs hp)
theorem KeepO.frozen {o : Option Nat} {w w' : World} (h : KeepO o w w') {p : Addr} (hs : p.block < w.heap.size) (hp : o ≠ some p.block) : w'.frozen? p = w.frozen? p :=
  World.frozen?_of_block (w := w) (h.block p.block hs hp)
theorem KeepO.keep {w w' : World} {G : Nat} (h : KeepO (some G) w w') : Keep G w w' := ⟨h.os, h.tape, h.output, h.size, fun k hk hn => h.block k hk (fun e => hn (Option.some.inj e).symm)⟩

/-- A slice of pairs, in a block o of its own; none, where there are no pairs. -/
def HasO (W : World) (a : Option Addr) (ps : List (Int × Int)) (o : Option Nat) : Prop :=
  (∀ p ∈ ps, (Lit.int .i64 p.1).wf = true ∧ (Lit.int .i64 p.2).wf = true) ∧ ((ps = [] ∧ o = none) ∨ ∃ G, o = some G ∧ a = some ⟨G, 0, none⟩ ∧ OwnP W G ps)

theorem OwnP.keepO {W W' : World} {G : Nat} {ps : List (Int × Int)} {o : Option Nat} (h : OwnP W G ps) (q : KeepO o W W') (hG : o ≠ some G) : OwnP W' G ps :=
  ⟨Nat.lt_of_lt_of_le h.lt q.size, fun i p hp => ⟨(q.cell (p := ⟨G, i * 2, none⟩) h.lt hG).trans (h.cell i p hp).1, (q.cell (p := ⟨G, i * 2 + 1, none⟩) h.lt hG).trans (h.cell i p hp).2⟩,
   fun i p hp => ⟨(q.frozen (p := ⟨G, i * 2, none⟩) h.lt hG).trans (h.frz i p hp).1, (q.frozen (p := ⟨G, i * 2 + 1, none⟩) h.lt hG).trans (h.frz i p hp).2⟩⟩
theorem HasO.keepO {W W' : World} {a : Option Addr} {ps : List (Int × Int)} {o o' : Option Nat} (h : HasO W a ps o) (q : KeepO o' W W') (ho : ∀ G, o = some G → o' ≠ some G) : HasO W' a ps o :=
  ⟨h.1, h.2.imp id fun ⟨G, e1, e2, e3⟩ => ⟨G, e1, e2, e3.keepO q (ho G e1)⟩⟩
theorem HasO.below {W W' : World} {a : Option Addr} {ps : List (Int × Int)} {o : Option Nat} (h : HasO W a ps o) (q : Below W.heap.size W W') : HasO W' a ps o :=
  ⟨h.1, h.2.imp id fun ⟨G, e1, e2, e3⟩ => ⟨G, e1, e2, e3.below q⟩⟩
theorem HasO.at {W : World} {a : Option Addr} {ps : List (Int × Int)} {o : Option Nat} (h : HasO W a ps o) : PairsAt W a ps := by
  rcases h.2 with ⟨e, _⟩ | ⟨G, _, rfl, e3⟩
  · exact ⟨h.1, .inl e⟩
  · exact e3.at h.1
theorem HasO.lt {W : World} {a : Option Addr} {ps : List (Int × Int)} {o : Option Nat} (h : HasO W a ps o) : ∀ G, o = some G → G < W.heap.size := by
  intro G hG
  rcases h.2 with ⟨_, e⟩ | ⟨G', e1, _, e3⟩
  · rw [e] at hG; cases hG
  · rw [e1] at hG
    obtain rfl := Option.some.inj hG
    exact e3.lt
theorem OwnP.has {W : World} {G : Nat} {ps : List (Int × Int)} (h : OwnP W G ps) (hw : ∀ p ∈ ps, (Lit.int .i64 p.1).wf = true ∧ (Lit.int .i64 p.2).wf = true) : HasO W (some ⟨G, 0, none⟩) ps (some G) :=
  ⟨hw, .inr ⟨G, rfl, rfl, h⟩⟩

inductive Fact where
  | own (k : Nat) (vs : List Value)
  | has (a : Option Addr) (ps : List (Int × Int)) (o : Option Nat)
  | args (n : Nat) (a : Option Addr) (ps : List (Int × Int))
  | bel (w : World)
  | num (p : Prop)

def Fact.holds (W : World) : Fact → Prop
  | .own k vs => Own W k vs
  | .has a ps o => HasO W a ps o
  | .args n a ps => PairsAt W a ps ∧ (ps = [] ∨ ∃ rb ro, a = some ⟨rb, ro, none⟩ ∧ rb < n)
  | .bel w => Below w.heap.size w W
  | .num p => p

/-- A fact that the block o has nothing to do with. -/
def Fact.free (o : Option Nat) : Fact → Prop
  | .own k _ => o ≠ some k
  | .has _ _ o' => ∀ G, o' = some G → o ≠ some G
  | .args n _ _ => ∀ G, o = some G → n ≤ G
  | .bel w => ∀ G, o = some G → w.heap.size ≤ G
  | .num _ => True

theorem Own.keepO {w w' : World} {o : Option Nat} {k : Nat} {vs : List Value} (h : Own w k vs) (q : KeepO o w w') (hk : o ≠ some k) : Own w' k vs :=
  ⟨Nat.lt_of_lt_of_le h.lt q.size, fun i v hv => (q.cell (p := ⟨k, i, none⟩) h.lt hk).trans (h.cell i v hv), fun i v hv => (q.frozen (p := ⟨k, i, none⟩) h.lt hk).trans (h.frz i v hv)⟩

theorem Fact.keep {W W' : World} {o : Option Nat} (f : Fact) (h : f.holds W) (q : KeepO o W W') (hf : f.free o) : f.holds W' := by
  cases f with
  | own k vs => exact Own.keepO h q hf
  | has a ps o' => exact HasO.keepO h q hf
  | args n a ps =>
    obtain ⟨h1, h2⟩ := h
    refine ⟨⟨h1.1, ?_⟩, h2⟩
    rcases h1.2 with e | ⟨rb, ro, ha, hlt, hc⟩
    · exact .inl e
    · rcases h2 with e | ⟨rb', ro', ha', hlt'⟩
      · exact .inl e
      · rw [ha] at ha'
        injection ha' with ha'
        injection ha' with e1 e2
        subst e1 e2
        have hne : o ≠ some rb := fun e => by have := hf rb e; omega
        exact .inr ⟨rb, ro, ha, Nat.lt_of_lt_of_le hlt q.size, fun i p hp => ⟨(q.cell (p := ⟨rb, ro + i * 2, none⟩) hlt hne).trans (hc i p hp).1, (q.cell (p := ⟨rb, ro + i * 2 + 1, none⟩) hlt hne).trans (hc i p hp).2⟩⟩
  | bel w =>
    exact ⟨q.os.trans h.os, q.tape.trans h.tape, q.output.trans h.output, Nat.le_trans h.size q.size, fun k hk => (q.block k (Nat.lt_of_lt_of_le hk h.size) (fun e => by have := hf k e; omega)).trans (h.block k hk)⟩
  | num p => exact h

theorem Fact.below {W W' : World} (f : Fact) (h : f.holds W) (q : Below W.heap.size W W') : f.holds W' := by
  cases f with
  | own k vs => exact Own.below h q
  | has a ps o' => exact HasO.below h q
  | args n a ps => exact ⟨h.1.below q, h.2⟩
  | bel w => exact Below.trans h (q.mono h.size)
  | num p => exact h

def Facts (W : World) (l : List Fact) : Prop := ∀ f ∈ l, f.holds W

theorem Facts.nil (W : World) : Facts W [] := fun f hf => by cases hf
theorem Facts.below {W W' : World} {l : List Fact} (h : Facts W l) (q : Below W.heap.size W W') : Facts W' l := fun f hf => f.below (h f hf) q
theorem Facts.alloc {W : World} {l : List Fact} (h : Facts W l) (o : Obj) : Facts (W.alloc o) l := h.below ((Below.refl _ _).alloc (Nat.le_refl _) _)
theorem Facts.get {W : World} {l : List Fact} (h : Facts W l) (i : Nat) {f : Fact} (e : l[i]? = some f) : f.holds W := h f (List.mem_of_getElem? e)
theorem Facts.own {W : World} {l : List Fact} (h : Facts W l) (i : Nat) {k : Nat} {vs : List Value} (e : l[i]? = some (.own k vs)) : Own W k vs := h.get i e
theorem Facts.has {W : World} {l : List Fact} (h : Facts W l) (i : Nat) {a : Option Addr} {ps : List (Int × Int)} {o : Option Nat} (e : l[i]? = some (.has a ps o)) : HasO W a ps o := h.get i e
theorem Facts.args {W : World} {l : List Fact} (h : Facts W l) (i : Nat) {n : Nat} {a : Option Addr} {ps : List (Int × Int)} (e : l[i]? = some (.args n a ps)) : PairsAt W a ps := (h.get i e).1
theorem Facts.bel {W : World} {l : List Fact} (h : Facts W l) (i : Nat) {w : World} (e : l[i]? = some (.bel w)) : Below w.heap.size w W := h.get i e
theorem Facts.num {W : World} {l : List Fact} (h : Facts W l) (i : Nat) {p : Prop} (e : l[i]? = some (.num p)) : p := h.get i e
theorem Facts.push {W : World} {l : List Fact} (h : Facts W l) {f : Fact} (hf : f.holds W) : Facts W (l ++ [f]) := by
  intro g hg
  rcases List.mem_append.1 hg with e | e
  · exact h g e
  · simp at e; subst e; exact hf
theorem Facts.pushOwn {W : World} {l : List Fact} (h : Facts W l) {k : Nat} {vs : List Value} (hf : Own W k vs) : Facts W (l ++ [.own k vs]) := h.push hf
theorem Facts.pushHas {W : World} {l : List Fact} (h : Facts W l) {a : Option Addr} {ps : List (Int × Int)} {o : Option Nat} (hf : HasO W a ps o) : Facts W (l ++ [.has a ps o]) := h.push hf
theorem Facts.pushNum {W : World} {l : List Fact} (h : Facts W l) {p : Prop} (hf : p) : Facts W (l ++ [.num p]) := h.push hf
/-- A new cell block, at its number. -/
theorem Facts.cells {W : World} {l : List Fact} (h : Facts W l) (c : Array Value) (t : TypeId) : Facts (W.alloc (.cells c t)) (l ++ [.own W.heap.size c.toList]) := (h.alloc _).push (Own.new W c t)
/-- The block o was written: the fact at i, which is its own, is another one now. -/
theorem Facts.mark {W W' : World} {o : Option Nat} {l : List Fact} (h : Facts W l) (q : KeepO o W W') (i : Nat) {f2 : Fact} (hf : ∀ j f', j ≠ i → l[j]? = some f' → f'.free o) (hn : f2.holds W') : Facts W' (l.set i f2) := by
  intro g hg
  obtain ⟨j, hj⟩ := List.getElem?_of_mem hg
  by_cases e : i = j
  · subst e
    have hlt : i < l.length := by simpa using (List.getElem?_eq_some_iff.1 hj).1
    rw [List.getElem?_set_self hlt] at hj
    obtain rfl := Option.some.inj hj
    exact hn
  · rw [List.getElem?_set_ne e] at hj
    exact g.keep (h g (List.mem_of_getElem? hj)) q (hf j g (Ne.symm e) hj)
theorem args_of {n : Nat} {W : World} {a : Option Addr} {ps : List (Int × Int)} (h : PairsAt W a ps) (hn : W.heap.size = n) : Fact.holds W (.args n a ps) :=
  ⟨h, h.2.imp id fun ⟨rb, ro, ha, hlt, _⟩ => ⟨rb, ro, ha, by omega⟩⟩

end Go.Proofs.YteohgmmenlinbacDoor


/- The program's boxMade: its contract, for whatever function it is handed. -/
namespace Go.Proofs.YteohgmmenlinbacDoor
open Go.ChangeShapes Go.WideShapes Go.ChangeAt Go.RowKit
set_option linter.unusedVariables false

/-- A new box and a bool. -/
def BoxOut (w : World) (ps : List (Int × Int)) (k : Bool) (e : Ending) (w' : World) : Prop :=
  ∃ (a : Option Addr) (cap : Nat) (o : Option Nat), e = .returned (.tuple #[.agg #[.slice a ps.length cap], .bool k]) ∧ ps.length ≤ cap ∧ HasO w' a ps o ∧ (∀ G, o = some G → w.heap.size ≤ G) ∧ Below w.heap.size w w'

/-- The end of a function that returns a box and a bool. -/
theorem boxEnd {fn : Func} {p u : Tmp} (hres : fn.results = #[.cell p 25, .tmp u]) {w W : World} {T : Array Value} {R : Nat} {ps : List (Int × Int)} {a : Option Addr} {len cap : Nat} {o : Option Nat} {ok : Bool} {v : Value} (hlen : ps.length = len) (rs : Own W R [v]) (hb : Below w.heap.size w W) (hR : w.heap.size ≤ R)
    (hc : len ≤ cap) (hp : HasO W a ps o) (ho : ∀ G, o = some G → w.heap.size ≤ G) (hne : o ≠ some R)
    (ht : T.getD p undef = .pointer (some ⟨R, 0, none⟩)) (hk : T.getD u undef = .bool ok) :
    bodyPost Tryd.prog fn (BoxOut w ps ok) Exit.ret { tmps := T, defers := [] } (W.setCell ⟨R, 0, none⟩ (.slice a len cap)) := by
  have o1 := rs.set (i := 0) (.slice a len cap) (by simp)
  have c0 := o1.cell 0 _ rfl
  have bel := hb.setCell (p := ⟨R, 0, none⟩) hR (.slice a len cap)
  have hp' : HasO (W.setCell ⟨R, 0, none⟩ (.slice a len cap)) a ps o := hp.keepO ((KeepO.of_below (some R) (Below.refl _ W)).setCell _) (fun G hG e => hne (by rw [hG, e]))
  subst hlen
  generalize W.setCell ⟨R, 0, none⟩ (.slice a ps.length cap) = V at *
  refine bodyPost_ret (v := .tuple #[.agg #[.slice a ps.length cap], .bool ok]) ?_ rfl ⟨a, cap, o, rfl, hc, hp', ho, bel⟩
  rw [results_cell_tmp hres, ht, hk]
  simp [go_sem, c0]

def madeL (f : Nat → (Int × Int) × Bool) (n : Nat) : List (Int × Int) := (List.range n).map fun i => (f i).1
def madeB (f : Nat → (Int × Int) × Bool) (n : Nat) : Bool := (List.range n).all fun i => (f i).2
/-- What boxMade's box has. -/
def madeR (f : Nat → (Int × Int) × Bool) (n : Nat) : List (Int × Int) := if madeB f n = true then madeL f n else []
theorem madeL_length (f : Nat → (Int × Int) × Bool) (n : Nat) : (madeL f n).length = n := by simp [madeL]
theorem madeL_get {f : Nat → (Int × Int) × Bool} {n i : Nat} (h : i < n) : (madeL f n)[i]? = some (f i).1 := by simp [madeL, h]
theorem madeB_true {f : Nat → (Int × Int) × Bool} {n : Nat} (h : ∀ i, i < n → (f i).2 = true) : madeB f n = true := by
  unfold madeB
  rw [List.all_eq_true]
  exact fun i hi => h i (List.mem_range.1 hi)
theorem madeB_false {f : Nat → (Int × Int) × Bool} {n i : Nat} (hi : i < n) (h : (f i).2 = false) : madeB f n = false := by
  unfold madeB
  rw [List.all_eq_false]
  exact ⟨i, List.mem_range.2 hi, by rw [h]; decide⟩
theorem madeL_wf {f : Nat → (Int × Int) × Bool} {n : Nat} (h : ∀ i, i < n → (Lit.int .i64 (f i).1.1).wf = true ∧ (Lit.int .i64 (f i).1.2).wf = true) : ∀ p ∈ madeL f n, (Lit.int .i64 p.1).wf = true ∧ (Lit.int .i64 p.2).wf = true := by
  intro p hp
  obtain ⟨j, hj⟩ := List.getElem?_of_mem hp
  have hl : j < n := by have := (List.getElem?_eq_some_iff.1 hj).1; rw [madeL_length] at this; exact this
  rw [madeL_get hl] at hj
  obtain rfl := Option.some.inj hj
  exact h j hl

/-- What lies in memory between two rounds. -/
def MadeSt (w : World) (f : Nat → (Int × Int) × Bool) (n i : Nat) (W : World) : Prop :=
  ((∀ j, j < i → (f j).2 = true) ∧ CopySt w (w.heap.size + 1) n (madeL f n) i W) ∧ Own W w.heap.size [.slice none 0 0]

set_option maxHeartbeats 1000000 in
theorem boxMade (w : World) (n : Nat) (hn : n ≤ 1048576) (g : Nat) (caps : Array Value) (f : Nat → (Int × Int) × Bool)
    (eg : ∀ (args : Array Value) (w : World), Sem.run Tryd.prog (callFunc g args) w = Result.ok (Next.enter g args) w)
    (hf : ∀ i, i < n → (Lit.int .i64 (f i).1.1).wf = true ∧ (Lit.int .i64 (f i).1.2).wf = true)
    (hg : ∀ (i : Nat) W, i < n → Below w.heap.size w W → Calls Tryd.prog g (#[.int .i64 (i : Int)] ++ caps) W fun e W' => e = .returned (.tuple #[.agg #[.int .i64 (f i).1.1, .int .i64 (f i).1.2], .bool (f i).2]) ∧ Below W.heap.size W W') :
    Calls Tryd.prog 41 #[.int .i64 (n : Int), .func (.func g) #[] caps] w (BoxOut w (madeR f n) (madeB f n)) := by
  obtain ⟨i0, hi, hz0, hz1, hz2⟩ := info_parts infoPairB
  have hmk := fun W : World => run_make (P := Tryd.prog) W 23 40 i0 (.agg #[.int .i64 0, .int .i64 0]) Tryd.underlying23 hi hz0 .i64 .i64 (n : Int) (n : Int) (by omega) (Int.le_refl _) (by rw [hz2]; omega) (by omega)
  simp only [Int.toNat_natCast, hz1] at hmk
  clear hi hz0 hz1 hz2
  have A0 := Own.new w #[.slice none 0 0] 25
  have B0 := Own.new (w.alloc (.cells #[.slice none 0 0] 25)) (madeCells (Value.agg #[.int .i64 0, .int .i64 0]).cells (n * 2)) 40
  simp only [World.size_alloc] at B0
  have hsz : (madeCells (Value.agg #[.int .i64 0, .int .i64 0]).cells (n * 2)).toList.length = n * 2 := by simpa using size_madeCells _ _
  have S0 : Hid (MadeSt w f n 0 ((w.alloc (.cells #[.slice none 0 0] 25)).alloc (.cells (madeCells (Value.agg #[.int .i64 0, .int .i64 0]).cells (n * 2)) 40))) :=
    ⟨⟨fun j hj => absurd hj (by omega), ⟨_, hsz, B0, fun j hj => absurd hj (by omega)⟩, ((Below.refl _ w).alloc (Nat.le_refl _) _).alloc (by simp) _⟩, A0.alloc _⟩
  clear A0 B0 hsz
  go_enter Tryd.func41, Tryd.ntmps41
  go_wp2
  go_loopg [13] n (fun gq iv wr => ∃ i : Nat, i + gq = n ∧ iv = .int .i64 i ∧ Hid (MadeSt w f n i wr))
  case atStart => exact ⟨0, by omega, rfl, S0⟩
  case round =>
    clear S0
    obtain ⟨i, hi, rfl, S⟩ := hrel
    by_cases hlast : i < n
    · have hil : (i : Int) < n := by omega
      obtain ⟨⟨hall, ⟨vs, hv, ov, hc⟩, hb⟩, oR⟩ := S.out
      have hgi := hg i wr hlast hb
      obtain ⟨x, hx⟩ : ∃ x, (f i).1.1 = x := ⟨_, rfl⟩
      obtain ⟨y, hy⟩ : ∃ y, (f i).1.2 = y := ⟨_, rfl⟩
      have hpi : Hid ((madeL f n)[i]? = some (x, y)) := by show (madeL f n)[i]? = some (x, y); rw [madeL_get hlast, ← hx, ← hy]
      rw [hx, hy] at hgi
      clear hx hy
      have v0 : ∃ v, vs[i * 2]? = some v := ⟨vs[i * 2]'(by omega), List.getElem?_eq_getElem (by omega)⟩
      have v1 : ∃ v, vs[i * 2 + 1]? = some v := ⟨vs[i * 2 + 1]'(by omega), List.getElem?_eq_getElem (by omega)⟩
      obtain ⟨y0, v0⟩ := v0
      obtain ⟨y1, v1⟩ := v1
      have hcH : Hid (∀ j, j < i → ∀ p : Int × Int, (madeL f n)[j]? = some p → vs[j * 2]? = some (.int .i64 p.1) ∧ vs[j * 2 + 1]? = some (.int .i64 p.2)) := hc
      have hvH : Hid (vs.length = n * 2) := hv
      have haH : Hid (∀ j, j < i → (f j).2 = true) := hall
      clear hc hv hall S
      cases hk : (f i).2
      · have e1 : madeB f n = false := madeB_false hlast hk
        have e2 : madeR f n = [] := by unfold madeR; rw [e1]; rfl
        rw [hk] at hgi
        have e1H : Hid (madeB f n = false ∧ madeR f n = []) := ⟨e1, e2⟩
        clear e1 e2 hk
        go_wp2
        refine hgi.mono ?_
        clear hgi
        rintro e w2 ⟨rfl, q⟩
        have q2 : Below w2.heap.size w2 (w2.alloc (.cells #[.int .i64 x, .int .i64 y] 40)) := (Below.refl _ _).alloc (Nat.le_refl _) _
        have oR2 := (oR.below q).below q2
        have hb2 := (hb.trans (q.mono hb.size))
        replace hb2 := hb2.trans (q2.mono hb2.size)
        have r0 := oR2.cell 0 _ rfl
        have r1 := oR2.frz 0 _ rfl
        go_wp2
        refine boxEnd (ps := madeR f n) (o := none) rfl (by rw [e1H.out.2]; rfl) oR2 hb2 (Nat.le_refl _) (Nat.le_refl _) ?_ (fun G hG => by cases hG) (fun e => by cases e) rfl (by rw [e1H.out.1]; rfl)
        rw [e1H.out.2]
        exact ⟨fun p hp => by simp at hp, .inl ⟨rfl, rfl⟩⟩
      · rw [hk] at hgi
        have hkH : Hid ((f i).2 = true) := hk
        clear hk
        go_wp2
        refine hgi.mono ?_
        clear hgi
        rintro e w2 ⟨rfl, q⟩
        have q2 : Below w2.heap.size w2 (w2.alloc (.cells #[.int .i64 x, .int .i64 y] 40)) := (Below.refl _ _).alloc (Nat.le_refl _) _
        have oR2 := (oR.below q).below q2
        have ov2 := (ov.below q).below q2
        have hb2 := (hb.trans (q.mono hb.size))
        replace hb2 := hb2.trans (q2.mono hb2.size)
        have d0 := ov2.cell (i * 2) _ v0
        have d1 := ov2.cell (i * 2 + 1) _ v1
        have f0 := ov2.frz (i * 2) _ v0
        have f1 := ov2.frz (i * 2 + 1) _ v1
        go_wp2
        go_roundg (n - (i + 1))
        case measure => omega
        case rel =>
          refine ⟨i + 1, by omega, by go_num, ⟨⟨fun j hj => ?_, ⟨_, ?_, (ov2.set (i := i * 2) (.int .i64 x) (by rw [hvH.out]; omega)).set (i := i * 2 + 1) (.int .i64 y) (by rw [List.length_set, hvH.out]; omega), copy_step hvH.out hlast hpi.out hcH.out⟩, ?_⟩, ?_⟩⟩
          · by_cases e : j = i
            · subst e; exact hkH.out
            · exact haH.out j (by omega)
          · simpa using hvH.out
          · exact (hb2.setCell (p := ⟨w.heap.size + 1, i * 2, none⟩) (by simp) _).setCell (p := ⟨w.heap.size + 1, i * 2 + 1, none⟩) (by simp) _
          · exact (oR2.other _ (by omega)).other _ (by omega)
    · have hil : ¬ (i : Int) < n := by omega
      obtain ⟨⟨hall, ⟨vs, hv, ov, hc⟩, hb⟩, oR⟩ := S.out
      obtain rfl : i = n := by omega
      have e1 := madeB_true hall
      have e2 : madeR f i = madeL f i := by unfold madeR; rw [if_pos e1]
      have hP : HasO wr (some ⟨w.heap.size + 1, 0, none⟩) (madeL f i) (some (w.heap.size + 1)) := (ov.pairs fun j p hj => hc j (by have := (List.getElem?_eq_some_iff.1 hj).1; rw [madeL_length] at this; exact this) p hj).has (madeL_wf hf)
      have r0 := oR.cell 0 _ rfl
      have r1 := oR.frz 0 _ rfl
      have eH : Hid (madeB f i = true ∧ (madeR f i).length = i ∧ HasO wr (some ⟨w.heap.size + 1, 0, none⟩) (madeR f i) (some (w.heap.size + 1))) := ⟨e1, by rw [e2]; exact madeL_length f i, by rw [e2]; exact hP⟩
      clear hg hf hall hc e1 e2 hmk ov hP
      go_wp2
      exact boxEnd rfl eH.out.2.1 oR hb (Nat.le_refl _) (Nat.le_refl _) eH.out.2.2 (fun G hG => by have := Option.some.inj hG; omega) (fun e => by have := Option.some.inj e; omega) rfl (by rw [eH.out.1]; rfl)

end Go.Proofs.YteohgmmenlinbacDoor


/- The pair at a coordinate of a box. -/
namespace Go.Proofs.YteohgmmenlinbacDoor
open Go.ChangeShapes Go.WideShapes Go.ChangeAt Go.RowKit
set_option linter.unusedVariables false

abbrev at2 (ps : List (Int × Int)) (j : Nat) : Int × Int := ps[j]?.getD (0, 0)
theorem at2_of {ps : List (Int × Int)} {i : Nat} {p : Int × Int} (h : ps[i]? = some p) : at2 ps i = p := by unfold at2; rw [h]; rfl
theorem at2_get {ps : List (Int × Int)} {i : Nat} (h : i < ps.length) : ps[i]? = some (at2 ps i) := by
  rw [List.getElem?_eq_getElem h]
  congr 1
  exact (at2_of (List.getElem?_eq_getElem h)).symm

/-- The pair at a coordinate of a box, in memory. -/
theorem PairsAt.atD {W : World} {a : Option Addr} {ps : List (Int × Int)} (h : PairsAt W a ps) {i : Nat} (hi : i < ps.length) :
    ∃ rb ro, a = some ⟨rb, ro, none⟩ ∧ rb < W.heap.size ∧ W.cell? ⟨rb, ro + i * 2, none⟩ = some (.int .i64 (at2 ps i).1) ∧ W.cell? ⟨rb, ro + i * 2 + 1, none⟩ = some (.int .i64 (at2 ps i).2) := by
  obtain ⟨rb, ro, ha, hlt, hc⟩ := h.2.resolve_left (by intro e; rw [e] at hi; simp at hi)
  have hp : ps[i]? = some ps[i] := List.getElem?_eq_getElem hi
  refine ⟨rb, ro, ha, hlt, ?_⟩
  rw [at2_of hp]
  exact hc i _ hp
theorem PairsAt.wfD {W : World} {a : Option Addr} {ps : List (Int × Int)} (h : PairsAt W a ps) {i : Nat} (hi : i < ps.length) : (Lit.int .i64 (at2 ps i).1).wf = true ∧ (Lit.int .i64 (at2 ps i).2).wf = true := by
  have hp : ps[i]? = some ps[i] := List.getElem?_eq_getElem hi
  rw [at2_of hp]
  exact h.1 _ (List.mem_of_getElem? hp)


theorem bok_at {n : Int} {ps : List (Int × Int)} (h : bokI n ps = true) {i : Nat} (hi : i < ps.length) : pokI n (at2 ps i).1 (at2 ps i).2 = true := by
  unfold bokI at h
  simp only [Bool.and_eq_true, List.all_eq_true] at h
  exact h.2.2 _ (List.mem_of_getElem? (at2_get hi))

end Go.Proofs.YteohgmmenlinbacDoor


/- The program's small functions of chapter 1: contracts. -/
namespace Go.Proofs.YteohgmmenlinbacDoor
open Go.ChangeShapes Go.WideShapes Go.ChangeAt Go.RowKit
set_option linter.unusedVariables false

theorem meth_ne (w : World) : Sem.run Tryd.prog (method 250 89 (.agg #[]) "loop.example/pinbits/impl.exponentBits") w = .ok (83, .agg #[]) w := by kernel_rfl
theorem meth_nf (w : World) : Sem.run Tryd.prog (method 250 89 (.agg #[]) "loop.example/pinbits/impl.fractionBits") w = .ok (84, .agg #[]) w := by kernel_rfl
theorem meth_we (w : World) : Sem.run Tryd.prog (method 250 90 (.agg #[]) "loop.example/pinbits/impl.exponentBits") w = .ok (86, .agg #[]) w := by kernel_rfl
theorem meth_wf (w : World) : Sem.run Tryd.prog (method 250 90 (.agg #[]) "loop.example/pinbits/impl.fractionBits") w = .ok (87, .agg #[]) w := by kernel_rfl

theorem format32 (w : World) : Calls Tryd.prog 31 #[.int .i64 32] w fun e w' => e = .returned (.tuple #[.iface 89 (.agg #[]), .bool true]) ∧ w = w' := by
  go_enter Tryd.func31, Tryd.ntmps31
  go_wp2
  go_ret2
  exact ⟨rfl, rfl⟩

theorem format64 (w : World) : Calls Tryd.prog 31 #[.int .i64 64] w fun e w' => e = .returned (.tuple #[.iface 90 (.agg #[]), .bool true]) ∧ w = w' := by
  go_enter Tryd.func31, Tryd.ntmps31
  go_wp2
  go_ret2
  exact ⟨rfl, rfl⟩

theorem formatNo (w : World) (n : Int) (h1 : n ≠ 32) (h2 : n ≠ 64) : Calls Tryd.prog 31 #[.int .i64 n] w fun e w' => e = .returned (.tuple #[.nilIface, .bool false]) ∧ w = w' := by
  have e1 : (n == 32) = false := by simp; exact h1
  have e2 : (n == 64) = false := by simp; exact h2
  go_enter Tryd.func31, Tryd.ntmps31
  go_wp2
  go_ret2
  exact ⟨rfl, rfl⟩

theorem topOf32 (w : World) : Calls Tryd.prog 33 #[.iface 89 (.agg #[])] w fun e w' => e = .returned (.int .i64 2139095040) ∧ Below w.heap.size w w' := by
  have m1 := meth_ne
  have m2 := meth_nf
  go_enter Tryd.func33, Tryd.ntmps33
  go_wp2
  go_ret
  exact ⟨rfl, ((Below.refl _ _).alloc (Nat.le_refl _) _).alloc (by simp) _⟩

theorem topOf64 (w : World) : Calls Tryd.prog 33 #[.iface 90 (.agg #[])] w fun e w' => e = .returned (.int .i64 9218868437227405312) ∧ Below w.heap.size w w' := by
  have m1 := meth_we
  have m2 := meth_wf
  go_enter Tryd.func33, Tryd.ntmps33
  go_wp2
  go_ret
  exact ⟨rfl, ((Below.refl _ _).alloc (Nat.le_refl _) _).alloc (by simp) _⟩

theorem hasOrd32 (w : World) (x : Int) :
    Calls Tryd.prog 55 #[.iface 89 (.agg #[]), .int .i64 x] w fun e w' => e = .returned (.bool (okI 32 x)) ∧ Below w.heap.size w w' := by
  have ht := topOf32
  by_cases h2 : -2139095040 ≤ x
  · by_cases h3 : x ≤ 2139095040
    · rw [(okI_32 x).2 ⟨h2, h3⟩]
      go_enter Tryd.func55, Tryd.ntmps55
      go_wp2_with (go_at_call 33; go_must (refine (ht _).mono ?_); rintro e w1 ⟨rfl, hb⟩)
      go_ret
      rename_i hb1
      exact ⟨rfl, hb1.trans (hb.mono hb1.size)⟩
    · rw [show okI 32 x = false by rw [Bool.eq_false_iff, Ne, okI_32]; omega]
      have d3 : decide (x ≤ 2139095040) = false := by simp; omega
      go_enter Tryd.func55, Tryd.ntmps55
      go_wp2_with (go_at_call 33; go_must (refine (ht _).mono ?_); rintro e w1 ⟨rfl, hb⟩)
      go_ret
      rename_i hb1
      exact ⟨rfl, hb1.trans (hb.mono hb1.size)⟩
  · rw [show okI 32 x = false by rw [Bool.eq_false_iff, Ne, okI_32]; omega]
    have d3 : decide (-2139095040 ≤ x) = false := by simp; omega
    go_enter Tryd.func55, Tryd.ntmps55
    go_wp2_with (go_at_call 33; go_must (refine (ht _).mono ?_); rintro e w1 ⟨rfl, hb⟩)
    go_ret
    exact ⟨rfl, hb⟩

theorem hasOrd64 (w : World) (x : Int) :
    Calls Tryd.prog 55 #[.iface 90 (.agg #[]), .int .i64 x] w fun e w' => e = .returned (.bool (okI 64 x)) ∧ Below w.heap.size w w' := by
  have ht := topOf64
  by_cases h2 : -9218868437227405312 ≤ x
  · by_cases h3 : x ≤ 9218868437227405312
    · rw [(okI_64 x).2 ⟨h2, h3⟩]
      go_enter Tryd.func55, Tryd.ntmps55
      go_wp2_with (go_at_call 33; go_must (refine (ht _).mono ?_); rintro e w1 ⟨rfl, hb⟩)
      go_ret
      rename_i hb1
      exact ⟨rfl, hb1.trans (hb.mono hb1.size)⟩
    · rw [show okI 64 x = false by rw [Bool.eq_false_iff, Ne, okI_64]; omega]
      have d3 : decide (x ≤ 9218868437227405312) = false := by simp; omega
      go_enter Tryd.func55, Tryd.ntmps55
      go_wp2_with (go_at_call 33; go_must (refine (ht _).mono ?_); rintro e w1 ⟨rfl, hb⟩)
      go_ret
      rename_i hb1
      exact ⟨rfl, hb1.trans (hb.mono hb1.size)⟩
  · rw [show okI 64 x = false by rw [Bool.eq_false_iff, Ne, okI_64]; omega]
    have d3 : decide (-9218868437227405312 ≤ x) = false := by simp; omega
    go_enter Tryd.func55, Tryd.ntmps55
    go_wp2_with (go_at_call 33; go_must (refine (ht _).mono ?_); rintro e w1 ⟨rfl, hb⟩)
    go_ret
    exact ⟨rfl, hb⟩

theorem implOk32 (w : World) (x : Int) (hx : (Lit.int .i64 x).wf = true) :
    Calls Tryd.prog 39 #[.int .i64 32, .int .i64 x] w fun e w' => e = .returned (.bool (okI 32 x)) ∧ Below w.heap.size w w' := by
  have hf := format32 w
  have ht := hasOrd32 w x
  generalize okI 32 x = k at *
  go_enter Tryd.func39, Tryd.ntmps39
  go_wp2_with first | (go_at_call 31; go_must (refine hf.mono ?_); clear hf; rintro e w1 ⟨rfl, rfl⟩) | (go_at_call 55; go_must (refine ht.mono ?_); clear ht; rintro e w1 ⟨rfl, hb⟩)
  go_ret
  exact ⟨rfl, hb⟩

theorem implOk64 (w : World) (x : Int) (hx : (Lit.int .i64 x).wf = true) :
    Calls Tryd.prog 39 #[.int .i64 64, .int .i64 x] w fun e w' => e = .returned (.bool (okI 64 x)) ∧ Below w.heap.size w w' := by
  have hf := format64 w
  have ht := hasOrd64 w x
  generalize okI 64 x = k at *
  go_enter Tryd.func39, Tryd.ntmps39
  go_wp2_with first | (go_at_call 31; go_must (refine hf.mono ?_); clear hf; rintro e w1 ⟨rfl, rfl⟩) | (go_at_call 55; go_must (refine ht.mono ?_); clear ht; rintro e w1 ⟨rfl, hb⟩)
  go_ret
  exact ⟨rfl, hb⟩

theorem okI_no {n x : Int} (h1 : n ≠ 32) (h2 : n ≠ 64) : okI n x = false := by
  unfold okI
  simp [h1, h2]

theorem implOkNo (w : World) (n x : Int) (h1 : n ≠ 32) (h2 : n ≠ 64) :
    Calls Tryd.prog 39 #[.int .i64 n, .int .i64 x] w fun e w' => e = .returned (.bool false) ∧ Below w.heap.size w w' := by
  have hf := formatNo w n h1 h2
  go_enter Tryd.func39, Tryd.ntmps39
  go_wp2_with (go_at_call 31; go_must (refine hf.mono ?_); clear hf; rintro e w1 ⟨rfl, rfl⟩)
  go_ret
  exact ⟨rfl, Below.refl _ _⟩

/-- The program's BitOk at every width. -/
theorem implOk (w : World) (n x : Int) (hx : (Lit.int .i64 x).wf = true) :
    Calls Tryd.prog 39 #[.int .i64 n, .int .i64 x] w fun e w' => e = .returned (.bool (okI n x)) ∧ Below w.heap.size w w' := by
  by_cases h1 : n = 32
  · subst h1; exact implOk32 w x hx
  · by_cases h2 : n = 64
    · subst h2; exact implOk64 w x hx
    · rw [okI_no h1 h2]; exact implOkNo w n x h1 h2

end Go.Proofs.YteohgmmenlinbacDoor


/- The program's BitTop at every argument: its contract. -/
namespace Go.Proofs.YteohgmmenlinbacDoor
open Go.ChangeShapes Go.WideShapes Go.ChangeAt Go.RowKit
set_option linter.unusedVariables false

theorem implTop (w : World) (n : Int) : Calls Tryd.prog 52 #[.int .i64 n] w fun e w' => e = .returned (.int .i64 (topI n)) ∧ Below w.heap.size w w' := by
  by_cases h1 : n = 32
  · subst h1
    have hf := format32 w
    have ht := topOf32
    rw [show topI 32 = 2139095040 from rfl]
    go_enter Tryd.func52, Tryd.ntmps52
    go_wp2_with first | (go_at_call 31; go_must (refine hf.mono ?_); clear hf; rintro e w1 ⟨rfl, rfl⟩) | (go_at_call 33; go_must (refine (ht _).mono ?_); rintro e w1 ⟨rfl, hb⟩)
    go_ret
    exact ⟨rfl, hb⟩
  · by_cases h2 : n = 64
    · subst h2
      have hf := format64 w
      have ht := topOf64
      rw [show topI 64 = 9218868437227405312 from rfl]
      go_enter Tryd.func52, Tryd.ntmps52
      go_wp2_with first | (go_at_call 31; go_must (refine hf.mono ?_); clear hf; rintro e w1 ⟨rfl, rfl⟩) | (go_at_call 33; go_must (refine (ht _).mono ?_); rintro e w1 ⟨rfl, hb⟩)
      go_ret
      exact ⟨rfl, hb⟩
    · have hf := formatNo w n h1 h2
      have e : topI n = 0 := by unfold topI; rw [if_neg h1, if_neg h2]
      rw [e]
      clear e
      go_enter Tryd.func52, Tryd.ntmps52
      go_wp2_with (go_at_call 31; go_must (refine hf.mono ?_); clear hf; rintro e w1 ⟨rfl, rfl⟩)
      go_ret
      exact ⟨rfl, Below.refl _ _⟩

theorem okI_bounds {n x : Int} (h : okI n x = true) : -(topI n) ≤ x ∧ x ≤ topI n := by
  unfold okI at h
  simp only [Bool.and_eq_true, decide_eq_true_eq] at h
  exact h.2

end Go.Proofs.YteohgmmenlinbacDoor


/- A region that draws its order, whose callees leave the blocks that lay there as they were: walked once. No program is named here. -/
namespace Go.Proofs.YteohgmmenlinbacDoor
open Go.RowKit

theorem region_below {P : Program} {id : Nat} {Q : Exit → Act → World → Prop} {a : Act} {w : World} {l : List Oper} (hm : P.follows .mixedOrders = true) (hB : Region.lexB .any l.toArray = true)
    (h : wpQuiet P l.toArray (fun W => Below w.heap.size w W) (fun a' => ∀ W, Below w.heap.size w W → Q .normal a' W) l a) : (Code.region id l.toArray true).wp P Q a w :=
  wp_region_quiet (C := fun W => Below w.heap.size w W) hm hB ((Below.refl _ w).drew) (by simpa using h)

theorem Calls.qb {P : Program} {f : FuncId} {args : Array Value} {w W : World} {v : Value} (hC : Below w.heap.size w W)
    (h : Calls P f args W fun e W' => e = .returned v ∧ Below W.heap.size W W') : Calls P f args W fun e W' => e = .returned v ∧ Below w.heap.size w W' :=
  h.mono fun _ _ ⟨he, q⟩ => ⟨he, hC.trans (q.mono hC.size)⟩

theorem Calls.qs {P : Program} {f : FuncId} {args : Array Value} {w W : World} {v : Value} (hC : Below w.heap.size w W)
    (h : Calls P f args W fun e W' => e = .returned v ∧ W = W') : Calls P f args W fun e W' => e = .returned v ∧ Below w.heap.size w W' :=
  h.mono fun _ _ ⟨he, q⟩ => ⟨he, q ▸ hC⟩

end Go.Proofs.YteohgmmenlinbacDoor


/- The program's PairOk: its contract. -/
namespace Go.Proofs.YteohgmmenlinbacDoor
open Go.ChangeShapes Go.WideShapes Go.ChangeAt Go.RowKit
set_option linter.unusedVariables false

set_option maxHeartbeats 1000000 in
theorem implPairOk (w : World) (n lo hi : Int) (h1 : (Lit.int .i64 lo).wf = true) (h2 : (Lit.int .i64 hi).wf = true) :
    Calls Tryd.prog 37 #[.int .i64 n, .agg #[.int .i64 lo, .int .i64 hi]] w fun e w' => e = .returned (.bool (pokI n lo hi)) ∧ Below w.heap.size w w' := by
  have ht := fun W => implTop W n
  have ha := fun W => implOk W n lo h1
  have hB := fun W => implOk W n hi h2
  have tb := topI_bounds n
  have ba : okI n lo = true → lo ≤ topI n := fun h => (okI_bounds h).2
  have bb : okI n hi = true → -(topI n) ≤ hi := fun h => (okI_bounds h).1
  unfold pokI
  generalize topI n = t at *
  generalize okI n lo = A at *
  generalize okI n hi = B at *
  cases A
  · clear ba bb
    go_enter Tryd.func37, Tryd.ntmps37
    go_wp2_with first
      | (go_at_call 39; refine (ha _).mono ?_; clear ha; rintro e w1 ⟨rfl, q⟩; have o := (Own.new w _ _).below q; have hb := ((Below.refl _ w).alloc (Nat.le_refl _) _).trans (q.mono (by simp)); clear q; have c0 := o.cell 0 _ rfl; have c1 := o.cell 1 _ rfl)
      | (go_at_call 39; refine (hB _).mono ?_; clear hB; rintro e w2 ⟨rfl, q⟩; replace o := o.below q; replace hb := hb.trans (q.mono hb.size); clear q; have d0 := o.cell 0 _ rfl; have d1 := o.cell 1 _ rfl)
      | (go_at_call 52; refine (ht _).mono ?_; rintro e w3 ⟨rfl, q⟩; replace o := o.below q; replace hb := hb.trans (q.mono hb.size); clear q; have f0 := o.cell 0 _ rfl; have f1 := o.cell 1 _ rfl)
    go_ret
    exact ⟨by simp, hb⟩
  · cases B
    · clear ba bb
      go_enter Tryd.func37, Tryd.ntmps37
      go_wp2_with first
        | (go_at_call 39; refine (ha _).mono ?_; clear ha; rintro e w1 ⟨rfl, q⟩; have o := (Own.new w _ _).below q; have hb := ((Below.refl _ w).alloc (Nat.le_refl _) _).trans (q.mono (by simp)); clear q; have c0 := o.cell 0 _ rfl; have c1 := o.cell 1 _ rfl)
        | (go_at_call 39; refine (hB _).mono ?_; clear hB; rintro e w2 ⟨rfl, q⟩; replace o := o.below q; replace hb := hb.trans (q.mono hb.size); clear q; have d0 := o.cell 0 _ rfl; have d1 := o.cell 1 _ rfl)
        | (go_at_call 52; refine (ht _).mono ?_; rintro e w3 ⟨rfl, q⟩; replace o := o.below q; replace hb := hb.trans (q.mono hb.size); clear q; have f0 := o.cell 0 _ rfl; have f1 := o.cell 1 _ rfl)
      go_ret
      exact ⟨by simp, hb⟩
    · have ba' := ba rfl
      have bb' := bb rfl
      clear ba bb
      by_cases k1 : lo ≤ hi
      · by_cases k2 : lo < t
        · by_cases k3 : -t < hi
          · have e1 : (lo != t) = true := by simp; omega
            have e2 : (hi != -t) = true := by simp; omega
            go_enter Tryd.func37, Tryd.ntmps37
            go_wp2_with first
              | (go_at_call 39; refine (ha _).mono ?_; clear ha; rintro e w1 ⟨rfl, q⟩; have o := (Own.new w _ _).below q; have hb := ((Below.refl _ w).alloc (Nat.le_refl _) _).trans (q.mono (by simp)); clear q; have c0 := o.cell 0 _ rfl; have c1 := o.cell 1 _ rfl)
              | (go_at_call 39; refine (hB _).mono ?_; clear hB; rintro e w2 ⟨rfl, q⟩; replace o := o.below q; replace hb := hb.trans (q.mono hb.size); clear q; have d0 := o.cell 0 _ rfl; have d1 := o.cell 1 _ rfl)
              | (go_at_call 52; refine (ht _).mono ?_; rintro e w3 ⟨rfl, q⟩; replace o := o.below q; replace hb := hb.trans (q.mono hb.size); clear q; have f0 := o.cell 0 _ rfl; have f1 := o.cell 1 _ rfl)
            have ol := o.lt
            refine region_below (by kernel_rfl) (by kernel_rfl) ?_
            repeat (go_big_quiet_step (first
              | (intro _; rfl)
              | (intro hC; rw [(hC.cell (p := ⟨w.heap.size, 0, none⟩) ol).trans d0]; exact ⟨rfl, rfl⟩)
              | (intro hC; rw [(hC.cell (p := ⟨w.heap.size, 1, none⟩) ol).trans d1]; exact ⟨rfl, rfl⟩)
              | (intro hC; go_at_call 52; exact Calls.qb hC (ht _))))
            refine wpQuiet_nil ?_
            intro w4 q4
            replace hb := hb.trans (q4.mono hb.size)
            go_wp2
            go_ret
            exact ⟨by simp [k1, k2, k3], hb⟩
          · have e1 : (lo != t) = true := by simp; omega
            have e2 : (hi != -t) = false := by simp; omega
            have d : decide (-t < hi) = false := by simp; omega
            go_enter Tryd.func37, Tryd.ntmps37
            go_wp2_with first
              | (go_at_call 39; refine (ha _).mono ?_; clear ha; rintro e w1 ⟨rfl, q⟩; have o := (Own.new w _ _).below q; have hb := ((Below.refl _ w).alloc (Nat.le_refl _) _).trans (q.mono (by simp)); clear q; have c0 := o.cell 0 _ rfl; have c1 := o.cell 1 _ rfl)
              | (go_at_call 39; refine (hB _).mono ?_; clear hB; rintro e w2 ⟨rfl, q⟩; replace o := o.below q; replace hb := hb.trans (q.mono hb.size); clear q; have d0 := o.cell 0 _ rfl; have d1 := o.cell 1 _ rfl)
              | (go_at_call 52; refine (ht _).mono ?_; rintro e w3 ⟨rfl, q⟩; replace o := o.below q; replace hb := hb.trans (q.mono hb.size); clear q; have f0 := o.cell 0 _ rfl; have f1 := o.cell 1 _ rfl)
            have ol := o.lt
            refine region_below (by kernel_rfl) (by kernel_rfl) ?_
            repeat (go_big_quiet_step (first
              | (intro _; rfl)
              | (intro hC; rw [(hC.cell (p := ⟨w.heap.size, 0, none⟩) ol).trans d0]; exact ⟨rfl, rfl⟩)
              | (intro hC; rw [(hC.cell (p := ⟨w.heap.size, 1, none⟩) ol).trans d1]; exact ⟨rfl, rfl⟩)
              | (intro hC; go_at_call 52; exact Calls.qb hC (ht _))))
            refine wpQuiet_nil ?_
            intro w4 q4
            replace hb := hb.trans (q4.mono hb.size)
            go_wp2
            go_ret
            exact ⟨by simp [d], hb⟩
        · have e1 : (lo != t) = false := by simp; omega
          have d : decide (lo < t) = false := by simp; omega
          go_enter Tryd.func37, Tryd.ntmps37
          go_wp2_with first
            | (go_at_call 39; refine (ha _).mono ?_; clear ha; rintro e w1 ⟨rfl, q⟩; have o := (Own.new w _ _).below q; have hb := ((Below.refl _ w).alloc (Nat.le_refl _) _).trans (q.mono (by simp)); clear q; have c0 := o.cell 0 _ rfl; have c1 := o.cell 1 _ rfl)
            | (go_at_call 39; refine (hB _).mono ?_; clear hB; rintro e w2 ⟨rfl, q⟩; replace o := o.below q; replace hb := hb.trans (q.mono hb.size); clear q; have d0 := o.cell 0 _ rfl; have d1 := o.cell 1 _ rfl)
            | (go_at_call 52; refine (ht _).mono ?_; rintro e w3 ⟨rfl, q⟩; replace o := o.below q; replace hb := hb.trans (q.mono hb.size); clear q; have f0 := o.cell 0 _ rfl; have f1 := o.cell 1 _ rfl)
          have ol := o.lt
          refine region_below (by kernel_rfl) (by kernel_rfl) ?_
          repeat (go_big_quiet_step (first
            | (intro _; rfl)
            | (intro hC; rw [(hC.cell (p := ⟨w.heap.size, 0, none⟩) ol).trans d0]; exact ⟨rfl, rfl⟩)
            | (intro hC; rw [(hC.cell (p := ⟨w.heap.size, 1, none⟩) ol).trans d1]; exact ⟨rfl, rfl⟩)
            | (intro hC; go_at_call 52; exact Calls.qb hC (ht _))))
          refine wpQuiet_nil ?_
          intro w4 q4
          replace hb := hb.trans (q4.mono hb.size)
          go_wp2
          go_ret
          exact ⟨by simp [d], hb⟩
      · have d : decide (lo ≤ hi) = false := by simp; omega
        go_enter Tryd.func37, Tryd.ntmps37
        go_wp2_with first
          | (go_at_call 39; refine (ha _).mono ?_; clear ha; rintro e w1 ⟨rfl, q⟩; have o := (Own.new w _ _).below q; have hb := ((Below.refl _ w).alloc (Nat.le_refl _) _).trans (q.mono (by simp)); clear q; have c0 := o.cell 0 _ rfl; have c1 := o.cell 1 _ rfl)
          | (go_at_call 39; refine (hB _).mono ?_; clear hB; rintro e w2 ⟨rfl, q⟩; replace o := o.below q; replace hb := hb.trans (q.mono hb.size); clear q; have d0 := o.cell 0 _ rfl; have d1 := o.cell 1 _ rfl)
          | (go_at_call 52; refine (ht _).mono ?_; rintro e w3 ⟨rfl, q⟩; replace o := o.below q; replace hb := hb.trans (q.mono hb.size); clear q; have f0 := o.cell 0 _ rfl; have f1 := o.cell 1 _ rfl)
        go_ret
        exact ⟨by simp [d], hb⟩

end Go.Proofs.YteohgmmenlinbacDoor


/- The end of a function that returns a pair and a bool, or two pairs and a bool. -/
namespace Go.Proofs.YteohgmmenlinbacDoor
open Go.ChangeShapes Go.WideShapes Go.ChangeAt Go.RowKit
set_option linter.unusedVariables false

def TwoOut2 (w : World) (x y x' y' : Int) (k : Bool) (e : Ending) (w' : World) : Prop := e = .returned (.tuple #[.agg #[.int .i64 x, .int .i64 y], .agg #[.int .i64 x', .int .i64 y'], .bool k]) ∧ Below w.heap.size w w'

/-- Two pairs of the caller's own lie there, as they were laid. -/
theorem two_pairs (w : World) (x0 y0 x1 y1 : Int) (t : TypeId) :
    Own ((w.alloc (.cells #[.int .i64 x0, .int .i64 y0] t)).alloc (.cells #[.int .i64 x1, .int .i64 y1] t)) w.heap.size [.int .i64 x0, .int .i64 y0] ∧
    Own ((w.alloc (.cells #[.int .i64 x0, .int .i64 y0] t)).alloc (.cells #[.int .i64 x1, .int .i64 y1] t)) (w.heap.size + 1) [.int .i64 x1, .int .i64 y1] := by
  refine ⟨(Own.new w _ _).alloc _, ?_⟩
  have := Own.new (w.alloc (.cells #[.int .i64 x0, .int .i64 y0] t)) #[.int .i64 x1, .int .i64 y1] t
  rwa [World.size_alloc] at this

def PairOut (w : World) (x y : Int) (k : Bool) (e : Ending) (w' : World) : Prop := e = .returned (.tuple #[.agg #[.int .i64 x, .int .i64 y], .bool k]) ∧ Below w.heap.size w w'

/-- The end of a function that returns a pair and a bool. -/
theorem pairEnd {fn : Func} {p u : Tmp} (hres : fn.results = #[.cell p 40, .tmp u]) {w W : World} {T : Array Value} {R : Nat} {a b : Value} {x y : Int} {ok : Bool} (rs : Own W R [a, b]) (hb : Below w.heap.size w W) (hR : w.heap.size ≤ R)
    (ht : T.getD p undef = .pointer (some ⟨R, 0, none⟩)) (hk : T.getD u undef = .bool ok) :
    bodyPost Tryd.prog fn (PairOut w x y ok) Exit.ret { tmps := T, defers := [] } ((W.setCell ⟨R, 0, none⟩ (.int .i64 x)).setCell ⟨R, 1, none⟩ (.int .i64 y)) := by
  have o := (rs.set (i := 0) (.int .i64 x) (by simp)).set (i := 1) (.int .i64 y) (by simp)
  have c0 := o.cell 0 _ rfl
  have c1 := o.cell 1 _ rfl
  have bel := (hb.setCell (p := ⟨R, 0, none⟩) hR (.int .i64 x)).setCell (p := ⟨R, 1, none⟩) hR (.int .i64 y)
  generalize (W.setCell ⟨R, 0, none⟩ (.int .i64 x)).setCell ⟨R, 1, none⟩ (.int .i64 y) = V at *
  refine bodyPost_ret (v := .tuple #[.agg #[.int .i64 x, .int .i64 y], .bool ok]) ?_ rfl ⟨rfl, bel⟩
  rw [results_cell_tmp hres, ht, hk]
  simp [go_sem, c0, c1]

theorem pairEndO {fn : Func} {p u : Tmp} (hres : fn.results = #[.cell p 40, .tmp u]) {w W : World} {T : Array Value} {R : Nat} {x y : Int} {ok : Bool} (rs : Own W R [.int .i64 x, .int .i64 y]) (hb : Below w.heap.size w W)
    (ht : T.getD p undef = .pointer (some ⟨R, 0, none⟩)) (hk : T.getD u undef = .bool ok) :
    bodyPost Tryd.prog fn (PairOut w x y ok) Exit.ret { tmps := T, defers := [] } W := by
  have c0 := rs.cell 0 _ rfl
  have c1 := rs.cell 1 _ rfl
  refine bodyPost_ret (v := .tuple #[.agg #[.int .i64 x, .int .i64 y], .bool ok]) ?_ rfl ⟨rfl, hb⟩
  rw [results_cell_tmp hres, ht, hk]
  simp [go_sem, c0, c1]

end Go.Proofs.YteohgmmenlinbacDoor


/- BitGap of the program: its contract. -/
namespace Go.Proofs.YteohgmmenlinbacDoor
open Go.ChangeShapes Go.WideShapes Go.ChangeAt Go.RowKit
set_option linter.unusedVariables false

theorem implGap (w : World) (lo hi : Int) (h1 : (Lit.int .i64 lo).wf = true) (h2 : (Lit.int .i64 hi).wf = true) :
    Calls Tryd.prog 60 #[.int .i64 lo, .int .i64 hi] w fun e w' => e = .returned (.int .u64 (gapI lo hi)) ∧ w = w' := by
  by_cases h : hi < lo
  · have e : gapI lo hi = 0 := by unfold gapI; rw [if_pos h]
    rw [e]
    clear e
    go_enter Tryd.func60, Tryd.ntmps60
    go_wp2
    go_ret
    exact ⟨rfl, rfl⟩
  · rw [← gap_eq h1 h2 h]
    go_enter Tryd.func60, Tryd.ntmps60
    go_wp2
    go_ret
    exact ⟨rfl, rfl⟩

end Go.Proofs.YteohgmmenlinbacDoor


/- The program's spans; the model's steps of a pair: contracts. -/
namespace Go.Proofs.YteohgmmenlinbacDoor
open Go.ChangeShapes Go.WideShapes Go.ChangeAt Go.RowKit
set_option linter.unusedVariables false

def SpanOut (w : World) (x y g : Int) (e : Ending) (w' : World) : Prop := e = .returned (.agg #[.int .i64 x, .int .i64 y, .int .u64 g]) ∧ Below w.heap.size w w'

set_option maxHeartbeats 2000000 in
theorem spanOf (w : World) (x y : Int) (h1 : (Lit.int .i64 x).wf = true) (h2 : (Lit.int .i64 y).wf = true) :
    Calls Tryd.prog 54 #[.agg #[.int .i64 x, .int .i64 y]] w (SpanOut w x y (gapI x y)) := by
  have hg := fun W => implGap W x y h1 h2
  generalize gapI x y = g at *
  have o0 := (Own.new w #[.int .i64 x, .int .i64 y] 40).alloc (.cells #[.int .i64 0, .int .i64 0, .int .u64 0] 45)
  have o2 := Own.new (w.alloc (.cells #[.int .i64 x, .int .i64 y] 40)) #[.int .i64 0, .int .i64 0, .int .u64 0] 45
  rw [World.size_alloc] at o2
  have hb := ((Below.refl _ w).alloc (Nat.le_refl _) (.cells #[.int .i64 x, .int .i64 y] 40)).alloc (by simp) (.cells #[.int .i64 0, .int .i64 0, .int .u64 0] 45)
  go_enter Tryd.func54, Tryd.ntmps54
  go_wp2
  generalize (w.alloc (.cells #[.int .i64 x, .int .i64 y] 40)).alloc (.cells #[.int .i64 0, .int .i64 0, .int .u64 0] 45) = WA at *
  have c0 := o0.cell 0 _ rfl
  have c1 := o0.cell 1 _ rfl
  have l0 := o0.lt
  have l2 := o2.lt
  refine region_steps (by kernel_rfl) (by kernel_rfl) (by kernel_rfl) (fun A0 f a W => ∃ (x3 : Value) (x4 : Value) (x5 : Value) (x6 : Value) (x7 : Value) (x8 : Value) (x9 : Value), a = { tmps := #[.agg #[.int .i64 x, .int .i64 y], .pointer (some ⟨w.heap.size, 0, none⟩), .pointer (some ⟨w.heap.size + 1, 0, none⟩), x3, x4, x5, x6, x7, x8, x9], defers := [] } ∧ (f 0 = true → x3 = .agg #[.int .i64 x, .int .i64 y]) ∧ (f 1 = true → x4 = .pointer (some ⟨w.heap.size, 0, none⟩)) ∧ (f 2 = true → x5 = .int .i64 x) ∧ (f 3 = true → x6 = .pointer (some ⟨w.heap.size, 1, none⟩)) ∧ (f 4 = true → x7 = .int .i64 y) ∧ (f 5 = true → x8 = .int .u64 g) ∧ (f 6 = true → x9 = .agg #[.int .i64 x, .int .i64 y, .int .u64 g]) ∧ ((f 7 = false → Own W (w.heap.size + 1) [.int .i64 0, .int .i64 0, .int .u64 0]) ∧ (f 7 = true → Own W (w.heap.size + 1) [.int .i64 x, .int .i64 y, .int .u64 g])) ∧ Keep (w.heap.size + 1) WA W) ?_ ⟨?_, ?_, ?_, ?_, ?_, ?_, ?_, ?_, trivial⟩ ?_
  · exact ⟨undef, undef, undef, undef, undef, undef, undef, rfl, (fun h => (by cases h)), (fun h => (by cases h)), (fun h => (by cases h)), (fun h => (by cases h)), (fun h => (by cases h)), (fun h => (by cases h)), (fun h => (by cases h)), ⟨fun _ => o2.drew, (fun h => (by cases h))⟩, (Keep.refl _ _).drew⟩
  · rintro f a W ⟨x3, x4, x5, x6, x7, x8, x9, rfl, h0, h1, h2, h3, h4, h5, h6, rz, hB⟩ hf hd K hK
    have r0 := (hB.cell (p := ⟨w.heap.size, 0, none⟩) l0 (show (w.heap.size : Nat) ≠ w.heap.size + 1 by omega)).trans c0
    have r1 := (hB.cell (p := ⟨w.heap.size, 1, none⟩) l0 (show (w.heap.size : Nat) ≠ w.heap.size + 1 by omega)).trans c1
    go_simp
    refine hK _ _ ?_
    exact ⟨_, x4, x5, x6, x7, x8, x9, rfl, fun _ => rfl, fun h => h1 (upd_ne (by decide) h), fun h => h2 (upd_ne (by decide) h), fun h => h3 (upd_ne (by decide) h), fun h => h4 (upd_ne (by decide) h), fun h => h5 (upd_ne (by decide) h), fun h => h6 (upd_ne (by decide) h), (by obtain ⟨p4, p5⟩ := rz; exact ⟨fun h' => p4 (by rw [upd_same (by decide)] at h'; exact h'), fun h' => p5 (upd_ne (by decide) h')⟩), hB⟩
  · rintro f a W ⟨x3, x4, x5, x6, x7, x8, x9, rfl, h0, h1, h2, h3, h4, h5, h6, rz, hB⟩ hf hd K hK
    go_simp
    refine hK _ _ ?_
    exact ⟨x3, _, x5, x6, x7, x8, x9, rfl, fun h => h0 (upd_ne (by decide) h), fun _ => rfl, fun h => h2 (upd_ne (by decide) h), fun h => h3 (upd_ne (by decide) h), fun h => h4 (upd_ne (by decide) h), fun h => h5 (upd_ne (by decide) h), fun h => h6 (upd_ne (by decide) h), (by obtain ⟨p4, p5⟩ := rz; exact ⟨fun h' => p4 (by rw [upd_same (by decide)] at h'; exact h'), fun h' => p5 (upd_ne (by decide) h')⟩), hB⟩
  · rintro f a W ⟨x3, x4, x5, x6, x7, x8, x9, rfl, h0, h1, h2, h3, h4, h5, h6, rz, hB⟩ hf hd K hK
    have e1 := h1 (dep_of hd (e := ⟨1, .data⟩) (by simp) rfl)
    subst e1
    have r0 := (hB.cell (p := ⟨w.heap.size, 0, none⟩) l0 (show (w.heap.size : Nat) ≠ w.heap.size + 1 by omega)).trans c0
    go_simp
    refine hK _ _ ?_
    exact ⟨x3, _, _, x6, x7, x8, x9, rfl, fun h => h0 (upd_ne (by decide) h), fun _ => rfl, fun _ => rfl, fun h => h3 (upd_ne (by decide) h), fun h => h4 (upd_ne (by decide) h), fun h => h5 (upd_ne (by decide) h), fun h => h6 (upd_ne (by decide) h), (by obtain ⟨p4, p5⟩ := rz; exact ⟨fun h' => p4 (by rw [upd_same (by decide)] at h'; exact h'), fun h' => p5 (upd_ne (by decide) h')⟩), hB⟩
  · rintro f a W ⟨x3, x4, x5, x6, x7, x8, x9, rfl, h0, h1, h2, h3, h4, h5, h6, rz, hB⟩ hf hd K hK
    go_simp
    refine hK _ _ ?_
    exact ⟨x3, x4, x5, _, x7, x8, x9, rfl, fun h => h0 (upd_ne (by decide) h), fun h => h1 (upd_ne (by decide) h), fun h => h2 (upd_ne (by decide) h), fun _ => rfl, fun h => h4 (upd_ne (by decide) h), fun h => h5 (upd_ne (by decide) h), fun h => h6 (upd_ne (by decide) h), (by obtain ⟨p4, p5⟩ := rz; exact ⟨fun h' => p4 (by rw [upd_same (by decide)] at h'; exact h'), fun h' => p5 (upd_ne (by decide) h')⟩), hB⟩
  · rintro f a W ⟨x3, x4, x5, x6, x7, x8, x9, rfl, h0, h1, h2, h3, h4, h5, h6, rz, hB⟩ hf hd K hK
    have e3 := h3 (dep_of hd (e := ⟨3, .data⟩) (by simp) rfl)
    subst e3
    have r0 := (hB.cell (p := ⟨w.heap.size, 1, none⟩) l0 (show (w.heap.size : Nat) ≠ w.heap.size + 1 by omega)).trans c1
    go_simp
    refine hK _ _ ?_
    exact ⟨x3, x4, x5, _, _, x8, x9, rfl, fun h => h0 (upd_ne (by decide) h), fun h => h1 (upd_ne (by decide) h), fun h => h2 (upd_ne (by decide) h), fun _ => rfl, fun _ => rfl, fun h => h5 (upd_ne (by decide) h), fun h => h6 (upd_ne (by decide) h), (by obtain ⟨p4, p5⟩ := rz; exact ⟨fun h' => p4 (by rw [upd_same (by decide)] at h'; exact h'), fun h' => p5 (upd_ne (by decide) h')⟩), hB⟩
  · rintro f a W ⟨x3, x4, x5, x6, x7, x8, x9, rfl, h0, h1, h2, h3, h4, h5, h6, rz, hB⟩ hf hd K hK
    have e2 := h2 (dep_of hd (e := ⟨2, .data⟩) (by simp) rfl)
    subst e2
    have e4 := h4 (dep_of hd (e := ⟨4, .data⟩) (by simp) rfl)
    subst e4
    go_simp
    refine (hg _).mono ?_
    rintro e W2 ⟨rfl, rfl⟩
    refine hK _ _ ?_
    exact ⟨x3, x4, _, x6, _, _, x9, rfl, fun h => h0 (upd_ne (by decide) h), fun h => h1 (upd_ne (by decide) h), fun _ => rfl, fun h => h3 (upd_ne (by decide) h), fun _ => rfl, fun _ => rfl, fun h => h6 (upd_ne (by decide) h), (by obtain ⟨p4, p5⟩ := rz; exact ⟨fun h' => p4 (by rw [upd_same (by decide)] at h'; exact h'), fun h' => p5 (upd_ne (by decide) h')⟩), hB⟩
  · rintro f a W ⟨x3, x4, x5, x6, x7, x8, x9, rfl, h0, h1, h2, h3, h4, h5, h6, rz, hB⟩ hf hd K hK
    have e0 := h0 (dep_of hd (e := ⟨0, .data⟩) (by simp) rfl)
    subst e0
    have e5 := h5 (dep_of hd (e := ⟨5, .data⟩) (by simp) rfl)
    subst e5
    go_simp
    refine hK _ _ ?_
    exact ⟨_, x4, x5, x6, x7, _, _, rfl, fun _ => rfl, fun h => h1 (upd_ne (by decide) h), fun h => h2 (upd_ne (by decide) h), fun h => h3 (upd_ne (by decide) h), fun h => h4 (upd_ne (by decide) h), fun _ => rfl, fun _ => rfl, (by obtain ⟨p4, p5⟩ := rz; exact ⟨fun h' => p4 (by rw [upd_same (by decide)] at h'; exact h'), fun h' => p5 (upd_ne (by decide) h')⟩), hB⟩
  · rintro f a W ⟨x3, x4, x5, x6, x7, x8, x9, rfl, h0, h1, h2, h3, h4, h5, h6, rz, hB⟩ hf hd K hK
    have e6 := h6 (dep_of hd (e := ⟨6, .data⟩) (by simp) rfl)
    subst e6
    have oz := rz.1 hf
    have r0 := oz.cell 0 _ rfl
    have o0 := oz.frz 0 _ rfl
    have r1 := oz.cell 1 _ rfl
    have o1 := oz.frz 1 _ rfl
    have r2 := oz.cell 2 _ rfl
    have o2 := oz.frz 2 _ rfl
    go_simp
    refine hK _ _ ?_
    exact ⟨x3, x4, x5, x6, x7, x8, _, rfl, fun h => h0 (upd_ne (by decide) h), fun h => h1 (upd_ne (by decide) h), fun h => h2 (upd_ne (by decide) h), fun h => h3 (upd_ne (by decide) h), fun h => h4 (upd_ne (by decide) h), fun h => h5 (upd_ne (by decide) h), fun _ => rfl, ⟨fun h' => (by rw [upd_self] at h'; cases h'), fun _ => Own.set (i := 2) (Own.set (i := 1) (Own.set (i := 0) (oz) _ (by simp)) _ (by simp)) _ (by simp)⟩, (((hB.setCell (p := ⟨w.heap.size + 1, 0, none⟩) rfl _).setCell (p := ⟨w.heap.size + 1, 1, none⟩) rfl _).setCell (p := ⟨w.heap.size + 1, 2, none⟩) rfl _)⟩
  rintro f a WC ⟨x3, x4, x5, x6, x7, x8, x9, rfl, h0, h1, h2, h3, h4, h5, h6, rz, qB⟩ hall
  have e0 := h0 (hall 0 (by decide))
  subst e0
  have e1 := h1 (hall 1 (by decide))
  subst e1
  have e2 := h2 (hall 2 (by decide))
  subst e2
  have e3 := h3 (hall 3 (by decide))
  subst e3
  have e4 := h4 (hall 4 (by decide))
  subst e4
  have e5 := h5 (hall 5 (by decide))
  subst e5
  have e6 := h6 (hall 6 (by decide))
  subst e6
  replace rz := rz.2 (hall 7 (by decide))
  clear hall h0 h1 h2 h3 h4 h5 h6
  try dsimp only
  go_wp2
  have s0 := rz.cell 0 _ rfl
  have s1 := rz.cell 1 _ rfl
  have s2 := rz.cell 2 _ rfl
  refine bodyPost_ret (v := .agg #[.int .i64 x, .int .i64 y, .int .u64 g]) ?_ rfl ⟨rfl, hb.trans (qB.below (by omega) hb.size)⟩
  simp [results, Tryd.f54, go_sem, s0, s1, s2]

theorem field1 (a b c : Value) (w : World) : Sem.run Tryd.prog (Instr.field 45 (.agg #[a, b, c]) 1) w = .ok c w := by kernel_rfl
theorem field0 (a b c : Value) (w : World) : Sem.run Tryd.prog (Instr.field 45 (.agg #[a, b, c]) 0) w = .ok (.agg #[a, b]) w := by kernel_rfl

end Go.Proofs.YteohgmmenlinbacDoor


/- The program's walk over the coordinates of a box: the iterator's contract. -/
namespace Go.Proofs.YteohgmmenlinbacDoor
open Go.RowKit Go.Shelf
attribute [local go_sem] Oper.semAt_some
set_option linter.unusedVariables false

/-- The first k coordinates of so many. -/
def uptoF (len k : Nat) : List (Fin len) := (List.finRange len).take k
theorem uptoF_succ {len k : Nat} (h : k < len) : uptoF len (k + 1) = uptoF len k ++ [⟨k, h⟩] := by
  simp [uptoF, List.take_add_one, h]
theorem uptoF_length {len k : Nat} (h : k ≤ len) : (uptoF len k).length = k := by simp [uptoF]; omega

abbrev encP (los his : Nat → Int) {len : Nat} (x : Fin len) : Array Value := #[.int .i64 (x.1 : Int), .agg #[.int .i64 (los x.1), .int .i64 (his x.1), .int .u64 (gapI (los x.1) (his x.1))]]

/-- All blocks below n₀ but V are as they were. -/
structure BelowX (V n₀ : Nat) (w w' : World) : Prop where
  os : w'.os = w.os
  tape : w'.tape = w.tape
  output : w'.output = w.output
  size : w.heap.size ≤ w'.heap.size
  block : ∀ k, k < n₀ → k ≠ V → w'.heap[k]? = w.heap[k]?

theorem BelowX.refl (V n₀ : Nat) (w : World) : BelowX V n₀ w w := ⟨rfl, rfl, rfl, Nat.le_refl _, fun _ _ _ => rfl⟩
theorem BelowX.trans {V n₀ : Nat} {a b c : World} (h : BelowX V n₀ a b) (k : BelowX V n₀ b c) : BelowX V n₀ a c :=
  ⟨k.os.trans h.os, k.tape.trans h.tape, k.output.trans h.output, Nat.le_trans h.size k.size, fun i hi hv => (k.block i hi hv).trans (h.block i hi hv)⟩
theorem BelowX.of {V n₀ n : Nat} {a b : World} (h : Below n a b) (hn : n₀ ≤ n) : BelowX V n₀ a b := ⟨h.os, h.tape, h.output, h.size, fun k hk _ => h.block k (by omega)⟩
theorem BelowX.cell {V n₀ : Nat} {w w' : World} (h : BelowX V n₀ w w') {p : Addr} (h1 : p.block < n₀) (h2 : p.block ≠ V) : w'.cell? p = w.cell? p := by
  simp only [World.cell?, h.block p.block h1 h2]
theorem BelowX.setCell {V n₀ i : Nat} {a w : World} (h : BelowX V n₀ a w) (u : Value) : BelowX V n₀ a (w.setCell ⟨V, i, none⟩ u) :=
  h.trans ⟨rfl, rfl, rfl, by simp [World.setCell], fun k hk hv => Below.heap_setCell _ _ _ _ hv⟩
theorem belowX_b {V n₀ : Nat} {w : World} (hn : n₀ ≤ w.heap.size) (W : World) (l : Nat) (o o' : Obj) (hl : w.heap.size ≤ l) (h : W.heap[l]? = some o) (h1 : o.isCells = false) (h2 : o.isWalk = false) : BelowX V n₀ W (W.putObj l o') :=
  .of (belowK_b hn W l o o' hl h h1 h2) (Nat.le_refl _)

/-- The pairs of a box lie so, in a block below n₀ that is not V. -/
def LiesP (V n₀ : Nat) (W : World) (a : Option Addr) (len : Nat) (los his : Nat → Int) : Prop :=
  (∀ j, j < len → (Lit.int .i64 (los j)).wf = true ∧ (Lit.int .i64 (his j)).wf = true) ∧ (len = 0 ∨ ∃ rb ro, a = some ⟨rb, ro, none⟩ ∧ (rb < n₀ ∧ rb ≠ V) ∧ ∀ j, j < len → W.cell? ⟨rb, ro + j * 2, none⟩ = some (.int .i64 (los j)) ∧ W.cell? ⟨rb, ro + j * 2 + 1, none⟩ = some (.int .i64 (his j)))

theorem LiesP.below {V n₀ : Nat} {W W' : World} {a : Option Addr} {len : Nat} {los his : Nat → Int} (h : LiesP V n₀ W a len los his) (q : BelowX V n₀ W W') : LiesP V n₀ W' a len los his := by
  refine ⟨h.1, ?_⟩
  rcases h.2 with h | ⟨rb, ro, ha, hlt, hc⟩
  · exact .inl h
  · exact .inr ⟨rb, ro, ha, hlt, fun j hj => ⟨(q.cell (p := ⟨rb, ro + j * 2, none⟩) hlt.1 hlt.2).trans (hc j hj).1, (q.cell (p := ⟨rb, ro + j * 2 + 1, none⟩) hlt.1 hlt.2).trans (hc j hj).2⟩⟩

theorem LiesP.mono {V n₀ n₁ : Nat} {W : World} {a : Option Addr} {len : Nat} {los his : Nat → Int} (h : LiesP V n₀ W a len los his) (hn : n₀ ≤ n₁) : LiesP V n₁ W a len los his :=
  ⟨h.1, h.2.imp id fun ⟨rb, ro, ha, hlt, hc⟩ => ⟨rb, ro, ha, ⟨by omega, hlt.2⟩, hc⟩⟩

theorem PairsAt.lies {W : World} {a : Option Addr} {ps : List (Int × Int)} (h : PairsAt W a ps) {V n₀ : Nat} (hV : W.heap.size ≤ V) (hn : W.heap.size ≤ n₀) : LiesP V n₀ W a ps.length (fun j => (ps[j]?.getD (0, 0)).1) (fun j => (ps[j]?.getD (0, 0)).2) := by
  refine ⟨fun j hj => ?_, ?_⟩
  · have := h.1 ps[j] (List.getElem_mem hj)
    dsimp only
    rw [List.getElem?_eq_getElem hj]
    exact this
  · rcases h.2 with h | ⟨rb, ro, ha, hlt, hc⟩
    · exact .inl (by rw [h]; rfl)
    · refine .inr ⟨rb, ro, ha, ⟨by omega, by omega⟩, fun j hj => ?_⟩
      dsimp only
      rw [List.getElem?_eq_getElem hj]
      exact hc j ps[j] (List.getElem?_eq_getElem hj)

theorem grown_of_below {W W' : World} (q : Below W.heap.size W W') : W.grownBy W' none := ⟨q.os, q.tape, q.output, q.size, fun k hk _ => q.block k hk⟩
theorem keeps_of_below {B : Nat} {W W' : World} (q : Below W.heap.size W W') : KeepsFrom B W W' := .of_grownBy (grown_of_below q) (fun _ e => by cases e)

set_option maxRecDepth 100000 in
set_option maxHeartbeats 2000000 in
theorem spans1_in (n : Nat) (hn : 1 ≤ n) (l Bn V n₀ len cap : Nat) (a : Option Addr) (los his : Nat → Int) (hl : len ≤ cap) (hm : len ≤ 1048576) (hBn : Bn < n₀ ∧ Bn ≠ V) (J Jx : List (Fin len) → World → Prop)
    (hJ : ∀ s A B, J s A → Below A.heap.size A B → J s B)
    (hY : ∀ pre x W, J pre W → pre.length < len → YieldAt Fence.wide (n - 1) Tryd.prog l (encP los his x) W fun e W' => (e = .returned (.bool true) ∧ J (pre ++ [x]) W' ∧ BelowX V n₀ W W') ∨ (e = .returned (.bool false) ∧ Jx (pre ++ [x]) W'))
    (W : World) (hBs : W.cell? ⟨Bn, 0, none⟩ = some (.slice a len cap)) (hc : LiesP V n₀ W a len los his) (h0 : J [] W) (hn0 : n₀ ≤ W.heap.size) :
    CallsIn Fence.wide n Tryd.prog 53 #[.func (.yield l) #[] #[], .pointer (some ⟨Bn, 0, none⟩)] W fun e W' => (∃ v, e = .returned v) ∧
      ((∃ ys, ys = uptoF len len ∧ J ys W') ∨ (∃ pre, (∃ k, k ≤ len ∧ pre = uptoF len k) ∧ Jx pre W')) := by
  refine callsIn_of_wp Tryd.func53 rfl trivial ?_ rfl
  simp only [Tryd.ntmps53, List.size_toArray, List.length_cons, List.length_nil, Nat.reduceAdd, Nat.reduceSub, Array.replicate_succ, Array.replicate_zero, List.push_toArray, List.append_toArray, List.nil_append, List.cons_append]
  gi_wp2
  gi_loopw [7] (fun i wr => ∃ k : Nat, k ≤ len ∧ i = .int .i64 k ∧ J (uptoF len k) wr ∧ BelowX V n₀ W wr)
    (fun i _ => len - (intOf i).toNat)
  case atStart => exact ⟨0, Nat.zero_le _, rfl, h0, BelowX.refl _ _ _⟩
  case round =>
    obtain ⟨k, hk, rfl, hJs, hnx⟩ := hrel
    by_cases hlt : k < len
    · have hcx := (hc.below hnx)
      have hw := hcx.1 k hlt
      obtain ⟨rb, ro, rfl, hrb, hcs⟩ := hcx.2.resolve_left (by omega)
      have hBx := (hnx.cell (p := ⟨Bn, 0, none⟩) hBn.1 hBn.2).trans hBs
      have c0 := (hcs k hlt).1
      have c1 := (hcs k hlt).2
      clear hcs hcx hc hBs
      obtain ⟨lo, hlo⟩ : ∃ lo, los k = lo := ⟨_, rfl⟩
      obtain ⟨hi, hhi⟩ : ∃ hi, his k = hi := ⟨_, rfl⟩
      rw [hlo] at c0 hw
      rw [hhi] at c1 hw
      have hil : (k : Int) < len := by omega
      gi_wp2_with (refine ⟨trivial, ?_⟩; gi_at_call 54; refine (callsIn_wide.2 (spanOf _ lo hi hw.1 hw.2)).mono ?_; rintro e w2 ⟨rfl, q⟩; have hJ2 := hJ _ _ _ hJs q; obtain ⟨fn, tmps, assign, body, hy, hR⟩ := hY _ ⟨k, hlt⟩ w2 hJ2 (by rw [uptoF_length hk]; exact hlt); dsimp only [encP] at hy; rw [hlo, hhi] at hy)
      refine hR.mono ?_
      rintro e W3 (⟨rfl, hJ3, hk3⟩ | ⟨rfl, hJx3⟩)
      · gi_wp2
        go_roundw
        case rel => exact ⟨k + 1, by omega, by go_num, by rw [uptoF_succ hlt]; exact hJ3, hnx.trans ((BelowX.of q (Nat.le_trans hn0 hnx.size)).trans hk3)⟩
        case measure => simp [intOf]; omega
      · gi_wp2
        refine bodyPost_ret (results_none rfl _ _ _) rfl ?_
        exact ⟨⟨_, rfl⟩, .inr ⟨_, ⟨k + 1, by omega, (uptoF_succ hlt).symm⟩, hJx3⟩⟩
    · obtain rfl : k = len := by omega
      gi_wp2
      go_end0
      exact ⟨⟨_, rfl⟩, .inl ⟨_, rfl, hJs⟩⟩

theorem spans_stops (n : Nat) (hn : 1 ≤ n) (Bn V n₀ len cap : Nat) (a : Option Addr) (los his : Nat → Int) (hl : len ≤ cap) (hm : len ≤ 1048576) (w : World) (hBn : Bn < n₀ ∧ Bn ≠ V) (hn0 : n₀ ≤ w.heap.size) (hBs : w.cell? ⟨Bn, 0, none⟩ = some (.slice a len cap)) (hc : LiesP V n₀ w a len los his) :
    SeqStopsK Fence.wide n Tryd.prog 53 #[.pointer (some ⟨Bn, 0, none⟩)] (encP los his (len := len)) (BelowX V n₀) (fun ys => ys = uptoF len len) (fun pre => ∃ k, k ≤ len ∧ pre = uptoF len k) len w :=
  fun l J Jx W hW hJ _ hY h0 => spans1_in n hn l Bn V n₀ len cap a los his hl hm hBn J Jx (fun s A B hA q => hJ s A B none hA (grown_of_below q) (fun _ e => by cases e)) hY W
    ((hW.cell (p := ⟨Bn, 0, none⟩) (Nat.lt_of_lt_of_le hBn.1 hn0)).trans hBs) (hc.below (BelowX.of hW hn0)) h0 (Nat.le_trans hn0 hW.size)

theorem spans_in (n : Nat) (a : Option Addr) (len cap : Nat) (w : World) :
    CallsIn Fence.wide n Tryd.prog 38 #[.agg #[.slice a len cap]] w fun e w' => e = .returned (.func (.func 53) #[] #[.pointer (some ⟨w.heap.size, 0, none⟩)]) ∧ w' = w.alloc (.cells #[.slice a len cap] 25) := by
  refine callsIn_of_wp Tryd.func38 rfl trivial ?_ rfl
  simp only [Tryd.ntmps38, List.size_toArray, List.length_cons, List.length_nil, Nat.reduceAdd, Nat.reduceSub, Array.replicate_succ, Array.replicate_zero, List.push_toArray, List.append_toArray, List.nil_append, List.cons_append]
  gi_wp2
  go_ret
  exact ⟨rfl, rfl⟩

end Go.Proofs.YteohgmmenlinbacDoor


/- The program's firstThat: its contract, for whatever function it is handed. -/
namespace Go.Proofs.YteohgmmenlinbacDoor
open Go.RowKit Go.Shelf
attribute [local go_sem] Oper.semAt_some
set_option linter.unusedVariables false

/-- A block of cells, whole. -/
def BoxedA (W : World) (B : Nat) (t : TypeId) (vs : Array Value) : Prop := W.heap[B]? = some (.cells vs t (0, 0))
theorem BoxedA.lt {W : World} {B : Nat} {t : TypeId} {vs : Array Value} (h : BoxedA W B t vs) : B < W.heap.size := (Array.getElem?_eq_some_iff.1 h).1
theorem BoxedA.cell {W : World} {B : Nat} {t : TypeId} {vs : Array Value} (h : BoxedA W B t vs) (i : Nat) (v : Value) (hv : vs[i]? = some v) : W.cell? ⟨B, i, none⟩ = some v := by simp [World.cell?, show W.heap[B]? = _ from h, hv]
theorem BoxedA.below {W W' : World} {B : Nat} {t : TypeId} {vs : Array Value} (h : BoxedA W B t vs) (q : Below W.heap.size W W') : BoxedA W' B t vs := (q.block B h.lt).trans h
theorem BoxedA.own {W W' : World} {row : Option Nat} {B : Nat} {t : TypeId} {vs : Array Value} (h : BoxedA W B t vs) (hg : W.grownBy W' row) (hr : ∀ r, row = some r → ∃ o : Obj, W.heap[r]? = some o ∧ o.isCells = false) : BoxedA W' B t vs :=
  (hg.block B h.lt (fun e' => by obtain ⟨o, ho, hc⟩ := hr B e'.symm; rw [show W.heap[B]? = _ from h] at ho; cases ho; cases hc)).trans h
theorem BoxedA.new (W : World) (t : TypeId) (vs : Array Value) : BoxedA (W.alloc (.cells vs t)) W.heap.size t vs := World.alloc_heap_new W _
theorem boxedBelow {W W' : World} {B : Nat} {t : TypeId} {v : Value} (h : Boxed W B t v) (q : Below W.heap.size W W') : Boxed W' B t v := (q.block B h.lt).trans h

/-- What firstThat answers of coordinates that fit or not. -/
def FirstOut (w : World) (len : Nat) (p : Fin len → Bool) (e : Ending) (w' : World) : Prop :=
  ∃ r : Int, e = .returned (.int .i64 r) ∧ ((r = -1 ∧ ∀ x, p x = false) ∨ (∃ x : Fin len, r = (x.1 : Int) ∧ p x = true ∧ ∀ y, y.1 < x.1 → p y = false)) ∧ Below w.heap.size w w'

set_option maxRecDepth 100000 in
set_option maxHeartbeats 2000000 in
theorem firstThat (w : World) (a : Option Addr) (len cap : Nat) (los his : Nat → Int) (hl : len ≤ cap) (hm : len ≤ 1048576) (hI : LiesP (w.heap.size + 4) w.heap.size w a len los his) (g C : Nat)
    (eg : ∀ (args : Array Value) (w : World), Sem.run Tryd.prog (callFunc g args) w = Result.ok (Next.enter g args) w) (p : Fin len → Bool)
    (hg : ∀ (x : Fin len) W, Below w.heap.size w W → Calls Tryd.prog g #[.int .i64 (x.1 : Int), .agg #[.int .i64 (los x.1), .int .i64 (his x.1), .int .u64 (gapI (los x.1) (his x.1))], .pointer (some ⟨C, 0, none⟩)] W fun e W' => e = .returned (.bool (p x)) ∧ Below W.heap.size W W') :
    Calls Tryd.prog 22 #[.agg #[.slice a len cap], .func (.func g) #[] #[.pointer (some ⟨C, 0, none⟩)]] w (FirstOut w len p) := by
  refine (callsIn_wide (n := 5)).1 ?_
  refine callsIn_of_wp_marks Tryd.func22 rfl trivial ?_ rfl
  simp only [Tryd.ntmps22, List.size_toArray, List.length_cons, List.length_nil, Nat.reduceAdd, Nat.reduceSub, Array.replicate_succ, Array.replicate_zero, List.push_toArray, List.append_toArray, List.nil_append, List.cons_append]
  gi_wp2_with (refine ⟨trivial, ?_⟩; gi_at_call 38; refine (spans_in 4 _ _ _ _).mono ?_; rintro e w' ⟨rfl, rfl⟩)
  have bF := ((Boxed.new (w.alloc (.cells #[.slice a len cap] 25)) 55 (.func (.func g) #[] #[.pointer (some ⟨C, 0, none⟩)])).alloc (.cells #[.int .i64 0] 3)).alloc (.cells #[.slice a len cap] 25)
  have bR := (Boxed.new ((w.alloc (.cells #[.slice a len cap] 25)).alloc (.cells #[.func (.func g) #[] #[.pointer (some ⟨C, 0, none⟩)]] 55)) 3 (.int .i64 0)).alloc (.cells #[.slice a len cap] 25)
  have bN := Boxed.new (((w.alloc (.cells #[.slice a len cap] 25)).alloc (.cells #[.func (.func g) #[] #[.pointer (some ⟨C, 0, none⟩)]] 55)).alloc (.cells #[.int .i64 0] 3)) 25 (.slice a len cap)
  simp only [World.size_alloc] at bF bR bN
  have hB0 : Below w.heap.size w ((((w.alloc (.cells #[.slice a len cap] 25)).alloc (.cells #[.func (.func g) #[] #[.pointer (some ⟨C, 0, none⟩)]] 55)).alloc (.cells #[.int .i64 0] 3)).alloc (.cells #[.slice a len cap] 25)) :=
    ((((Below.refl _ w).alloc (Nat.le_refl _) _).alloc (by simp) _).alloc (by simp; omega) _).alloc (by simp; omega) _
  have hsz : ((((w.alloc (.cells #[.slice a len cap] 25)).alloc (.cells #[.func (.func g) #[] #[.pointer (some ⟨C, 0, none⟩)]] 55)).alloc (.cells #[.int .i64 0] 3)).alloc (.cells #[.slice a len cap] 25)).heap.size = w.heap.size + 4 := by simp
  obtain ⟨W0, hW0⟩ : ∃ W0, (((w.alloc (.cells #[.slice a len cap] 25)).alloc (.cells #[.func (.func g) #[] #[.pointer (some ⟨C, 0, none⟩)]] 55)).alloc (.cells #[.int .i64 0] 3)).alloc (.cells #[.slice a len cap] 25) = W0 := ⟨_, rfl⟩
  rw [hW0] at bF bR bN hB0 hsz ⊢
  clear hW0
  refine wpIn_rangeFunc_ownH rfl (by omega) (gf := 53) (lb := #[.pointer (some ⟨w.heap.size + 1 + 1 + 1, 0, none⟩)]) rfl trivial (enters_of Tryd.func53 (by kernel_rfl) rfl)
    (spans_stops 4 (by omega) (w.heap.size + 1 + 1 + 1) (w.heap.size + 4) (w.heap.size + 4) len cap a los his hl hm W0 ⟨by omega, by omega⟩ (by omega) bN.cell ((hI.below (BelowX.of hB0 (Nat.le_refl _))).mono (by omega))) BelowX.trans (belowX_b (by omega)) (Below.refl _ _) (fun _ => rfl)
    (fun pre W => ((∀ x ∈ pre, p x = false) ∧ (Boxed W (w.heap.size + 1) 55 (.func (.func g) #[] #[.pointer (some ⟨C, 0, none⟩)]) ∧ Boxed W (w.heap.size + 1 + 1) 3 (.int .i64 0) ∧ Boxed W (w.heap.size + 1 + 1 + 1) 25 (.slice a len cap))) ∧ Below w.heap.size w W)
    (fun c pre W => (∃ ini last, (c = .ret ∧ pre = ini ++ [last] ∧ (∀ x ∈ ini, p x = false) ∧ p last = true) ∧ Boxed W (w.heap.size + 1 + 1) 3 (.int .i64 (last.1 : Int))) ∧ Below w.heap.size w W)
    (OwnFrom.and (OwnFrom.and (ownFrom_pure _ _) (OwnFrom.and (Own.from (boxed_own _ _ _) _) (OwnFrom.and (Own.from (boxed_own _ _ _) _) (Own.from (boxed_own _ _ _) _)))) (ownFrom_below (Nat.le_refl _) (by omega)))
    (fun c => OwnFrom.and (fun s A B row hs hg' hr => by obtain ⟨ini, last, h1, h2⟩ := hs; exact ⟨ini, last, h1, boxed_own (w.heap.size + 1 + 1) 3 (fun (_ : Unit) => Value.int .i64 (last.1 : Int)) () A B row h2 hg' (fun r e => (hr r e).2)⟩) (ownFrom_below (Nat.le_refl _) (by omega)))
    ⟨⟨by simp, bF, bR, bN⟩, hB0⟩
    (fun x a' W => ∃ Bx, (a' = { tmps := #[.agg #[.slice a len cap], .func (.func g) #[] #[.pointer (some ⟨C, 0, none⟩)], .pointer (some ⟨w.heap.size, 0, none⟩), .pointer (some ⟨w.heap.size + 1, 0, none⟩), .pointer (some ⟨w.heap.size + 1 + 1, 0, none⟩), .int .i64 (x.1 : Int), .pointer (some ⟨Bx, 0, none⟩), .agg #[.slice a len cap], .func (.func 53) #[] #[.pointer (some ⟨w.heap.size + 1 + 1 + 1, 0, none⟩)], .int .i64 (x.1 : Int), .agg #[.int .i64 (los x.1), .int .i64 (his x.1), .int .u64 (gapI (los x.1) (his x.1))], undef, undef, undef, undef, undef], defers := [] }) ∧ BoxedA W Bx 45 #[.int .i64 (los x.1), .int .i64 (his x.1), .int .u64 (gapI (los x.1) (his x.1))])
    (fun x a' _ X Y row hs hg' hr => by obtain ⟨Bx, h1, h2⟩ := hs; exact ⟨Bx, h1, h2.own hg' (fun r e => (hr r e).2)⟩)
    ?assign ?body ?done ?stop
  case assign =>
    rintro l pre x W K ⟨⟨hp, bF1, bR1, bN1⟩, hB1⟩ hK
    gi_wp2
    have q1 : Below W.heap.size W (W.alloc (.cells #[.int .i64 (los x.1), .int .i64 (his x.1), .int .u64 (gapI (los x.1) (his x.1))] 45)) := (Below.refl _ W).alloc (Nat.le_refl _) _
    exact hK _ _ (keeps_of_below q1) (BelowX.of q1 (by have := bN1.lt; omega)) ⟨⟨hp, boxedBelow bF1 q1, boxedBelow bR1 q1, boxedBelow bN1 q1⟩, hB1.trans (q1.mono hB1.size)⟩ ⟨W.heap.size, rfl, BoxedA.new W _ _⟩
  case body =>
    rintro l pre x a' W hl' ⟨r, hr⟩ ⟨⟨hp, bF1, bR1, bN1⟩, hB1⟩ ⟨Bx, rfl, bX⟩ hlt
    have cF := bF1.cell
    have cR := bR1.cell
    have fR := bR1.frozen
    have x0 := bX.cell 0 (.int .i64 (los x.1)) rfl
    have x1 := bX.cell 1 (.int .i64 (his x.1)) rfl
    have x2 := bX.cell 2 (.int .u64 (gapI (los x.1) (his x.1))) rfl
    have hgx := hg x W hB1
    gi_wp2
    refine ⟨trivial, ?_⟩
    refine (CallsIn.inRound l (callsIn_wide.2 hgx)).mono ?_
    rintro e W2 ⟨rfl, q⟩
    have hB2 := hB1.trans (q.mono hB1.size)
    have bF2 := boxedBelow bF1 q
    have bR2 := boxedBelow bR1 q
    have bN2 := boxedBelow bN1 q
    have cR2 := bR2.cell
    have fR2 := bR2.frozen
    cases hpx : p x
    · gi_wp2
      refine ⟨keeps_of_below q, BelowX.of q (by have := bN1.lt; omega), ⟨fun y hy => ?_, bF2, bR2, bN2⟩, hB2⟩
      rcases List.mem_append.1 hy with h | h
      · exact hp y h
      · simp at h; subst h; exact hpx
    · gi_wp2
      exact ⟨(keeps_of_below q).trans ((KeepsOthers.setCell _ _ _).from _), ⟨pre, x, ⟨rfl, rfl, hp, hpx⟩, bR2.set _⟩, hB2.setCell (p := ⟨w.heap.size + 1 + 1, 0, none⟩) (by simp; omega) _⟩
  case done =>
    rintro D ys W hD rfl ⟨⟨hne, bF1, bR1, bN1⟩, hB⟩ hK
    have cR := bR1.cell
    have fR := bR1.frozen
    gi_wp2
    have hK' := (KeepsOthers.setCell W ⟨w.heap.size + 1 + 1, 0, none⟩ (.int .i64 (-1))).same D _ hK rfl
    refine ⟨by simp, .inl ⟨_, _, rfl, run_takeDeferred hK', ?_⟩⟩
    have hc5 := cell_kept (World.cell?_setCell_same' W ⟨w.heap.size + 1 + 1, 0, none⟩ (.int .i64 (-1)) (by rw [cR]; rfl)) (grownBy_putObj' _ D (.deferred none)) (fun r e => by cases e; exact ⟨_, hK', rfl⟩)
    refine ⟨.int .i64 (-1), ?_, -1, rfl, .inl ⟨rfl, fun x => hne x (by rw [uptoF, List.take_of_length_le (by simp)]; exact List.mem_finRange x)⟩, (hB.setCell (p := ⟨w.heap.size + 1 + 1, 0, none⟩) (by simp; omega) _).trans (belowK_b (w := w) (Nat.le_refl _) _ D _ _ (by omega) hK' rfl rfl)⟩
    simp [results, Tryd.f22, go_sem, hc5]
  case stop =>
    rintro D c pre W hD ⟨k, hk, rfl⟩ ⟨⟨ini, last, ⟨rfl, e1, e2, e3⟩, bR1⟩, hB⟩ hK
    have hcr := bR1.cell
    gi_wp2
    refine ⟨by simp, .inl ⟨_, _, rfl, run_takeDeferred hK, ?_⟩⟩
    have hc5 := cell_kept hcr (grownBy_putObj' _ D (.deferred none)) (fun r e => by cases e; exact ⟨_, hK, rfl⟩)
    obtain ⟨k', rfl⟩ : ∃ k', k = k' + 1 := by
      cases k with
      | zero => simp [uptoF] at e1
      | succ k' => exact ⟨k', rfl⟩
    rw [uptoF_succ (by omega)] at e1
    obtain ⟨rfl, e5⟩ := List.append_inj' e1 rfl
    have e6 : (⟨k', by omega⟩ : Fin len) = last := by simpa using e5
    subst e6
    refine ⟨.int .i64 (k' : Int), ?_, (k' : Int), rfl, .inr ⟨_, rfl, e3, fun y hy => e2 y ?_⟩, hB.trans (belowK_b (w := w) (Nat.le_refl _) W D _ _ (by omega) hK rfl rfl)⟩
    · simp [results, Tryd.f22, go_sem, hc5]
    · have hy' : y.1 < k' := hy
      refine List.mem_of_getElem? (i := y.1) ?_
      rw [uptoF, List.getElem?_take_of_lt hy', List.getElem?_eq_getElem (by simp)]
      simp

end Go.Proofs.YteohgmmenlinbacDoor


/- The program's BoxOk: its contract. -/
namespace Go.Proofs.YteohgmmenlinbacDoor
open Go.ChangeShapes Go.WideShapes Go.ChangeAt Go.RowKit
set_option linter.unusedVariables false

theorem notOk (w : World) (n i lo hi g : Int) (C : Nat) (h1 : (Lit.int .i64 lo).wf = true) (h2 : (Lit.int .i64 hi).wf = true) (hc : w.cell? ⟨C, 0, none⟩ = some (.int .i64 n)) (hC : C < w.heap.size) :
    Calls Tryd.prog 36 #[.int .i64 i, .agg #[.int .i64 lo, .int .i64 hi, .int .u64 g], .pointer (some ⟨C, 0, none⟩)] w fun e w' => e = .returned (.bool (!pokI n lo hi)) ∧ Below w.heap.size w w' := by
  have hk := fun W => implPairOk W n lo hi h1 h2
  have hc' : (w.alloc (.cells #[.int .i64 lo, .int .i64 hi, .int .u64 g] 45)).cell? ⟨C, 0, none⟩ = some (.int .i64 n) := (World.cell?_alloc_lt _ _ _ hC).trans hc
  clear hc
  go_enter Tryd.func36, Tryd.ntmps36
  go_wp2_with (go_at_call 37; refine (hk _).mono ?_; clear hk; rintro e w2 ⟨rfl, q⟩)
  go_ret
  exact ⟨rfl, ((Below.refl _ w).alloc (Nat.le_refl _) _).trans (q.mono (by simp))⟩

theorem getD_of {ps : List (Int × Int)} {i : Nat} {p : Int × Int} (h : ps[i]? = some p) : ps[i]?.getD (0, 0) = p := by rw [h]; rfl

theorem bok_first {n : Int} {ps : List (Int × Int)} {r : Int} (h1 : 1 ≤ ps.length) (h6 : ps.length ≤ 6)
    (hr : (r = -1 ∧ ∀ x : Fin ps.length, (!pokI n (ps[x.1]?.getD (0, 0)).1 (ps[x.1]?.getD (0, 0)).2) = false) ∨ (∃ x : Fin ps.length, r = (x.1 : Int) ∧ (!pokI n (ps[x.1]?.getD (0, 0)).1 (ps[x.1]?.getD (0, 0)).2) = true ∧ ∀ y : Fin ps.length, y.1 < x.1 → (!pokI n (ps[y.1]?.getD (0, 0)).1 (ps[y.1]?.getD (0, 0)).2) = false)) :
    decide (r = -1) = bokI n ps := by
  rcases hr with ⟨rfl, hall⟩ | ⟨x, rfl, hx, _⟩
  · rw [bok_true h1 h6 (fun j p hj => ?_)]
    · rfl
    · have := hall ⟨j, (List.getElem?_eq_some_iff.1 hj).1⟩
      simp only [getD_of hj] at this
      simpa using this
  · have hp : ps[x.1]? = some ps[x.1] := List.getElem?_eq_getElem x.2
    rw [getD_of hp] at hx
    rw [bok_false (lo := ps[x.1].1) (hi := ps[x.1].2) hp (by simpa using hx)]
    simp only [decide_eq_false_iff_not]
    omega

theorem implBoxOk (w : World) (n : Int) (a : Option Addr) (ps : List (Int × Int)) (cap : Nat) (h : PairsAt w a ps) (hl : ps.length ≤ cap) (hm : ps.length ≤ 1048576) :
    Calls Tryd.prog 13 #[.int .i64 n, .agg #[.slice a ps.length cap]] w fun e w' => e = .returned (.bool (bokI n ps)) ∧ Below w.heap.size w w' := by
  by_cases h1 : 1 ≤ ps.length
  · by_cases h6 : ps.length ≤ 6
    · have k1 : ¬ (ps.length : Int) < 1 := by omega
      have k6 : ¬ (6 : Int) < ps.length := by omega
      have q0 : Below w.heap.size w ((w.alloc (.cells #[.int .i64 n] 3)).alloc (.cells #[.slice a ps.length cap] 25)) := ((Below.refl _ w).alloc (Nat.le_refl _) _).alloc (by simp) _
      have hF := firstThat ((w.alloc (.cells #[.int .i64 n] 3)).alloc (.cells #[.slice a ps.length cap] 25)) a ps.length cap _ _ hl hm ((h.below q0).lies (by omega) (Nat.le_refl _)) 36 w.heap.size (enters_of Tryd.func36 (by kernel_rfl) rfl)
        (fun x => !pokI n (ps[x.1]?.getD (0, 0)).1 (ps[x.1]?.getD (0, 0)).2) (fun x W hW => by
          have hp : ps[x.1]? = some ps[x.1] := List.getElem?_eq_getElem x.2
          have wf := h.1 _ (List.mem_of_getElem? hp)
          rw [← getD_of hp] at wf
          refine notOk W n _ _ _ _ w.heap.size wf.1 wf.2 ?_ (by have := hW.size; simp at this; omega)
          refine (hW.cell (p := ⟨w.heap.size, 0, none⟩) (by simp; omega)).trans ?_
          rw [World.cell?_alloc_lt _ _ _ (by simp), World.cell?_alloc_new]; rfl)
      have hfin := fun r => bok_first (n := n) (r := r) h1 h6
      obtain ⟨len, hlen⟩ : ∃ len, ps.length = len := ⟨_, rfl⟩
      simp only [hlen] at k1 k6 hF hfin ⊢
      generalize bokI n ps = B at *
      have q0' : Hid _ := q0
      clear h q0 h1 h6 hl hm
      go_enter Tryd.func13, Tryd.ntmps13
      go_wp2_with (go_at_call 22; refine hF.mono ?_; clear hF; rintro e w2 ⟨r, rfl, hr, q⟩)
      go_ret
      exact ⟨by rw [← hfin r hr]; rfl, q0'.out.trans (by rw [hlen]; exact q.mono (by simp; omega))⟩
    · have k1 : ¬ (ps.length : Int) < 1 := by omega
      have k6 : (6 : Int) < ps.length := by omega
      have e : bokI n ps = false := by unfold bokI; rw [decide_eq_false h6]; simp
      rw [e]
      generalize ps.length = len at *
      go_enter Tryd.func13, Tryd.ntmps13
      go_wp2
      go_ret
      exact ⟨rfl, by repeat (first | exact Below.refl _ _ | refine Below.drew ?_ | refine Below.alloc ?_ (by simp; try omega) _)⟩
  · have k1 : (ps.length : Int) < 1 := by omega
    have e : bokI n ps = false := by unfold bokI; rw [decide_eq_false h1]; simp
    rw [e]
    generalize ps.length = len at *
    go_enter Tryd.func13, Tryd.ntmps13
    go_wp2
    go_ret
    exact ⟨rfl, by repeat (first | exact Below.refl _ _ | refine Below.drew ?_ | refine Below.alloc ?_ (by simp; try omega) _)⟩

end Go.Proofs.YteohgmmenlinbacDoor

