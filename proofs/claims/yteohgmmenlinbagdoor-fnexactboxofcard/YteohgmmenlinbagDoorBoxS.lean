/- What a law keeps in mind of memory while it runs: facts on blocks, and what leaves them standing. -/
import Derived.Test.YteohgmmenlinbagDoorBoxT0
namespace Go.Proofs.YteohgmmenlinbagDoor
open Go.ChangeShapes Go.WideShapes Go.ChangeAt Go.RowKit
set_option linter.unusedVariables false

/-- All blocks but o's are as they were. -/
structure KeepO (o : Option Nat) (w w' : World) : Prop where
  os : w'.os = w.os
  tape : w'.tape = w.tape
  output : w'.output = w.output
  size : w.heap.size ≤ w'.heap.size
  block : ∀ k, k < w.heap.size → o ≠ some k → w'.heap[k]? = w.heap[k]?

theorem KeepO.of_below {w w' : World} (o : Option Nat) (q : Below w.heap.size w w') : KeepO o w w' := ⟨q.os, q.tape, q.output, q.size, fun k hk _ => q.block k hk⟩
theorem KeepO.trans {o : Option Nat} {u v w : World} (h : KeepO o u v) (k : KeepO o v w) : KeepO o u w :=
  ⟨k.os.trans h.os, k.tape.trans h.tape, k.output.trans h.output, Nat.le_trans h.size k.size,
    fun i hi hb => (k.block i (Nat.lt_of_lt_of_le hi h.size) hb).trans (h.block i hi hb)⟩
theorem KeepO.setCell {u w : World} {G i : Nat} (h : KeepO (some G) u w) (v : Value) : KeepO (some G) u (w.setCell ⟨G, i, none⟩ v) :=
  h.trans ⟨rfl, rfl, rfl, by simp [World.setCell], fun k _ hb => Below.heap_setCell _ _ _ _ (fun e => hb (by rw [e]))⟩
theorem KeepO.cell {o : Option Nat} {w w' : World} (h : KeepO o w w') {p : Addr} (hs : p.block < w.heap.size) (hp : o ≠ some p.block) : w'.cell? p = w.cell? p :=
  World.cell?_of_block (w := w) (h.block p.block hs hp)
theorem KeepO.frozen {o : Option Nat} {w w' : World} (h : KeepO o w w') {p : Addr} (hs : p.block < w.heap.size) (hp : o ≠ some p.block) : w'.frozen? p = w.frozen? p :=
  World.frozen?_of_block (w := w) (h.block p.block hs hp)
theorem KeepO.keep {w w' : World} {G : Nat} (h : KeepO (some G) w w') : Keep G w w' := ⟨h.os, h.tape, h.output, h.size, fun k hk hn => h.block k hk (fun e => hn (Option.some.inj e).symm)⟩

/-- A slice of pairs, in a block o of its own; none, where there are no pairs. -/
def HasO (W : World) (a : Option Addr) (ps : List (Int × Int)) (o : Option Nat) : Prop :=
  (∀ p ∈ ps, (Lit.int .i64 p.1).wf = true ∧ (Lit.int .i64 p.2).wf = true) ∧ ((ps = [] ∧ o = none) ∨ ∃ G, o = some G ∧ a = some ⟨G, 0, none⟩ ∧ OwnP W G ps)

theorem OwnP.keepO {W W' : World} {G : Nat} {ps : List (Int × Int)} {o : Option Nat} (h : OwnP W G ps) (q : KeepO o W W') (hG : o ≠ some G) : OwnP W' G ps :=
  ⟨Nat.lt_of_lt_of_le h.lt q.size, fun i p hp => ⟨(q.cell (p := ⟨G, i * 2, none⟩) h.lt hG).trans (h.cell i p hp).1, (q.cell (p := ⟨G, i * 2 + 1, none⟩) h.lt hG).trans (h.cell i p hp).2⟩,
   fun i p hp => ⟨(q.frozen (p := ⟨G, i * 2, none⟩) h.lt hG).trans (h.frz i p hp).1, (q.frozen (p := ⟨G, i * 2 + 1, none⟩) h.lt hG).trans (h.frz i p hp).2⟩⟩
theorem HasO.keepO {W W' : World} {a : Option Addr} {ps : List (Int × Int)} {o o' : Option Nat} (h : HasO W a ps o) (q : KeepO o' W W') (ho : ∀ G, o = some G → o' ≠ some G) : HasO W' a ps o :=
  ⟨h.1, h.2.imp id fun ⟨G, e1, e2, e3⟩ => ⟨G, e1, e2, e3.keepO q (ho G e1)⟩⟩
theorem HasO.below {W W' : World} {a : Option Addr} {ps : List (Int × Int)} {o : Option Nat} (h : HasO W a ps o) (q : Below W.heap.size W W') : HasO W' a ps o :=
  ⟨h.1, h.2.imp id fun ⟨G, e1, e2, e3⟩ => ⟨G, e1, e2, e3.below q⟩⟩
theorem HasO.at {W : World} {a : Option Addr} {ps : List (Int × Int)} {o : Option Nat} (h : HasO W a ps o) : PairsAt W a ps := by
  rcases h.2 with ⟨e, _⟩ | ⟨G, _, rfl, e3⟩
  · exact ⟨h.1, .inl e⟩
  · exact e3.at h.1
theorem HasO.lt {W : World} {a : Option Addr} {ps : List (Int × Int)} {o : Option Nat} (h : HasO W a ps o) : ∀ G, o = some G → G < W.heap.size := by
  intro G hG
  rcases h.2 with ⟨_, e⟩ | ⟨G', e1, _, e3⟩
  · rw [e] at hG; cases hG
  · rw [e1] at hG
    obtain rfl := Option.some.inj hG
    exact e3.lt
theorem OwnP.has {W : World} {G : Nat} {ps : List (Int × Int)} (h : OwnP W G ps) (hw : ∀ p ∈ ps, (Lit.int .i64 p.1).wf = true ∧ (Lit.int .i64 p.2).wf = true) : HasO W (some ⟨G, 0, none⟩) ps (some G) :=
  ⟨hw, .inr ⟨G, rfl, rfl, h⟩⟩

inductive Fact where
  | own (k : Nat) (vs : List Value)
  | has (a : Option Addr) (ps : List (Int × Int)) (o : Option Nat)
  | args (n : Nat) (a : Option Addr) (ps : List (Int × Int))
  | bel (w : World)
  | num (p : Prop)

def Fact.holds (W : World) : Fact → Prop
  | .own k vs => Own W k vs
  | .has a ps o => HasO W a ps o
  | .args n a ps => PairsAt W a ps ∧ (ps = [] ∨ ∃ rb ro, a = some ⟨rb, ro, none⟩ ∧ rb < n)
  | .bel w => Below w.heap.size w W
  | .num p => p

/-- A fact that the block o has nothing to do with. -/
def Fact.free (o : Option Nat) : Fact → Prop
  | .own k _ => o ≠ some k
  | .has _ _ o' => ∀ G, o' = some G → o ≠ some G
  | .args n _ _ => ∀ G, o = some G → n ≤ G
  | .bel w => ∀ G, o = some G → w.heap.size ≤ G
  | .num _ => True

theorem Own.keepO {w w' : World} {o : Option Nat} {k : Nat} {vs : List Value} (h : Own w k vs) (q : KeepO o w w') (hk : o ≠ some k) : Own w' k vs :=
  ⟨Nat.lt_of_lt_of_le h.lt q.size, fun i v hv => (q.cell (p := ⟨k, i, none⟩) h.lt hk).trans (h.cell i v hv), fun i v hv => (q.frozen (p := ⟨k, i, none⟩) h.lt hk).trans (h.frz i v hv)⟩

theorem Fact.keep {W W' : World} {o : Option Nat} (f : Fact) (h : f.holds W) (q : KeepO o W W') (hf : f.free o) : f.holds W' := by
  cases f with
  | own k vs => exact Own.keepO h q hf
  | has a ps o' => exact HasO.keepO h q hf
  | args n a ps =>
    obtain ⟨h1, h2⟩ := h
    refine ⟨⟨h1.1, ?_⟩, h2⟩
    rcases h1.2 with e | ⟨rb, ro, ha, hlt, hc⟩
    · exact .inl e
    · rcases h2 with e | ⟨rb', ro', ha', hlt'⟩
      · exact .inl e
      · rw [ha] at ha'
        injection ha' with ha'
        injection ha' with e1 e2
        subst e1 e2
        have hne : o ≠ some rb := fun e => by have := hf rb e; omega
        exact .inr ⟨rb, ro, ha, Nat.lt_of_lt_of_le hlt q.size, fun i p hp => ⟨(q.cell (p := ⟨rb, ro + i * 2, none⟩) hlt hne).trans (hc i p hp).1, (q.cell (p := ⟨rb, ro + i * 2 + 1, none⟩) hlt hne).trans (hc i p hp).2⟩⟩
  | bel w =>
    exact ⟨q.os.trans h.os, q.tape.trans h.tape, q.output.trans h.output, Nat.le_trans h.size q.size, fun k hk => (q.block k (Nat.lt_of_lt_of_le hk h.size) (fun e => by have := hf k e; omega)).trans (h.block k hk)⟩
  | num p => exact h

theorem Fact.below {W W' : World} (f : Fact) (h : f.holds W) (q : Below W.heap.size W W') : f.holds W' := by
  cases f with
  | own k vs => exact Own.below h q
  | has a ps o' => exact HasO.below h q
  | args n a ps => exact ⟨h.1.below q, h.2⟩
  | bel w => exact Below.trans h (q.mono h.size)
  | num p => exact h

def Facts (W : World) (l : List Fact) : Prop := ∀ f ∈ l, f.holds W

theorem Facts.nil (W : World) : Facts W [] := fun f hf => by cases hf
theorem Facts.below {W W' : World} {l : List Fact} (h : Facts W l) (q : Below W.heap.size W W') : Facts W' l := fun f hf => f.below (h f hf) q
theorem Facts.alloc {W : World} {l : List Fact} (h : Facts W l) (o : Obj) : Facts (W.alloc o) l := h.below ((Below.refl _ _).alloc (Nat.le_refl _) _)
theorem Facts.get {W : World} {l : List Fact} (h : Facts W l) (i : Nat) {f : Fact} (e : l[i]? = some f) : f.holds W := h f (List.mem_of_getElem? e)
theorem Facts.own {W : World} {l : List Fact} (h : Facts W l) (i : Nat) {k : Nat} {vs : List Value} (e : l[i]? = some (.own k vs)) : Own W k vs := h.get i e
theorem Facts.has {W : World} {l : List Fact} (h : Facts W l) (i : Nat) {a : Option Addr} {ps : List (Int × Int)} {o : Option Nat} (e : l[i]? = some (.has a ps o)) : HasO W a ps o := h.get i e
theorem Facts.args {W : World} {l : List Fact} (h : Facts W l) (i : Nat) {n : Nat} {a : Option Addr} {ps : List (Int × Int)} (e : l[i]? = some (.args n a ps)) : PairsAt W a ps := (h.get i e).1
theorem Facts.bel {W : World} {l : List Fact} (h : Facts W l) (i : Nat) {w : World} (e : l[i]? = some (.bel w)) : Below w.heap.size w W := h.get i e
theorem Facts.num {W : World} {l : List Fact} (h : Facts W l) (i : Nat) {p : Prop} (e : l[i]? = some (.num p)) : p := h.get i e
theorem Facts.push {W : World} {l : List Fact} (h : Facts W l) {f : Fact} (hf : f.holds W) : Facts W (l ++ [f]) := by
  intro g hg
  rcases List.mem_append.1 hg with e | e
  · exact h g e
  · simp at e; subst e; exact hf
theorem Facts.pushOwn {W : World} {l : List Fact} (h : Facts W l) {k : Nat} {vs : List Value} (hf : Own W k vs) : Facts W (l ++ [.own k vs]) := h.push hf
theorem Facts.pushHas {W : World} {l : List Fact} (h : Facts W l) {a : Option Addr} {ps : List (Int × Int)} {o : Option Nat} (hf : HasO W a ps o) : Facts W (l ++ [.has a ps o]) := h.push hf
theorem Facts.pushNum {W : World} {l : List Fact} (h : Facts W l) {p : Prop} (hf : p) : Facts W (l ++ [.num p]) := h.push hf
/-- A new cell block, at its number. -/
theorem Facts.cells {W : World} {l : List Fact} (h : Facts W l) (c : Array Value) (t : TypeId) : Facts (W.alloc (.cells c t)) (l ++ [.own W.heap.size c.toList]) := (h.alloc _).push (Own.new W c t)
/-- The block o was written: the fact at i, which is its own, is another one now. -/
theorem Facts.mark {W W' : World} {o : Option Nat} {l : List Fact} (h : Facts W l) (q : KeepO o W W') (i : Nat) {f2 : Fact} (hf : ∀ j f', j ≠ i → l[j]? = some f' → f'.free o) (hn : f2.holds W') : Facts W' (l.set i f2) := by
  intro g hg
  obtain ⟨j, hj⟩ := List.getElem?_of_mem hg
  by_cases e : i = j
  · subst e
    have hlt : i < l.length := by simpa using (List.getElem?_eq_some_iff.1 hj).1
    rw [List.getElem?_set_self hlt] at hj
    obtain rfl := Option.some.inj hj
    exact hn
  · rw [List.getElem?_set_ne e] at hj
    exact g.keep (h g (List.mem_of_getElem? hj)) q (hf j g (Ne.symm e) hj)
theorem args_of {n : Nat} {W : World} {a : Option Addr} {ps : List (Int × Int)} (h : PairsAt W a ps) (hn : W.heap.size = n) : Fact.holds W (.args n a ps) :=
  ⟨h, h.2.imp id fun ⟨rb, ro, ha, hlt, _⟩ => ⟨rb, ro, ha, by omega⟩⟩

end Go.Proofs.YteohgmmenlinbagDoor
