/- Three rows of boxes that a call owns: what lies in memory, and what keeps it; a byte of a list of bytes. -/
import Derived.Test.YteohgmmenlinbaaTopP
import Derived.Test.YteohgmmenlinbaaApp
import Derived.Test.YteohgmmenlinbaaDrawN
import Derived.Maps.AppendAt
namespace Go.Proofs.Yteohgmmenlinbaa
open Go.ChangeShapes Go.WideShapes Go.ChangeAt Go.RowKit
set_option linter.unusedVariables false

theorem infoBox : (Try.prog.info? 25).map (fun i => (i.zero, i.size, i.bytes)) = some (some (.agg #[.slice none 0 0]), 1, 24) := by kernel_rfl

/-- A box in a block of its own, which is none of three rows. -/
def BoxIn (W : World) (v1 v2 v3 : Value) (x : BV) : Prop :=
  ∃ G c, x.1 = .slice (some ⟨G, 0, none⟩) x.2.length c ∧ x.2.length ≤ c ∧ OwnP W G x.2 ∧ (∀ p ∈ x.2, Wf p) ∧ v1.ownBlock ≠ some G ∧ v2.ownBlock ≠ some G ∧ v3.ownBlock ≠ some G

structure R3 (w W : World) (C : List (Nat × List Value)) (X : List BV) (v1 v2 v3 : Value) (L1 L2 L3 : List BV) : Prop where
  bel : Below w.heap.size w W
  r1 : W.ownsRow w.heap.size 25 1 v1 L1.length (L1.map (·.1))
  r2 : W.ownsRow w.heap.size 25 1 v2 L2.length (L2.map (·.1))
  r3 : W.ownsRow w.heap.size 25 1 v3 L3.length (L3.map (·.1))
  d12 : ∀ g, v1.ownBlock = some g → v2.ownBlock ≠ some g
  d13 : ∀ g, v1.ownBlock = some g → v3.ownBlock ≠ some g
  d23 : ∀ g, v2.ownBlock = some g → v3.ownBlock ≠ some g
  cell : ∀ c ∈ C, Own W c.1 c.2 ∧ v1.ownBlock ≠ some c.1 ∧ v2.ownBlock ≠ some c.1 ∧ v3.ownBlock ≠ some c.1
  box : ∀ x, (x ∈ X ∨ x ∈ L1 ∨ x ∈ L2 ∨ x ∈ L3) → BoxIn W v1 v2 v3 x

section
variable {w W W' : World} {C : List (Nat × List Value)} {X : List BV} {v1 v2 v3 : Value} {L1 L2 L3 : List BV}

theorem R3.rot (h : R3 w W C X v1 v2 v3 L1 L2 L3) : R3 w W C X v2 v3 v1 L2 L3 L1 :=
  ⟨h.bel, h.r2, h.r3, h.r1, h.d23, fun g h2 h1 => h.d12 g h1 h2, fun g h3 h1 => h.d13 g h1 h3, fun c hc => ⟨(h.cell c hc).1, (h.cell c hc).2.2.1, (h.cell c hc).2.2.2, (h.cell c hc).2.1⟩,
   fun x hx => by
    obtain ⟨G, c, a1, a2, a3, a4, a5, a6, a7⟩ := h.box x (by rcases hx with e | e | e | e <;> simp [e])
    exact ⟨G, c, a1, a2, a3, a4, a6, a7, a5⟩⟩

theorem R3.below (h : R3 w W C X v1 v2 v3 L1 L2 L3) (q : Below W.heap.size W W') : R3 w W' C X v1 v2 v3 L1 L2 L3 :=
  ⟨h.bel.trans (q.mono h.bel.size), ownsRow_below h.r1 q, ownsRow_below h.r2 q, ownsRow_below h.r3 q, h.d12, h.d13, h.d23, fun c hc => ⟨(h.cell c hc).1.below q, (h.cell c hc).2⟩,
   fun x hx => by
    obtain ⟨G, c, a1, a2, a3, a4, a5⟩ := h.box x hx
    exact ⟨G, c, a1, a2, a3.below q, a4, a5⟩⟩

theorem R3.alloc (h : R3 w W C X v1 v2 v3 L1 L2 L3) (o : Obj) : R3 w (W.alloc o) C X v1 v2 v3 L1 L2 L3 := h.below ((Below.refl _ _).alloc (Nat.le_refl _) _)

theorem R3.lt (h : R3 w W C X v1 v2 v3 L1 L2 L3) : (∀ g, v1.ownBlock = some g → w.heap.size ≤ g ∧ g < W.heap.size) ∧ (∀ g, v2.ownBlock = some g → w.heap.size ≤ g ∧ g < W.heap.size) ∧ (∀ g, v3.ownBlock = some g → w.heap.size ≤ g ∧ g < W.heap.size) :=
  ⟨ownsRow_lt h.r1, ownsRow_lt h.r2, ownsRow_lt h.r3⟩

/-- A new cell block. -/
theorem R3.cells (h : R3 w W C X v1 v2 v3 L1 L2 L3) (c : Array Value) (t : TypeId) : R3 w (W.alloc (.cells c t)) (C ++ [(W.heap.size, c.toList)]) X v1 v2 v3 L1 L2 L3 := by
  have h' := h.alloc (.cells c t)
  obtain ⟨l1, l2, l3⟩ := h.lt
  refine ⟨h'.bel, h'.r1, h'.r2, h'.r3, h'.d12, h'.d13, h'.d23, fun d hd => ?_, h'.box⟩
  rcases List.mem_append.1 hd with e | e
  · exact h'.cell d e
  · simp at e
    subst e
    exact ⟨Own.new W c t, fun e => by have := l1 _ e; omega, fun e => by have := l2 _ e; omega, fun e => by have := l3 _ e; omega⟩

/-- A box that a call has made. -/
theorem R3.made (h : R3 w W C X v1 v2 v3 L1 L2 L3) (q : Below W.heap.size W W') {x : BV} {G c : Nat} (e1 : x.1 = .slice (some ⟨G, 0, none⟩) x.2.length c) (e2 : x.2.length ≤ c) (hG : W.heap.size ≤ G) (o : OwnP W' G x.2) (hw : ∀ p ∈ x.2, Wf p) :
    R3 w W' C (X ++ [x]) v1 v2 v3 L1 L2 L3 := by
  have h' := h.below q
  obtain ⟨l1, l2, l3⟩ := h.lt
  refine ⟨h'.bel, h'.r1, h'.r2, h'.r3, h'.d12, h'.d13, h'.d23, h'.cell, fun y hy => ?_⟩
  by_cases e : y ∈ X ∨ y ∈ L1 ∨ y ∈ L2 ∨ y ∈ L3
  · exact h'.box y e
  · have : y = x := by
      rcases hy with t | t
      · rcases List.mem_append.1 t with t | t
        · exact absurd (.inl t) e
        · simpa using t
      · exact absurd (.inr t) e
    subst this
    exact ⟨G, c, e1, e2, o, hw, fun e => by have := l1 _ e; omega, fun e => by have := l2 _ e; omega, fun e => by have := l3 _ e; omega⟩

theorem R3.addX (h : R3 w W C X v1 v2 v3 L1 L2 L3) {x : BV} (hx : BoxIn W v1 v2 v3 x) : R3 w W C (X ++ [x]) v1 v2 v3 L1 L2 L3 := by
  refine ⟨h.bel, h.r1, h.r2, h.r3, h.d12, h.d13, h.d23, h.cell, fun y hy => ?_⟩
  rcases hy with t | t
  · rcases List.mem_append.1 t with t | t
    · exact h.box y (.inl t)
    · simp at t
      subst t
      exact hx
  · exact h.box y (.inr t)

theorem R3.new (h : R3 w W C X v1 v2 v3 L1 L2 L3) {x : BV} {a : Option Addr} {c : Nat} {o : Option Nat} (e1 : x.1 = .slice a x.2.length c) (e2 : x.2.length ≤ c) (h1 : 1 ≤ x.2.length) (hh : HasO W' a x.2 o) (ho : ∀ G, o = some G → W.heap.size ≤ G) : BoxIn W' v1 v2 v3 x := by
  obtain ⟨l1, l2, l3⟩ := h.lt
  rcases hh.2 with ⟨e, _⟩ | ⟨G, e, ha, oP⟩
  · rw [e] at h1; simp at h1
  · subst ha
    have hG := ho G e
    exact ⟨G, c, e1, e2, oP, hh.1, fun e => by have := l1 _ e; omega, fun e => by have := l2 _ e; omega, fun e => by have := l3 _ e; omega⟩

theorem R3.addC (h : R3 w W C X v1 v2 v3 L1 L2 L3) {W0 : World} {C0 : List (Nat × List Value)} {X0 : List BV} (h0 : R3 w W0 C0 X0 v1 v2 v3 L1 L2 L3) {k : Nat} {vs : List Value} (o : Own W k vs) (hk : W0.heap.size ≤ k) : R3 w W (C ++ [(k, vs)]) X v1 v2 v3 L1 L2 L3 := by
  obtain ⟨l1, l2, l3⟩ := h0.lt
  refine ⟨h.bel, h.r1, h.r2, h.r3, h.d12, h.d13, h.d23, fun d hd => ?_, h.box⟩
  rcases List.mem_append.1 hd with e | e
  · exact h.cell d e
  · simp at e
    subst e
    exact ⟨o, fun e => by have := l1 _ e; omega, fun e => by have := l2 _ e; omega, fun e => by have := l3 _ e; omega⟩

theorem R3.drewN (h : R3 w W C X v1 v2 v3 L1 L2 L3) (n : Nat) : R3 w (W.drewN n) C X v1 v2 v3 L1 L2 L3 := h.below ⟨rfl, rfl, rfl, Nat.le_refl _, fun _ _ => rfl⟩

theorem R3.own (h : R3 w W C X v1 v2 v3 L1 L2 L3) (i : Nat) {k : Nat} {vs : List Value} (e : C[i]? = some (k, vs)) : Own W k vs := (h.cell (k, vs) (List.mem_of_getElem? e)).1

theorem R3.pairs (h : R3 w W C X v1 v2 v3 L1 L2 L3) (i : Nat) {a : Option Addr} {l c : Nat} {ps : List (Int × Int)} (e : X[i]? = some (.slice a l c, ps)) : PairsAt W a ps := by
  obtain ⟨G, c', e1, _, oP, hw, _⟩ := h.box _ (.inl (List.mem_of_getElem? e))
  injection e1 with e1 e2 e3
  subst e1
  exact oP.at hw

theorem R3.fewer (h : R3 w W C X v1 v2 v3 L1 L2 L3) {C' : List (Nat × List Value)} {X' : List BV} (hC : ∀ c ∈ C', c ∈ C) (hX : ∀ x ∈ X', x ∈ X) : R3 w W C' X' v1 v2 v3 L1 L2 L3 :=
  ⟨h.bel, h.r1, h.r2, h.r3, h.d12, h.d13, h.d23, fun c hc => h.cell c (hC c hc), fun x hx => h.box x (hx.imp (hX x) id)⟩

/-- A box goes onto the first row. -/
theorem R3.app1 (h : R3 w W C X v1 v2 v3 L1 L2 L3) {x : BV} (hx : x ∈ X) {v : Value} (hg : W.grownBy W' v1.ownBlock) (hr : W'.ownsRow w.heap.size 25 1 v (L1.length + 1) (L1.map (·.1) ++ [x.1])) (hat : v.ownBlock = v1.ownBlock ∨ v.ownBlock = some W.heap.size) :
    R3 w W' C X v v2 v3 (L1 ++ [x]) L2 L3 := by
  obtain ⟨l1, l2, l3⟩ := h.lt
  have keep : ∀ g, g < W.heap.size → v1.ownBlock ≠ some g → W'.heap[g]? = W.heap[g]? := fun g hl hne => hg.block g hl (fun e => hne e.symm)
  have hne : ∀ g, g < W.heap.size → v1.ownBlock ≠ some g → v.ownBlock ≠ some g := by
    intro g hl h1 h2
    rcases hat with e | e
    · rw [e] at h2; exact h1 h2
    · rw [e] at h2
      have := Option.some.inj h2
      omega
  refine ⟨h.bel.grown hg h.bel.size (fun k hk => (l1 k hk).1), by simpa using hr, h.r2.kept hg (by cases e : v2.ownBlock with | none => exact .inl rfl | some g => exact .inr (fun q => h.d12 g q.symm e)), h.r3.kept hg (by cases e : v3.ownBlock with | none => exact .inl rfl | some g => exact .inr (fun q => h.d13 g q.symm e)),
    fun g hv h2 => hne g (l2 g h2).2 (fun e => h.d12 g e h2) hv, fun g hv h3 => hne g (l3 g h3).2 (fun e => h.d13 g e h3) hv, h.d23, fun c hc => ?_, fun y hy => ?_⟩
  · obtain ⟨o, a1, a2, a3⟩ := h.cell c hc
    refine ⟨⟨Nat.lt_of_lt_of_le o.lt hg.size, fun i u hu => (World.cell?_of_block (keep c.1 o.lt a1)).trans (o.cell i u hu), fun i u hu => (World.frozen?_of_block (keep c.1 o.lt a1)).trans (o.frz i u hu)⟩, hne _ o.lt a1, a2, a3⟩
  · obtain ⟨G, c, a1, a2, o, a4, a5, a6, a7⟩ := h.box y (by
      rcases hy with e | e | e | e
      · exact .inl e
      · rcases List.mem_append.1 e with e | e
        · exact .inr (.inl e)
        · simp at e
          subst e
          exact .inl hx
      · exact .inr (.inr (.inl e))
      · exact .inr (.inr (.inr e)))
    exact ⟨G, c, a1, a2, ⟨Nat.lt_of_lt_of_le o.lt hg.size, fun i p hp => ⟨(World.cell?_of_block (w := W) (keep G o.lt a5)).trans (o.cell i p hp).1, (World.cell?_of_block (w := W) (keep G o.lt a5)).trans (o.cell i p hp).2⟩,
      fun i p hp => ⟨(World.frozen?_of_block (w := W) (keep G o.lt a5)).trans (o.frz i p hp).1, (World.frozen?_of_block (w := W) (keep G o.lt a5)).trans (o.frz i p hp).2⟩⟩, a4, hne _ o.lt a5, a6, a7⟩

theorem R3.app2 (h : R3 w W C X v1 v2 v3 L1 L2 L3) {x : BV} (hx : x ∈ X) {v : Value} (hg : W.grownBy W' v2.ownBlock) (hr : W'.ownsRow w.heap.size 25 1 v (L2.length + 1) (L2.map (·.1) ++ [x.1])) (hat : v.ownBlock = v2.ownBlock ∨ v.ownBlock = some W.heap.size) :
    R3 w W' C X v1 v v3 L1 (L2 ++ [x]) L3 := (h.rot.app1 hx hg hr hat).rot.rot
theorem R3.app3 (h : R3 w W C X v1 v2 v3 L1 L2 L3) {x : BV} (hx : x ∈ X) {v : Value} (hg : W.grownBy W' v3.ownBlock) (hr : W'.ownsRow w.heap.size 25 1 v (L3.length + 1) (L3.map (·.1) ++ [x.1])) (hat : v.ownBlock = v3.ownBlock ∨ v.ownBlock = some W.heap.size) :
    R3 w W' C X v1 v2 v L1 L2 (L3 ++ [x]) := (h.rot.rot.app1 hx hg hr hat).rot

/-- A row that is shown as a slice. -/
theorem row_slice {W : World} {base : Nat} {e : TypeId} {v : Value} {n : Nat} {xs : List Value} (h : W.ownsRow base e 1 v n xs) : ∃ o c, v = .slice o n c ∧ n ≤ c ∧ (1 ≤ n → ∃ g, o = some ⟨g, 0, none⟩ ∧ g < W.heap.size ∧ ∀ j u, xs[j]? = some u → W.cell? ⟨g, j, none⟩ = some u) := by
  have hall := h
  rcases h.2 with ⟨rfl, rfl⟩ | ⟨g, cap, cur, rfl, hb, hg, hc, _, hs, ht⟩
  · exact ⟨none, 0, rfl, Nat.le_refl _, fun h => by omega⟩
  · refine ⟨_, cap, rfl, hc, fun _ => ⟨g, rfl, (Array.getElem?_eq_some_iff.1 hg).1, fun j u hu => ?_⟩⟩
    have := hall.cells (g := g) rfl j u hu
    have hadd : (⟨g, 0, none⟩ : Addr).add j = ⟨g, j, none⟩ := by unfold Addr.add; split <;> simp_all
    rw [hadd] at this
    exact this

/-- The first row gives its last box. -/
theorem R3.pop {S : List BV} {x : BV} {o : Option Addr} {c : Nat} (h : R3 w W C X (.slice o (S.length + 1) c) v2 v3 (S ++ [x]) L2 L3) : R3 w W C (X ++ [x]) (.slice o S.length c) v2 v3 S L2 L3 := by
  have e : (Value.slice o (S.length + 1) c).ownBlock = (Value.slice o S.length c).ownBlock := by cases o <;> rfl
  refine ⟨h.bel, ?_, h.r2, h.r3, fun g hg => h.d12 g (e.trans hg), fun g hg => h.d13 g (e.trans hg), h.d23, fun d hd => ?_, fun y hy => ?_⟩
  · obtain ⟨h1, h2⟩ := h.r1
    refine ⟨by simp, ?_⟩
    rcases h2 with ⟨_, h2⟩ | ⟨g, cap, cur, hv, hb, hg, hc, hm, hs, ht⟩
    · rw [List.length_append] at h2
      simp at h2
    · rw [List.length_append] at hv hc ht
      injection hv with e1 e2 e3
      subst e1 e3
      refine .inr ⟨g, c, cur, rfl, hb, hg, by simp at hc; omega, hm, hs, ?_⟩
      have ht' := congrArg (List.take S.length) ht
      rw [List.take_take, List.map_append, List.take_left' (by simp)] at ht'
      rw [Nat.mul_one, ← ht']
      congr 1
      simp
  · obtain ⟨a0, a1, a2, a3⟩ := h.cell d hd
    exact ⟨a0, by rw [← e]; exact a1, a2, a3⟩
  · obtain ⟨G, c', a1, a2, a3, a4, a5, a6⟩ := h.box y (by
      rcases hy with t | t | t | t
      · rcases List.mem_append.1 t with t | t
        · exact .inl t
        · exact .inr (.inl (by simp at t; simp [t]))
      · exact .inr (.inl (by simp [t]))
      · exact .inr (.inr (.inl t))
      · exact .inr (.inr (.inr t)))
    exact ⟨G, c', a1, a2, a3, a4, by rw [← e]; exact a5, a6⟩
end

/-- A box that grows by append, in blocks from W1's end on; its cell is the first of them. -/
structure Cp (W1 : World) (out : List (Int × Int)) (v : Value) (W : World) : Prop where
  bel : Below W1.heap.size W1 W
  box : Own W W1.heap.size [v]
  row : W.ownsRow (W1.heap.size + 1) 33 2 v out.length (flat out)
  wf : ∀ p ∈ out, Wf p

theorem Cp.start (W1 : World) : Cp W1 [] (.slice none 0 0) (W1.alloc (.cells #[.slice none 0 0] 25)) :=
  ⟨(Below.refl _ _).alloc (Nat.le_refl _) _, Own.new W1 _ _, World.ownsRow_nil _ _ _ _, fun p hp => by simp at hp⟩

theorem Cp.below {W1 W W' : World} {out : List (Int × Int)} {v : Value} (h : Cp W1 out v W) (q : Below W.heap.size W W') : Cp W1 out v W' :=
  ⟨h.bel.trans (q.mono h.bel.size), h.box.below q, ownsRow_below h.row q, h.wf⟩

theorem Cp.drew {W1 W : World} {out : List (Int × Int)} {v : Value} (h : Cp W1 out v W) : Cp W1 out v W.drew := h.below ⟨rfl, rfl, rfl, Nat.le_refl _, fun _ _ => rfl⟩
theorem Cp.drewN {W1 W : World} {out : List (Int × Int)} {v : Value} (h : Cp W1 out v W) (n : Nat) : Cp W1 out v (W.drewN n) := h.below ⟨rfl, rfl, rfl, Nat.le_refl _, fun _ _ => rfl⟩

theorem Cp.boxKeep {W1 W W' : World} {out : List (Int × Int)} {v : Value} (h : Cp W1 out v W) (hg : W.grownBy W' v.ownBlock) : Own W' W1.heap.size [v] := by
  obtain ⟨c, hc, hk⟩ := Keep.of_grown hg h.row (by have := h.box.lt; omega)
  exact h.box.keep hk (by omega)

theorem Cp.append {W1 W W' : World} {out : List (Int × Int)} {v v' : Value} {x y : Int} (h : Cp W1 out v W) (hg : W.grownBy W' v.ownBlock)
    (hr : W'.ownsRow (W1.heap.size + 1) 33 2 v' (out.length + 1) (flat out ++ [.int .i64 x, .int .i64 y])) (hw : Wf (x, y)) :
    Cp W1 (out ++ [(x, y)]) v' (W'.setCell ⟨W1.heap.size, 0, none⟩ v') := by
  have hs := h.box.lt
  obtain ⟨c, hc, hk⟩ := Keep.of_grown hg h.row (by omega)
  refine ⟨?_, (h.box.keep hk (by omega)).set (i := 0) v' (by simp), ?_, ?_⟩
  · exact (h.bel.trans (hk.below (b := c) (by omega) h.bel.size)).setCell (p := ⟨W1.heap.size, 0, none⟩) (Nat.le_refl _) _
  · rw [flat_snoc] at hr
    have := ownsRow_setCell_below hr (a := ⟨W1.heap.size, 0, none⟩) (by simp) v'
    simpa using this
  · intro p hp
    rcases List.mem_append.1 hp with q | q
    · exact h.wf p q
    · simp at q; subst q; exact hw

/-- The box that has grown. -/
theorem Cp.done {W1 W : World} {out : List (Int × Int)} {v : Value} (h : Cp W1 out v W) (h1 : 1 ≤ out.length) : ∃ G c, v = .slice (some ⟨G, 0, none⟩) out.length c ∧ out.length ≤ c ∧ OwnP W G out ∧ W1.heap.size + 1 ≤ G := by
  obtain ⟨a, c, o, rfl, hc, hp, ho⟩ := ownsRow_has h.row h.wf
  rcases hp.2 with ⟨e, _⟩ | ⟨G, e, ha, oP⟩
  · rw [e] at h1; simp at h1
  · subst ha
    exact ⟨G, c, rfl, hc, oP, ho G e⟩

/-- The bytes of a list; beyond its end, those that pbByte tells. -/
theorem bytes_fn {w : World} {a : Option Addr} {len : Nat} (h : Code8 w a len) :
    ∃ mb : Nat → Int, ∀ j, 0 ≤ mb j ∧ mb j ≤ 255 ∧ (j < len → ∃ rb ro, a = some ⟨rb, ro, none⟩ ∧ rb < w.heap.size ∧ w.cell? ⟨rb, ro + j, none⟩ = some (.int .u8 (mb j))) ∧ (len ≤ j → mb j = ((j : Int) * 37) % 251) := by
  have key : ∀ j, ∃ z : Int, 0 ≤ z ∧ z ≤ 255 ∧ (j < len → ∃ rb ro, a = some ⟨rb, ro, none⟩ ∧ rb < w.heap.size ∧ w.cell? ⟨rb, ro + j, none⟩ = some (.int .u8 z)) ∧ (len ≤ j → z = ((j : Int) * 37) % 251) := by
    intro j
    by_cases hj : j < len
    · rcases h with e | ⟨rb, ro, ha, hlt, hc⟩
      · omega
      · obtain ⟨z, z0, z1, hz⟩ := hc j hj
        exact ⟨z, z0, z1, fun _ => ⟨rb, ro, ha, hlt, hz⟩, fun e => by omega⟩
    · exact ⟨((j : Int) * 37) % 251, by omega, by omega, fun e => absurd e hj, fun _ => rfl⟩
  exact ⟨fun j => Classical.choose (key j), fun j => Classical.choose_spec (key j)⟩

theorem pbByte (w W : World) (a : Option Addr) (len cap : Nat) (hl : len ≤ cap) (hm : len ≤ 1048576) (mb : Nat → Int) (h : ∀ j, 0 ≤ mb j ∧ mb j ≤ 255 ∧ (j < len → ∃ rb ro, a = some ⟨rb, ro, none⟩ ∧ rb < w.heap.size ∧ w.cell? ⟨rb, ro + j, none⟩ = some (.int .u8 (mb j))) ∧ (len ≤ j → mb j = ((j : Int) * 37) % 251))
    (q : Below w.heap.size w W) (j : Nat) (hj : j ≤ 1000000) :
    Calls Try.prog 15 #[.slice a len cap, .int .i64 (j : Int)] W fun e w' => e = .returned (.int .i64 (mb j)) ∧ W = w' := by
  obtain ⟨z0, z1, h1, h2⟩ := h j
  by_cases hlt : j < len
  · obtain ⟨rb, ro, rfl, hb, hc⟩ := h1 hlt
    have hc' := (q.cell (p := ⟨rb, ro + j, none⟩) hb).trans hc
    have hlt' : (j : Int) < len := by omega
    clear h h1 h2 hc
    generalize mb j = z at *
    go_enter Try.func15, Try.ntmps15
    go_wp2
    go_ret
    exact ⟨rfl, rfl⟩
  · have hlt' : ¬ (j : Int) < len := by omega
    rw [h2 (by omega)]
    clear h h1 h2 z0 z1
    go_enter Try.func15, Try.ntmps15
    go_wp2
    go_ret
    exact ⟨rfl, rfl⟩

end Go.Proofs.Yteohgmmenlinbaa
