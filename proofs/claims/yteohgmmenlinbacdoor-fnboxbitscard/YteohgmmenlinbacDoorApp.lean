/- A box that grows by append, a pair a round: what lies in memory. -/
import Derived.Test.YteohgmmenlinbacDoorJA
import Derived.Test.YteohgmmenlinbacDoorJB
namespace Go.Proofs.YteohgmmenlinbacDoor
open Go.ChangeShapes Go.WideShapes Go.ChangeAt Go.RowKit
set_option linter.unusedVariables false

theorem flat_length (ps : List (Int × Int)) : (flat ps).length = ps.length * 2 := by
  induction ps with
  | nil => rfl
  | cons p ps ih => simp [flat] at ih ⊢; omega
theorem flat_get {ps : List (Int × Int)} : ∀ {i : Nat} {p : Int × Int}, ps[i]? = some p → (flat ps)[i * 2]? = some (.int .i64 p.1) ∧ (flat ps)[i * 2 + 1]? = some (.int .i64 p.2) := by
  induction ps with
  | nil => intro i p h; simp at h
  | cons q ps ih =>
    intro i p h
    cases i with
    | zero => simp at h; subst h; exact ⟨rfl, rfl⟩
    | succ i =>
      have := ih (i := i) (p := p) (by simpa using h)
      have e : flat (q :: ps) = .int .i64 q.1 :: .int .i64 q.2 :: flat ps := rfl
      rw [e, show (i + 1) * 2 = i * 2 + 1 + 1 by omega, show i * 2 + 1 + 1 + 1 = (i * 2 + 1) + 1 + 1 by omega]
      simpa using this

theorem ownsRow_lt {w : World} {base : Nat} {e : TypeId} {size : Nat} {v : Value} {n : Nat} {xs : List Value} (h : w.ownsRow base e size v n xs) : ∀ g, v.ownBlock = some g → base ≤ g ∧ g < w.heap.size := by
  intro g hg
  rcases h.2 with ⟨rfl, _⟩ | ⟨g', cap, cur, rfl, h1, h2, _⟩
  · simp [Value.ownBlock] at hg
  · simp [Value.ownBlock] at hg
    subst hg
    exact ⟨h1, (Array.getElem?_eq_some_iff.1 h2).1⟩

theorem ownsRow_below {w w' : World} {base : Nat} {e : TypeId} {size : Nat} {v : Value} {n : Nat} {xs : List Value} (h : w.ownsRow base e size v n xs) (q : Below w.heap.size w w') : w'.ownsRow base e size v n xs := by
  refine ⟨h.1, h.2.imp id fun ⟨g, cap, cur, a1, a2, a3, a4⟩ => ⟨g, cap, cur, a1, a2, ?_, a4⟩⟩
  rw [q.block g (Array.getElem?_eq_some_iff.1 a3).1]
  exact a3

/-- The pairs of a row that the call owns. -/
theorem ownsRow_has {W : World} {base : Nat} {v : Value} {ps : List (Int × Int)} (h : W.ownsRow base 40 2 v ps.length (flat ps)) (hw : ∀ p ∈ ps, (Lit.int .i64 p.1).wf = true ∧ (Lit.int .i64 p.2).wf = true) :
    ∃ (a : Option Addr) (cap : Nat) (o : Option Nat), v = .slice a ps.length cap ∧ ps.length ≤ cap ∧ HasO W a ps o ∧ (∀ G, o = some G → base ≤ G) := by
  rcases h.2 with ⟨rfl, hn⟩ | ⟨g, cap, cur, rfl, hb, hg, hc, _, hs, ht⟩
  · obtain rfl : ps = [] := List.length_eq_zero_iff.1 hn
    exact ⟨none, 0, none, rfl, Nat.le_refl _, ⟨hw, .inl ⟨rfl, rfl⟩⟩, fun G hG => by cases hG⟩
  · refine ⟨_, cap, some g, rfl, hc, ⟨hw, .inr ⟨g, rfl, rfl, ⟨(Array.getElem?_eq_some_iff.1 hg).1, fun i p hp => ?_, fun i p hp => ?_⟩⟩⟩, fun G hG => by obtain rfl := Option.some.inj hG; exact hb⟩
    · have hi : i < ps.length := (List.getElem?_eq_some_iff.1 hp).1
      have hf := flat_get hp
      have key : ∀ k u, (flat ps)[k]? = some u → W.cell? ⟨g, k, none⟩ = some u := by
        intro k u hk
        have hk' : k < (flat ps).length := (List.getElem?_eq_some_iff.1 hk).1
        rw [← ht, List.getElem?_take_of_lt (by rw [flat_length] at hk'; exact hk')] at hk
        simp [World.cell?, hg]
        simpa using hk
      exact ⟨key _ _ hf.1, key _ _ hf.2⟩
    · constructor <;> simp [World.frozen?, hg]

/-- The state of such a loop: facts on lower blocks, the result's cell at R, the box's at K, its pairs behind. -/
structure App (l : List Fact) (R K : Nat) (out : List (Int × Int)) (v : Value) (W : World) : Prop where
  facts : Facts W l
  low : ∀ f ∈ l, ∀ c, K ≤ c → f.free (some c)
  res : Own W R [.slice none 0 0]
  box : Own W K [v]
  row : W.ownsRow (K + 1) 40 2 v out.length (flat out)
  wf : ∀ p ∈ out, (Lit.int .i64 p.1).wf = true ∧ (Lit.int .i64 p.2).wf = true
  lt : R < K

theorem App.below {l : List Fact} {R K : Nat} {out : List (Int × Int)} {v : Value} {W W' : World} (h : App l R K out v W) (q : Below W.heap.size W W') : App l R K out v W' :=
  ⟨h.facts.below q, h.low, h.res.below q, h.box.below q, ownsRow_below h.row q, h.wf, h.lt⟩

theorem App.start {l : List Fact} {R : Nat} {W : World} (h : Facts W l) (hl : ∀ f ∈ l, ∀ c, W.heap.size ≤ c → f.free (some c)) (hr : Own W R [.slice none 0 0]) : App l R W.heap.size [] (.slice none 0 0) (W.alloc (.cells #[.slice none 0 0] 25)) :=
  ⟨h.alloc _, hl, hr.alloc _, Own.new W _ _, World.ownsRow_nil _ _ _ _, fun p hp => by simp at hp, hr.lt⟩

theorem App.append {l : List Fact} {R K : Nat} {out : List (Int × Int)} {v v' : Value} {W W' : World} {x y : Int} (h : App l R K out v W) (hg : W.grownBy W' v.ownBlock)
    (hr : W'.ownsRow (K + 1) 40 2 v' (out.length + 1) (flat out ++ [.int .i64 x, .int .i64 y])) (hw : (Lit.int .i64 x).wf = true ∧ (Lit.int .i64 y).wf = true) :
    App l R K (out ++ [(x, y)]) v' (W'.setCell ⟨K, 0, none⟩ v') := by
  have hs := h.box.lt
  have hR := h.lt
  obtain ⟨c, hc, hk⟩ := Keep.of_grown hg h.row (by omega)
  have hkO : KeepO (some c) W W' := ⟨hk.os, hk.tape, hk.output, hk.size, fun k hk1 hne => hk.block k hk1 (fun e => hne (by rw [e]))⟩
  have hk2 : KeepO (some K) W' (W'.setCell ⟨K, 0, none⟩ v') := (KeepO.of_below _ (Below.refl _ _)).setCell _
  refine ⟨?_, h.low, (h.res.keep hk (by omega)).other _ (by omega), (h.box.keep hk (by omega)).set (i := 0) v' (by simp), ?_, ?_, h.lt⟩
  · intro f hf
    exact f.keep (f.keep (h.facts f hf) hkO (h.low f hf c (by omega))) hk2 (h.low f hf K (Nat.le_refl _))
  · rw [flat_snoc] at hr
    have := ownsRow_setCell_below hr (a := ⟨K, 0, none⟩) (by simp) v'
    simpa using this
  · intro p hp
    rcases List.mem_append.1 hp with q | q
    · exact h.wf p q
    · simp at q; subst q; exact hw

theorem App.boxKeep {l : List Fact} {R K : Nat} {out : List (Int × Int)} {v : Value} {W W' : World} (h : App l R K out v W) (hg : W.grownBy W' v.ownBlock) : Own W' K [v] := by
  obtain ⟨c, hc, hk⟩ := Keep.of_grown hg h.row (by have := h.box.lt; omega)
  exact h.box.keep hk (by omega)

/-- The end: the box, and true. -/
theorem appEnd {fn : Func} {p u : Tmp} (hres : fn.results = #[.cell p 25, .tmp u]) {l : List Fact} {w W : World} {T : Array Value} {R K : Nat} {out : List (Int × Int)} {v : Value} {ok : Bool} (h : App l R K out v W) (hb : Below w.heap.size w W) (hR : w.heap.size ≤ R)
    (ht : T.getD p undef = .pointer (some ⟨R, 0, none⟩)) (hk : T.getD u undef = .bool ok) :
    bodyPost Tryd.prog fn (BoxOut w out ok) Exit.ret { tmps := T, defers := [] } (W.setCell ⟨R, 0, none⟩ v) := by
  obtain ⟨a, cap, o, rfl, hc, hp, ho⟩ := ownsRow_has h.row h.wf
  have hl := h.lt
  exact boxEnd hres rfl h.res hb hR hc hp (fun G hG => by have := ho G hG; omega) (fun e => by have := ho R e; omega) ht hk

end Go.Proofs.YteohgmmenlinbacDoor
