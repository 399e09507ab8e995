/- A box that grows by append of what the reader draws, beside facts on other blocks. -/
import Derived.Test.YteohgmmenlinbacDoorDrawX
import Derived.Test.YteohgmmenlinbacDoorJA
import Derived.Test.YteohgmmenlinbacDoorDrawK
import Derived.Test.YteohgmmenlinbacDoorApp
namespace Go.Proofs.YteohgmmenlinbacDoor
open Go.ChangeShapes Go.WideShapes Go.ChangeAt Go.RowKit
set_option linter.unusedVariables false

theorem Keep.o {b : Nat} {w w' : World} (q : Keep b w w') : KeepO (some b) w w' := ⟨q.os, q.tape, q.output, q.size, fun k hk hne => q.block k hk (fun e => hne (by rw [e]))⟩
theorem Facts.drew {W : World} {l : List Fact} (h : Facts W l) : Facts W.drew l := h.below ((Below.refl _ _).drew)
theorem Facts.keepB {b : Nat} {W W' : World} {l : List Fact} (h : Facts W l) (q : Keep b W W') (hf : ∀ f ∈ l, f.free (some b)) : Facts W' l := fun f hm => f.keep (h f hm) q.o (hf f hm)
theorem Facts.set {W : World} {l : List Fact} {R i : Nat} (h : Facts W l) (v : Value) (hf : ∀ f ∈ l, f.free (some R)) : Facts (W.setCell ⟨R, i, none⟩ v) l := fun f hm => f.keep (h f hm) ((KeepO.of_below (some R) (Below.refl _ W)).setCell _) (hf f hm)
theorem ownsRow_low' {w : World} {base base' : Nat} {e : TypeId} {size : Nat} {v : Value} {n : Nat} {xs : List Value} (h : w.ownsRow base e size v n xs) (hb : base' ≤ base) : w.ownsRow base' e size v n xs := by
  obtain ⟨h1, h2⟩ := h
  refine ⟨h1, ?_⟩
  rcases h2 with h2 | ⟨g, cap, cur, a1, a2, a3⟩
  · exact .inl h2
  · exact .inr ⟨g, cap, cur, a1, Nat.le_trans hb a2, a3⟩

/-- The reader at b, the result's cell at R, the box's at K, its pairs behind; other facts. -/
structure ApSt (w0 : World) (b R K : Nat) (fl : List Fact) (ps : List (Int × Int)) (v : Value) (lim : Int) (W : World) : Prop where
  rd : Rd W b lim
  keep : Keep b w0 W
  res : Own W R [.slice none 0 0]
  box : Own W K [v]
  row : W.ownsRow (K + 1) 40 2 v ps.length (flat ps)
  good : ∀ p ∈ ps, (Lit.int .i64 p.1).wf = true ∧ (Lit.int .i64 p.2).wf = true
  facts : Facts W fl
  hK : w0.heap.size ≤ K
  hR : R ≠ b
  hRK : R < K
  hbK : b < K
  free : ∀ f ∈ fl, f.free (some b)
  freeK : ∀ f ∈ fl, ∀ c, K ≤ c → f.free (some c)

theorem ApSt.next {w0 W W' : World} {b R K : Nat} {fl : List Fact} {ps : List (Int × Int)} {v : Value} {lim lim' : Int} (h : ApSt w0 b R K fl ps v lim W) (hr : Rd W' b lim') (q : Keep b W W') : ApSt w0 b R K fl ps v lim' W' :=
  ⟨hr, h.keep.trans q, h.res.keep q h.hR, h.box.keep q (by have := h.hbK; omega), ownsRow_keep h.row q (by have := h.hbK; omega), h.good, h.facts.keepB q h.free, h.hK, h.hR, h.hRK, h.hbK, h.free, h.freeK⟩
theorem ApSt.mono {w0 W : World} {b R K : Nat} {fl : List Fact} {ps : List (Int × Int)} {v : Value} {lim lim' : Int} (h : ApSt w0 b R K fl ps v lim W) (hl : lim ≤ lim') : ApSt w0 b R K fl ps v lim' W :=
  ⟨h.rd.mono hl, h.keep, h.res, h.box, h.row, h.good, h.facts, h.hK, h.hR, h.hRK, h.hbK, h.free, h.freeK⟩
theorem ApSt.alloc {w0 W : World} {b R K : Nat} {fl : List Fact} {ps : List (Int × Int)} {v : Value} {lim : Int} (h : ApSt w0 b R K fl ps v lim W) (o : Obj) : ApSt w0 b R K fl ps v lim (W.alloc o) :=
  h.next (h.rd.alloc o) ((Keep.refl b W).alloc o)
theorem ApSt.drew {w0 W : World} {b R K : Nat} {fl : List Fact} {ps : List (Int × Int)} {v : Value} {lim : Int} (h : ApSt w0 b R K fl ps v lim W) : ApSt w0 b R K fl ps v lim W.drew :=
  ⟨h.rd, h.keep.drew, h.res.drew, h.box.drew, h.row, h.good, h.facts.drew, h.hK, h.hR, h.hRK, h.hbK, h.free, h.freeK⟩

theorem ApSt.append {w0 W W' : World} {b R K : Nat} {fl : List Fact} {ps : List (Int × Int)} {v v' : Value} {lim x y : Int} (h : ApSt w0 b R K fl ps v lim W) (hg : W.grownBy W' v.ownBlock)
    (hr : W'.ownsRow (K + 1) 40 2 v' (ps.length + 1) (flat ps ++ [.int .i64 x, .int .i64 y])) (hp : (Lit.int .i64 x).wf = true ∧ (Lit.int .i64 y).wf = true) :
    ApSt w0 b R K fl (ps ++ [(x, y)]) v' lim (W'.setCell ⟨K, 0, none⟩ v') := by
  have hs := h.box.lt
  have h1 := h.hK
  have h2 := h.hRK
  have h3 := h.hbK
  obtain ⟨c, hc, hk⟩ := Keep.of_grown hg h.row (by omega)
  refine ⟨(h.rd.keep hk (by omega)).own _ (by omega), (h.keep.trans_new hk (by omega)).new (p := ⟨K, 0, none⟩) h1 _, (h.res.keep hk (by omega)).other _ (by omega), (h.box.keep hk (by omega)).set (i := 0) v' (by simp), ?_, ?_, ?_, h.hK, h.hR, h.hRK, h.hbK, h.free, h.freeK⟩
  · rw [flat_snoc] at hr
    have := ownsRow_setCell_below hr (a := ⟨K, 0, none⟩) (by simp) v'
    simpa using this
  · intro p hp'
    rcases List.mem_append.1 hp' with q | q
    · exact h.good p q
    · simp at q; subst q; exact hp
  · exact (h.facts.keepB hk fun f hf => h.freeK f hf c (by omega)).set _ fun f hf => h.freeK f hf K (Nat.le_refl _)

/-- Behind the append, ahead of the store of what it gave. -/
def ApMid (w0 : World) (b R K : Nat) (fl : List Fact) (ps : List (Int × Int)) (v : Value) (lim : Int) (v' : Value) (x y : Int) (W : World) : Prop :=
  ∃ W0, ApSt w0 b R K fl ps v lim W0 ∧ W0.grownBy W v.ownBlock ∧ W.ownsRow (K + 1) 40 2 v' (ps.length + 1) (flat ps ++ [.int .i64 x, .int .i64 y]) ∧ (Lit.int .i64 x).wf = true ∧ (Lit.int .i64 y).wf = true
theorem ApMid.box {w0 W : World} {b R K : Nat} {fl : List Fact} {ps : List (Int × Int)} {v v' : Value} {lim x y : Int} (h : ApMid w0 b R K fl ps v lim v' x y W) : Own W K [v] := by
  obtain ⟨W0, h0, hg, _⟩ := h
  obtain ⟨c, hc, hk⟩ := Keep.of_grown hg h0.row (by have := h0.box.lt; omega)
  exact h0.box.keep hk (by omega)
theorem ApMid.facts {w0 W : World} {b R K : Nat} {fl : List Fact} {ps : List (Int × Int)} {v v' : Value} {lim x y : Int} (h : ApMid w0 b R K fl ps v lim v' x y W) : Facts W fl := by
  obtain ⟨W0, h0, hg, _⟩ := h
  obtain ⟨c, hc, hk⟩ := Keep.of_grown hg h0.row (by have := h0.box.lt; omega)
  exact h0.facts.keepB hk fun f hf => h0.freeK f hf c (by omega)
theorem ApMid.append {w0 W : World} {b R K : Nat} {fl : List Fact} {ps : List (Int × Int)} {v v' : Value} {lim x y : Int} (h : ApMid w0 b R K fl ps v lim v' x y W) : ApSt w0 b R K fl (ps ++ [(x, y)]) v' lim (W.setCell ⟨K, 0, none⟩ v') := by
  obtain ⟨W0, h0, hg, hr, nx, ny⟩ := h
  exact h0.append hg hr ⟨nx, ny⟩

/-- The end of a function that returns a box alone, out of a cell. -/
theorem boxAlone {fn : Func} {p : Tmp} (hres : fn.results = #[.cell p 25]) {W : World} {R : Nat} {v u : Value} {T : Array Value} {Q : Ending → World → Prop} (h : Own W R [u]) (ht : T.getD p undef = .pointer (some ⟨R, 0, none⟩))
    (hQ : Q (.returned (.agg #[v])) (W.setCell ⟨R, 0, none⟩ v)) : bodyPost Tryd.prog fn Q Exit.ret { tmps := T, defers := [] } (W.setCell ⟨R, 0, none⟩ v) := by
  have o := h.set (i := 0) v (by simp)
  have d0 := o.cell 0 v rfl
  refine bodyPost_ret (v := .agg #[v]) ?_ rfl hQ
  generalize W.setCell ⟨R, 0, none⟩ v = V at d0
  rw [run_results_cell hres, ht]
  simp [go_sem, d0]

theorem DPairOut.within {w w' : World} {b : Nat} {lim : Int} {e : Ending} (h : DPairOut w b lim e w') : WithinOut w b lim e w' := by
  obtain ⟨x, y, he, nx, ny, hr, hk⟩ := h
  exact ⟨x, y, he, nx.wf, ny.wf, hr, hk⟩

/-- A new box of at most so many pairs, drawn by a reader. -/
def DBoxR (w : World) (b N : Nat) (lim : Int) (e : Ending) (w' : World) : Prop :=
  ∃ (a : Option Addr) (cap : Nat) (ps : List (Int × Int)) (o : Option Nat), e = .returned (.agg #[.slice a ps.length cap]) ∧ ps.length ≤ N ∧ ps.length ≤ cap ∧ HasO w' a ps o ∧ (∀ G, o = some G → w.heap.size ≤ G) ∧ (∀ p ∈ ps, Nr p.1 ∧ Nr p.2) ∧ Rd w' b lim ∧ Keep b w w'

theorem boxR (w : World) (b : Nat) (lim n : Int) (h : Rd w b lim) (hl : lim ≤ 990000) :
    Calls Tryd.prog 26 #[.pointer (some ⟨b, 0, none⟩), .int .i64 n] w (DBoxR w b 8 (lim + 4000)) := by
  refine (box w b lim n h hl).mono ?_
  rintro e w' ⟨v, ps, rfl, h8, hrow, hg, hr, hk⟩
  obtain ⟨a, cap, o, rfl, hc, hh, ho⟩ := ownsRow_has hrow (fun p hp => ⟨(hg p hp).1.wf, (hg p hp).2.wf⟩)
  exact ⟨a, cap, ps, o, rfl, h8, hc, hh, fun G hG => by have := ho G hG; omega, hg, hr, hk⟩

/-- A new box of at most so many pairs. -/
def DBox (w : World) (N : Nat) (e : Ending) (w' : World) : Prop :=
  ∃ (a : Option Addr) (cap : Nat) (ps : List (Int × Int)) (o : Option Nat), e = .returned (.agg #[.slice a ps.length cap]) ∧ ps.length ≤ N ∧ ps.length ≤ cap ∧ HasO w' a ps o ∧ (∀ G, o = some G → w.heap.size ≤ G) ∧ (∀ p ∈ ps, (Lit.int .i64 p.1).wf = true ∧ (Lit.int .i64 p.2).wf = true) ∧ Below w.heap.size w w'

theorem Code8.alloc {w : World} {a : Option Addr} {len : Nat} (h : Code8 w a len) (o : Obj) : Code8 (w.alloc o) a len := by
  rcases h with h | ⟨rb, ro, ha, hlt, hcell⟩
  · exact .inl h
  · refine .inr ⟨rb, ro, ha, by simp; omega, fun j hj => ?_⟩
    obtain ⟨z, z0, z1, hz⟩ := hcell j hj
    exact ⟨z, z0, z1, (World.cell?_alloc_lt _ _ _ hlt).trans hz⟩

theorem dboxEnd {fn : Func} {p : Tmp} (hres : fn.results = #[.cell p 25]) {w W : World} {T : Array Value} {N len cap : Nat} {a : Option Addr} {ps : List (Int × Int)} {o : Option Nat} (hR : Own W w.heap.size [.slice none 0 0]) (hlen : ps.length = len) (hN : ps.length ≤ N) (hc : len ≤ cap) (hh : HasO W a ps o)
    (ho : ∀ G, o = some G → w.heap.size + 1 ≤ G) (hg : ∀ p ∈ ps, (Lit.int .i64 p.1).wf = true ∧ (Lit.int .i64 p.2).wf = true) (hb : Below w.heap.size w W) (ht : T.getD p undef = .pointer (some ⟨w.heap.size, 0, none⟩)) :
    bodyPost Tryd.prog fn (DBox w N) Exit.ret { tmps := T, defers := [] } (W.setCell ⟨w.heap.size, 0, none⟩ (.slice a len cap)) := by
  subst hlen
  refine boxAlone hres hR ht ⟨a, cap, ps, o, rfl, hN, hc, ?_, fun G hG => by have := ho G hG; omega, hg, hb.setCell (p := ⟨w.heap.size, 0, none⟩) (Nat.le_refl _) _⟩
  exact hh.keepO ((KeepO.of_below (some w.heap.size) (Below.refl _ W)).setCell _) (fun G hG e => by have := ho G hG; have := Option.some.inj e; omega)

end Go.Proofs.YteohgmmenlinbacDoor
