/- The contract of the reader's 'box'. -/
import Derived.Test.YteohgmmenlinbagDrawI
import Derived.Test.YteohgmmenlinbagFlat
import Derived.Test.YteohgmmenlinbagRegInv
import Derived.Deep.RegionLaw
namespace Go.Proofs.Yteohgmmenlinbag
open Go.ChangeShapes Go.WideShapes Go.ChangeAt Go.RowKit
set_option linter.unusedVariables false

theorem oper_append_own {P : Program} {o : Oper} {a : Act} {w : World} {K : Act → World → Prop} {Q : Exit → Act → World → Prop}
    (s x : Operand) (t : TypeId) (hop : o.op = Op.call { callee := Callee.builtin Builtin.append, args := #[s, x], argTypes := #[t, t] })
    (base : Nat) (e : TypeId) (i : TypeInfo) (z : Value) (size bytes : Nat) (h1 : P.underlying t = some (.slice e)) (h2 : P.info? e = some i) (h3 : i.zero = some z) (h4 : i.size = size) (h5 : i.bytes = bytes) (h6 : z.cells.size = size) (h7 : 0 < size)
    (v : Value) (n : Nat) (xs : List Value) (hs : a.eval s = v) (hown : w.ownsRow base e size v n xs)
    (ad : Addr) (m c : Nat) (news : List Value) (hx : a.eval x = .slice (some ad) m c) (hn : news.length = m * size) (hc : ∀ j u, news[j]? = some u → w.cell? (ad.add j) = some u) (h1c : ∀ u ∈ news, u.oneCell' = true)
    (b1 : n + m ≤ maxLen) (b2 : (n + m) * bytes ≤ 140737488355328) (hbase : base ≤ w.heap.size)
    (hK : ∀ v' w', w'.ownsRow base e size v' (n + m) (xs ++ news) → w.grownBy w' v.ownBlock → K (a.put o.dst v') w') : o.wp P a w K Q := by
  obtain ⟨v', w', hrun, r1, r2, _⟩ := run_append_own (P := P) w base t o.type e i z size bytes h1 h2 h3 h4 h5 h6 h7 v n xs hown ad m c news hn hc h1c b1 b2 hbase
  unfold Oper.wp
  simp [execOp, hop, resolve, invoke, builtin, hs, hx, hrun, Result.andThen]
  exact hK v' w' r1 r2

theorem grown_form {w : World} {base : Nat} {e : TypeId} {size n : Nat} {v : Value} {xs : List Value} (h : w.ownsRow base e size v (n + 1) xs) : ∃ g c, v = .slice (some ⟨g, 0, none⟩) (n + 1) c := by
  rcases h.2 with ⟨_, q⟩ | ⟨g, cap, _, q, _⟩
  · omega
  · exact ⟨g, cap, q⟩

/-- The state in 'box': its result's cell at k, its box's at k + 1, the pairs behind. -/
structure BxSt (w : World) (b : Nat) (ps : List (Int × Int)) (v : Value) (lim : Int) (W : World) : Prop where
  rd : Rd W b lim
  keep : Keep b w W
  res : Own W w.heap.size [.slice none 0 0]
  box : Own W (w.heap.size + 1) [v]
  row : W.ownsRow (w.heap.size + 2) 49 2 v ps.length (flat ps)
  good : ∀ p ∈ ps, Nr p.1 ∧ Nr p.2

theorem BxSt.next {w W W' : World} {b : Nat} {ps : List (Int × Int)} {v : Value} {lim lim' : Int} (hb : b < w.heap.size) (h : BxSt w b ps v lim W) (hr : Rd W' b lim') (q : Keep b W W') : BxSt w b ps v lim' W' :=
  ⟨hr, h.keep.trans q, h.res.keep q (by omega), h.box.keep q (by omega), ownsRow_keep h.row q (by omega), h.good⟩
theorem BxSt.mono {w W : World} {b : Nat} {ps : List (Int × Int)} {v : Value} {lim lim' : Int} (h : BxSt w b ps v lim W) (hl : lim ≤ lim') : BxSt w b ps v lim' W :=
  ⟨h.rd.mono hl, h.keep, h.res, h.box, h.row, h.good⟩
theorem BxSt.alloc {w W : World} {b : Nat} {ps : List (Int × Int)} {v : Value} {lim : Int} (h : BxSt w b ps v lim W) (hb : b < w.heap.size) (o : Obj) : BxSt w b ps v lim (W.alloc o) :=
  BxSt.next hb h (h.rd.alloc o) ((Keep.refl b W).alloc o)
theorem BxSt.drew {w W : World} {b : Nat} {ps : List (Int × Int)} {v : Value} {lim : Int} (h : BxSt w b ps v lim W) : BxSt w b ps v lim W.drew :=
  ⟨h.rd, h.keep.drew, h.res.drew, h.box.drew, h.row, h.good⟩

theorem BxSt.append {w W W' : World} {b : Nat} {ps : List (Int × Int)} {v v' : Value} {lim x y : Int} (hb : b < w.heap.size) (h : BxSt w b ps v lim W) (hg : W.grownBy W' v.ownBlock)
    (hr : W'.ownsRow (w.heap.size + 2) 49 2 v' (ps.length + 1) (flat ps ++ [.int .i64 x, .int .i64 y])) (hp : Nr x ∧ Nr y) :
    BxSt w b (ps ++ [(x, y)]) v' lim (W'.setCell ⟨w.heap.size + 1, 0, none⟩ v') := by
  have hs := h.box.lt
  obtain ⟨c, hc, hk⟩ := Keep.of_grown hg h.row (by omega)
  refine ⟨(h.rd.keep hk (by omega)).own _ (by omega), (h.keep.trans_new hk (by omega)).new (p := ⟨w.heap.size + 1, 0, none⟩) (Nat.le_succ _) _, (h.res.keep hk (by omega)).other _ (by omega), (h.box.keep hk (by omega)).set (i := 0) v' (by simp), ?_, ?_⟩
  · rw [flat_snoc] at hr
    have := ownsRow_setCell_below hr (a := ⟨w.heap.size + 1, 0, none⟩) (by simp) v'
    simpa using this
  · intro p hp'
    rcases List.mem_append.1 hp' with q | q
    · exact h.good p q
    · simp at q; subst q; exact hp

/-- Behind the append, ahead of the store of what it gave. -/
def BxMid (w : World) (b : Nat) (ps : List (Int × Int)) (v : Value) (lim : Int) (v' : Value) (x y : Int) (W : World) : Prop :=
  ∃ W0, BxSt w b ps v lim W0 ∧ W0.grownBy W v.ownBlock ∧ W.ownsRow (w.heap.size + 2) 49 2 v' (ps.length + 1) (flat ps ++ [.int .i64 x, .int .i64 y]) ∧ Nr x ∧ Nr y
theorem BxMid.box {w W : World} {b : Nat} {ps : List (Int × Int)} {v v' : Value} {lim x y : Int} (h : BxMid w b ps v lim v' x y W) : Own W (w.heap.size + 1) [v] := by
  obtain ⟨W0, h0, hg, _⟩ := h
  obtain ⟨c, hc, hk⟩ := Keep.of_grown hg h0.row (by have := h0.box.lt; omega)
  exact h0.box.keep hk (by omega)
theorem BxMid.append {w W : World} {b : Nat} {ps : List (Int × Int)} {v v' : Value} {lim x y : Int} (h : BxMid w b ps v lim v' x y W) (hb : b < w.heap.size) : BxSt w b (ps ++ [(x, y)]) v' lim (W.setCell ⟨w.heap.size + 1, 0, none⟩ v') := by
  obtain ⟨W0, h0, hg, hr, nx, ny⟩ := h
  exact h0.append hb hg hr ⟨nx, ny⟩

/-- What the reader's box answers: a new box of at most so many pairs. -/
def BxOut (w : World) (b : Nat) (lim : Int) (e : Ending) (w' : World) : Prop :=
  ∃ v ps, e = .returned (.agg #[v]) ∧ ps.length ≤ 8 ∧ w'.ownsRow (w.heap.size + 2) 49 2 v ps.length (flat ps) ∧ (∀ p ∈ ps, Nr p.1 ∧ Nr p.2) ∧ Rd w' b lim ∧ Keep b w w'

end Go.Proofs.Yteohgmmenlinbag
