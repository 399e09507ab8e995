/- Opening an argument that is a box: what a walk is told of it. -/
import Derived.Test.YteohgmmenlinbagFrame
import Derived.Test.YteohgmmenlinbagBoxA
namespace Go.Proofs.Yteohgmmenlinbag
open Go.ChangeShapes Go.WideShapes Go.ChangeAt Go.RowKit Go.Joins Go.Deep
set_option linter.unusedVariables false

section
variable {H : Type} {enc : TypeId × Value → H} {P : Program} {w : World} {base : Nat} {held : Bool}

theorem plain_of_cell {x : Addr} {v : Value} (h : w.cell? x = some v) : ∃ b off, x = ⟨b, off, none⟩ ∧ b < w.heap.size := by
  obtain ⟨b, off, spot⟩ := x
  cases spot with
  | none =>
    refine ⟨b, off, rfl, ?_⟩
    rcases Nat.lt_or_ge b w.heap.size with hb | hb
    · exact hb
    · simp [World.cell?, Array.getElem?_eq_none hb] at h
  | some s =>
    simp only [World.cell?] at h
    split at h <;> simp at h

/-- A box that came in by value. -/
theorem open_box {r : Reach} {b0 : Nat} {t e : TypeId} {f0 g0 g1 : Field} {v : Value} {d : DataW H} {p : List MemPlace} (hs : P.underlying t = some (.struct #[f0])) (hone : oneCellFields P #[f0] = true) (hC : P.cellsOf t = 1)
    (h0 : P.underlying f0.type = some (.slice e)) (he : P.underlying e = some (.struct #[g0, g1])) (ce : P.cellsOf e = 2) (o0 : g0.offset = 0) (o1 : g1.offset = 1) (c0 : P.cellsOf g0.type = 1) (c1 : P.cellsOf g1.type = 1)
    (e0 : P.underlying g0.type = some (.int .i64)) (e1 : P.underlying g1.type = some (.int .i64))
    (hv : Value.okWide P w r b0 t v) (h : DataW.Trod enc P w base (fun _ => true) held t v d p) :
    ∃ a ps cap, v = .agg #[.slice a ps.length cap] ∧ PairsAt w a ps ∧ ps.length ≤ cap ∧ ps.length ≤ maxLen := by
  obtain ⟨cs, rfl, hsz⟩ := okWide_struct hs hv
  obtain ⟨fuel, hf⟩ := h
  obtain ⟨y0, n, hx, _, hy⟩ := trod_struct1 hs hf
  obtain ⟨q0, k0⟩ := hone_of hone 0 f0 rfl
  obtain ⟨l⟩ := cs
  match l, hsz.trans hC with
  | [c], _ =>
    have hy' : DataW.trod enc P w base (fun _ => true) held n f0.type [c] = some y0 := by simpa [Value.cells, q0, k0] using hy
    rcases open_slice_pairs h0 he ce o0 o1 c0 c1 hy' with ⟨hcs, _⟩ | ⟨a, len, cap, m, n', V0, V1, D0, D1, P0, P1, hcs, _, hl, hm, hmm, _, hcell⟩
    · obtain rfl : c = .slice none 0 0 := by simpa using hcs
      exact ⟨none, [], 0, rfl, ⟨by simp, .inl rfl⟩, Nat.le_refl _, Nat.zero_le _⟩
    · obtain rfl : c = .slice (some a) len cap := by simpa using hcs
      have hmm' : m = cap := by simpa using hmm
      subst hmm'
      have each : ∀ i, i < m → ∃ q : Int × Int, w.cell? (a.add (i * 2)) = some (.int .i64 q.1) ∧ w.cell? (a.add (i * 2 + 1)) = some (.int .i64 q.2) ∧ (Lit.int .i64 q.1).wf = true ∧ (Lit.int .i64 q.2).wf = true := by
        intro i hi
        obtain ⟨r0, r1, t0, t1⟩ := hcell i hi
        obtain ⟨x, q0, _, wx⟩ := DataW.trod_int e0 t0
        obtain ⟨y, q1, _, wy⟩ := DataW.trod_int e1 t1
        simp at q0 q1
        exact ⟨(x, y), by rw [r0, q0], by rw [r1, q1], wx, wy⟩
      let ps : List (Int × Int) := (List.range len).map fun i => if hi : i < m then (each i hi).choose else (0, 0)
      have hps : ps.length = len := by simp [ps]
      have hget : ∀ (i : Nat) (q : Int × Int), ps[i]? = some q → w.cell? (a.add (i * 2)) = some (.int .i64 q.1) ∧ w.cell? (a.add (i * 2 + 1)) = some (.int .i64 q.2) ∧ (Lit.int .i64 q.1).wf = true ∧ (Lit.int .i64 q.2).wf = true := by
        intro i q hq
        have hil : i < len := by have := (List.getElem?_eq_some_iff.1 hq).1; omega
        have him : i < m := by omega
        have : ps[i]? = some (each i him).choose := by simp [ps, hil, him]
        rw [this] at hq
        obtain rfl := Option.some.inj hq
        exact (each i him).choose_spec
      refine ⟨some a, ps, m, by rw [hps], ⟨fun q hq => ?_, ?_⟩, by omega, by omega⟩
      · obtain ⟨i, hi⟩ := List.getElem?_of_mem hq
        exact (hget i q hi).2.2
      · by_cases hz : ps = []
        · exact .inl hz
        · right
          have hlen : 0 < ps.length := List.length_pos_iff.2 hz
          obtain ⟨b, off, rfl, hb⟩ := plain_of_cell (by have := (hget 0 _ (List.getElem?_eq_getElem hlen)).1; simpa [Addr.add] using this)
          refine ⟨b, off, rfl, hb, fun i q hq => ?_⟩
          obtain ⟨u0, u1, _, _⟩ := hget i q hq
          constructor
          · by_cases e : i = 0
            · subst e; simpa [Addr.add] using u0
            · rw [Addr.add, if_neg (by omega)] at u0; exact u0
          · rw [Addr.add, if_neg (by omega)] at u1; exact u1
end

end Go.Proofs.Yteohgmmenlinbag
