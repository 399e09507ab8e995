/- The contract of the reader's 'box'. -/
import Derived.Test.YteohgmmenlinbacDoorDrawI
import Derived.Test.YteohgmmenlinbacDoorJA
import Derived.Deep.RegionLaw
namespace Go.Proofs.YteohgmmenlinbacDoor
open Go.ChangeShapes Go.WideShapes Go.ChangeAt Go.RowKit
set_option linter.unusedVariables false

theorem oper_append_own {P : Program} {o : Oper} {a : Act} {w : World} {K : Act → World → Prop} {Q : Exit → Act → World → Prop}
    (s x : Operand) (t : TypeId) (hop : o.op = Op.call { callee := Callee.builtin Builtin.append, args := #[s, x], argTypes := #[t, t] })
    (base : Nat) (e : TypeId) (i : TypeInfo) (z : Value) (size bytes : Nat) (h1 : P.underlying t = some (.slice e)) (h2 : P.info? e = some i) (h3 : i.zero = some z) (h4 : i.size = size) (h5 : i.bytes = bytes) (h6 : z.cells.size = size) (h7 : 0 < size)
    (v : Value) (n : Nat) (xs : List Value) (hs : a.eval s = v) (hown : w.ownsRow base e size v n xs)
    (ad : Addr) (m c : Nat) (news : List Value) (hx : a.eval x = .slice (some ad) m c) (hn : news.length = m * size) (hc : ∀ j u, news[j]? = some u → w.cell? (ad.add j) = some u) (h1c : ∀ u ∈ news, u.oneCell' = true)
    (b1 : n + m ≤ maxLen) (b2 : (n + m) * bytes ≤ 140737488355328) (hbase : base ≤ w.heap.size)
    (hK : ∀ v' w', w'.ownsRow base e size v' (n + m) (xs ++ news) → w.grownBy w' v.ownBlock → K (a.put o.dst v') w') : o.wp P a w K Q := by
  obtain ⟨v', w', hrun, r1, r2, _⟩ := run_append_own (P := P) w base t o.type e i z size bytes h1 h2 h3 h4 h5 h6 h7 v n xs hown ad m c news hn hc h1c b1 b2 hbase
  unfold Oper.wp
  simp [execOp, hop, resolve, invoke, builtin, hs, hx, hrun, Result.andThen]
  exact hK v' w' r1 r2

theorem grown_form {w : World} {base : Nat} {e : TypeId} {size n : Nat} {v : Value} {xs : List Value} (h : w.ownsRow base e size v (n + 1) xs) : ∃ g c, v = .slice (some ⟨g, 0, none⟩) (n + 1) c := by
  rcases h.2 with ⟨_, q⟩ | ⟨g, cap, _, q, _⟩
  · omega
  · exact ⟨g, cap, q⟩

/-- The state in 'box': its result's cell at k, its box's at k + 1, the pairs behind. -/
structure BxSt (w : World) (b : Nat) (ps : List (Int × Int)) (v : Value) (lim : Int) (W : World) : Prop where
  rd : Rd W b lim
  keep : Keep b w W
  res : Own W w.heap.size [.slice none 0 0]
  box : Own W (w.heap.size + 1) [v]
  row : W.ownsRow (w.heap.size + 2) 40 2 v ps.length (flat ps)
  good : ∀ p ∈ ps, Nr p.1 ∧ Nr p.2

theorem BxSt.next {w W W' : World} {b : Nat} {ps : List (Int × Int)} {v : Value} {lim lim' : Int} (hb : b < w.heap.size) (h : BxSt w b ps v lim W) (hr : Rd W' b lim') (q : Keep b W W') : BxSt w b ps v lim' W' :=
  ⟨hr, h.keep.trans q, h.res.keep q (by omega), h.box.keep q (by omega), ownsRow_keep h.row q (by omega), h.good⟩
theorem BxSt.mono {w W : World} {b : Nat} {ps : List (Int × Int)} {v : Value} {lim lim' : Int} (h : BxSt w b ps v lim W) (hl : lim ≤ lim') : BxSt w b ps v lim' W :=
  ⟨h.rd.mono hl, h.keep, h.res, h.box, h.row, h.good⟩
theorem BxSt.alloc {w W : World} {b : Nat} {ps : List (Int × Int)} {v : Value} {lim : Int} (h : BxSt w b ps v lim W) (hb : b < w.heap.size) (o : Obj) : BxSt w b ps v lim (W.alloc o) :=
  BxSt.next hb h (h.rd.alloc o) ((Keep.refl b W).alloc o)
theorem BxSt.drew {w W : World} {b : Nat} {ps : List (Int × Int)} {v : Value} {lim : Int} (h : BxSt w b ps v lim W) : BxSt w b ps v lim W.drew :=
  ⟨h.rd, h.keep.drew, h.res.drew, h.box.drew, h.row, h.good⟩

theorem BxSt.append {w W W' : World} {b : Nat} {ps : List (Int × Int)} {v v' : Value} {lim x y : Int} (hb : b < w.heap.size) (h : BxSt w b ps v lim W) (hg : W.grownBy W' v.ownBlock)
    (hr : W'.ownsRow (w.heap.size + 2) 40 2 v' (ps.length + 1) (flat ps ++ [.int .i64 x, .int .i64 y])) (hp : Nr x ∧ Nr y) :
    BxSt w b (ps ++ [(x, y)]) v' lim (W'.setCell ⟨w.heap.size + 1, 0, none⟩ v') := by
  have hs := h.box.lt
  obtain ⟨c, hc, hk⟩ := Keep.of_grown hg h.row (by omega)
  refine ⟨(h.rd.keep hk (by omega)).own _ (by omega), (h.keep.trans_new hk (by omega)).new (p := ⟨w.heap.size + 1, 0, none⟩) (Nat.le_succ _) _, (h.res.keep hk (by omega)).other _ (by omega), (h.box.keep hk (by omega)).set (i := 0) v' (by simp), ?_, ?_⟩
  · rw [flat_snoc] at hr
    have := ownsRow_setCell_below hr (a := ⟨w.heap.size + 1, 0, none⟩) (by simp) v'
    simpa using this
  · intro p hp'
    rcases List.mem_append.1 hp' with q | q
    · exact h.good p q
    · simp at q; subst q; exact hp

/-- Behind the append, ahead of the store of what it gave. -/
def BxMid (w : World) (b : Nat) (ps : List (Int × Int)) (v : Value) (lim : Int) (v' : Value) (x y : Int) (W : World) : Prop :=
  ∃ W0, BxSt w b ps v lim W0 ∧ W0.grownBy W v.ownBlock ∧ W.ownsRow (w.heap.size + 2) 40 2 v' (ps.length + 1) (flat ps ++ [.int .i64 x, .int .i64 y]) ∧ Nr x ∧ Nr y
theorem BxMid.box {w W : World} {b : Nat} {ps : List (Int × Int)} {v v' : Value} {lim x y : Int} (h : BxMid w b ps v lim v' x y W) : Own W (w.heap.size + 1) [v] := by
  obtain ⟨W0, h0, hg, _⟩ := h
  obtain ⟨c, hc, hk⟩ := Keep.of_grown hg h0.row (by have := h0.box.lt; omega)
  exact h0.box.keep hk (by omega)
theorem BxMid.append {w W : World} {b : Nat} {ps : List (Int × Int)} {v v' : Value} {lim x y : Int} (h : BxMid w b ps v lim v' x y W) (hb : b < w.heap.size) : BxSt w b (ps ++ [(x, y)]) v' lim (W.setCell ⟨w.heap.size + 1, 0, none⟩ v') := by
  obtain ⟨W0, h0, hg, hr, nx, ny⟩ := h
  exact h0.append hb hg hr ⟨nx, ny⟩

/-- What the reader's box answers: a new box of at most so many pairs. -/
def BxOut (w : World) (b : Nat) (lim : Int) (e : Ending) (w' : World) : Prop :=
  ∃ v ps, e = .returned (.agg #[v]) ∧ ps.length ≤ 8 ∧ w'.ownsRow (w.heap.size + 2) 40 2 v ps.length (flat ps) ∧ (∀ p ∈ ps, Nr p.1 ∧ Nr p.2) ∧ Rd w' b lim ∧ Keep b w w'

theorem box_end {w W : World} {b : Nat} {ps : List (Int × Int)} {v : Value} {lim l : Int} {T : Array Value} (hb : b < w.heap.size) (h : BxSt w b ps v l W) (hl : l ≤ lim) (h3 : ps.length ≤ 8)
    (ht : T.getD 4 undef = .pointer (some ⟨w.heap.size, 0, none⟩)) :
    bodyPost Tryd.prog Tryd.f26 (BxOut w b lim) Exit.ret { tmps := T, defers := [] } (W.setCell ⟨w.heap.size, 0, none⟩ v) := by
  have o := h.res.set (i := 0) v (by simp)
  have d0 := o.cell 0 v rfl
  refine bodyPost_ret (v := .agg #[v]) ?_ rfl ⟨v, ps, rfl, h3, ownsRow_setCell_below h.row (a := ⟨w.heap.size, 0, none⟩) (by simp) v, h.good, (h.rd.mono hl).own _ hb, h.keep.new (p := ⟨w.heap.size, 0, none⟩) (Nat.le_refl _) _⟩
  generalize W.setCell ⟨w.heap.size, 0, none⟩ v = V at d0
  rw [run_results_cell rfl, ht]
  simp [go_sem, d0]

set_option maxRecDepth 100000 in
set_option maxHeartbeats 8000000 in
theorem box (w : World) (b : Nat) (lim n : Int) (h : Rd w b lim) (hl : lim ≤ 990000) :
    Calls Tryd.prog 26 #[.pointer (some ⟨b, 0, none⟩), .int .i64 n] w (BxOut w b (lim + 4000)) := by
  have hb := h.1
  have f0 : BxSt w b [] (.slice none 0 0) lim ((w.alloc (.cells #[.slice none 0 0] 25)).alloc (.cells #[.slice none 0 0] 25)) := by
    refine ⟨(h.alloc _).alloc _, ((Keep.refl b w).alloc _).alloc _, (Own.new w #[.slice none 0 0] 25).alloc _, ?_, ?_, by simp⟩
    · have := Own.new (w.alloc (.cells #[.slice none 0 0] 25)) #[.slice none 0 0] 25
      simpa using this
    · exact World.ownsRow_nil _ _ _ _
  clear h
  obtain ⟨i0, hi, hz0, hz1, hz2⟩ := info_parts infoPair
  have p1 := fun W (h : Rd W b lim) => pick W b lim 3 h (by omega)
  have p2 := fun W (h : Rd W b (lim + 1)) => pick W b (lim + 1) 12 h (by omega)
  have p3 := fun W (h : Rd W b (lim + 2)) => pick W b (lim + 2) 8 h (by omega)
  go_enter Tryd.func26, Tryd.ntmps26
  go_wp2_with first
    | (go_at_call 27; refine (p1 _ f0.rd).mono ?_; clear p1; rintro e w1 ⟨r1, rfl, r10, r11, -, hr, hk⟩; replace r11 := r11 (by omega); replace f0 := BxSt.next hb f0 hr hk; clear hr hk)
    | (go_at_call 27; refine (p2 _ f0.rd).mono ?_; clear p2; rintro e w2 ⟨r2, rfl, r20, r21, -, hr, hk⟩; replace f0 := BxSt.next hb f0 hr hk; clear hr hk)
    | (go_at_call 27; refine (p3 _ (f0.rd.mono (by omega))).mono ?_; clear p3; rintro e w3 ⟨r3, rfl, r30, r31, -, hr, hk⟩; replace r31 := r31 (by omega); replace f0 := BxSt.next hb f0 hr hk; clear hr hk)
  · have f0 : Hid (BxSt w b [] (.slice none 0 0) (lim + 3) _) := f0.mono (by omega)
    go_loopg [7] (r3).toNat (fun g iv wr => ∃ (i : Nat) (v : Value) (ps : List (Int × Int)), ps.length = i ∧ (i : Int) + g = r3 ∧ iv = .int .i64 i ∧ Hid (BxSt w b ps v (lim + 3 + 301 * i) wr))
    case atStart => exact ⟨0, _, [], rfl, by omega, rfl, f0.out.mono (by omega)⟩
    case round =>
      clear f0
      obtain ⟨i, v, ps, hlen, hg, rfl, F⟩ := hrel
      by_cases c : ¬ (i : Int) < r3
      · have e0 := F.out.box.cell 0 v rfl
        have e1 := F.out.res.cell 0 _ rfl
        have e2 := F.out.res.frz 0 _ rfl
        rcases F.out.row.2 with ⟨hv, hz⟩ | ⟨g, cap, cur, hv, _⟩
        · rw [hv] at e0 F
          go_wp2
          exact box_end (ps := ps) (l := lim + 3 + 301 * i) (lim := lim + 4000) hb (by have f := F.out; first | exact f | (rw [hlen] at f; exact f)) (by omega) (by omega) rfl
        · rw [hv] at e0 F
          go_wp2
          exact box_end (ps := ps) (l := lim + 3 + 301 * i) (lim := lim + 4000) hb (by have f := F.out; first | exact f | (rw [hlen] at f; exact f)) (by omega) (by omega) rfl
      · replace c : (i : Int) < r3 := by omega
        obtain ⟨l, hl0⟩ : ∃ l, lim + 3 + 301 * (i : Int) + 1 = l := ⟨_, rfl⟩
        have hl8 : ps.length ≤ 8 := by omega
        have hlenH : Hid (ps.length = i) := hlen
        clear hlen
        have hp := fun W (h : Rd W b l) => pair W b l n h (by omega)
        have hq := fun W (h : Rd W b l) => good W b l n h (by omega)
        go_wp2_with (go_at_call 27; refine (pick _ _ _ _ F.out.rd (by omega)).mono ?_; rintro e w4 ⟨rr, rfl, rr0, rr1, -, hr, hk⟩; have B0 : BxSt w b ps v l w4 := (BxSt.next hb F.out hr hk).mono (by omega); clear hr hk F)
        · have hrr : (rr == 0) = true := by assumption
          rw [hrr]
          refine region_steps (by kernel_rfl) (by kernel_rfl) (by kernel_rfl) (fun A0 f a W => ∃ (x24 : Value) (x25 : Value) (x26 : Value) (x27 : Value) (x28 : Value) (x29 : Value) (x30 : Value) (x31 : Value) (x y : Int) (k : Nat) (v1 : Value), a = { tmps := #[.pointer (some ⟨b, 0, none⟩), .int .i64 n, undef, undef, .pointer (some ⟨w.heap.size, 0, none⟩), .pointer (some ⟨w.heap.size + 1, 0, none⟩), .int .i64 r3, .int .i64 (i : Int), .pointer (some ⟨b, 0, none⟩), .int .i64 r1, .int .i64 (1 + r1), .pointer (some ⟨b, 0, none⟩), .int .i64 r2, .bool true, .pointer (some ⟨b, 0, none⟩), .int .i64 r3, .int .i64 (i : Int), .int .i64 r3, .bool true, u19, u20, .pointer (some ⟨b, 0, none⟩), .int .i64 rr, .bool true, x24, x25, x26, x27, x28, x29, x30, x31, u32, u33, u34, u35, u36, u37, u38, u39, undef], defers := [] } ∧ (f 0 = true → x24 = .pointer (some ⟨w.heap.size + 1, 0, none⟩)) ∧ (f 1 = true → x25 = v) ∧ (f 2 = true → x26 = .pointer (some ⟨b, 0, none⟩)) ∧ (f 3 = true → x27 = .int .i64 n) ∧ (f 4 = true → x28 = .agg #[.int .i64 x, .int .i64 y] ∧ Nr x ∧ Nr y) ∧ (f 5 = true → x29 = .slice (some ⟨k, 0, none⟩) 1 1 ∧ (f 6 = false → ∀ j u, [Value.int .i64 x, .int .i64 y][j]? = some u → W.cell? ((⟨k, 0, none⟩ : Addr).add j) = some u)) ∧ (f 6 = true → x30 = v1 ∧ ∃ g c, v1 = .slice (some ⟨g, 0, none⟩) (ps.length + 1) c) ∧ (f 7 = true → x31 = .pointer (some ⟨w.heap.size + 1, 0, none⟩)) ∧ (f 4 = false → BxSt w b ps v l W) ∧ (f 4 = true → f 6 = false → BxSt w b ps v (l + 50) W) ∧ (f 6 = true → f 8 = false → BxMid w b ps v (l + 50) v1 x y W) ∧ (f 8 = true → BxSt w b (ps ++ [(x, y)]) v1 (l + 50) W) ∧ (f 5 = true → f 4 = true) ∧ (f 6 = true → f 5 = true) ∧ (f 6 = true → f 1 = true) ∧ (f 8 = true → f 6 = true)) ?_ ⟨?_, ?_, ?_, ?_, ?_, ?_, ?_, ?_, ?_, trivial⟩ ?_
          · exact ⟨u24, u25, u26, u27, u28, u29, u30, u31, 0, 0, 0, undef, rfl, (fun h => (by cases h)), (fun h => (by cases h)), (fun h => (by cases h)), (fun h => (by cases h)), (fun h => (by cases h)), (fun h => (by cases h)), (fun h => (by cases h)), (fun h => (by cases h)), fun _ => B0.drew, (fun h => (by cases h)), (fun h => (by cases h)), (fun h => (by cases h)), (fun h => (by cases h)), (fun h => (by cases h)), (fun h => (by cases h)), (fun h => (by cases h))⟩
          · rintro f a W ⟨x24, x25, x26, x27, x28, x29, x30, x31, x, y, k, v1, rfl, h0, h1, h2, h3, h4, h5, h6, h7, m0, m1, m2, m3, i5, i6, i1, i8⟩ hf hd K hK
            go_simp
            refine hK _ _ ?_
            exact ⟨_, x25, x26, x27, x28, x29, x30, x31, x, y, k, v1, rfl, fun _ => rfl, fun h => h1 (upd_ne (by decide) h), fun h => h2 (upd_ne (by decide) h), fun h => h3 (upd_ne (by decide) h), fun h => h4 (upd_ne (by decide) h), fun h => ⟨(h5 (upd_ne (by decide) h)).1, fun h' => (h5 (upd_ne (by decide) h)).2 (by rw [upd_same (by decide)] at h'; exact h')⟩, fun h => h6 (upd_ne (by decide) h), fun h => h7 (upd_ne (by decide) h), fun h => m0 (by rw [upd_same (by decide)] at h; exact h), fun h h' => m1 (upd_ne (by decide) h) (by rw [upd_same (by decide)] at h'; exact h'), fun h h' => m2 (upd_ne (by decide) h) (by rw [upd_same (by decide)] at h'; exact h'), fun h => m3 (upd_ne (by decide) h), fun h => upd_of (i5 (upd_ne (by decide) h)), fun h => upd_of (i6 (upd_ne (by decide) h)), fun h => upd_of (i1 (upd_ne (by decide) h)), fun h => upd_of (i8 (upd_ne (by decide) h))⟩
          · rintro f a W ⟨x24, x25, x26, x27, x28, x29, x30, x31, x, y, k, v1, rfl, h0, h1, h2, h3, h4, h5, h6, h7, m0, m1, m2, m3, i5, i6, i1, i8⟩ hf hd K hK
            have e0 := h0 (dep_of hd (e := ⟨0, .data⟩) (by simp) rfl)
            subst e0
            have f6 : f 6 = false := by cases h : f 6; rfl; exact absurd (i1 h) (by rw [hf]; decide)
            have cur : ∃ l', BxSt w b ps v l' W := by cases h : f 4; exact ⟨_, m0 h⟩; exact ⟨_, m1 h f6⟩
            obtain ⟨l', B⟩ := cur
            have r0 := B.box.cell 0 _ rfl
            go_simp
            refine hK _ _ ?_
            exact ⟨_, _, x26, x27, x28, x29, x30, x31, x, y, k, v1, rfl, fun _ => rfl, fun _ => rfl, fun h => h2 (upd_ne (by decide) h), fun h => h3 (upd_ne (by decide) h), fun h => h4 (upd_ne (by decide) h), fun h => ⟨(h5 (upd_ne (by decide) h)).1, fun h' => (h5 (upd_ne (by decide) h)).2 (by rw [upd_same (by decide)] at h'; exact h')⟩, fun h => h6 (upd_ne (by decide) h), fun h => h7 (upd_ne (by decide) h), fun h => m0 (by rw [upd_same (by decide)] at h; exact h), fun h h' => m1 (upd_ne (by decide) h) (by rw [upd_same (by decide)] at h'; exact h'), fun h h' => m2 (upd_ne (by decide) h) (by rw [upd_same (by decide)] at h'; exact h'), fun h => m3 (upd_ne (by decide) h), fun h => upd_of (i5 (upd_ne (by decide) h)), fun h => upd_of (i6 (upd_ne (by decide) h)), fun _ => upd_self, fun h => upd_of (i8 (upd_ne (by decide) h))⟩
          · rintro f a W ⟨x24, x25, x26, x27, x28, x29, x30, x31, x, y, k, v1, rfl, h0, h1, h2, h3, h4, h5, h6, h7, m0, m1, m2, m3, i5, i6, i1, i8⟩ hf hd K hK
            go_simp
            refine hK _ _ ?_
            exact ⟨x24, x25, _, x27, x28, x29, x30, x31, x, y, k, v1, rfl, fun h => h0 (upd_ne (by decide) h), fun h => h1 (upd_ne (by decide) h), fun _ => rfl, fun h => h3 (upd_ne (by decide) h), fun h => h4 (upd_ne (by decide) h), fun h => ⟨(h5 (upd_ne (by decide) h)).1, fun h' => (h5 (upd_ne (by decide) h)).2 (by rw [upd_same (by decide)] at h'; exact h')⟩, fun h => h6 (upd_ne (by decide) h), fun h => h7 (upd_ne (by decide) h), fun h => m0 (by rw [upd_same (by decide)] at h; exact h), fun h h' => m1 (upd_ne (by decide) h) (by rw [upd_same (by decide)] at h'; exact h'), fun h h' => m2 (upd_ne (by decide) h) (by rw [upd_same (by decide)] at h'; exact h'), fun h => m3 (upd_ne (by decide) h), fun h => upd_of (i5 (upd_ne (by decide) h)), fun h => upd_of (i6 (upd_ne (by decide) h)), fun h => upd_of (i1 (upd_ne (by decide) h)), fun h => upd_of (i8 (upd_ne (by decide) h))⟩
          · rintro f a W ⟨x24, x25, x26, x27, x28, x29, x30, x31, x, y, k, v1, rfl, h0, h1, h2, h3, h4, h5, h6, h7, m0, m1, m2, m3, i5, i6, i1, i8⟩ hf hd K hK
            go_simp
            refine hK _ _ ?_
            exact ⟨x24, x25, x26, _, x28, x29, x30, x31, x, y, k, v1, rfl, fun h => h0 (upd_ne (by decide) h), fun h => h1 (upd_ne (by decide) h), fun h => h2 (upd_ne (by decide) h), fun _ => rfl, fun h => h4 (upd_ne (by decide) h), fun h => ⟨(h5 (upd_ne (by decide) h)).1, fun h' => (h5 (upd_ne (by decide) h)).2 (by rw [upd_same (by decide)] at h'; exact h')⟩, fun h => h6 (upd_ne (by decide) h), fun h => h7 (upd_ne (by decide) h), fun h => m0 (by rw [upd_same (by decide)] at h; exact h), fun h h' => m1 (upd_ne (by decide) h) (by rw [upd_same (by decide)] at h'; exact h'), fun h h' => m2 (upd_ne (by decide) h) (by rw [upd_same (by decide)] at h'; exact h'), fun h => m3 (upd_ne (by decide) h), fun h => upd_of (i5 (upd_ne (by decide) h)), fun h => upd_of (i6 (upd_ne (by decide) h)), fun h => upd_of (i1 (upd_ne (by decide) h)), fun h => upd_of (i8 (upd_ne (by decide) h))⟩
          · rintro f a W ⟨x24, x25, x26, x27, x28, x29, x30, x31, x, y, k, v1, rfl, h0, h1, h2, h3, h4, h5, h6, h7, m0, m1, m2, m3, i5, i6, i1, i8⟩ hf hd K hK
            have e2 := h2 (dep_of hd (e := ⟨2, .data⟩) (by simp) rfl)
            subst e2
            have e3 := h3 (dep_of hd (e := ⟨3, .data⟩) (by simp) rfl)
            subst e3
            have B := m0 hf
            go_simp
            refine (hp _ B.rd).mono ?_
            rintro e W2 ⟨x', y', rfl, nx, ny, hr, hk⟩
            refine hK _ _ ?_
            exact ⟨x24, x25, _, _, _, x29, x30, x31, x', y', k, v1, rfl, fun h => h0 (upd_ne (by decide) h), fun h => h1 (upd_ne (by decide) h), fun _ => rfl, fun _ => rfl, fun _ => ⟨rfl, nx, ny⟩, fun h => absurd (i5 (upd_ne (by decide) h)) (by rw [hf]; decide), fun h => absurd (i5 (i6 (upd_ne (by decide) h))) (by rw [hf]; decide), fun h => h7 (upd_ne (by decide) h), fun h => (by rw [upd_self] at h; cases h), fun _ _ => (BxSt.next hb B hr hk).mono (by omega), fun h _ => absurd (i5 (i6 (upd_ne (by decide) h))) (by rw [hf]; decide), fun h => absurd (i5 (i6 (i8 (upd_ne (by decide) h)))) (by rw [hf]; decide), fun h => upd_self, fun h => upd_of (i6 (upd_ne (by decide) h)), fun h => upd_of (i1 (upd_ne (by decide) h)), fun h => upd_of (i8 (upd_ne (by decide) h))⟩
          · rintro f a W ⟨x24, x25, x26, x27, x28, x29, x30, x31, x, y, k, v1, rfl, h0, h1, h2, h3, h4, h5, h6, h7, m0, m1, m2, m3, i5, i6, i1, i8⟩ hf hd K hK
            have d4 := (dep_of hd (e := ⟨4, .data⟩) (by simp) rfl)
            obtain ⟨e4, nx, ny⟩ := h4 d4
            subst e4
            have f6 : f 6 = false := by cases h : f 6; rfl; exact absurd (i6 h) (by rw [hf]; decide)
            have B := m1 d4 f6
            go_simp
            refine hK _ _ ?_
            exact ⟨x24, x25, x26, x27, _, _, x30, x31, x, y, W.heap.size, v1, rfl, fun h => h0 (upd_ne (by decide) h), fun h => h1 (upd_ne (by decide) h), fun h => h2 (upd_ne (by decide) h), fun h => h3 (upd_ne (by decide) h), fun _ => ⟨rfl, nx, ny⟩, fun _ => ⟨rfl, fun _ => cell_two_new W _ _ _⟩, fun h => absurd (i6 (upd_ne (by decide) h)) (by rw [hf]; decide), fun h => h7 (upd_ne (by decide) h), fun h => (by rw [upd_same (by decide), d4] at h; cases h), fun _ _ => B.alloc hb _, fun h _ => absurd (i6 (upd_ne (by decide) h)) (by rw [hf]; decide), fun h => absurd (i6 (i8 (upd_ne (by decide) h))) (by rw [hf]; decide), fun _ => upd_of d4, fun _ => upd_self, fun h => upd_of (i1 (upd_ne (by decide) h)), fun h => upd_of (i8 (upd_ne (by decide) h))⟩
          · rintro f a W ⟨x24, x25, x26, x27, x28, x29, x30, x31, x, y, k, v1, rfl, h0, h1, h2, h3, h4, h5, h6, h7, m0, m1, m2, m3, i5, i6, i1, i8⟩ hf hd K hK
            have e1 := (h1 (dep_of hd (e := ⟨1, .data⟩) (by simp) rfl)).symm
            subst e1
            have d5 := (dep_of hd (e := ⟨5, .data⟩) (by simp) rfl)
            obtain ⟨e5, hcl⟩ := h5 d5
            subst e5
            have d4 := i5 d5
            obtain ⟨e4, nx, ny⟩ := h4 d4
            have B := m1 d4 hf
            refine oper_append_own (.tmp 25) (.tmp 29) 23 rfl (w.heap.size + 2) 40 i0 (.agg #[.int .i64 0, .int .i64 0]) 2 16 Tryd.underlying23 hi hz0 hz1 hz2 rfl (by decide) v _ _ rfl B.row ⟨k, 0, none⟩ 1 1 [_, _] rfl rfl (hcl hf) (fun u hu => by simp at hu; rcases hu with rfl | rfl <;> rfl) (by unfold maxLen; omega) (by omega) B.box.lt ?_
            intro v2 W2 r1 r2
            refine hK _ _ ?_
            exact ⟨x24, _, x26, x27, x28, _, _, x31, x, y, k, v2, rfl, fun h => h0 (upd_ne (by decide) h), fun _ => rfl, fun h => h2 (upd_ne (by decide) h), fun h => h3 (upd_ne (by decide) h), fun h => h4 (upd_ne (by decide) h), fun _ => ⟨rfl, fun h' => (by rw [upd_self] at h'; cases h')⟩, fun _ => ⟨rfl, grown_form r1⟩, fun h => h7 (upd_ne (by decide) h), fun h => (by rw [upd_same (by decide), d4] at h; cases h), fun _ h' => (by rw [upd_self] at h'; cases h'), fun _ _ => ⟨W, B, r2, r1, nx, ny⟩, fun h => absurd (i8 (upd_ne (by decide) h)) (by rw [hf]; decide), fun h => upd_of (i5 (upd_ne (by decide) h)), fun _ => upd_of d5, fun _ => upd_of (dep_of hd (e := ⟨1, .data⟩) (by simp) rfl), fun _ => upd_self⟩
          · rintro f a W ⟨x24, x25, x26, x27, x28, x29, x30, x31, x, y, k, v1, rfl, h0, h1, h2, h3, h4, h5, h6, h7, m0, m1, m2, m3, i5, i6, i1, i8⟩ hf hd K hK
            go_simp
            refine hK _ _ ?_
            exact ⟨x24, x25, x26, x27, x28, x29, x30, _, x, y, k, v1, rfl, fun h => h0 (upd_ne (by decide) h), fun h => h1 (upd_ne (by decide) h), fun h => h2 (upd_ne (by decide) h), fun h => h3 (upd_ne (by decide) h), fun h => h4 (upd_ne (by decide) h), fun h => ⟨(h5 (upd_ne (by decide) h)).1, fun h' => (h5 (upd_ne (by decide) h)).2 (by rw [upd_same (by decide)] at h'; exact h')⟩, fun h => h6 (upd_ne (by decide) h), fun _ => rfl, fun h => m0 (by rw [upd_same (by decide)] at h; exact h), fun h h' => m1 (upd_ne (by decide) h) (by rw [upd_same (by decide)] at h'; exact h'), fun h h' => m2 (upd_ne (by decide) h) (by rw [upd_same (by decide)] at h'; exact h'), fun h => m3 (upd_ne (by decide) h), fun h => upd_of (i5 (upd_ne (by decide) h)), fun h => upd_of (i6 (upd_ne (by decide) h)), fun h => upd_of (i1 (upd_ne (by decide) h)), fun h => upd_of (i8 (upd_ne (by decide) h))⟩
          · rintro f a W ⟨x24, x25, x26, x27, x28, x29, x30, x31, x, y, k, v1, rfl, h0, h1, h2, h3, h4, h5, h6, h7, m0, m1, m2, m3, i5, i6, i1, i8⟩ hf hd K hK
            have e7 := h7 (dep_of hd (e := ⟨7, .data⟩) (by simp) rfl)
            subst e7
            have d6 : Hid (f 6 = true) := (dep_of hd (e := ⟨6, .data⟩) (by simp) rfl)
            obtain ⟨e6, g, c, ev⟩ := h6 d6.out
            have M := m2 d6.out hf
            subst e6
            subst ev
            have r0 := M.box.cell 0 _ rfl
            have r1 := M.box.frz 0 _ rfl
            go_simp
            refine hK _ _ ?_
            exact ⟨x24, x25, x26, x27, x28, x29, _, _, x, y, k, _, rfl, fun h => h0 (upd_ne (by decide) h), fun h => h1 (upd_ne (by decide) h), fun h => h2 (upd_ne (by decide) h), fun h => h3 (upd_ne (by decide) h), fun h => h4 (upd_ne (by decide) h), fun h => ⟨(h5 (upd_ne (by decide) h)).1, fun h' => (by rw [upd_same (by decide), d6.out] at h'; cases h')⟩, fun _ => ⟨rfl, g, c, rfl⟩, fun _ => rfl, fun h => (by rw [upd_same (by decide), i5 (i6 d6.out)] at h; cases h), fun _ h' => (by rw [upd_same (by decide), d6.out] at h'; cases h'), fun _ h' => (by rw [upd_self] at h'; cases h'), fun _ => M.append hb, fun h => upd_of (i5 (upd_ne (by decide) h)), fun h => upd_of (i6 (upd_ne (by decide) h)), fun h => upd_of (i1 (upd_ne (by decide) h)), fun _ => upd_of d6.out⟩
          rintro f a w5 ⟨x24, x25, x26, x27, x28, x29, x30, x31, x, y, k, v1, rfl, h0, h1, h2, h3, h4, h5, h6, h7, m0, m1, m2, m3, i5, i6, i1, i8⟩ hall
          have B1 := m3 (hall 8 (by decide))
          obtain ⟨e6, g, c, ev⟩ := h6 (hall 6 (by decide))
          have e0 := h0 (hall 0 (by decide))
          subst e0
          have e1 := (h1 (hall 1 (by decide))).symm
          subst e1
          have e2 := h2 (hall 2 (by decide))
          subst e2
          have e3 := h3 (hall 3 (by decide))
          subst e3
          have e7 := h7 (hall 7 (by decide))
          subst e7
          obtain ⟨e4, nx, ny⟩ := h4 (hall 4 (by decide))
          subst e4
          obtain ⟨e5, -⟩ := h5 (hall 5 (by decide))
          subst e5
          subst e6
          clear hall h0 h1 h2 h3 h4 h5 h6 h7 m0 m1 m2 m3 i5 i6 i1 i8
          try dsimp only
          rw [ev] at B1 ⊢
          go_wp2
          go_roundg (r3 - (i + 1)).toNat
          case measure => omega
          case rel => exact ⟨i + 1, _, ps ++ [(x, y)], by rw [List.length_append, hlenH.out]; rfl, by omega, by go_num, B1.mono (by omega)⟩
        · have hrr : (rr == 0) = false := by assumption
          rw [hrr]
          refine region_steps (by kernel_rfl) (by kernel_rfl) (by kernel_rfl) (fun A0 f a W => ∃ (x32 : Value) (x33 : Value) (x34 : Value) (x35 : Value) (x36 : Value) (x37 : Value) (x38 : Value) (x39 : Value) (x y : Int) (k : Nat) (v1 : Value), a = { tmps := #[.pointer (some ⟨b, 0, none⟩), .int .i64 n, undef, undef, .pointer (some ⟨w.heap.size, 0, none⟩), .pointer (some ⟨w.heap.size + 1, 0, none⟩), .int .i64 r3, .int .i64 (i : Int), .pointer (some ⟨b, 0, none⟩), .int .i64 r1, .int .i64 (1 + r1), .pointer (some ⟨b, 0, none⟩), .int .i64 r2, .bool true, .pointer (some ⟨b, 0, none⟩), .int .i64 r3, .int .i64 (i : Int), .int .i64 r3, .bool true, u19, u20, .pointer (some ⟨b, 0, none⟩), .int .i64 rr, .bool false, u24, u25, u26, u27, u28, u29, u30, u31, x32, x33, x34, x35, x36, x37, x38, x39, undef], defers := [] } ∧ (f 0 = true → x32 = .pointer (some ⟨w.heap.size + 1, 0, none⟩)) ∧ (f 1 = true → x33 = v) ∧ (f 2 = true → x34 = .pointer (some ⟨b, 0, none⟩)) ∧ (f 3 = true → x35 = .int .i64 n) ∧ (f 4 = true → x36 = .agg #[.int .i64 x, .int .i64 y] ∧ Nr x ∧ Nr y) ∧ (f 5 = true → x37 = .slice (some ⟨k, 0, none⟩) 1 1 ∧ (f 6 = false → ∀ j u, [Value.int .i64 x, .int .i64 y][j]? = some u → W.cell? ((⟨k, 0, none⟩ : Addr).add j) = some u)) ∧ (f 6 = true → x38 = v1 ∧ ∃ g c, v1 = .slice (some ⟨g, 0, none⟩) (ps.length + 1) c) ∧ (f 7 = true → x39 = .pointer (some ⟨w.heap.size + 1, 0, none⟩)) ∧ (f 4 = false → BxSt w b ps v l W) ∧ (f 4 = true → f 6 = false → BxSt w b ps v (l + 300) W) ∧ (f 6 = true → f 8 = false → BxMid w b ps v (l + 300) v1 x y W) ∧ (f 8 = true → BxSt w b (ps ++ [(x, y)]) v1 (l + 300) W) ∧ (f 5 = true → f 4 = true) ∧ (f 6 = true → f 5 = true) ∧ (f 6 = true → f 1 = true) ∧ (f 8 = true → f 6 = true)) ?_ ⟨?_, ?_, ?_, ?_, ?_, ?_, ?_, ?_, ?_, trivial⟩ ?_
          · exact ⟨u32, u33, u34, u35, u36, u37, u38, u39, 0, 0, 0, undef, rfl, (fun h => (by cases h)), (fun h => (by cases h)), (fun h => (by cases h)), (fun h => (by cases h)), (fun h => (by cases h)), (fun h => (by cases h)), (fun h => (by cases h)), (fun h => (by cases h)), fun _ => B0.drew, (fun h => (by cases h)), (fun h => (by cases h)), (fun h => (by cases h)), (fun h => (by cases h)), (fun h => (by cases h)), (fun h => (by cases h)), (fun h => (by cases h))⟩
          · rintro f a W ⟨x32, x33, x34, x35, x36, x37, x38, x39, x, y, k, v1, rfl, h0, h1, h2, h3, h4, h5, h6, h7, m0, m1, m2, m3, i5, i6, i1, i8⟩ hf hd K hK
            go_simp
            refine hK _ _ ?_
            exact ⟨_, x33, x34, x35, x36, x37, x38, x39, x, y, k, v1, rfl, fun _ => rfl, fun h => h1 (upd_ne (by decide) h), fun h => h2 (upd_ne (by decide) h), fun h => h3 (upd_ne (by decide) h), fun h => h4 (upd_ne (by decide) h), fun h => ⟨(h5 (upd_ne (by decide) h)).1, fun h' => (h5 (upd_ne (by decide) h)).2 (by rw [upd_same (by decide)] at h'; exact h')⟩, fun h => h6 (upd_ne (by decide) h), fun h => h7 (upd_ne (by decide) h), fun h => m0 (by rw [upd_same (by decide)] at h; exact h), fun h h' => m1 (upd_ne (by decide) h) (by rw [upd_same (by decide)] at h'; exact h'), fun h h' => m2 (upd_ne (by decide) h) (by rw [upd_same (by decide)] at h'; exact h'), fun h => m3 (upd_ne (by decide) h), fun h => upd_of (i5 (upd_ne (by decide) h)), fun h => upd_of (i6 (upd_ne (by decide) h)), fun h => upd_of (i1 (upd_ne (by decide) h)), fun h => upd_of (i8 (upd_ne (by decide) h))⟩
          · rintro f a W ⟨x32, x33, x34, x35, x36, x37, x38, x39, x, y, k, v1, rfl, h0, h1, h2, h3, h4, h5, h6, h7, m0, m1, m2, m3, i5, i6, i1, i8⟩ hf hd K hK
            have e0 := h0 (dep_of hd (e := ⟨0, .data⟩) (by simp) rfl)
            subst e0
            have f6 : f 6 = false := by cases h : f 6; rfl; exact absurd (i1 h) (by rw [hf]; decide)
            have cur : ∃ l', BxSt w b ps v l' W := by cases h : f 4; exact ⟨_, m0 h⟩; exact ⟨_, m1 h f6⟩
            obtain ⟨l', B⟩ := cur
            have r0 := B.box.cell 0 _ rfl
            go_simp
            refine hK _ _ ?_
            exact ⟨_, _, x34, x35, x36, x37, x38, x39, x, y, k, v1, rfl, fun _ => rfl, fun _ => rfl, fun h => h2 (upd_ne (by decide) h), fun h => h3 (upd_ne (by decide) h), fun h => h4 (upd_ne (by decide) h), fun h => ⟨(h5 (upd_ne (by decide) h)).1, fun h' => (h5 (upd_ne (by decide) h)).2 (by rw [upd_same (by decide)] at h'; exact h')⟩, fun h => h6 (upd_ne (by decide) h), fun h => h7 (upd_ne (by decide) h), fun h => m0 (by rw [upd_same (by decide)] at h; exact h), fun h h' => m1 (upd_ne (by decide) h) (by rw [upd_same (by decide)] at h'; exact h'), fun h h' => m2 (upd_ne (by decide) h) (by rw [upd_same (by decide)] at h'; exact h'), fun h => m3 (upd_ne (by decide) h), fun h => upd_of (i5 (upd_ne (by decide) h)), fun h => upd_of (i6 (upd_ne (by decide) h)), fun _ => upd_self, fun h => upd_of (i8 (upd_ne (by decide) h))⟩
          · rintro f a W ⟨x32, x33, x34, x35, x36, x37, x38, x39, x, y, k, v1, rfl, h0, h1, h2, h3, h4, h5, h6, h7, m0, m1, m2, m3, i5, i6, i1, i8⟩ hf hd K hK
            go_simp
            refine hK _ _ ?_
            exact ⟨x32, x33, _, x35, x36, x37, x38, x39, x, y, k, v1, rfl, fun h => h0 (upd_ne (by decide) h), fun h => h1 (upd_ne (by decide) h), fun _ => rfl, fun h => h3 (upd_ne (by decide) h), fun h => h4 (upd_ne (by decide) h), fun h => ⟨(h5 (upd_ne (by decide) h)).1, fun h' => (h5 (upd_ne (by decide) h)).2 (by rw [upd_same (by decide)] at h'; exact h')⟩, fun h => h6 (upd_ne (by decide) h), fun h => h7 (upd_ne (by decide) h), fun h => m0 (by rw [upd_same (by decide)] at h; exact h), fun h h' => m1 (upd_ne (by decide) h) (by rw [upd_same (by decide)] at h'; exact h'), fun h h' => m2 (upd_ne (by decide) h) (by rw [upd_same (by decide)] at h'; exact h'), fun h => m3 (upd_ne (by decide) h), fun h => upd_of (i5 (upd_ne (by decide) h)), fun h => upd_of (i6 (upd_ne (by decide) h)), fun h => upd_of (i1 (upd_ne (by decide) h)), fun h => upd_of (i8 (upd_ne (by decide) h))⟩
          · rintro f a W ⟨x32, x33, x34, x35, x36, x37, x38, x39, x, y, k, v1, rfl, h0, h1, h2, h3, h4, h5, h6, h7, m0, m1, m2, m3, i5, i6, i1, i8⟩ hf hd K hK
            go_simp
            refine hK _ _ ?_
            exact ⟨x32, x33, x34, _, x36, x37, x38, x39, x, y, k, v1, rfl, fun h => h0 (upd_ne (by decide) h), fun h => h1 (upd_ne (by decide) h), fun h => h2 (upd_ne (by decide) h), fun _ => rfl, fun h => h4 (upd_ne (by decide) h), fun h => ⟨(h5 (upd_ne (by decide) h)).1, fun h' => (h5 (upd_ne (by decide) h)).2 (by rw [upd_same (by decide)] at h'; exact h')⟩, fun h => h6 (upd_ne (by decide) h), fun h => h7 (upd_ne (by decide) h), fun h => m0 (by rw [upd_same (by decide)] at h; exact h), fun h h' => m1 (upd_ne (by decide) h) (by rw [upd_same (by decide)] at h'; exact h'), fun h h' => m2 (upd_ne (by decide) h) (by rw [upd_same (by decide)] at h'; exact h'), fun h => m3 (upd_ne (by decide) h), fun h => upd_of (i5 (upd_ne (by decide) h)), fun h => upd_of (i6 (upd_ne (by decide) h)), fun h => upd_of (i1 (upd_ne (by decide) h)), fun h => upd_of (i8 (upd_ne (by decide) h))⟩
          · rintro f a W ⟨x32, x33, x34, x35, x36, x37, x38, x39, x, y, k, v1, rfl, h0, h1, h2, h3, h4, h5, h6, h7, m0, m1, m2, m3, i5, i6, i1, i8⟩ hf hd K hK
            have e2 := h2 (dep_of hd (e := ⟨2, .data⟩) (by simp) rfl)
            subst e2
            have e3 := h3 (dep_of hd (e := ⟨3, .data⟩) (by simp) rfl)
            subst e3
            have B := m0 hf
            go_simp
            refine (hq _ B.rd).mono ?_
            rintro e W2 ⟨x', y', rfl, nx, ny, hr, hk⟩
            refine hK _ _ ?_
            exact ⟨x32, x33, _, _, _, x37, x38, x39, x', y', k, v1, rfl, fun h => h0 (upd_ne (by decide) h), fun h => h1 (upd_ne (by decide) h), fun _ => rfl, fun _ => rfl, fun _ => ⟨rfl, nx, ny⟩, fun h => absurd (i5 (upd_ne (by decide) h)) (by rw [hf]; decide), fun h => absurd (i5 (i6 (upd_ne (by decide) h))) (by rw [hf]; decide), fun h => h7 (upd_ne (by decide) h), fun h => (by rw [upd_self] at h; cases h), fun _ _ => (BxSt.next hb B hr hk).mono (by omega), fun h _ => absurd (i5 (i6 (upd_ne (by decide) h))) (by rw [hf]; decide), fun h => absurd (i5 (i6 (i8 (upd_ne (by decide) h)))) (by rw [hf]; decide), fun h => upd_self, fun h => upd_of (i6 (upd_ne (by decide) h)), fun h => upd_of (i1 (upd_ne (by decide) h)), fun h => upd_of (i8 (upd_ne (by decide) h))⟩
          · rintro f a W ⟨x32, x33, x34, x35, x36, x37, x38, x39, x, y, k, v1, rfl, h0, h1, h2, h3, h4, h5, h6, h7, m0, m1, m2, m3, i5, i6, i1, i8⟩ hf hd K hK
            have d4 := (dep_of hd (e := ⟨4, .data⟩) (by simp) rfl)
            obtain ⟨e4, nx, ny⟩ := h4 d4
            subst e4
            have f6 : f 6 = false := by cases h : f 6; rfl; exact absurd (i6 h) (by rw [hf]; decide)
            have B := m1 d4 f6
            go_simp
            refine hK _ _ ?_
            exact ⟨x32, x33, x34, x35, _, _, x38, x39, x, y, W.heap.size, v1, rfl, fun h => h0 (upd_ne (by decide) h), fun h => h1 (upd_ne (by decide) h), fun h => h2 (upd_ne (by decide) h), fun h => h3 (upd_ne (by decide) h), fun _ => ⟨rfl, nx, ny⟩, fun _ => ⟨rfl, fun _ => cell_two_new W _ _ _⟩, fun h => absurd (i6 (upd_ne (by decide) h)) (by rw [hf]; decide), fun h => h7 (upd_ne (by decide) h), fun h => (by rw [upd_same (by decide), d4] at h; cases h), fun _ _ => B.alloc hb _, fun h _ => absurd (i6 (upd_ne (by decide) h)) (by rw [hf]; decide), fun h => absurd (i6 (i8 (upd_ne (by decide) h))) (by rw [hf]; decide), fun _ => upd_of d4, fun _ => upd_self, fun h => upd_of (i1 (upd_ne (by decide) h)), fun h => upd_of (i8 (upd_ne (by decide) h))⟩
          · rintro f a W ⟨x32, x33, x34, x35, x36, x37, x38, x39, x, y, k, v1, rfl, h0, h1, h2, h3, h4, h5, h6, h7, m0, m1, m2, m3, i5, i6, i1, i8⟩ hf hd K hK
            have e1 := (h1 (dep_of hd (e := ⟨1, .data⟩) (by simp) rfl)).symm
            subst e1
            have d5 := (dep_of hd (e := ⟨5, .data⟩) (by simp) rfl)
            obtain ⟨e5, hcl⟩ := h5 d5
            subst e5
            have d4 := i5 d5
            obtain ⟨e4, nx, ny⟩ := h4 d4
            have B := m1 d4 hf
            refine oper_append_own (.tmp 33) (.tmp 37) 23 rfl (w.heap.size + 2) 40 i0 (.agg #[.int .i64 0, .int .i64 0]) 2 16 Tryd.underlying23 hi hz0 hz1 hz2 rfl (by decide) v _ _ rfl B.row ⟨k, 0, none⟩ 1 1 [_, _] rfl rfl (hcl hf) (fun u hu => by simp at hu; rcases hu with rfl | rfl <;> rfl) (by unfold maxLen; omega) (by omega) B.box.lt ?_
            intro v2 W2 r1 r2
            refine hK _ _ ?_
            exact ⟨x32, _, x34, x35, x36, _, _, x39, x, y, k, v2, rfl, fun h => h0 (upd_ne (by decide) h), fun _ => rfl, fun h => h2 (upd_ne (by decide) h), fun h => h3 (upd_ne (by decide) h), fun h => h4 (upd_ne (by decide) h), fun _ => ⟨rfl, fun h' => (by rw [upd_self] at h'; cases h')⟩, fun _ => ⟨rfl, grown_form r1⟩, fun h => h7 (upd_ne (by decide) h), fun h => (by rw [upd_same (by decide), d4] at h; cases h), fun _ h' => (by rw [upd_self] at h'; cases h'), fun _ _ => ⟨W, B, r2, r1, nx, ny⟩, fun h => absurd (i8 (upd_ne (by decide) h)) (by rw [hf]; decide), fun h => upd_of (i5 (upd_ne (by decide) h)), fun _ => upd_of d5, fun _ => upd_of (dep_of hd (e := ⟨1, .data⟩) (by simp) rfl), fun _ => upd_self⟩
          · rintro f a W ⟨x32, x33, x34, x35, x36, x37, x38, x39, x, y, k, v1, rfl, h0, h1, h2, h3, h4, h5, h6, h7, m0, m1, m2, m3, i5, i6, i1, i8⟩ hf hd K hK
            go_simp
            refine hK _ _ ?_
            exact ⟨x32, x33, x34, x35, x36, x37, x38, _, x, y, k, v1, rfl, fun h => h0 (upd_ne (by decide) h), fun h => h1 (upd_ne (by decide) h), fun h => h2 (upd_ne (by decide) h), fun h => h3 (upd_ne (by decide) h), fun h => h4 (upd_ne (by decide) h), fun h => ⟨(h5 (upd_ne (by decide) h)).1, fun h' => (h5 (upd_ne (by decide) h)).2 (by rw [upd_same (by decide)] at h'; exact h')⟩, fun h => h6 (upd_ne (by decide) h), fun _ => rfl, fun h => m0 (by rw [upd_same (by decide)] at h; exact h), fun h h' => m1 (upd_ne (by decide) h) (by rw [upd_same (by decide)] at h'; exact h'), fun h h' => m2 (upd_ne (by decide) h) (by rw [upd_same (by decide)] at h'; exact h'), fun h => m3 (upd_ne (by decide) h), fun h => upd_of (i5 (upd_ne (by decide) h)), fun h => upd_of (i6 (upd_ne (by decide) h)), fun h => upd_of (i1 (upd_ne (by decide) h)), fun h => upd_of (i8 (upd_ne (by decide) h))⟩
          · rintro f a W ⟨x32, x33, x34, x35, x36, x37, x38, x39, x, y, k, v1, rfl, h0, h1, h2, h3, h4, h5, h6, h7, m0, m1, m2, m3, i5, i6, i1, i8⟩ hf hd K hK
            have e7 := h7 (dep_of hd (e := ⟨7, .data⟩) (by simp) rfl)
            subst e7
            have d6 : Hid (f 6 = true) := (dep_of hd (e := ⟨6, .data⟩) (by simp) rfl)
            obtain ⟨e6, g, c, ev⟩ := h6 d6.out
            have M := m2 d6.out hf
            subst e6
            subst ev
            have r0 := M.box.cell 0 _ rfl
            have r1 := M.box.frz 0 _ rfl
            go_simp
            refine hK _ _ ?_
            exact ⟨x32, x33, x34, x35, x36, x37, _, _, x, y, k, _, rfl, fun h => h0 (upd_ne (by decide) h), fun h => h1 (upd_ne (by decide) h), fun h => h2 (upd_ne (by decide) h), fun h => h3 (upd_ne (by decide) h), fun h => h4 (upd_ne (by decide) h), fun h => ⟨(h5 (upd_ne (by decide) h)).1, fun h' => (by rw [upd_same (by decide), d6.out] at h'; cases h')⟩, fun _ => ⟨rfl, g, c, rfl⟩, fun _ => rfl, fun h => (by rw [upd_same (by decide), i5 (i6 d6.out)] at h; cases h), fun _ h' => (by rw [upd_same (by decide), d6.out] at h'; cases h'), fun _ h' => (by rw [upd_self] at h'; cases h'), fun _ => M.append hb, fun h => upd_of (i5 (upd_ne (by decide) h)), fun h => upd_of (i6 (upd_ne (by decide) h)), fun h => upd_of (i1 (upd_ne (by decide) h)), fun _ => upd_of d6.out⟩
          rintro f a w5 ⟨x32, x33, x34, x35, x36, x37, x38, x39, x, y, k, v1, rfl, h0, h1, h2, h3, h4, h5, h6, h7, m0, m1, m2, m3, i5, i6, i1, i8⟩ hall
          have B1 := m3 (hall 8 (by decide))
          obtain ⟨e6, g, c, ev⟩ := h6 (hall 6 (by decide))
          have e0 := h0 (hall 0 (by decide))
          subst e0
          have e1 := (h1 (hall 1 (by decide))).symm
          subst e1
          have e2 := h2 (hall 2 (by decide))
          subst e2
          have e3 := h3 (hall 3 (by decide))
          subst e3
          have e7 := h7 (hall 7 (by decide))
          subst e7
          obtain ⟨e4, nx, ny⟩ := h4 (hall 4 (by decide))
          subst e4
          obtain ⟨e5, -⟩ := h5 (hall 5 (by decide))
          subst e5
          subst e6
          clear hall h0 h1 h2 h3 h4 h5 h6 h7 m0 m1 m2 m3 i5 i6 i1 i8
          try dsimp only
          rw [ev] at B1 ⊢
          go_wp2
          go_roundg (r3 - (i + 1)).toNat
          case measure => omega
          case rel => exact ⟨i + 1, _, ps ++ [(x, y)], by rw [List.length_append, hlenH.out]; rfl, by omega, by go_num, B1.mono (by omega)⟩
  · have f0 : Hid (BxSt w b [] (.slice none 0 0) (lim + 3) _) := f0.mono (by omega)
    have hr2 : (r2 == 0) = false := by assumption
    rw [hr2]
    go_loopg [7] ((1 + r1)).toNat (fun g iv wr => ∃ (i : Nat) (v : Value) (ps : List (Int × Int)), ps.length = i ∧ (i : Int) + g = (1 + r1) ∧ iv = .int .i64 i ∧ Hid (BxSt w b ps v (lim + 3 + 301 * i) wr))
    case atStart => exact ⟨0, _, [], rfl, by omega, rfl, f0.out.mono (by omega)⟩
    case round =>
      clear f0
      obtain ⟨i, v, ps, hlen, hg, rfl, F⟩ := hrel
      by_cases c : ¬ (i : Int) < (1 + r1)
      · have e0 := F.out.box.cell 0 v rfl
        have e1 := F.out.res.cell 0 _ rfl
        have e2 := F.out.res.frz 0 _ rfl
        rcases F.out.row.2 with ⟨hv, hz⟩ | ⟨g, cap, cur, hv, _⟩
        · exfalso
          omega
        · rw [hv] at e0 F
          go_wp2
          exact box_end (ps := ps) (l := lim + 3 + 301 * i) (lim := lim + 4000) hb (by have f := F.out; first | exact f | (rw [hlen] at f; exact f)) (by omega) (by omega) rfl
      · replace c : (i : Int) < (1 + r1) := by omega
        obtain ⟨l, hl0⟩ : ∃ l, lim + 3 + 301 * (i : Int) + 1 = l := ⟨_, rfl⟩
        have hl8 : ps.length ≤ 8 := by omega
        have hlenH : Hid (ps.length = i) := hlen
        clear hlen
        have hp := fun W (h : Rd W b l) => pair W b l n h (by omega)
        have hq := fun W (h : Rd W b l) => good W b l n h (by omega)
        go_wp2_with (go_at_call 27; refine (pick _ _ _ _ F.out.rd (by omega)).mono ?_; rintro e w4 ⟨rr, rfl, rr0, rr1, -, hr, hk⟩; have B0 : BxSt w b ps v l w4 := (BxSt.next hb F.out hr hk).mono (by omega); clear hr hk F)
        · have hrr : (rr == 0) = true := by assumption
          rw [hrr]
          refine region_steps (by kernel_rfl) (by kernel_rfl) (by kernel_rfl) (fun A0 f a W => ∃ (x24 : Value) (x25 : Value) (x26 : Value) (x27 : Value) (x28 : Value) (x29 : Value) (x30 : Value) (x31 : Value) (x y : Int) (k : Nat) (v1 : Value), a = { tmps := #[.pointer (some ⟨b, 0, none⟩), .int .i64 n, undef, undef, .pointer (some ⟨w.heap.size, 0, none⟩), .pointer (some ⟨w.heap.size + 1, 0, none⟩), .int .i64 (1 + r1), .int .i64 (i : Int), .pointer (some ⟨b, 0, none⟩), .int .i64 r1, .int .i64 (1 + r1), .pointer (some ⟨b, 0, none⟩), .int .i64 r2, .bool false, undef, undef, .int .i64 (i : Int), .int .i64 (1 + r1), .bool true, u19, u20, .pointer (some ⟨b, 0, none⟩), .int .i64 rr, .bool true, x24, x25, x26, x27, x28, x29, x30, x31, u32, u33, u34, u35, u36, u37, u38, u39, undef], defers := [] } ∧ (f 0 = true → x24 = .pointer (some ⟨w.heap.size + 1, 0, none⟩)) ∧ (f 1 = true → x25 = v) ∧ (f 2 = true → x26 = .pointer (some ⟨b, 0, none⟩)) ∧ (f 3 = true → x27 = .int .i64 n) ∧ (f 4 = true → x28 = .agg #[.int .i64 x, .int .i64 y] ∧ Nr x ∧ Nr y) ∧ (f 5 = true → x29 = .slice (some ⟨k, 0, none⟩) 1 1 ∧ (f 6 = false → ∀ j u, [Value.int .i64 x, .int .i64 y][j]? = some u → W.cell? ((⟨k, 0, none⟩ : Addr).add j) = some u)) ∧ (f 6 = true → x30 = v1 ∧ ∃ g c, v1 = .slice (some ⟨g, 0, none⟩) (ps.length + 1) c) ∧ (f 7 = true → x31 = .pointer (some ⟨w.heap.size + 1, 0, none⟩)) ∧ (f 4 = false → BxSt w b ps v l W) ∧ (f 4 = true → f 6 = false → BxSt w b ps v (l + 50) W) ∧ (f 6 = true → f 8 = false → BxMid w b ps v (l + 50) v1 x y W) ∧ (f 8 = true → BxSt w b (ps ++ [(x, y)]) v1 (l + 50) W) ∧ (f 5 = true → f 4 = true) ∧ (f 6 = true → f 5 = true) ∧ (f 6 = true → f 1 = true) ∧ (f 8 = true → f 6 = true)) ?_ ⟨?_, ?_, ?_, ?_, ?_, ?_, ?_, ?_, ?_, trivial⟩ ?_
          · exact ⟨u24, u25, u26, u27, u28, u29, u30, u31, 0, 0, 0, undef, rfl, (fun h => (by cases h)), (fun h => (by cases h)), (fun h => (by cases h)), (fun h => (by cases h)), (fun h => (by cases h)), (fun h => (by cases h)), (fun h => (by cases h)), (fun h => (by cases h)), fun _ => B0.drew, (fun h => (by cases h)), (fun h => (by cases h)), (fun h => (by cases h)), (fun h => (by cases h)), (fun h => (by cases h)), (fun h => (by cases h)), (fun h => (by cases h))⟩
          · rintro f a W ⟨x24, x25, x26, x27, x28, x29, x30, x31, x, y, k, v1, rfl, h0, h1, h2, h3, h4, h5, h6, h7, m0, m1, m2, m3, i5, i6, i1, i8⟩ hf hd K hK
            go_simp
            refine hK _ _ ?_
            exact ⟨_, x25, x26, x27, x28, x29, x30, x31, x, y, k, v1, rfl, fun _ => rfl, fun h => h1 (upd_ne (by decide) h), fun h => h2 (upd_ne (by decide) h), fun h => h3 (upd_ne (by decide) h), fun h => h4 (upd_ne (by decide) h), fun h => ⟨(h5 (upd_ne (by decide) h)).1, fun h' => (h5 (upd_ne (by decide) h)).2 (by rw [upd_same (by decide)] at h'; exact h')⟩, fun h => h6 (upd_ne (by decide) h), fun h => h7 (upd_ne (by decide) h), fun h => m0 (by rw [upd_same (by decide)] at h; exact h), fun h h' => m1 (upd_ne (by decide) h) (by rw [upd_same (by decide)] at h'; exact h'), fun h h' => m2 (upd_ne (by decide) h) (by rw [upd_same (by decide)] at h'; exact h'), fun h => m3 (upd_ne (by decide) h), fun h => upd_of (i5 (upd_ne (by decide) h)), fun h => upd_of (i6 (upd_ne (by decide) h)), fun h => upd_of (i1 (upd_ne (by decide) h)), fun h => upd_of (i8 (upd_ne (by decide) h))⟩
          · rintro f a W ⟨x24, x25, x26, x27, x28, x29, x30, x31, x, y, k, v1, rfl, h0, h1, h2, h3, h4, h5, h6, h7, m0, m1, m2, m3, i5, i6, i1, i8⟩ hf hd K hK
            have e0 := h0 (dep_of hd (e := ⟨0, .data⟩) (by simp) rfl)
            subst e0
            have f6 : f 6 = false := by cases h : f 6; rfl; exact absurd (i1 h) (by rw [hf]; decide)
            have cur : ∃ l', BxSt w b ps v l' W := by cases h : f 4; exact ⟨_, m0 h⟩; exact ⟨_, m1 h f6⟩
            obtain ⟨l', B⟩ := cur
            have r0 := B.box.cell 0 _ rfl
            go_simp
            refine hK _ _ ?_
            exact ⟨_, _, x26, x27, x28, x29, x30, x31, x, y, k, v1, rfl, fun _ => rfl, fun _ => rfl, fun h => h2 (upd_ne (by decide) h), fun h => h3 (upd_ne (by decide) h), fun h => h4 (upd_ne (by decide) h), fun h => ⟨(h5 (upd_ne (by decide) h)).1, fun h' => (h5 (upd_ne (by decide) h)).2 (by rw [upd_same (by decide)] at h'; exact h')⟩, fun h => h6 (upd_ne (by decide) h), fun h => h7 (upd_ne (by decide) h), fun h => m0 (by rw [upd_same (by decide)] at h; exact h), fun h h' => m1 (upd_ne (by decide) h) (by rw [upd_same (by decide)] at h'; exact h'), fun h h' => m2 (upd_ne (by decide) h) (by rw [upd_same (by decide)] at h'; exact h'), fun h => m3 (upd_ne (by decide) h), fun h => upd_of (i5 (upd_ne (by decide) h)), fun h => upd_of (i6 (upd_ne (by decide) h)), fun _ => upd_self, fun h => upd_of (i8 (upd_ne (by decide) h))⟩
          · rintro f a W ⟨x24, x25, x26, x27, x28, x29, x30, x31, x, y, k, v1, rfl, h0, h1, h2, h3, h4, h5, h6, h7, m0, m1, m2, m3, i5, i6, i1, i8⟩ hf hd K hK
            go_simp
            refine hK _ _ ?_
            exact ⟨x24, x25, _, x27, x28, x29, x30, x31, x, y, k, v1, rfl, fun h => h0 (upd_ne (by decide) h), fun h => h1 (upd_ne (by decide) h), fun _ => rfl, fun h => h3 (upd_ne (by decide) h), fun h => h4 (upd_ne (by decide) h), fun h => ⟨(h5 (upd_ne (by decide) h)).1, fun h' => (h5 (upd_ne (by decide) h)).2 (by rw [upd_same (by decide)] at h'; exact h')⟩, fun h => h6 (upd_ne (by decide) h), fun h => h7 (upd_ne (by decide) h), fun h => m0 (by rw [upd_same (by decide)] at h; exact h), fun h h' => m1 (upd_ne (by decide) h) (by rw [upd_same (by decide)] at h'; exact h'), fun h h' => m2 (upd_ne (by decide) h) (by rw [upd_same (by decide)] at h'; exact h'), fun h => m3 (upd_ne (by decide) h), fun h => upd_of (i5 (upd_ne (by decide) h)), fun h => upd_of (i6 (upd_ne (by decide) h)), fun h => upd_of (i1 (upd_ne (by decide) h)), fun h => upd_of (i8 (upd_ne (by decide) h))⟩
          · rintro f a W ⟨x24, x25, x26, x27, x28, x29, x30, x31, x, y, k, v1, rfl, h0, h1, h2, h3, h4, h5, h6, h7, m0, m1, m2, m3, i5, i6, i1, i8⟩ hf hd K hK
            go_simp
            refine hK _ _ ?_
            exact ⟨x24, x25, x26, _, x28, x29, x30, x31, x, y, k, v1, rfl, fun h => h0 (upd_ne (by decide) h), fun h => h1 (upd_ne (by decide) h), fun h => h2 (upd_ne (by decide) h), fun _ => rfl, fun h => h4 (upd_ne (by decide) h), fun h => ⟨(h5 (upd_ne (by decide) h)).1, fun h' => (h5 (upd_ne (by decide) h)).2 (by rw [upd_same (by decide)] at h'; exact h')⟩, fun h => h6 (upd_ne (by decide) h), fun h => h7 (upd_ne (by decide) h), fun h => m0 (by rw [upd_same (by decide)] at h; exact h), fun h h' => m1 (upd_ne (by decide) h) (by rw [upd_same (by decide)] at h'; exact h'), fun h h' => m2 (upd_ne (by decide) h) (by rw [upd_same (by decide)] at h'; exact h'), fun h => m3 (upd_ne (by decide) h), fun h => upd_of (i5 (upd_ne (by decide) h)), fun h => upd_of (i6 (upd_ne (by decide) h)), fun h => upd_of (i1 (upd_ne (by decide) h)), fun h => upd_of (i8 (upd_ne (by decide) h))⟩
          · rintro f a W ⟨x24, x25, x26, x27, x28, x29, x30, x31, x, y, k, v1, rfl, h0, h1, h2, h3, h4, h5, h6, h7, m0, m1, m2, m3, i5, i6, i1, i8⟩ hf hd K hK
            have e2 := h2 (dep_of hd (e := ⟨2, .data⟩) (by simp) rfl)
            subst e2
            have e3 := h3 (dep_of hd (e := ⟨3, .data⟩) (by simp) rfl)
            subst e3
            have B := m0 hf
            go_simp
            refine (hp _ B.rd).mono ?_
            rintro e W2 ⟨x', y', rfl, nx, ny, hr, hk⟩
            refine hK _ _ ?_
            exact ⟨x24, x25, _, _, _, x29, x30, x31, x', y', k, v1, rfl, fun h => h0 (upd_ne (by decide) h), fun h => h1 (upd_ne (by decide) h), fun _ => rfl, fun _ => rfl, fun _ => ⟨rfl, nx, ny⟩, fun h => absurd (i5 (upd_ne (by decide) h)) (by rw [hf]; decide), fun h => absurd (i5 (i6 (upd_ne (by decide) h))) (by rw [hf]; decide), fun h => h7 (upd_ne (by decide) h), fun h => (by rw [upd_self] at h; cases h), fun _ _ => (BxSt.next hb B hr hk).mono (by omega), fun h _ => absurd (i5 (i6 (upd_ne (by decide) h))) (by rw [hf]; decide), fun h => absurd (i5 (i6 (i8 (upd_ne (by decide) h)))) (by rw [hf]; decide), fun h => upd_self, fun h => upd_of (i6 (upd_ne (by decide) h)), fun h => upd_of (i1 (upd_ne (by decide) h)), fun h => upd_of (i8 (upd_ne (by decide) h))⟩
          · rintro f a W ⟨x24, x25, x26, x27, x28, x29, x30, x31, x, y, k, v1, rfl, h0, h1, h2, h3, h4, h5, h6, h7, m0, m1, m2, m3, i5, i6, i1, i8⟩ hf hd K hK
            have d4 := (dep_of hd (e := ⟨4, .data⟩) (by simp) rfl)
            obtain ⟨e4, nx, ny⟩ := h4 d4
            subst e4
            have f6 : f 6 = false := by cases h : f 6; rfl; exact absurd (i6 h) (by rw [hf]; decide)
            have B := m1 d4 f6
            go_simp
            refine hK _ _ ?_
            exact ⟨x24, x25, x26, x27, _, _, x30, x31, x, y, W.heap.size, v1, rfl, fun h => h0 (upd_ne (by decide) h), fun h => h1 (upd_ne (by decide) h), fun h => h2 (upd_ne (by decide) h), fun h => h3 (upd_ne (by decide) h), fun _ => ⟨rfl, nx, ny⟩, fun _ => ⟨rfl, fun _ => cell_two_new W _ _ _⟩, fun h => absurd (i6 (upd_ne (by decide) h)) (by rw [hf]; decide), fun h => h7 (upd_ne (by decide) h), fun h => (by rw [upd_same (by decide), d4] at h; cases h), fun _ _ => B.alloc hb _, fun h _ => absurd (i6 (upd_ne (by decide) h)) (by rw [hf]; decide), fun h => absurd (i6 (i8 (upd_ne (by decide) h))) (by rw [hf]; decide), fun _ => upd_of d4, fun _ => upd_self, fun h => upd_of (i1 (upd_ne (by decide) h)), fun h => upd_of (i8 (upd_ne (by decide) h))⟩
          · rintro f a W ⟨x24, x25, x26, x27, x28, x29, x30, x31, x, y, k, v1, rfl, h0, h1, h2, h3, h4, h5, h6, h7, m0, m1, m2, m3, i5, i6, i1, i8⟩ hf hd K hK
            have e1 := (h1 (dep_of hd (e := ⟨1, .data⟩) (by simp) rfl)).symm
            subst e1
            have d5 := (dep_of hd (e := ⟨5, .data⟩) (by simp) rfl)
            obtain ⟨e5, hcl⟩ := h5 d5
            subst e5
            have d4 := i5 d5
            obtain ⟨e4, nx, ny⟩ := h4 d4
            have B := m1 d4 hf
            refine oper_append_own (.tmp 25) (.tmp 29) 23 rfl (w.heap.size + 2) 40 i0 (.agg #[.int .i64 0, .int .i64 0]) 2 16 Tryd.underlying23 hi hz0 hz1 hz2 rfl (by decide) v _ _ rfl B.row ⟨k, 0, none⟩ 1 1 [_, _] rfl rfl (hcl hf) (fun u hu => by simp at hu; rcases hu with rfl | rfl <;> rfl) (by unfold maxLen; omega) (by omega) B.box.lt ?_
            intro v2 W2 r1 r2
            refine hK _ _ ?_
            exact ⟨x24, _, x26, x27, x28, _, _, x31, x, y, k, v2, rfl, fun h => h0 (upd_ne (by decide) h), fun _ => rfl, fun h => h2 (upd_ne (by decide) h), fun h => h3 (upd_ne (by decide) h), fun h => h4 (upd_ne (by decide) h), fun _ => ⟨rfl, fun h' => (by rw [upd_self] at h'; cases h')⟩, fun _ => ⟨rfl, grown_form r1⟩, fun h => h7 (upd_ne (by decide) h), fun h => (by rw [upd_same (by decide), d4] at h; cases h), fun _ h' => (by rw [upd_self] at h'; cases h'), fun _ _ => ⟨W, B, r2, r1, nx, ny⟩, fun h => absurd (i8 (upd_ne (by decide) h)) (by rw [hf]; decide), fun h => upd_of (i5 (upd_ne (by decide) h)), fun _ => upd_of d5, fun _ => upd_of (dep_of hd (e := ⟨1, .data⟩) (by simp) rfl), fun _ => upd_self⟩
          · rintro f a W ⟨x24, x25, x26, x27, x28, x29, x30, x31, x, y, k, v1, rfl, h0, h1, h2, h3, h4, h5, h6, h7, m0, m1, m2, m3, i5, i6, i1, i8⟩ hf hd K hK
            go_simp
            refine hK _ _ ?_
            exact ⟨x24, x25, x26, x27, x28, x29, x30, _, x, y, k, v1, rfl, fun h => h0 (upd_ne (by decide) h), fun h => h1 (upd_ne (by decide) h), fun h => h2 (upd_ne (by decide) h), fun h => h3 (upd_ne (by decide) h), fun h => h4 (upd_ne (by decide) h), fun h => ⟨(h5 (upd_ne (by decide) h)).1, fun h' => (h5 (upd_ne (by decide) h)).2 (by rw [upd_same (by decide)] at h'; exact h')⟩, fun h => h6 (upd_ne (by decide) h), fun _ => rfl, fun h => m0 (by rw [upd_same (by decide)] at h; exact h), fun h h' => m1 (upd_ne (by decide) h) (by rw [upd_same (by decide)] at h'; exact h'), fun h h' => m2 (upd_ne (by decide) h) (by rw [upd_same (by decide)] at h'; exact h'), fun h => m3 (upd_ne (by decide) h), fun h => upd_of (i5 (upd_ne (by decide) h)), fun h => upd_of (i6 (upd_ne (by decide) h)), fun h => upd_of (i1 (upd_ne (by decide) h)), fun h => upd_of (i8 (upd_ne (by decide) h))⟩
          · rintro f a W ⟨x24, x25, x26, x27, x28, x29, x30, x31, x, y, k, v1, rfl, h0, h1, h2, h3, h4, h5, h6, h7, m0, m1, m2, m3, i5, i6, i1, i8⟩ hf hd K hK
            have e7 := h7 (dep_of hd (e := ⟨7, .data⟩) (by simp) rfl)
            subst e7
            have d6 : Hid (f 6 = true) := (dep_of hd (e := ⟨6, .data⟩) (by simp) rfl)
            obtain ⟨e6, g, c, ev⟩ := h6 d6.out
            have M := m2 d6.out hf
            subst e6
            subst ev
            have r0 := M.box.cell 0 _ rfl
            have r1 := M.box.frz 0 _ rfl
            go_simp
            refine hK _ _ ?_
            exact ⟨x24, x25, x26, x27, x28, x29, _, _, x, y, k, _, rfl, fun h => h0 (upd_ne (by decide) h), fun h => h1 (upd_ne (by decide) h), fun h => h2 (upd_ne (by decide) h), fun h => h3 (upd_ne (by decide) h), fun h => h4 (upd_ne (by decide) h), fun h => ⟨(h5 (upd_ne (by decide) h)).1, fun h' => (by rw [upd_same (by decide), d6.out] at h'; cases h')⟩, fun _ => ⟨rfl, g, c, rfl⟩, fun _ => rfl, fun h => (by rw [upd_same (by decide), i5 (i6 d6.out)] at h; cases h), fun _ h' => (by rw [upd_same (by decide), d6.out] at h'; cases h'), fun _ h' => (by rw [upd_self] at h'; cases h'), fun _ => M.append hb, fun h => upd_of (i5 (upd_ne (by decide) h)), fun h => upd_of (i6 (upd_ne (by decide) h)), fun h => upd_of (i1 (upd_ne (by decide) h)), fun _ => upd_of d6.out⟩
          rintro f a w5 ⟨x24, x25, x26, x27, x28, x29, x30, x31, x, y, k, v1, rfl, h0, h1, h2, h3, h4, h5, h6, h7, m0, m1, m2, m3, i5, i6, i1, i8⟩ hall
          have B1 := m3 (hall 8 (by decide))
          obtain ⟨e6, g, c, ev⟩ := h6 (hall 6 (by decide))
          have e0 := h0 (hall 0 (by decide))
          subst e0
          have e1 := (h1 (hall 1 (by decide))).symm
          subst e1
          have e2 := h2 (hall 2 (by decide))
          subst e2
          have e3 := h3 (hall 3 (by decide))
          subst e3
          have e7 := h7 (hall 7 (by decide))
          subst e7
          obtain ⟨e4, nx, ny⟩ := h4 (hall 4 (by decide))
          subst e4
          obtain ⟨e5, -⟩ := h5 (hall 5 (by decide))
          subst e5
          subst e6
          clear hall h0 h1 h2 h3 h4 h5 h6 h7 m0 m1 m2 m3 i5 i6 i1 i8
          try dsimp only
          rw [ev] at B1 ⊢
          go_wp2
          go_roundg ((1 + r1) - (i + 1)).toNat
          case measure => omega
          case rel => exact ⟨i + 1, _, ps ++ [(x, y)], by rw [List.length_append, hlenH.out]; rfl, by omega, by go_num, B1.mono (by omega)⟩
        · have hrr : (rr == 0) = false := by assumption
          rw [hrr]
          refine region_steps (by kernel_rfl) (by kernel_rfl) (by kernel_rfl) (fun A0 f a W => ∃ (x32 : Value) (x33 : Value) (x34 : Value) (x35 : Value) (x36 : Value) (x37 : Value) (x38 : Value) (x39 : Value) (x y : Int) (k : Nat) (v1 : Value), a = { tmps := #[.pointer (some ⟨b, 0, none⟩), .int .i64 n, undef, undef, .pointer (some ⟨w.heap.size, 0, none⟩), .pointer (some ⟨w.heap.size + 1, 0, none⟩), .int .i64 (1 + r1), .int .i64 (i : Int), .pointer (some ⟨b, 0, none⟩), .int .i64 r1, .int .i64 (1 + r1), .pointer (some ⟨b, 0, none⟩), .int .i64 r2, .bool false, undef, undef, .int .i64 (i : Int), .int .i64 (1 + r1), .bool true, u19, u20, .pointer (some ⟨b, 0, none⟩), .int .i64 rr, .bool false, u24, u25, u26, u27, u28, u29, u30, u31, x32, x33, x34, x35, x36, x37, x38, x39, undef], defers := [] } ∧ (f 0 = true → x32 = .pointer (some ⟨w.heap.size + 1, 0, none⟩)) ∧ (f 1 = true → x33 = v) ∧ (f 2 = true → x34 = .pointer (some ⟨b, 0, none⟩)) ∧ (f 3 = true → x35 = .int .i64 n) ∧ (f 4 = true → x36 = .agg #[.int .i64 x, .int .i64 y] ∧ Nr x ∧ Nr y) ∧ (f 5 = true → x37 = .slice (some ⟨k, 0, none⟩) 1 1 ∧ (f 6 = false → ∀ j u, [Value.int .i64 x, .int .i64 y][j]? = some u → W.cell? ((⟨k, 0, none⟩ : Addr).add j) = some u)) ∧ (f 6 = true → x38 = v1 ∧ ∃ g c, v1 = .slice (some ⟨g, 0, none⟩) (ps.length + 1) c) ∧ (f 7 = true → x39 = .pointer (some ⟨w.heap.size + 1, 0, none⟩)) ∧ (f 4 = false → BxSt w b ps v l W) ∧ (f 4 = true → f 6 = false → BxSt w b ps v (l + 300) W) ∧ (f 6 = true → f 8 = false → BxMid w b ps v (l + 300) v1 x y W) ∧ (f 8 = true → BxSt w b (ps ++ [(x, y)]) v1 (l + 300) W) ∧ (f 5 = true → f 4 = true) ∧ (f 6 = true → f 5 = true) ∧ (f 6 = true → f 1 = true) ∧ (f 8 = true → f 6 = true)) ?_ ⟨?_, ?_, ?_, ?_, ?_, ?_, ?_, ?_, ?_, trivial⟩ ?_
          · exact ⟨u32, u33, u34, u35, u36, u37, u38, u39, 0, 0, 0, undef, rfl, (fun h => (by cases h)), (fun h => (by cases h)), (fun h => (by cases h)), (fun h => (by cases h)), (fun h => (by cases h)), (fun h => (by cases h)), (fun h => (by cases h)), (fun h => (by cases h)), fun _ => B0.drew, (fun h => (by cases h)), (fun h => (by cases h)), (fun h => (by cases h)), (fun h => (by cases h)), (fun h => (by cases h)), (fun h => (by cases h)), (fun h => (by cases h))⟩
          · rintro f a W ⟨x32, x33, x34, x35, x36, x37, x38, x39, x, y, k, v1, rfl, h0, h1, h2, h3, h4, h5, h6, h7, m0, m1, m2, m3, i5, i6, i1, i8⟩ hf hd K hK
            go_simp
            refine hK _ _ ?_
            exact ⟨_, x33, x34, x35, x36, x37, x38, x39, x, y, k, v1, rfl, fun _ => rfl, fun h => h1 (upd_ne (by decide) h), fun h => h2 (upd_ne (by decide) h), fun h => h3 (upd_ne (by decide) h), fun h => h4 (upd_ne (by decide) h), fun h => ⟨(h5 (upd_ne (by decide) h)).1, fun h' => (h5 (upd_ne (by decide) h)).2 (by rw [upd_same (by decide)] at h'; exact h')⟩, fun h => h6 (upd_ne (by decide) h), fun h => h7 (upd_ne (by decide) h), fun h => m0 (by rw [upd_same (by decide)] at h; exact h), fun h h' => m1 (upd_ne (by decide) h) (by rw [upd_same (by decide)] at h'; exact h'), fun h h' => m2 (upd_ne (by decide) h) (by rw [upd_same (by decide)] at h'; exact h'), fun h => m3 (upd_ne (by decide) h), fun h => upd_of (i5 (upd_ne (by decide) h)), fun h => upd_of (i6 (upd_ne (by decide) h)), fun h => upd_of (i1 (upd_ne (by decide) h)), fun h => upd_of (i8 (upd_ne (by decide) h))⟩
          · rintro f a W ⟨x32, x33, x34, x35, x36, x37, x38, x39, x, y, k, v1, rfl, h0, h1, h2, h3, h4, h5, h6, h7, m0, m1, m2, m3, i5, i6, i1, i8⟩ hf hd K hK
            have e0 := h0 (dep_of hd (e := ⟨0, .data⟩) (by simp) rfl)
            subst e0
            have f6 : f 6 = false := by cases h : f 6; rfl; exact absurd (i1 h) (by rw [hf]; decide)
            have cur : ∃ l', BxSt w b ps v l' W := by cases h : f 4; exact ⟨_, m0 h⟩; exact ⟨_, m1 h f6⟩
            obtain ⟨l', B⟩ := cur
            have r0 := B.box.cell 0 _ rfl
            go_simp
            refine hK _ _ ?_
            exact ⟨_, _, x34, x35, x36, x37, x38, x39, x, y, k, v1, rfl, fun _ => rfl, fun _ => rfl, fun h => h2 (upd_ne (by decide) h), fun h => h3 (upd_ne (by decide) h), fun h => h4 (upd_ne (by decide) h), fun h => ⟨(h5 (upd_ne (by decide) h)).1, fun h' => (h5 (upd_ne (by decide) h)).2 (by rw [upd_same (by decide)] at h'; exact h')⟩, fun h => h6 (upd_ne (by decide) h), fun h => h7 (upd_ne (by decide) h), fun h => m0 (by rw [upd_same (by decide)] at h; exact h), fun h h' => m1 (upd_ne (by decide) h) (by rw [upd_same (by decide)] at h'; exact h'), fun h h' => m2 (upd_ne (by decide) h) (by rw [upd_same (by decide)] at h'; exact h'), fun h => m3 (upd_ne (by decide) h), fun h => upd_of (i5 (upd_ne (by decide) h)), fun h => upd_of (i6 (upd_ne (by decide) h)), fun _ => upd_self, fun h => upd_of (i8 (upd_ne (by decide) h))⟩
          · rintro f a W ⟨x32, x33, x34, x35, x36, x37, x38, x39, x, y, k, v1, rfl, h0, h1, h2, h3, h4, h5, h6, h7, m0, m1, m2, m3, i5, i6, i1, i8⟩ hf hd K hK
            go_simp
            refine hK _ _ ?_
            exact ⟨x32, x33, _, x35, x36, x37, x38, x39, x, y, k, v1, rfl, fun h => h0 (upd_ne (by decide) h), fun h => h1 (upd_ne (by decide) h), fun _ => rfl, fun h => h3 (upd_ne (by decide) h), fun h => h4 (upd_ne (by decide) h), fun h => ⟨(h5 (upd_ne (by decide) h)).1, fun h' => (h5 (upd_ne (by decide) h)).2 (by rw [upd_same (by decide)] at h'; exact h')⟩, fun h => h6 (upd_ne (by decide) h), fun h => h7 (upd_ne (by decide) h), fun h => m0 (by rw [upd_same (by decide)] at h; exact h), fun h h' => m1 (upd_ne (by decide) h) (by rw [upd_same (by decide)] at h'; exact h'), fun h h' => m2 (upd_ne (by decide) h) (by rw [upd_same (by decide)] at h'; exact h'), fun h => m3 (upd_ne (by decide) h), fun h => upd_of (i5 (upd_ne (by decide) h)), fun h => upd_of (i6 (upd_ne (by decide) h)), fun h => upd_of (i1 (upd_ne (by decide) h)), fun h => upd_of (i8 (upd_ne (by decide) h))⟩
          · rintro f a W ⟨x32, x33, x34, x35, x36, x37, x38, x39, x, y, k, v1, rfl, h0, h1, h2, h3, h4, h5, h6, h7, m0, m1, m2, m3, i5, i6, i1, i8⟩ hf hd K hK
            go_simp
            refine hK _ _ ?_
            exact ⟨x32, x33, x34, _, x36, x37, x38, x39, x, y, k, v1, rfl, fun h => h0 (upd_ne (by decide) h), fun h => h1 (upd_ne (by decide) h), fun h => h2 (upd_ne (by decide) h), fun _ => rfl, fun h => h4 (upd_ne (by decide) h), fun h => ⟨(h5 (upd_ne (by decide) h)).1, fun h' => (h5 (upd_ne (by decide) h)).2 (by rw [upd_same (by decide)] at h'; exact h')⟩, fun h => h6 (upd_ne (by decide) h), fun h => h7 (upd_ne (by decide) h), fun h => m0 (by rw [upd_same (by decide)] at h; exact h), fun h h' => m1 (upd_ne (by decide) h) (by rw [upd_same (by decide)] at h'; exact h'), fun h h' => m2 (upd_ne (by decide) h) (by rw [upd_same (by decide)] at h'; exact h'), fun h => m3 (upd_ne (by decide) h), fun h => upd_of (i5 (upd_ne (by decide) h)), fun h => upd_of (i6 (upd_ne (by decide) h)), fun h => upd_of (i1 (upd_ne (by decide) h)), fun h => upd_of (i8 (upd_ne (by decide) h))⟩
          · rintro f a W ⟨x32, x33, x34, x35, x36, x37, x38, x39, x, y, k, v1, rfl, h0, h1, h2, h3, h4, h5, h6, h7, m0, m1, m2, m3, i5, i6, i1, i8⟩ hf hd K hK
            have e2 := h2 (dep_of hd (e := ⟨2, .data⟩) (by simp) rfl)
            subst e2
            have e3 := h3 (dep_of hd (e := ⟨3, .data⟩) (by simp) rfl)
            subst e3
            have B := m0 hf
            go_simp
            refine (hq _ B.rd).mono ?_
            rintro e W2 ⟨x', y', rfl, nx, ny, hr, hk⟩
            refine hK _ _ ?_
            exact ⟨x32, x33, _, _, _, x37, x38, x39, x', y', k, v1, rfl, fun h => h0 (upd_ne (by decide) h), fun h => h1 (upd_ne (by decide) h), fun _ => rfl, fun _ => rfl, fun _ => ⟨rfl, nx, ny⟩, fun h => absurd (i5 (upd_ne (by decide) h)) (by rw [hf]; decide), fun h => absurd (i5 (i6 (upd_ne (by decide) h))) (by rw [hf]; decide), fun h => h7 (upd_ne (by decide) h), fun h => (by rw [upd_self] at h; cases h), fun _ _ => (BxSt.next hb B hr hk).mono (by omega), fun h _ => absurd (i5 (i6 (upd_ne (by decide) h))) (by rw [hf]; decide), fun h => absurd (i5 (i6 (i8 (upd_ne (by decide) h)))) (by rw [hf]; decide), fun h => upd_self, fun h => upd_of (i6 (upd_ne (by decide) h)), fun h => upd_of (i1 (upd_ne (by decide) h)), fun h => upd_of (i8 (upd_ne (by decide) h))⟩
          · rintro f a W ⟨x32, x33, x34, x35, x36, x37, x38, x39, x, y, k, v1, rfl, h0, h1, h2, h3, h4, h5, h6, h7, m0, m1, m2, m3, i5, i6, i1, i8⟩ hf hd K hK
            have d4 := (dep_of hd (e := ⟨4, .data⟩) (by simp) rfl)
            obtain ⟨e4, nx, ny⟩ := h4 d4
            subst e4
            have f6 : f 6 = false := by cases h : f 6; rfl; exact absurd (i6 h) (by rw [hf]; decide)
            have B := m1 d4 f6
            go_simp
            refine hK _ _ ?_
            exact ⟨x32, x33, x34, x35, _, _, x38, x39, x, y, W.heap.size, v1, rfl, fun h => h0 (upd_ne (by decide) h), fun h => h1 (upd_ne (by decide) h), fun h => h2 (upd_ne (by decide) h), fun h => h3 (upd_ne (by decide) h), fun _ => ⟨rfl, nx, ny⟩, fun _ => ⟨rfl, fun _ => cell_two_new W _ _ _⟩, fun h => absurd (i6 (upd_ne (by decide) h)) (by rw [hf]; decide), fun h => h7 (upd_ne (by decide) h), fun h => (by rw [upd_same (by decide), d4] at h; cases h), fun _ _ => B.alloc hb _, fun h _ => absurd (i6 (upd_ne (by decide) h)) (by rw [hf]; decide), fun h => absurd (i6 (i8 (upd_ne (by decide) h))) (by rw [hf]; decide), fun _ => upd_of d4, fun _ => upd_self, fun h => upd_of (i1 (upd_ne (by decide) h)), fun h => upd_of (i8 (upd_ne (by decide) h))⟩
          · rintro f a W ⟨x32, x33, x34, x35, x36, x37, x38, x39, x, y, k, v1, rfl, h0, h1, h2, h3, h4, h5, h6, h7, m0, m1, m2, m3, i5, i6, i1, i8⟩ hf hd K hK
            have e1 := (h1 (dep_of hd (e := ⟨1, .data⟩) (by simp) rfl)).symm
            subst e1
            have d5 := (dep_of hd (e := ⟨5, .data⟩) (by simp) rfl)
            obtain ⟨e5, hcl⟩ := h5 d5
            subst e5
            have d4 := i5 d5
            obtain ⟨e4, nx, ny⟩ := h4 d4
            have B := m1 d4 hf
            refine oper_append_own (.tmp 33) (.tmp 37) 23 rfl (w.heap.size + 2) 40 i0 (.agg #[.int .i64 0, .int .i64 0]) 2 16 Tryd.underlying23 hi hz0 hz1 hz2 rfl (by decide) v _ _ rfl B.row ⟨k, 0, none⟩ 1 1 [_, _] rfl rfl (hcl hf) (fun u hu => by simp at hu; rcases hu with rfl | rfl <;> rfl) (by unfold maxLen; omega) (by omega) B.box.lt ?_
            intro v2 W2 r1 r2
            refine hK _ _ ?_
            exact ⟨x32, _, x34, x35, x36, _, _, x39, x, y, k, v2, rfl, fun h => h0 (upd_ne (by decide) h), fun _ => rfl, fun h => h2 (upd_ne (by decide) h), fun h => h3 (upd_ne (by decide) h), fun h => h4 (upd_ne (by decide) h), fun _ => ⟨rfl, fun h' => (by rw [upd_self] at h'; cases h')⟩, fun _ => ⟨rfl, grown_form r1⟩, fun h => h7 (upd_ne (by decide) h), fun h => (by rw [upd_same (by decide), d4] at h; cases h), fun _ h' => (by rw [upd_self] at h'; cases h'), fun _ _ => ⟨W, B, r2, r1, nx, ny⟩, fun h => absurd (i8 (upd_ne (by decide) h)) (by rw [hf]; decide), fun h => upd_of (i5 (upd_ne (by decide) h)), fun _ => upd_of d5, fun _ => upd_of (dep_of hd (e := ⟨1, .data⟩) (by simp) rfl), fun _ => upd_self⟩
          · rintro f a W ⟨x32, x33, x34, x35, x36, x37, x38, x39, x, y, k, v1, rfl, h0, h1, h2, h3, h4, h5, h6, h7, m0, m1, m2, m3, i5, i6, i1, i8⟩ hf hd K hK
            go_simp
            refine hK _ _ ?_
            exact ⟨x32, x33, x34, x35, x36, x37, x38, _, x, y, k, v1, rfl, fun h => h0 (upd_ne (by decide) h), fun h => h1 (upd_ne (by decide) h), fun h => h2 (upd_ne (by decide) h), fun h => h3 (upd_ne (by decide) h), fun h => h4 (upd_ne (by decide) h), fun h => ⟨(h5 (upd_ne (by decide) h)).1, fun h' => (h5 (upd_ne (by decide) h)).2 (by rw [upd_same (by decide)] at h'; exact h')⟩, fun h => h6 (upd_ne (by decide) h), fun _ => rfl, fun h => m0 (by rw [upd_same (by decide)] at h; exact h), fun h h' => m1 (upd_ne (by decide) h) (by rw [upd_same (by decide)] at h'; exact h'), fun h h' => m2 (upd_ne (by decide) h) (by rw [upd_same (by decide)] at h'; exact h'), fun h => m3 (upd_ne (by decide) h), fun h => upd_of (i5 (upd_ne (by decide) h)), fun h => upd_of (i6 (upd_ne (by decide) h)), fun h => upd_of (i1 (upd_ne (by decide) h)), fun h => upd_of (i8 (upd_ne (by decide) h))⟩
          · rintro f a W ⟨x32, x33, x34, x35, x36, x37, x38, x39, x, y, k, v1, rfl, h0, h1, h2, h3, h4, h5, h6, h7, m0, m1, m2, m3, i5, i6, i1, i8⟩ hf hd K hK
            have e7 := h7 (dep_of hd (e := ⟨7, .data⟩) (by simp) rfl)
            subst e7
            have d6 : Hid (f 6 = true) := (dep_of hd (e := ⟨6, .data⟩) (by simp) rfl)
            obtain ⟨e6, g, c, ev⟩ := h6 d6.out
            have M := m2 d6.out hf
            subst e6
            subst ev
            have r0 := M.box.cell 0 _ rfl
            have r1 := M.box.frz 0 _ rfl
            go_simp
            refine hK _ _ ?_
            exact ⟨x32, x33, x34, x35, x36, x37, _, _, x, y, k, _, rfl, fun h => h0 (upd_ne (by decide) h), fun h => h1 (upd_ne (by decide) h), fun h => h2 (upd_ne (by decide) h), fun h => h3 (upd_ne (by decide) h), fun h => h4 (upd_ne (by decide) h), fun h => ⟨(h5 (upd_ne (by decide) h)).1, fun h' => (by rw [upd_same (by decide), d6.out] at h'; cases h')⟩, fun _ => ⟨rfl, g, c, rfl⟩, fun _ => rfl, fun h => (by rw [upd_same (by decide), i5 (i6 d6.out)] at h; cases h), fun _ h' => (by rw [upd_same (by decide), d6.out] at h'; cases h'), fun _ h' => (by rw [upd_self] at h'; cases h'), fun _ => M.append hb, fun h => upd_of (i5 (upd_ne (by decide) h)), fun h => upd_of (i6 (upd_ne (by decide) h)), fun h => upd_of (i1 (upd_ne (by decide) h)), fun _ => upd_of d6.out⟩
          rintro f a w5 ⟨x32, x33, x34, x35, x36, x37, x38, x39, x, y, k, v1, rfl, h0, h1, h2, h3, h4, h5, h6, h7, m0, m1, m2, m3, i5, i6, i1, i8⟩ hall
          have B1 := m3 (hall 8 (by decide))
          obtain ⟨e6, g, c, ev⟩ := h6 (hall 6 (by decide))
          have e0 := h0 (hall 0 (by decide))
          subst e0
          have e1 := (h1 (hall 1 (by decide))).symm
          subst e1
          have e2 := h2 (hall 2 (by decide))
          subst e2
          have e3 := h3 (hall 3 (by decide))
          subst e3
          have e7 := h7 (hall 7 (by decide))
          subst e7
          obtain ⟨e4, nx, ny⟩ := h4 (hall 4 (by decide))
          subst e4
          obtain ⟨e5, -⟩ := h5 (hall 5 (by decide))
          subst e5
          subst e6
          clear hall h0 h1 h2 h3 h4 h5 h6 h7 m0 m1 m2 m3 i5 i6 i1 i8
          try dsimp only
          rw [ev] at B1 ⊢
          go_wp2
          go_roundg ((1 + r1) - (i + 1)).toNat
          case measure => omega
          case rel => exact ⟨i + 1, _, ps ++ [(x, y)], by rw [List.length_append, hlenH.out]; rfl, by omega, by go_num, B1.mono (by omega)⟩

end Go.Proofs.YteohgmmenlinbacDoor
